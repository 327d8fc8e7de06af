/- What the statement WireOneWay calls answers true, for every input that its walk is handed. -/
import Derived.Test.YtlmknpljncpjiaaRows
import Derived.WalkKit
import Derived.ProofKit
import Derived.OpenShut
import Derived.ShutString
import Derived.ChangeOld
import Derived.Below
import Derived.SizedLaws
import Derived.Test.YtlmknpljncpjiaaLopen
import Derived.Test.YtlmknpljncpjiaaLbegins
import Derived.Test.YtlmknpljncpjiaaLfew
import Derived.Test.YtlmknpljncpjiaaWrefuse
import Derived.Test.YtlmknpljncpjiaaWsizeback
import Derived.Test.YtlmknpljncpjiaaWsanity
import Derived.Deep.DeepCutAuto
import Derived.Deep.RegionHeld3
namespace Go.Proofs.Ytlmknpljncpjiaa.wireOneWay
open Go.ChangeShapes Go.WideShapes Go.ChangeAt Go.RowKit
open Go.ChangeMaps (open_string shut_string)
set_option linter.unusedVariables false

theorem RdI.nil (w : World) : RdI w none 0 0 [] := ⟨rfl, Nat.le_refl _, Nat.zero_le _, by simp, fun _ => rfl, by simp⟩
theorem below_drewN {B : Nat} {a w : World} (h : Below B a w) (n : Nat) : Below B a (w.drewN n) := ⟨h.os, h.tape, h.output, h.size, h.block⟩
set_option maxRecDepth 100000 in
set_option maxHeartbeats 8000000 in
theorem walk (a0 : Option Addr) (len0 cap0 : Nat) (xs0 : List Fld) (a1 : Option Addr) (len1 cap1 : Nat) (xs1 : List Int) (w : World) (w0 : RdF w a0 len0 cap0 xs0) (w1 : Rd w a1 len1 cap1 xs1 ∧ cap1 ≤ 140737488351232) :
    Calls Try.prog 8 #[.slice a0 len0 cap0, .slice a1 len1 cap1] w fun e w' => e = .returned (.bool true) ∧ Below w.heap.size w w' := by
  obtain ⟨w1, hcap1⟩ := w1
  have m1 := w1.hm
  have c1 := w1.hc
  have m0 := w0.hm
  have c0 := w0.hc
  unfold maxLen at m0 m1
  have H0 := Lib.hid w0
  have H1 := Lib.hid w1
  clear w0 w1
  rcases hF : fewV len0 0 len1 [] with _ | _
  · have HF := Lib.hid hF
    clear hF
    go_enter Try.func8, Try.ntmps8
    go_wp2_with fail
    refine (few_any a0 len0 cap0 none 0 0 [] a1 len1 cap1 w (RdI.nil w) (by simp) (by omega) (by omega)).mono ?_
    rintro e u1 ⟨rfl, rfl⟩
    rw [HF.out]
    go_wp2_with fail
    refine (sanity_any _).mono ?_
    rintro e u1 ⟨rfl, hb⟩
    have Hb := Lib.hid hb
    clear hb
    go_wp2_with fail
    go_ret
    exact ⟨rfl, Hb.out⟩
  · have HF := Lib.hid hF
    clear hF
    by_cases hbig : (5000 : Int) < (len1 : Int)
    · go_enter Try.func8, Try.ntmps8
      go_wp2_with fail
      refine (few_any a0 len0 cap0 none 0 0 [] a1 len1 cap1 w (RdI.nil w) (by simp) (by omega) (by omega)).mono ?_
      rintro e u1 ⟨rfl, rfl⟩
      rw [HF.out]
      go_wp2_with fail
      refine (sanity_any _).mono ?_
      rintro e u1 ⟨rfl, hb⟩
      have Hb := Lib.hid hb
      clear hb
      go_wp2_with fail
      go_ret
      exact ⟨rfl, Hb.out⟩
    · go_enter Try.func8, Try.ntmps8
      go_wp2_with fail
      refine (few_any a0 len0 cap0 none 0 0 [] a1 len1 cap1 w (RdI.nil w) (by simp) (by omega) (by omega)).mono ?_
      rintro e u1 ⟨rfl, rfl⟩
      rw [HF.out]
      clear HF
      go_wp2_with fail
      refine (toVar_any _ _ _ xs1 w H1.out).mono ?_
      rintro e u1 ⟨rfl, rfl⟩
      have HV : Hid (∀ n u, toVarV xs1 = (n, u, 0) → 0 ≤ n ∧ n ≤ 9223372036854775807 ∧ ∃ m : Nat, u = m ∧ m ≤ xs1.length ∧ 1 ≤ m ∧ varB n = xs1.take m) := Lib.hid (fun n u h => toVar_oneway H1.out.hb h)
      obtain ⟨p1, hp1⟩ : ∃ p, p = toVarV xs1 := ⟨_, rfl⟩
      rw [← hp1] at HV ⊢
      clear hp1
      obtain ⟨n, u, e⟩ := p1
      unfold three
      simp only
      go_upto_if 38 with fail
      go_cut [] (fun wx => Below w.heap.size w wx)
      case first =>
        by_cases he : e = 0
        · subst he
          obtain ⟨n0, n1, m, rfl, hm, hm1, hB⟩ := HV.out n u rfl
          have hl1 := H1.out.hl
          have hV : varV n = xs1.take m ∧ varE n = 0 := by
            unfold varV varE
            rw [if_neg (by omega), if_neg (by omega)]
            exact ⟨hB, rfl⟩
          have HVV := Lib.hid hV
          have hml : m ≤ len1 := by omega
          have hmc : m ≤ cap1 := by omega
          have hlm : (xs1.take m).length = m := by simp; omega
          have Hlm := Lib.hid hlm
          have hd : decide ((len1 : Int) < (m : Int)) = false := by simp; omega
          clear hV hB HV hl1 hm hlm
          go_wp2_with fail
          refine (var_any n w n1).mono ?_
          rintro e u1 ⟨v, rfl, o, b⟩
          rw [HVV.out.2]
          rw [HVV.out.1] at o
          obtain ⟨q, c, rfl, r⟩ := o.rdz Hlm.out
          have k1 := fun n => (r.drewN n).convAny
          have k2 := fun n => (((H1.out.below b (Nat.le_refl _)).take m hml).drewN n).convAny
          have he' : ((strOfNums (xs1.take m)).toList != (strOfNums (xs1.take m)).toList) = false := by simp
          obtain ⟨S, hS⟩ : ∃ S, S = strOfNums (xs1.take m) := ⟨_, rfl⟩
          rw [← hS] at k1 k2 he'
          have Hb := Lib.hid b
          clear o r b hS HVV
          go_wp2_with fail
          go_quiet (fail)
          go_wp2_with fail
          go_meet
          exact below_drewN Hb.out _
        · have he1 : (e == 0) = false := by simpa using he
          clear HV
          go_wp2_with fail
          go_meet
          exact Below.refl _ _
      case rest =>
        clear HV
        have H1c := Lib.hid (H1.out.below hcut (Nat.le_refl _))
        have Hbc := Lib.hid hcut
        clear hcut
        go_wp2_with fail
        refine (toText_any _ _ _ xs1 wc H1c.out).mono ?_
        rintro e u1 ⟨v, rfl, o, b⟩
        have HV : Hid (∀ T u, toTextV xs1 = (T, u, 0) → T.length ≤ 65535 ∧ ∃ m : Nat, u = m ∧ m ≤ xs1.length ∧ textV T = xs1.take m) := Lib.hid (fun T u h => toText_oneway H1c.out.hb h)
        obtain ⟨p1, hp1⟩ : ∃ p, p = toTextV xs1 := ⟨_, rfl⟩
        rw [← hp1] at HV o ⊢
        clear hp1
        obtain ⟨T, u, e⟩ := p1
        simp only at o ⊢
        obtain ⟨q, c, rfl, r⟩ := o.rd
        have Hr := Lib.hid r
        have Hb := Lib.hid (Hbc.out.trans (b.mono Hbc.out.size))
        clear o r b H1c Hbc
        go_upto_if 68 with fail
        go_cut [] (fun wx => Below w.heap.size w wx)
        case first =>
          by_cases he : e = 0
          · subst he
            obtain ⟨n0, m, rfl, hm, hB⟩ := HV.out T u rfl
            have hl1 := H1.out.hl
            have hE : textE T = 0 := by unfold textE; rw [if_neg (by omega)]
            have HVV := Lib.hid (And.intro hE hB)
            have hml : m ≤ len1 := by omega
            have hmc : m ≤ cap1 := by omega
            have hlm : (xs1.take m).length = m := by simp; omega
            have Hlm := Lib.hid hlm
            have hd : decide ((len1 : Int) < (m : Int)) = false := by simp; omega
            clear hE hB HV hl1 hm hlm
            go_wp2_with fail
            refine (text_any _ _ _ T u1 Hr.out).mono ?_
            rintro e u2 ⟨v, rfl, o, b⟩
            rw [HVV.out.1]
            rw [HVV.out.2] at o
            obtain ⟨q, c, rfl, r⟩ := o.rdz Hlm.out
            have hbb := Hb.out.trans (b.mono Hb.out.size)
            have k1 := fun n => (r.drewN n).convAny
            have k2 := fun n => (((H1.out.below hbb (Nat.le_refl _)).take m hml).drewN n).convAny
            have he' : ((strOfNums (xs1.take m)).toList != (strOfNums (xs1.take m)).toList) = false := by simp
            obtain ⟨S, hS⟩ : ∃ S, S = strOfNums (xs1.take m) := ⟨_, rfl⟩
            rw [← hS] at k1 k2 he'
            have Hbb := Lib.hid hbb
            clear o r b hS HVV hbb
            go_wp2_with fail
            go_quiet (fail)
            go_wp2_with fail
            go_meet
            exact below_drewN Hbb.out _
          · have he1 : (e == 0) = false := by simpa using he
            clear HV
            go_wp2_with fail
            go_meet
            exact Hb.out
        case rest =>
          clear HV Hr Hb
          have H1c := Lib.hid (H1.out.below hcut (Nat.le_refl _))
          have Hbc := Lib.hid hcut
          clear hcut
          go_wp2_with fail
          obtain ⟨m8, hm8⟩ : ∃ m, m = (min (len1 : Int) 8).toNat := ⟨_, rfl⟩
          rw [← hm8]
          have hm8l : m8 ≤ len1 := by omega
          have H8 := Lib.hid (H1c.out.take m8 hm8l)
          clear hm8
          refine (num_u _ _ _ (xs1.take m8) wc H8.out).mono ?_
          rintro e u1 ⟨rfl, rfl⟩
          have HV : Hid (∀ n, numV false (xs1.take m8) = (n, 0) → fixedE n m8 false = 0 ∧ fixedB n m8 false = xs1.take m8 ∧ -9223372036854775808 ≤ n ∧ n ≤ 9223372036854775807) := Lib.hid (fun n h => by
            have := num_oneway false H8.out.hb h
            rw [H8.out.hl] at this
            exact this.2.2)
          obtain ⟨p1, hp1⟩ : ∃ p, p = numV false (xs1.take m8) := ⟨_, rfl⟩
          rw [← hp1] at HV ⊢
          clear hp1
          obtain ⟨n2, e⟩ := p1
          simp only
          go_upto_if 102 with fail
          go_cut [] (fun wx => Below wc.heap.size wc wx)
          case first =>
            by_cases he : e = 0
            · subst he
              obtain ⟨h1, h2, h3, h4⟩ := HV.out n2 rfl
              have HVV := Lib.hid (And.intro h1 h2)
              clear HV h1 h2
              go_wp2_with fail
              refine (uint_any n2 m8 wc h3 h4).mono ?_
              rintro e u1 ⟨v, rfl, o, b⟩
              rw [HVV.out.1]
              rw [HVV.out.2] at o
              obtain ⟨q, c, rfl, r⟩ := o.rdz H8.out.hl
              have k1 := r.convAny
              have k2 := (H8.out.below b (Nat.le_refl _)).convAny
              have he' : ((strOfNums (xs1.take m8)).toList != (strOfNums (xs1.take m8)).toList) = false := by simp
              obtain ⟨S, hS⟩ : ∃ S, S = strOfNums (xs1.take m8) := ⟨_, rfl⟩
              rw [← hS] at k1 k2 he'
              have Hb := Lib.hid b
              clear o r b hS HVV
              go_wp2_with fail
              go_meet
              exact Hb.out
            · have he1 : (e == 0) = false := by simpa using he
              clear HV
              go_wp2_with fail
              go_meet
              exact Below.refl _ _
          case rest =>
            clear HV
            rename_i Wold
            have Hbc := Lib.hid (Hbc.out.trans (hcut.mono Hbc.out.size))
            have H8 := Lib.hid (H8.out.below hcut (Nat.le_refl _))
            have H1c := Lib.hid (H1c.out.below hcut (Nat.le_refl _))
            clear hcut
            go_wp2_with fail
            refine (num_i _ _ _ (xs1.take m8) wc H8.out).mono ?_
            rintro e u1 ⟨rfl, rfl⟩
            have HV : Hid (∀ n, numV true (xs1.take m8) = (n, 0) → fixedE n m8 true = 0 ∧ fixedB n m8 true = xs1.take m8 ∧ -9223372036854775808 ≤ n ∧ n ≤ 9223372036854775807) := Lib.hid (fun n h => by
              have := num_oneway true H8.out.hb h
              rw [H8.out.hl] at this
              exact this.2.2)
            obtain ⟨p1, hp1⟩ : ∃ p, p = numV true (xs1.take m8) := ⟨_, rfl⟩
            rw [← hp1] at HV ⊢
            clear hp1
            obtain ⟨n2, e⟩ := p1
            simp only
            go_upto_if 125 with fail
            go_cut [] (fun wx => Below wc.heap.size wc wx)
            case first =>
              by_cases he : e = 0
              · subst he
                obtain ⟨h1, h2, h3, h4⟩ := HV.out n2 rfl
                have HVV := Lib.hid (And.intro h1 h2)
                clear HV h1 h2
                go_wp2_with fail
                refine (int_any n2 m8 wc h3 h4).mono ?_
                rintro e u1 ⟨v, rfl, o, b⟩
                rw [HVV.out.1]
                rw [HVV.out.2] at o
                obtain ⟨q, c, rfl, r⟩ := o.rdz H8.out.hl
                have k1 := r.convAny
                have k2 := (H8.out.below b (Nat.le_refl _)).convAny
                have he' : ((strOfNums (xs1.take m8)).toList != (strOfNums (xs1.take m8)).toList) = false := by simp
                obtain ⟨S, hS⟩ : ∃ S, S = strOfNums (xs1.take m8) := ⟨_, rfl⟩
                rw [← hS] at k1 k2 he'
                have Hb := Lib.hid b
                clear o r b hS HVV
                go_wp2_with fail
                go_meet
                exact Hb.out
              · have he1 : (e == 0) = false := by simpa using he
                clear HV
                go_wp2_with fail
                go_meet
                exact Below.refl _ _
            case rest =>
              clear HV
              rename_i Wold
              have Hbc := Lib.hid (Hbc.out.trans (hcut.mono Hbc.out.size))
              have H8 := Lib.hid (H8.out.below hcut (Nat.le_refl _))
              have H1c := Lib.hid (H1c.out.below hcut (Nat.le_refl _))
              clear hcut
              go_wp2_with fail
              clear H8
              have hbB := H1c.out.hb
              have hl0 := H0.out.hl
              have hl1 := H1c.out.hl
              have H0c := Lib.hid (H0.out.below Hbc.out (Nat.le_refl _))
              by_cases hE : errV xs0 xs1 = 0
              · obtain ⟨hch, hok⟩ := errV_ok hE
                obtain ⟨hpos, hq⟩ := unpack_oneway hbB hch hok
                have hok' : ∀ k, k < len0 → (atV xs0 xs1 k).1 = 0 := fun k hk => hok k (by omega)
                have hbd' : ∀ k, k < len0 → -9223372036854775808 ≤ (atV xs0 xs1 k).2.1 ∧ (atV xs0 xs1 k).2.1 ≤ 9223372036854775807 := fun k hk => ⟨(hq k (by omega)).2.2.1, (hq k (by omega)).2.2.2.1⟩
                have HP : Hid (∀ ys : List Itm, ys.map (fun x => (x.n, x.xs)) = (List.range len0).map (fun k => ((atV xs0 xs1 k).2.1, (atV xs0 xs1 k).2.2.1)) → packV xs0 ys = (0, xs1.take (posV xs0 xs1 len0))) := Lib.hid (fun ys hy => by
                  have hyl : ys.length = len0 := by have := congrArg List.length hy; simpa using this
                  rw [← hl0] at hyl
                  rw [← hl0]
                  refine pack_oneway hbB hch hok hyl (fun k hk => ?_)
                  have := congrArg (fun l => l[k]?) hy
                  simp only [List.getElem?_map] at this
                  rw [List.getElem?_eq_getElem (by omega), List.getElem?_range (by omega)] at this
                  simp only [Option.map_some, Option.some.injEq, Prod.mk.injEq] at this
                  have hg : ys.getD k default = ys[k]'(by omega) := by simp [List.getD, show k < ys.length by omega]
                  rw [hg]; exact this)
                have hpl := hpos len0 (by omega)
                have Hch := Lib.hid hch
                have Hok := Lib.hid hok'
                have Hbd := Lib.hid hbd'
                have hlm : (xs1.take (posV xs0 xs1 len0)).length = posV xs0 xs1 len0 := by simp; omega
                clear hok hpos hq hch hok' hbd' hE hbB
                obtain ⟨p, hp⟩ : ∃ p, p = posV xs0 xs1 len0 := ⟨_, rfl⟩
                rw [← hp] at hpl HP hlm
                have Hlm := Lib.hid hlm
                have hpl2 : p ≤ len1 := by omega
                have hpc : p ≤ cap1 := by omega
                have Hp := Lib.hid hp
                clear hp hlm hl0 hl1 hpl
                refine (unpack_ok a0 len0 cap0 xs0 _ H0c.out a1 len1 cap1 xs1 H1c.out (by omega) Hch.out Hok.out Hbd.out).mono ?_
                rintro e u5 ⟨a5, c5, items, rfl, r5, hmap, b5⟩
                rw [← Hp.out]
                have hpk := HP.out items hmap
                have Hpk := Lib.hid hpk
                have H0d := Lib.hid (H0c.out.below b5 (Nat.le_refl _))
                have H1d := Lib.hid (H1c.out.below b5 (Nat.le_refl _))
                have Hr5 := Lib.hid r5
                have Hb5 := Lib.hid (Hbc.out.trans (b5.mono Hbc.out.size))
                clear hpk hmap r5 b5 HP Hok Hbd Hch H0c H1c Hbc
                go_wp2_with fail
                refine (packAll_any a0 len0 cap0 xs0 u5 H0d.out a5 len0 c5 items Hr5.out).mono ?_
                rintro e u6 ⟨v6, rfl, o6, b6⟩
                rw [Hpk.out] at o6 ⊢
                simp only at o6 ⊢
                obtain ⟨q6, c6, rfl, r6⟩ := o6.rdz Hlm.out
                have Hr6 := Lib.hid r6
                have H1e := Lib.hid (H1d.out.below b6 (Nat.le_refl _))
                have Hb6 := Lib.hid (Hb5.out.trans (b6.mono Hb5.out.size))
                have hd : decide ((p : Int) ≤ (len1 : Int)) = true := by simp; omega
                have he' : ((strOfNums (xs1.take p)).toList == (strOfNums (xs1.take p)).toList) = true := by simp
                obtain ⟨S, hS⟩ : ∃ S, S = strOfNums (xs1.take p) := ⟨_, rfl⟩
                rw [← hS] at he'
                have HS := Lib.hid hS
                clear o6 b6 r6 hS Hr5 H0d H1d Hb5 Hpk
                have k3 := (Hr6.out.drew).convAny
                have k4 := ((H1e.out.drew).take p hpl2).convAny
                rw [← HS.out] at k3 k4
                have hd1 : (p : Int) ≤ (len1 : Int) := by omega
                have hd2 : p ≤ len1 := by omega
                go_upto_region 28 with fail
                go_region_held3 (fun w' => (convert 22 9 (.slice q6 p c6)).run Try.prog w' = .ok (.string S) w' ∧ (convert 22 9 (.slice a1 p cap1)).run Try.prog w' = .ok (.string S) w') (first | go_keep | exact ⟨k1, k2⟩ | exact ⟨k3, k4⟩) ((go_at_call 15; refine (sanity_any _).mono ?_; rintro e w9 ⟨rfl, b9⟩; have hb9 := (Below.refl u6.heap.size u6).drew.trans (b9.mono (by simp)); have k1 := (Hr6.out.below hb9 (Nat.le_refl _)).convAny; have k2 := ((H1e.out.below hb9 (Nat.le_refl _)).take p hpl2).convAny; rw [← HS.out] at k1 k2; have Hb9 := Lib.hid (Hb6.out.trans (hb9.mono Hb6.out.size)); clear b9 hb9))
                all_goals (go_wp2_with fail; go_ret; exact ⟨rfl, Hb9.out⟩)
              · have HE : Hid ((errV xs0 xs1 != 0) = true) := Lib.hid (by simpa using hE)
                have C := Lib.hid (unpack_err a0 len0 cap0 xs0 wc H0c.out a1 len1 cap1 xs1 H1c.out (by omega) hE)
                obtain ⟨er, her⟩ : ∃ er, er = errV xs0 xs1 := ⟨_, rfl⟩
                rw [← her] at C HE
                have hne := HE.out
                clear her hE HE hbB hl0 hl1
                refine C.out.mono ?_
                rintro e u5 ⟨rfl, b5⟩
                have Hb5 := Lib.hid (Hbc.out.trans (b5.mono Hbc.out.size))
                clear b5
                go_wp2_with fail
                refine (sanity_any u5).mono ?_
                rintro e u6 ⟨rfl, b6⟩
                have Hb6 := Lib.hid (Hb5.out.trans (b6.mono Hb5.out.size))
                clear b6
                go_wp2_with fail
                go_ret
                exact ⟨rfl, Hb6.out⟩
end Go.Proofs.Ytlmknpljncpjiaa.wireOneWay
