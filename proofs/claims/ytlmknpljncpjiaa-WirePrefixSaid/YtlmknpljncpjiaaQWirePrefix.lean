/- What the statement WirePrefix calls answers true, for every input that its walk is handed. -/
import Derived.Test.YtlmknpljncpjiaaRows
import Derived.WalkKit
import Derived.ProofKit
import Derived.OpenShut
import Derived.ShutString
import Derived.ChangeOld
import Derived.Below
import Derived.SizedLaws
import Derived.Test.YtlmknpljncpjiaaLopen
import Derived.Test.YtlmknpljncpjiaaLbegins
import Derived.Test.YtlmknpljncpjiaaWvback
import Derived.Test.YtlmknpljncpjiaaWsanity
import Derived.Deep.DeepCutAuto
namespace Go.Proofs.Ytlmknpljncpjiaa.wirePrefix
open Go.ChangeShapes Go.WideShapes Go.ChangeAt Go.RowKit
open Go.ChangeMaps (open_string shut_string)
set_option linter.unusedVariables false

theorem below_drewN {B : Nat} {a w : World} (h : Below B a w) (n : Nat) : Below B a (w.drewN n) := ⟨h.os, h.tape, h.output, h.size, h.block⟩
theorem Own.grownBack {w w' : World} {B : Nat} {v : Value} {xs : List Int} (h : Own w B v xs) (hb : Below w.heap.size w w') : Own w' B v xs := h.below hb (Nat.le_refl _)
/-- Which bytes end within a number, told by rounds. -/
def endsK (xs : List Int) (k : Nat) : Bool := decide (xs.length < 9) && (xs.take k).all fun x => decide (128 ≤ x)
theorem endsK_succ (xs : List Int) (k : Nat) (h : k < xs.length) : endsK xs (k + 1) = (endsK xs k && decide (128 ≤ xs.getD k 0)) := by
  unfold endsK
  rw [take_snoc xs k h, List.all_append, getD_at _ _ h]
  simp [Bool.and_assoc]
theorem endsK_all (xs : List Int) (k : Nat) (h : k = min xs.length 9) : endsK xs k = endsV xs := by
  unfold endsK endsV
  congr 2
  subst h
  rw [List.take_eq_take_iff]
  omega
set_option maxRecDepth 100000 in
set_option maxHeartbeats 8000000 in
theorem walk (a0 : Int) (a1 : Int) (a2 : Option Addr) (len2 cap2 : Nat) (xs2 : List Int) (a3 : Option Addr) (len3 cap3 : Nat) (xs3 : List Int) (a4 : Option Addr) (len4 cap4 : Nat) (xs4 : List Int) (a5 : Option Addr) (len5 cap5 : Nat) (xs5 : List Int) (w : World) (w0 : (Lit.int .i64 a0).wf = true) (w1 : (Lit.int .i64 a1).wf = true) (w2 : Rd w a2 len2 cap2 xs2 ∧ cap2 ≤ 140737488351232) (w3 : Rd w a3 len3 cap3 xs3 ∧ cap3 ≤ 140737488351232) (w4 : Rd w a4 len4 cap4 xs4 ∧ cap4 ≤ 140737488351232) (w5 : Rd w a5 len5 cap5 xs5 ∧ cap5 ≤ 140737488351232) :
    Calls Try.prog 10 #[.int .i64 a0, .int .i64 a1, .slice a2 len2 cap2, .slice a3 len3 cap3, .slice a4 len4 cap4, .slice a5 len5 cap5] w fun e w' => e = .returned (.bool true) ∧ Below w.heap.size w w' := by
  obtain ⟨w2, -⟩ := w2
  obtain ⟨w3, -⟩ := w3
  obtain ⟨w4, -⟩ := w4
  obtain ⟨w5, -⟩ := w5
  have n0 := wf_i64 w0
  have n1 := wf_i64 w1
  clear w0 w1
  have m2 := w2.hm
  have m3 := w3.hm
  have m4 := w4.hm
  have m5 := w5.hm
  have c2 := w2.hc
  have c3 := w3.hc
  have c4 := w4.hc
  have c5 := w5.hc
  unfold maxLen at m2 m3 m4 m5
  by_cases hbig : 5000 < len2 ∨ 5000 < len3 ∨ 5000 < len4 ∨ 5000 < len5
  · have hcase : (5000 : Int) < (len2 : Int) ∨ (¬ (5000 : Int) < (len2 : Int) ∧ (5000 : Int) < (len3 : Int)) ∨ (¬ (5000 : Int) < (len2 : Int) ∧ ¬ (5000 : Int) < (len3 : Int) ∧ (5000 : Int) < (len4 : Int)) ∨ (¬ (5000 : Int) < (len2 : Int) ∧ ¬ (5000 : Int) < (len3 : Int) ∧ ¬ (5000 : Int) < (len4 : Int) ∧ (5000 : Int) < (len5 : Int)) := by omega
    clear w2 w3 w4 w5 hbig
    rcases hcase with h1 | ⟨h1, h2⟩ | ⟨h1, h2, h3⟩ | ⟨h1, h2, h3, h4⟩
    all_goals
      go_enter Try.func10, Try.ntmps10
      go_wp2_with fail
      refine (sanity_any _).mono ?_
      rintro e u1 ⟨rfl, hb⟩
      have Hb := Lib.hid hb
      clear hb
      go_wp2_with fail
      go_ret
      exact ⟨rfl, Hb.out⟩
  · have h2 : ¬ (5000 : Int) < (len2 : Int) := by omega
    have h3 : ¬ (5000 : Int) < (len3 : Int) := by omega
    have h4 : ¬ (5000 : Int) < (len4 : Int) := by omega
    have h5 : ¬ (5000 : Int) < (len5 : Int) := by omega
    have H2 := Lib.hid w2
    have H3 := Lib.hid w3
    have H4 := Lib.hid w4
    have H5 := Lib.hid w5
    clear hbig w2 w3 w4 w5
    have hN : ∃ E0 E1 B0 B1, E0 = varE a0 ∧ E1 = varE a1 ∧ B0 = varV a0 ∧ B1 = varV a1 := ⟨_, _, _, _, rfl, rfl, rfl, rfl⟩
    obtain ⟨E0, E1, B0, B1, hE0, hE1, hB0, hB1⟩ := hN
    have HN : Hid ((E0 = 0 ∧ E1 = 0 ∧ a0 ≠ a1 → decide (B0 <+: B1) = false) ∧ E0 = varE a0 ∧ E1 = varE a1 ∧ B0 = varV a0 ∧ B1 = varV a1) := Lib.hid (by
      refine ⟨?_, hE0, hE1, hB0, hB1⟩
      rintro ⟨e0, e1, hne⟩
      rw [decide_eq_false_iff_not]
      rw [hE0] at e0; rw [hE1] at e1
      unfold varE at e0 e1
      split at e0
      · simp at e0
      · split at e1
        · simp at e1
        · rw [hB0, hB1]
          unfold varV
          rw [if_neg (by omega), if_neg (by omega)]
          exact fun hp => hne (var_prefix (by omega) n0.2 (by omega) n1.2 hp))
    clear hE0 hE1 hB0 hB1
    go_enter Try.func10, Try.ntmps10
    go_wp2_with fail
    refine (var_any a0 w n0.2).mono ?_
    rintro e u1 ⟨v1, rfl, o1, b1⟩
    rw [← HN.out.2.1]
    rw [← HN.out.2.2.2.1] at o1
    have Ho1 := Lib.hid o1
    have Hb1 := Lib.hid b1
    obtain ⟨q1, r1, rfl, -⟩ := o1.rd
    clear o1 b1
    go_wp2_with fail
    refine (var_any a1 u1 n1.2).mono ?_
    rintro e u2 ⟨v2, rfl, o2, b2⟩
    rw [← HN.out.2.2.1]
    rw [← HN.out.2.2.2.2] at o2
    have Ho1 := Lib.hid (Ho1.out.below b2 (Nat.le_refl _))
    have Ho2 := Lib.hid o2
    have Hb2 := Lib.hid (Hb1.out.trans (b2.mono Hb1.out.size))
    obtain ⟨q2, r2, rfl, -⟩ := o2.rd
    clear o2 b2 Hb1
    go_upto_region 5 with fail
    go_cut [63] (fun c wx => c = .bool false ∧ ∃ n, wx = u2.drewN n)
    case first =>
      have HP := HN.out.1
      by_cases he0 : E0 = 0
      · by_cases he1 : E1 = 0
        · by_cases hne : a0 = a1
          · subst hne
            clear HP
            go_wp2_with fail
            go_meet
            exact ⟨rfl, 0, rfl⟩
          · have hbg := HP ⟨he0, he1, hne⟩
            have hbg := Lib.hid hbg
            clear HP
            subst he0
            subst he1
            obtain ⟨a1', c1', ev, R1⟩ := Ho1.out.rd
            cases ev
            obtain ⟨a2', c2', ev, R2⟩ := Ho2.out.rd
            cases ev
            have HR1 := Lib.hid R1
            have HR2 := Lib.hid R2
            have hne' : (a0 != a1) = true := by simpa using hne
            clear R1 R2
            go_wp2_with fail
            refine (begins_any _ _ _ _ _ _ _ _ u2 HR2.out HR1.out).mono ?_
            rintro e u3 ⟨rfl, n, rfl⟩
            rw [hbg.out]
            go_wp2_with fail
            go_meet
            exact ⟨rfl, _, rfl⟩
        · have he1' : (E1 == 0) = false := by simpa using he1
          clear HP
          subst he0
          go_wp2_with fail
          go_meet
          exact ⟨rfl, 0, rfl⟩
      · have he0' : (E0 == 0) = false := by simpa using he0
        clear HP
        go_wp2_with fail
        go_meet
        exact ⟨rfl, 0, rfl⟩
    case rest =>
      obtain ⟨rfl, nq, hw⟩ := hcut
      have hbc : Below w.heap.size w wc := by rw [hw]; exact below_drewN Hb2.out nq
      have Hbc := Lib.hid hbc
      have H2c := Lib.hid (H2.out.below hbc (Nat.le_refl _))
      have H3c := Lib.hid (H3.out.below hbc (Nat.le_refl _))
      have H4c := Lib.hid (H4.out.below hbc (Nat.le_refl _))
      have H5c := Lib.hid (H5.out.below hbc (Nat.le_refl _))
      clear hw hbc Ho1 Ho2 Hb2 HN H2 H3 H4 H5
      have HT2 : Hid (textE xs2 = 0) := Lib.hid (by unfold textE; rw [if_neg]; have := H2c.out.hl; omega)
      have HT3 : Hid (textE xs3 = 0) := Lib.hid (by unfold textE; rw [if_neg]; have := H3c.out.hl; omega)
      go_wp2_with fail
      refine (text_any _ _ _ xs2 wc H2c.out).mono ?_
      rintro e u3 ⟨v1, rfl, o1, b1⟩
      rw [HT2.out]
      have Ho1 := Lib.hid o1
      have Hb1 := Lib.hid (Hbc.out.trans (b1.mono Hbc.out.size))
      have H2d := Lib.hid (H2c.out.below b1 (Nat.le_refl _))
      have H3d := Lib.hid (H3c.out.below b1 (Nat.le_refl _))
      have H4d := Lib.hid (H4c.out.below b1 (Nat.le_refl _))
      have H5d := Lib.hid (H5c.out.below b1 (Nat.le_refl _))
      obtain ⟨q3, r3, rfl, -⟩ := o1.rd
      clear o1 b1 Hbc H2c H3c H4c H5c
      go_wp2_with fail
      refine (text_any _ _ _ xs3 u3 H3d.out).mono ?_
      rintro e u4 ⟨v2, rfl, o2, b2⟩
      rw [HT3.out]
      have Ho1 := Lib.hid (Ho1.out.below b2 (Nat.le_refl _))
      have Ho2 := Lib.hid o2
      have Hb2 := Lib.hid (Hb1.out.trans (b2.mono Hb1.out.size))
      have H2e := Lib.hid (H2d.out.below b2 (Nat.le_refl _))
      have H3e := Lib.hid (H3d.out.below b2 (Nat.le_refl _))
      have H4e := Lib.hid (H4d.out.below b2 (Nat.le_refl _))
      have H5e := Lib.hid (H5d.out.below b2 (Nat.le_refl _))
      obtain ⟨q4, r4, rfl, -⟩ := o2.rd
      clear o2 b2 Hb1 H2d H3d H4d H5d
      go_upto_region 9 with fail
      go_cut [91] (fun c wx => c = .bool false ∧ ∃ n, wx = u4.drewN n)
      case first =>
        have k1 := H2e.out.convAny
        have k2 := H3e.out.convAny
        have he := str_eq H2e.out.hb H3e.out.hb
        by_cases hst : xs2 = xs3
        · subst hst
          have he' : ((strOfNums xs2).toList != (strOfNums xs2).toList) = false := by simp
          clear he
          go_wp2_with fail
          go_meet
          exact ⟨rfl, 0, rfl⟩
        · rw [decide_eq_false hst] at he
          have he' : ((strOfNums xs2).toList != (strOfNums xs3).toList) = true := by rw [bne, he]; rfl
          have hbg : decide (textV xs2 <+: textV xs3) = false := by
            rw [decide_eq_false_iff_not]
            exact fun hp => hst (text_prefix (by have := H2e.out.hl; omega) (by have := H3e.out.hl; omega) hp)
          have hbg := Lib.hid hbg
          obtain ⟨a1', c1', ev, R1⟩ := Ho1.out.rd
          cases ev
          obtain ⟨a2', c2', ev, R2⟩ := Ho2.out.rd
          cases ev
          have HR1 := Lib.hid R1
          have HR2 := Lib.hid R2
          clear R1 R2
          go_wp2_with fail
          refine (begins_any _ _ _ _ _ _ _ _ u4 HR2.out HR1.out).mono ?_
          rintro e u5 ⟨rfl, n, rfl⟩
          rw [hbg.out]
          go_wp2_with fail
          go_meet
          exact ⟨rfl, _, rfl⟩
      case rest =>
        obtain ⟨rfl, nq, hw⟩ := hcut
        rename_i W
        have hbc : Below w.heap.size w wc := by rw [hw]; exact below_drewN Hb2.out nq
        have Hbc := Lib.hid hbc
        have H4c := Lib.hid (show Rd wc a4 len4 cap4 xs4 by rw [hw]; exact H4e.out.drewN nq)
        have H5c := Lib.hid (show Rd wc a5 len5 cap5 xs5 by rw [hw]; exact H5e.out.drewN nq)
        clear hw hbc Ho1 Ho2 Hb2 H2e H3e H4e H5e HT2 HT3
        go_wp2_with fail
        refine (toVar_any _ _ _ xs4 wc H4c.out).mono ?_
        rintro e u5 ⟨rfl, rfl⟩
        obtain ⟨p4, hp4⟩ : ∃ p, p = toVarV xs4 := ⟨_, rfl⟩
        have HP4 := Lib.hid hp4
        obtain ⟨nn, uu, ee⟩ := p4
        rw [← hp4]
        unfold three
        clear hp4
        have hs0 : decide ((len4 : Int) < 9) = endsK xs4 0 := by
          unfold endsK
          rw [List.take_zero, List.all_nil, Bool.and_true, H4c.out.hl, decide_eq_decide]
          omega
        have HS0 := Lib.hid hs0
        clear hs0
        obtain ⟨m, hm⟩ : ∃ m : Nat, m = min len4 9 := ⟨_, rfl⟩
        have hm1 : m ≤ len4 := by omega
        have hm2 : m ≤ 9 := by omega
        have hm3 : len4 ≤ m ∨ 9 ≤ m := by omega
        have HM := Lib.hid hm
        clear hm
        go_wp2_with fail
        rw [HS0.out]
        clear HS0
        go_loop [17, 18] (fun c i => ∃ k : Nat, k ≤ m ∧ i = .int .i64 k ∧ c = .bool (endsK xs4 k)) (fun _ i => m - (intOf i).toNat)
        case atStart => exact ⟨0, Nat.zero_le _, rfl, rfl⟩
        case round =>
          obtain ⟨k, hk, rfl, rfl⟩ := hrel
          by_cases hlt : k < m
          · have hl4 := H4c.out.hl
            obtain ⟨b, off, rfl, hcell⟩ := H4c.out.hr (by omega)
            have hc' := hcell k (by omega)
            have hxb := H4c.out.hb (xs4.getD k 0) (by rw [getD_at _ _ (by omega)]; exact List.getElem_mem _)
            have HK := Lib.hid (endsK_succ xs4 k (by omega))
            obtain ⟨x, hx⟩ : ∃ x, x = xs4.getD k 0 := ⟨_, rfl⟩
            rw [← hx] at hc' hxb HK
            clear hx hcell hl4
            have hk1 : k < len4 := by omega
            have hk9 : k < 9 := by omega
            rcases hE : endsK xs4 k with _ | _
            · rw [hE] at HK
              have HK := Lib.hid (show endsK xs4 (k + 1) = false by rw [HK.out]; rfl)
              clear hE
              go_wp2_with fail
              go_round
              case rel => exact ⟨k + 1, by omega, by go_num, by rw [HK.out]⟩
              case measure => simp [intOf]; omega
            · rw [hE] at HK
              have HK := Lib.hid (show endsK xs4 (k + 1) = decide (128 ≤ x) by rw [HK.out, Bool.true_and])
              clear hE
              go_wp2_with fail
              go_round
              case rel => exact ⟨k + 1, by omega, by go_num, by rw [HK.out]⟩
              case measure => simp [intOf]; omega
          · obtain rfl : k = m := by omega
            have hkE := endsK_all xs4 k (by rw [HM.out, H4c.out.hl])
            rw [hkE]
            clear hkE
            rcases (show len4 ≤ k ∨ (k < len4 ∧ 9 ≤ k) by omega) with hx1 | ⟨hx1, hx2⟩
            all_goals
              have HO : Hid (Own (wc.alloc (.cells #[] 5)) wc.heap.size (.slice (some ⟨wc.heap.size, 0, none⟩) 0 0) []) := Lib.hid ⟨World.ownsRow_made (base := wc.heap.size) (e := 5) (size := 1) wc #[] 0 (Nat.le_refl _) (by decide) rfl, by simp⟩
              have HR4 := Lib.hid (H4c.out.below ((Below.refl wc.heap.size wc).alloc (Nat.le_refl _) (.cells #[] 5)) (Nat.le_refl _))
              have hl4 := H4c.out.hl
              have hl5 := H5c.out.hl
              have i1 : ([] : List Int).length + len4 ≤ 140737488355328 := by simp; omega
              have i2 : wc.heap.size ≤ (wc.alloc (.cells #[] 5)).heap.size := by simp
              have i3 : xs4.length + len5 ≤ 140737488355328 := by omega
              have hL : (xs4 ++ xs5).length = len4 + len5 := by rw [List.length_append]; omega
              have HL := Lib.hid (And.intro hl4 hL)
              clear hl4 hl5 hL
              go_wp2_with (first
                | (at_builtin; refine wpList_append_rd rfl (.tmp 120) (.tmp 121) 22 rfl wc.heap.size Try.infoB Try.underlying22 _ [] rfl HO.out _ _ _ _ rfl HR4.out i1 i2 ?_; intro v6 w6 ho6 hg6; rw [List.nil_append] at ho6; obtain ⟨a6, c6, hv6, hr6⟩ := ho6.rdz HL.out.1; subst hv6; have Ho6 := Lib.hid ho6; have Hb6 := Lib.hid (((Below.refl wc.heap.size wc).alloc (Nat.le_refl _) (.cells #[] 5)).grown hg6 i2 (fun k hk => (HO.out.1.lt k hk).1)); have HR5 := Lib.hid (H5c.out.below Hb6.out (Nat.le_refl _)); have i4 := Hb6.out.size; clear ho6 hg6 hr6)
                | (at_builtin; refine wpList_append_rd rfl (.tmp 122) (.tmp 123) 22 rfl wc.heap.size Try.infoB Try.underlying22 _ _ rfl Ho6.out _ _ _ _ rfl HR5.out i3 i4 ?_; intro v7 w7 ho7 hg7; obtain ⟨a7, c7, hv7, hr7⟩ := ho7.rdz HL.out.2; subst hv7; have Hr7 := Lib.hid hr7; have Hb7 := Lib.hid (Hb6.out.grown hg7 i4 (fun k hk => (Ho6.out.1.lt k hk).1)); clear ho7 hg7 hr7))
              refine (toVar_any _ _ _ _ w7 Hr7.out).mono ?_
              rintro e u8 ⟨rfl, rfl⟩
              obtain ⟨p5, hp5⟩ : ∃ p, p = toVarV (xs4 ++ xs5) := ⟨_, rfl⟩
              have HP5 := Lib.hid hp5
              obtain ⟨n5, u5', e5⟩ := p5
              rw [← hp5]
              unfold three
              clear hp5
              go_wp2_with fail
              refine (sanity_any w7).mono ?_
              rintro e u9 ⟨rfl, b9⟩
              have Hb9 := Lib.hid (Hbc.out.trans ((Hb7.out.trans (b9.mono Hb7.out.size)).mono Hbc.out.size))
              clear b9
              rcases hE : endsV xs4 with _ | _
              · have h1 : e5 = ee := by
                  have := toVar_app xs5 hE
                  rw [← HP5.out, ← HP4.out] at this
                  simpa using (congrArg (fun p => p.2.2) this)
                have h1 := h1.symm
                subst h1
                by_cases h0 : ee = 0
                · subst h0
                  go_wp2_with fail
                  go_ret
                  exact ⟨rfl, Hb9.out⟩
                · have h0' : (ee == 0) = false := by simpa using h0
                  have h0'' : (ee != 0) = true := by simpa using h0
                  go_wp2_with fail
                  go_ret
                  exact ⟨rfl, Hb9.out⟩
              · have h1 : ee = 4 := by
                  have := toVar_ends hE
                  rw [← HP4.out] at this
                  simpa using (congrArg (fun p => p.2.2) this)
                subst h1
                go_wp2_with fail
                go_ret
                exact ⟨rfl, Hb9.out⟩
end Go.Proofs.Ytlmknpljncpjiaa.wirePrefix
