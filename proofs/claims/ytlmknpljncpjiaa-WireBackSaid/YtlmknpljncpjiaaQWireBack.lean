/- What the statement WireBack calls answers true, for every input that its walk is handed. -/
import Derived.Test.YtlmknpljncpjiaaRows
import Derived.WalkKit
import Derived.ProofKit
import Derived.OpenShut
import Derived.ShutString
import Derived.ChangeOld
import Derived.Below
import Derived.SizedLaws
import Derived.Test.YtlmknpljncpjiaaLopen
import Derived.Test.YtlmknpljncpjiaaLbegins
import Derived.Test.YtlmknpljncpjiaaLfew
import Derived.Test.YtlmknpljncpjiaaWpback
import Derived.Test.YtlmknpljncpjiaaWsizeback
import Derived.Test.YtlmknpljncpjiaaWunpack
import Derived.Test.YtlmknpljncpjiaaWfold
import Derived.Test.YtlmknpljncpjiaaRitems
import Derived.Test.YtlmknpljncpjiaaWsanity
import Derived.Deep.DeepCutAuto
namespace Go.Proofs.Ytlmknpljncpjiaa.wireBack
open Go.ChangeShapes Go.WideShapes Go.ChangeAt Go.RowKit
open Go.ChangeMaps (open_string shut_string)
set_option linter.unusedVariables false

theorem below_drewN {B : Nat} {a w : World} (h : Below B a w) (n : Nat) : Below B a (w.drewN n) := ⟨h.os, h.tape, h.output, h.size, h.block⟩
theorem fixed_back {n w : Int} {s : Bool} (h1 : -9223372036854775808 ≤ n) (h2 : n ≤ 9223372036854775807) (h : fixedE n w s = 0) : numV s (fixedB n w s) = (n, 0) ∧ ((fixedB n w s).length : Int) = w := by
  obtain ⟨w1, w8, h0, hw⟩ := fixed_zero h
  obtain ⟨-, e2, e3⟩ := fixed_fit n w s h1 h2 h0 hw w8
  exact ⟨e2, by rw [e3]; omega⟩
theorem fold_back {n : Int} (h : (foldV n).2 = 0) : unfoldV (foldV n).1 = (n, 0) ∧ 0 ≤ (foldV n).1 ∧ (foldV n).1 ≤ 9223372036854775807 := by
  unfold foldV at h ⊢
  split at h
  · simp at h
  · rename_i h0
    rw [if_neg h0]
    split
    · unfold unfoldV
      refine ⟨?_, by simp only; omega, by simp only; omega⟩
      rw [if_neg (by simp only; omega), if_pos (by simp only; omega)]
      simp only
      congr 1; omega
    · unfold unfoldV
      refine ⟨?_, by simp only; omega, by simp only; omega⟩
      rw [if_neg (by simp only; omega), if_neg (by simp only; omega)]
      simp only
      congr 1; omega
theorem key_map (items : List Itm) (xs : List Itm) (len : Nat) (B : List Int) (fs : List Fld) (hl : xs.length = len) (h : items.map (fun x => (x.n, x.xs)) = (List.range len).map (fun k => ((atV fs B k).2.1, (atV fs B k).2.2.1)))
    (hv : ∀ k, k < len → (atV fs B k).2.1 = (xs.getD k default).n ∧ (atV fs B k).2.2.1 = (xs.getD k default).xs) : items.map Itm.key = xs.map Itm.key := by
  have e1 : items.map Itm.key = items.map (fun x => (x.n, x.xs)) := rfl
  rw [e1, h]
  refine List.ext_getElem? fun i => ?_
  by_cases hi : i < len
  · rw [List.getElem?_map, List.getElem?_range hi, List.getElem?_map, List.getElem?_eq_getElem (by omega)]
    simp only [Option.map_some]
    obtain ⟨a, b⟩ := hv i hi
    have hg : xs.getD i default = xs[i]'(by omega) := by simp [List.getD, show i < xs.length by omega]
    rw [a, b, hg]; rfl
  · rw [List.getElem?_eq_none (by simp; omega), List.getElem?_eq_none (by simp; omega)]
set_option maxRecDepth 100000 in
set_option maxHeartbeats 8000000 in
theorem walk (a0 : Int) (a1 : Int) (a2 : Option Addr) (len2 cap2 : Nat) (xs2 : List Int) (a3 : Option Addr) (len3 cap3 : Nat) (xs3 : List Fld) (a4 : Option Addr) (len4 cap4 : Nat) (xs4 : List Itm) (a5 : Option Addr) (len5 cap5 : Nat) (xs5 : List Int) (w : World) (w0 : (Lit.int .i64 a0).wf = true) (w1 : (Lit.int .i64 a1).wf = true) (w2 : Rd w a2 len2 cap2 xs2 ∧ cap2 ≤ 140737488351232) (w3 : RdF w a3 len3 cap3 xs3) (w4 : RdI w a4 len4 cap4 xs4 ∧ ∀ x ∈ xs4, x.cap ≤ 140737488351232) (w5 : Rd w a5 len5 cap5 xs5 ∧ cap5 ≤ 140737488351232) :
    Calls Try.prog 7 #[.int .i64 a0, .int .i64 a1, .slice a2 len2 cap2, .slice a3 len3 cap3, .slice a4 len4 cap4, .slice a5 len5 cap5] w fun e w' => e = .returned (.bool true) ∧ Below w.heap.size w w' := by
  have n0 := wf_i64 w0
  have n1 := wf_i64 w1
  clear w0 w1
  obtain ⟨w2, -⟩ := w2
  obtain ⟨w5, -⟩ := w5
  obtain ⟨w4, hcap⟩ := w4
  have m2 := w2.hm
  have m5 := w5.hm
  have c2 := w2.hc
  have c5 := w5.hc
  have m3 := w3.hm
  have c3 := w3.hc
  unfold maxLen at m2 m5 m3
  have H2 := Lib.hid w2
  have H3 := Lib.hid w3
  have H4 := Lib.hid w4
  have H5 := Lib.hid w5
  have Hc := Lib.hid hcap
  clear w2 w3 w4 w5 hcap
  rcases (show (5000 : Int) < (len2 : Int) ∨ (¬ (5000 : Int) < (len2 : Int) ∧ (5000 : Int) < (len5 : Int)) ∨ (¬ (5000 : Int) < (len2 : Int) ∧ ¬ (5000 : Int) < (len5 : Int)) by omega) with h1 | ⟨h1, h2⟩ | ⟨h1, h2⟩
  · go_enter Try.func7, Try.ntmps7
    go_wp2_with fail
    refine (sanity_any _).mono ?_
    rintro e u1 ⟨rfl, hb⟩
    have Hb := Lib.hid hb
    clear hb
    go_wp2_with fail
    go_ret
    exact ⟨rfl, Hb.out⟩
  · go_enter Try.func7, Try.ntmps7
    go_wp2_with fail
    refine (sanity_any _).mono ?_
    rintro e u1 ⟨rfl, hb⟩
    have Hb := Lib.hid hb
    clear hb
    go_wp2_with fail
    go_ret
    exact ⟨rfl, Hb.out⟩
  · rcases hF : fewV len3 len4 0 xs4 with _ | _
    · have HF := Lib.hid hF
      clear hF
      go_enter Try.func7, Try.ntmps7
      go_wp2_with fail
      refine (few_any a3 len3 cap3 a4 len4 cap4 xs4 none 0 0 w H4.out Hc.out (by omega) (by omega)).mono ?_
      rintro e u1 ⟨rfl, rfl⟩
      rw [HF.out]
      go_wp2_with fail
      refine (sanity_any _).mono ?_
      rintro e u1 ⟨rfl, hb⟩
      have Hb := Lib.hid hb
      clear hb
      go_wp2_with fail
      go_ret
      exact ⟨rfl, Hb.out⟩
    · have HF := Lib.hid hF
      clear hF
      go_enter Try.func7, Try.ntmps7
      go_wp2_with fail
      refine (few_any a3 len3 cap3 a4 len4 cap4 xs4 none 0 0 w H4.out Hc.out (by omega) (by omega)).mono ?_
      rintro e u1 ⟨rfl, rfl⟩
      rw [HF.out]
      clear HF Hc
      go_wp2_with fail
      refine (uint_any a0 a1 w n0.1 n0.2).mono ?_
      rintro e u1 ⟨v, rfl, o, b⟩
      have HFB : Hid (fixedE a0 a1 false = 0 → numV false (fixedB a0 a1 false) = (a0, 0) ∧ ((fixedB a0 a1 false).length : Int) = a1) := Lib.hid (fun h => fixed_back n0.1 n0.2 h)
      obtain ⟨E, hE⟩ : ∃ E, E = fixedE a0 a1 false := ⟨_, rfl⟩
      obtain ⟨B, hB⟩ : ∃ B, B = fixedB a0 a1 false := ⟨_, rfl⟩
      rw [← hE, ← hB] at HFB
      rw [← hB] at o
      rw [← hE]
      clear hE hB
      obtain ⟨m, hm⟩ : ∃ m, B.length = m := ⟨_, rfl⟩
      obtain ⟨q, c, rfl, r⟩ := o.rdz hm
      have Hr := Lib.hid r
      have Hb := Lib.hid (b)
      have Hm := Lib.hid hm
      clear o r b hm
      go_upto_if 51 with fail
      go_cut [] (fun wx => Below w.heap.size w wx)
      case first =>
        by_cases hE0 : E = 0
        · obtain ⟨f1, f2⟩ := HFB.out hE0
          rw [Hm.out] at f2
          have F1 := Lib.hid f1
          subst hE0
          have hmw : ((m : Int) != a1) = false := by simp [f2]
          clear f1 f2 HFB
          go_wp2_with fail
          refine (num_u _ _ _ B _ Hr.out).mono ?_
          rintro e u2 ⟨rfl, rfl⟩
          rw [F1.out]
          go_wp2_with fail
          go_meet
          exact Hb.out
        · have hE1 : (E == 0) = false := by simpa using hE0
          clear hE0 HFB
          go_wp2_with fail
          go_meet
          exact Hb.out
      case rest =>
        clear HFB Hr Hb Hm
        rename_i Wold
        go_wp2_with fail
        refine (int_any a0 a1 wc n0.1 n0.2).mono ?_
        rintro e u1 ⟨v, rfl, o, b⟩
        have HFB : Hid (fixedE a0 a1 true = 0 → numV true (fixedB a0 a1 true) = (a0, 0) ∧ ((fixedB a0 a1 true).length : Int) = a1) := Lib.hid (fun h => fixed_back n0.1 n0.2 h)
        obtain ⟨E, hE⟩ : ∃ E, E = fixedE a0 a1 true := ⟨_, rfl⟩
        obtain ⟨B, hB⟩ : ∃ B, B = fixedB a0 a1 true := ⟨_, rfl⟩
        rw [← hE, ← hB] at HFB
        rw [← hB] at o
        rw [← hE]
        clear hE hB
        obtain ⟨m, hm⟩ : ∃ m, B.length = m := ⟨_, rfl⟩
        obtain ⟨q, c, rfl, r⟩ := o.rdz hm
        have Hr := Lib.hid r
        have Hb := Lib.hid (hcut.trans (b.mono hcut.size))
        have Hm := Lib.hid hm
        clear o r b hm hcut
        go_upto_if 77 with fail
        go_cut [] (fun wx => Below w.heap.size w wx)
        case first =>
          by_cases hE0 : E = 0
          · obtain ⟨f1, f2⟩ := HFB.out hE0
            rw [Hm.out] at f2
            have F1 := Lib.hid f1
            subst hE0
            have hmw : ((m : Int) != a1) = false := by simp [f2]
            clear f1 f2 HFB
            go_wp2_with fail
            refine (num_i _ _ _ B _ Hr.out).mono ?_
            rintro e u2 ⟨rfl, rfl⟩
            rw [F1.out]
            go_wp2_with fail
            go_meet
            exact Hb.out
          · have hE1 : (E == 0) = false := by simpa using hE0
            clear hE0 HFB
            go_wp2_with fail
            go_meet
            exact Hb.out
        case rest =>
          clear HFB Hr Hb Hm
          rename_i Wold
          go_wp2_with fail
          refine (var_any a0 wc n0.2).mono ?_
          rintro e u1 ⟨v, rfl, o, b⟩
          have HFB : Hid (varE a0 = 0 → toVarV (varV a0 ++ xs5) = (a0, ((varV a0).length : Int), 0)) := Lib.hid (fun h => by
            have h0 : 0 ≤ a0 := by unfold varE at h; split at h <;> omega
            have : varV a0 = varB a0 := by unfold varV; rw [if_neg (by omega)]
            rw [this]; exact toVar_back a0 xs5 h0 n0.2)
          have hvl : (varV a0).length ≤ 9 := by
            unfold varV; split
            · simp
            · exact (varB_len _).2
          obtain ⟨E, hE⟩ : ∃ E, E = varE a0 := ⟨_, rfl⟩
          obtain ⟨B, hB⟩ : ∃ B, B = varV a0 := ⟨_, rfl⟩
          rw [← hE, ← hB] at HFB
          rw [← hB] at o hvl
          rw [← hE]
          clear hE hB
          obtain ⟨m, hm⟩ : ∃ m, B.length = m := ⟨_, rfl⟩
          obtain ⟨q, c, rfl, r⟩ := o.rdz hm
          have Hr := Lib.hid r
          have Hb := Lib.hid (hcut.trans (b.mono hcut.size))
          have H5c := Lib.hid (H5.out.below Hb.out (Nat.le_refl _))
          have Hm := Lib.hid hm
          rw [hm] at hvl
          clear o r b hm hcut
          go_upto_if 102 with fail
          go_cut [] (fun wx => Below w.heap.size w wx)
          case first =>
            by_cases hE0 : E = 0
            · have F1 := Lib.hid (HFB.out hE0)
              subst hE0
              clear HFB
              have HO : Hid (Own (u1.alloc (.cells #[] 5)) u1.heap.size (.slice (some ⟨u1.heap.size, 0, none⟩) 0 0) []) := Lib.hid ⟨World.ownsRow_made (base := u1.heap.size) (e := 5) (size := 1) u1 #[] 0 (Nat.le_refl _) (by decide) rfl, by simp⟩
              have HR4 := Lib.hid (Hr.out.below ((Below.refl u1.heap.size u1).alloc (Nat.le_refl _) (.cells #[] 5)) (Nat.le_refl _))
              have hl4 := Hr.out.hl
              have hl5 := H5c.out.hl
              have i1 : ([] : List Int).length + m ≤ 140737488355328 := by simp; omega
              have i2 : u1.heap.size ≤ (u1.alloc (.cells #[] 5)).heap.size := by simp
              have i3 : (B).length + len5 ≤ 140737488355328 := by omega
              have hL : (B ++ xs5).length = m + len5 := by rw [List.length_append]; omega
              have HL := Lib.hid (And.intro hl4 hL)
              clear hl4 hl5 hL
              go_wp2_with (first
                | (at_builtin; refine wpList_append_rd rfl (.tmp 104) (.tmp 105) 22 rfl u1.heap.size Try.infoB Try.underlying22 _ [] rfl HO.out _ _ _ _ rfl HR4.out i1 i2 ?_; intro v6 w6 ho6 hg6; rw [List.nil_append] at ho6; obtain ⟨a6, c6, hv6, hr6⟩ := ho6.rdz HL.out.1; subst hv6; have Ho6 := Lib.hid ho6; have Hb6 := Lib.hid (((Below.refl u1.heap.size u1).alloc (Nat.le_refl _) (.cells #[] 5)).grown hg6 i2 (fun k hk => (HO.out.1.lt k hk).1)); have HR5 := Lib.hid (H5c.out.below Hb6.out (Nat.le_refl _)); have i4 := Hb6.out.size; clear ho6 hg6 hr6)
                | (at_builtin; refine wpList_append_rd rfl (.tmp 106) (.tmp 107) 22 rfl u1.heap.size Try.infoB Try.underlying22 _ _ rfl Ho6.out _ _ _ _ rfl HR5.out i3 i4 ?_; intro v7 w7 ho7 hg7; obtain ⟨a7, c7, hv7, hr7⟩ := ho7.rdz HL.out.2; subst hv7; have Hr7 := Lib.hid hr7; have Hb7 := Lib.hid (Hb6.out.grown hg7 i4 (fun k hk => (Ho6.out.1.lt k hk).1)); clear ho7 hg7 hr7))
              clear HO HR4 Ho6 Hb6 HR5 i1 i2 i3 i4 HL
              refine (toVar_any _ _ _ _ w7 Hr7.out).mono ?_
              rintro e u8 ⟨rfl, rfl⟩
              rw [F1.out, Hm.out]
              unfold three
              have Hb8 := Lib.hid (Hb.out.trans (Hb7.out.mono Hb.out.size))
              go_wp2_with fail
              go_meet
              exact Hb8.out
            · have hE1 : (E == 0) = false := by simpa using hE0
              clear hE0 HFB
              go_wp2_with fail
              go_meet
              exact Hb.out
          case rest =>
            clear HFB Hr Hb Hm H5c hvl
            have HFF : Hid ((foldV a0).2 = 0 → unfoldV (foldV a0).1 = (a0, 0) ∧ 0 ≤ (foldV a0).1 ∧ (foldV a0).1 ≤ 9223372036854775807) := Lib.hid fold_back
            have Hbc := Lib.hid hcut
            clear hcut
            go_wp2_with fail
            refine (fold_any a0 wc n0.1 n0.2).mono ?_
            rintro e u1 ⟨rfl, rfl⟩
            obtain ⟨z, hz⟩ : ∃ z, z = foldV a0 := ⟨_, rfl⟩
            rw [← hz] at HFF ⊢
            clear hz
            obtain ⟨z, E⟩ := z
            go_upto_if 132 with fail
            go_cut [] (fun wx => wx = wc)
            case first =>
              by_cases hE0 : E = 0
              · obtain ⟨f1, f2, f3⟩ := HFF.out hE0
                try simp only at f1 f2 f3
                have F1 := Lib.hid f1
                subst hE0
                have f4 : ¬ z < 0 := by omega
                clear f1 HFF
                go_wp2_with fail
                refine (unfold_any z wc (by omega) f3).mono ?_
                rintro e u1 ⟨rfl, rfl⟩
                rw [F1.out]
                go_wp2_with fail
                go_meet
                exact rfl
              · have hE1 : (E == 0) = false := by simpa using hE0
                clear hE0 HFF
                go_wp2_with fail
                go_meet
                exact rfl
            case rest =>
              subst hcut
              clear HFF
              have H2c := Lib.hid (H2.out.below Hbc.out (Nat.le_refl _))
              have H3c := Lib.hid (H3.out.below Hbc.out (Nat.le_refl _))
              have H4c := Lib.hid (H4.out.below Hbc.out (Nat.le_refl _))
              have H5c := Lib.hid (H5.out.below Hbc.out (Nat.le_refl _))
              have hl2 := H2c.out.hl
              have HTE : Hid (textE xs2 = 0) := Lib.hid (by unfold textE; rw [if_neg]; omega)
              have HTB : Hid (toTextV (textV xs2 ++ xs5) = (xs2, ((textV xs2).length : Int), 0)) := Lib.hid (toText_back xs2 xs5 (by omega))
              have htl : (textV xs2).length ≤ 70000 := by
                unfold textV; split
                · simp
                · have := varB_len (xs2.length : Int); rw [List.length_append]; omega
              clear H2 H3 H4 H5
              go_wp2_with fail
              refine (text_any _ _ _ xs2 wc H2c.out).mono ?_
              rintro e u1 ⟨v, rfl, o, b⟩
              rw [HTE.out]
              obtain ⟨B, hB⟩ : ∃ B, B = textV xs2 := ⟨_, rfl⟩
              rw [← hB] at HTB o htl
              clear hB
              obtain ⟨m, hm⟩ : ∃ m, B.length = m := ⟨_, rfl⟩
              obtain ⟨q, c, rfl, r⟩ := o.rdz hm
              have Hr := Lib.hid r
              have Hb := Lib.hid (Hbc.out.trans (b.mono Hbc.out.size))
              have H2d := Lib.hid (H2c.out.below b (Nat.le_refl _))
              have H3d := Lib.hid (H3c.out.below b (Nat.le_refl _))
              have H4d := Lib.hid (H4c.out.below b (Nat.le_refl _))
              have H5d := Lib.hid (H5c.out.below b (Nat.le_refl _))
              have Hm := Lib.hid hm
              rw [hm] at htl
              clear o r b hm HTE H2c H3c H4c H5c Hbc hl2
              have HO : Hid (Own (u1.alloc (.cells #[] 5)) u1.heap.size (.slice (some ⟨u1.heap.size, 0, none⟩) 0 0) []) := Lib.hid ⟨World.ownsRow_made (base := u1.heap.size) (e := 5) (size := 1) u1 #[] 0 (Nat.le_refl _) (by decide) rfl, by simp⟩
              have HR4 := Lib.hid (Hr.out.below ((Below.refl u1.heap.size u1).alloc (Nat.le_refl _) (.cells #[] 5)) (Nat.le_refl _))
              have hl4 := Hr.out.hl
              have hl5 := H5d.out.hl
              have i1 : ([] : List Int).length + m ≤ 140737488355328 := by simp; omega
              have i2 : u1.heap.size ≤ (u1.alloc (.cells #[] 5)).heap.size := by simp
              have i3 : (B).length + len5 ≤ 140737488355328 := by omega
              have hL : (B ++ xs5).length = m + len5 := by rw [List.length_append]; omega
              have HL := Lib.hid (And.intro hl4 hL)
              clear hl4 hl5 hL
              go_wp2_with (first
                | (at_builtin; refine wpList_append_rd rfl (.tmp 155) (.tmp 156) 22 rfl u1.heap.size Try.infoB Try.underlying22 _ [] rfl HO.out _ _ _ _ rfl HR4.out i1 i2 ?_; intro v6 w6 ho6 hg6; rw [List.nil_append] at ho6; obtain ⟨a6, c6, hv6, hr6⟩ := ho6.rdz HL.out.1; subst hv6; have Ho6 := Lib.hid ho6; have Hb6 := Lib.hid (((Below.refl u1.heap.size u1).alloc (Nat.le_refl _) (.cells #[] 5)).grown hg6 i2 (fun k hk => (HO.out.1.lt k hk).1)); have HR5 := Lib.hid (H5d.out.below Hb6.out (Nat.le_refl _)); have i4 := Hb6.out.size; clear ho6 hg6 hr6)
                | (at_builtin; refine wpList_append_rd rfl (.tmp 157) (.tmp 158) 22 rfl u1.heap.size Try.infoB Try.underlying22 _ _ rfl Ho6.out _ _ _ _ rfl HR5.out i3 i4 ?_; intro v7 w7 ho7 hg7; obtain ⟨a7, c7, hv7, hr7⟩ := ho7.rdz HL.out.2; subst hv7; have Hr7 := Lib.hid hr7; have Hb7 := Lib.hid (Hb6.out.grown hg7 i4 (fun k hk => (Ho6.out.1.lt k hk).1)); clear ho7 hg7 hr7))
              clear HO HR4 Ho6 Hb6 HR5 i1 i2 i3 i4 HL
              refine (toText_any _ _ _ _ w7 Hr7.out).mono ?_
              rintro e u8 ⟨v8, rfl, o8, b8⟩
              rw [HTB.out] at o8 ⊢
              rw [Hm.out]
              have b9 := Hb7.out.trans (b8.mono Hb7.out.size)
              have H2e := Lib.hid (H2d.out.below b9 (Nat.le_refl _))
              have H3e := Lib.hid (H3d.out.below b9 (Nat.le_refl _))
              have H4e := Lib.hid (H4d.out.below b9 (Nat.le_refl _))
              have H5e := Lib.hid (H5d.out.below b9 (Nat.le_refl _))
              have Hb8 := Lib.hid (Hb.out.trans (b9.mono Hb.out.size))
              obtain ⟨a8, c8, rfl, r8⟩ := o8.rd
              have k1 := r8.convAny
              have k2 := H2e.out.convAny
              have he' : ((strOfNums xs2).toList != (strOfNums xs2).toList) = false := by simp
              clear o8 b8 b9 r8 H2d H3d H4d H5d Hb Hb7 Hr7 HTB Hm Hr htl
              go_wp2_with fail
              refine (packAll_any a3 len3 cap3 xs3 u8 H3e.out a4 len4 cap4 xs4 H4e.out).mono ?_
              rintro e u9 ⟨v9, rfl, o9, b9⟩
              clear k1 k2 he'
              have Hb9 := Lib.hid (Hb8.out.trans (b9.mono Hb8.out.size))
              have H3f := Lib.hid (H3e.out.below b9 (Nat.le_refl _))
              have H4f := Lib.hid (H4e.out.below b9 (Nat.le_refl _))
              have H5f := Lib.hid (H5e.out.below b9 (Nat.le_refl _))
              obtain ⟨pk, hpk⟩ : ∃ s, s = packV xs3 xs4 := ⟨_, rfl⟩
              rw [← hpk] at o9 ⊢
              have HP := Lib.hid hpk
              obtain ⟨er, B⟩ := pk
              obtain ⟨m, hm⟩ : ∃ m, B.length = m := ⟨_, rfl⟩
              obtain ⟨q9, c9, rfl, r9⟩ := o9.rdz hm
              have Hr9 : Hid (Rd u9 q9 m c9 B) := Lib.hid r9
              have Hm := Lib.hid hm
              clear o9 b9 r9 hpk hm H2e H3e H4e H5e Hb8
              by_cases her : er = 0
              · subst her
                have h0 : (packV xs3 xs4).1 = 0 := by rw [← HP.out]
                have hB : (packV xs3 xs4).2 = B := by rw [← HP.out]
                obtain ⟨k1, k2, k3, k4⟩ := packV_ok h0
                obtain ⟨-, -, l3⟩ := packV_len h0
                have hB2 : (packL xs3 xs4 []).2 = B := by rw [← k4]; exact hB
                rw [hB, Hm.out] at l3
                have hnb : ∀ x ∈ xs4, -9223372036854775808 ≤ x.n ∧ x.n ≤ 9223372036854775807 := fun x hx => ⟨(H4f.out.hb x hx).n1, (H4f.out.hb x hx).n2⟩
                have hwh := pack_whole xs3 xs4 xs5 k1 k2 hnb k3
                rw [hB2] at hwh
                have hl0 := H3f.out.hl
                have hl4 := H4f.out.hl
                have Hw : Hid (∀ k, k < len3 → (atV xs3 (B ++ xs5) k).1 = 0) := Lib.hid (fun k hk => by rw [(hwh k (by omega)).2 (by omega)])
                have Hv : Hid (∀ k, k < len3 → (atV xs3 (B ++ xs5) k).2.1 = (xs4.getD k default).n ∧ (atV xs3 (B ++ xs5) k).2.2.1 = (xs4.getD k default).xs) := Lib.hid (fun k hk => by rw [(hwh k (by omega)).2 (by omega)]; exact ⟨rfl, rfl⟩)
                have Hbd : Hid (∀ k, k < len3 → -9223372036854775808 ≤ (atV xs3 (B ++ xs5) k).2.1 ∧ (atV xs3 (B ++ xs5) k).2.1 ≤ 9223372036854775807) := Lib.hid (fun k hk => by
                  rw [(Hv.out k hk).1]
                  refine hnb _ ?_
                  rw [show xs4.getD k default = xs4[k]'(by omega) from by simp [List.getD, show k < xs4.length by omega]]; exact List.getElem_mem _)
                have Hpn : Hid (posV xs3 (B ++ xs5) len3 = m) := Lib.hid (by
                  rw [(hwh len3 (by omega)).1, ← Hm.out, ← hB2]
                  obtain ⟨-, e2⟩ := packL_ok xs3 xs4 [] k2 k3
                  rw [e2, List.nil_append, hl0])
                have Hk1 := Lib.hid k1
                have HL4 : Hid (xs4.length = len3) := Lib.hid (by omega)
                clear h0 hB k1 k2 k3 k4 hB2 hwh hl0 hl4 HP hnb
                have HO : Hid (Own (u9.alloc (.cells #[] 5)) u9.heap.size (.slice (some ⟨u9.heap.size, 0, none⟩) 0 0) []) := Lib.hid ⟨World.ownsRow_made (base := u9.heap.size) (e := 5) (size := 1) u9 #[] 0 (Nat.le_refl _) (by decide) rfl, by simp⟩
                have HR4 := Lib.hid (Hr9.out.below ((Below.refl u9.heap.size u9).alloc (Nat.le_refl _) (.cells #[] 5)) (Nat.le_refl _))
                have hl4 := Hr9.out.hl
                have hl5 := H5f.out.hl
                have i1 : ([] : List Int).length + m ≤ 140737488355328 := by simp; omega
                have i2 : u9.heap.size ≤ (u9.alloc (.cells #[] 5)).heap.size := by simp
                have i3 : (B).length + len5 ≤ 140737488355328 := by omega
                have hL : (B ++ xs5).length = m + len5 := by rw [List.length_append]; omega
                have HL := Lib.hid (And.intro hl4 hL)
                clear hl4 hl5 hL
                go_wp2_with (first
                  | (at_builtin; refine wpList_append_rd rfl (.tmp 194) (.tmp 195) 22 rfl u9.heap.size Try.infoB Try.underlying22 _ [] rfl HO.out _ _ _ _ rfl HR4.out i1 i2 ?_; intro v6 w6 ho6 hg6; rw [List.nil_append] at ho6; obtain ⟨a6, c6, hv6, hr6⟩ := ho6.rdz HL.out.1; subst hv6; have Ho6 := Lib.hid ho6; have Hb6 := Lib.hid (((Below.refl u9.heap.size u9).alloc (Nat.le_refl _) (.cells #[] 5)).grown hg6 i2 (fun k hk => (HO.out.1.lt k hk).1)); have HR5 := Lib.hid (H5f.out.below Hb6.out (Nat.le_refl _)); have i4 := Hb6.out.size; clear ho6 hg6 hr6)
                  | (at_builtin; refine wpList_append_rd rfl (.tmp 196) (.tmp 197) 22 rfl u9.heap.size Try.infoB Try.underlying22 _ _ rfl Ho6.out _ _ _ _ rfl HR5.out i3 i4 ?_; intro v7 w7 ho7 hg7; obtain ⟨a7, c7, hv7, hr7⟩ := ho7.rdz HL.out.2; subst hv7; have Hr7 := Lib.hid hr7; have Hb7 := Lib.hid (Hb6.out.grown hg7 i4 (fun k hk => (Ho6.out.1.lt k hk).1)); clear ho7 hg7 hr7))
                clear HO HR4 Ho6 Hb6 HR5 i1 i2 i3 i4 HL
                refine (unpack_ok a3 len3 cap3 xs3 w7 (H3f.out.below Hb7.out (Nat.le_refl _)) _ _ _ _ Hr7.out (by omega) Hk1.out Hw.out Hbd.out).mono ?_
                rintro e u10 ⟨a10, c10, items, rfl, r10, hmap, b10⟩
                have hkey := key_map items xs4 len3 (B ++ xs5) xs3 HL4.out hmap Hv.out
                rw [Hpn.out]
                have b11 := Hb7.out.trans (b10.mono Hb7.out.size)
                have H4g := Lib.hid (H4f.out.below b11 (Nat.le_refl _))
                have Hb11 := Lib.hid (Hb9.out.trans (b11.mono Hb9.out.size))
                have Hr10 := Lib.hid r10
                have Hkey : Hid (decide (items.map Itm.key = xs4.map Itm.key) = true) := Lib.hid (decide_eq_true hkey)
                clear hmap hkey b10 b11 r10 Hw Hv Hbd Hpn HL4 Hk1 H3f H4f H5f Hr7 Hb7 Hb9
                go_wp2_with fail
                refine (sanity_any u10).mono ?_
                rintro e u12 ⟨rfl, b12⟩
                have H4h := Lib.hid (H4g.out.below b12 (Nat.le_refl _))
                have Hr12 := Lib.hid (Hr10.out.below b12 (Nat.le_refl _))
                have Hb12 := Lib.hid (Hb11.out.trans (b12.mono Hb11.out.size))
                clear b12 H4g Hr10 Hb11
                go_wp2_with fail
                refine (sameItems_any _ _ _ items _ _ _ xs4 u12 Hr12.out H4h.out).mono ?_
                rintro e u13 ⟨rfl, n13, rfl⟩
                rw [Hkey.out]
                go_wp2_with fail
                go_ret
                exact ⟨rfl, below_drewN Hb12.out n13⟩
              · have her' : (er != 0) = true := by simpa using her
                clear her
                go_wp2_with fail
                refine (sanity_any _).mono ?_
                rintro e w3 ⟨rfl, b3⟩
                have Hb3 := Lib.hid (Hb9.out.trans (b3.mono Hb9.out.size))
                clear b3
                go_wp2_with fail
                go_ret
                exact ⟨rfl, Hb3.out⟩
end Go.Proofs.Ytlmknpljncpjiaa.wireBack
