/- The reference's SameDigests. -/
import Derived.Test.YtnlblmghhkmbbaaSstr
import Derived.Test.YtnlblmghhkmbbaaSdigs
import Derived.Test.YtnlblmghhkmbbaaSrev
namespace Go.Proofs.Ytnlblmghhkmbbaa
set_option linter.unusedVariables false
open Go.RowKit Go.Shelf

attribute [local irreducible] digC
set_option maxRecDepth 100000 in
set_option maxHeartbeats 4000000 in
theorem sameD_any (a : Option Addr) (al ac : Nat) (ds : List (List Int)) (b : Option Addr) (bl bc : Nat) (es : List (List Int)) (w : World) (h1 : RdG w a al ac ds) (h2 : RdG w b bl bc es) (hal : al ≤ 1000000) :
    Calls Try.prog 47 #[.slice a al ac, .slice b bl bc] w fun e w' => e = .returned (.bool (decide (ds = es))) ∧ Below w.heap.size w w' := by
  by_cases hl : al = bl
  · subst hl
    have H1 := Lib.hid h1
    have H2 := Lib.hid h2
    have hl1 := h1.hl
    have hl2 := h2.hl
    have HL := Lib.hid (And.intro hl1 hl2)
    clear h1 h2 hl1 hl2
    go_enter Try.func47, Try.ntmps47
    go_wp2_with fail
    go_loopw [5] (fun i wr => ∃ k : Nat, k ≤ al ∧ i = .int .i64 k ∧ Below w.heap.size w wr ∧ ∀ j, j < k → ds[j]? = es[j]?) (fun i _ => al - (intOf i).toNat)
    case atStart => exact ⟨0, Nat.zero_le _, rfl, Below.refl _ _, fun j h => by omega⟩
    case round =>
      obtain ⟨k, hk, rfl, hb, hyes⟩ := hrel
      by_cases hlt : k < al
      · obtain ⟨w9, hw9⟩ : ∃ w9, w9 = wr.drew := ⟨_, rfl⟩
        have hb9 : Below w.heap.size w w9 := by rw [hw9]; exact hb.drew
        have hk1 : k < ds.length := by rw [HL.out.1]; exact hlt
        have hk2 : k < es.length := by rw [HL.out.2]; exact hlt
        have G1 := H1.out.below hb9 (Nat.le_refl _)
        have G2 := H2.out.below hb9 (Nat.le_refl _)
        obtain ⟨b1, o1, rfl, hcell1⟩ := G1.hr (by omega)
        obtain ⟨b2, o2, rfl, hcell2⟩ := G2.hr (by omega)
        have d1 := hcell1 k hk1
        have d2 := hcell2 k hk2
        have x1 := (G1.hd ds[k] (List.getElem_mem _)).1
        have x2 := (G2.hd es[k] (List.getElem_mem _)).1
        have e1 : ds[k]? = some ds[k] := List.getElem?_eq_getElem _
        have e2 : es[k]? = some es[k] := List.getElem?_eq_getElem _
        obtain ⟨x, hx⟩ : ∃ x, x = ds[k] := ⟨_, rfl⟩
        obtain ⟨y, hy⟩ : ∃ y, y = es[k] := ⟨_, rfl⟩
        rw [← hx] at d1 x1 e1
        rw [← hy] at d2 x2 e2
        rw [Nat.mul_comm 16 k] at d1 d2
        have D1 := Lib.hid d1
        have D2 := Lib.hid d2
        have L1 := Lib.hid (sizeDig2 x x1)
        have L2 := Lib.hid (sizeDig2 y x2)
        have hE := eqIn_dig w9 x y x1 x2
        have HX := Lib.hid (And.intro e1 e2)
        have Hyes := Lib.hid hyes
        have hk0 : (0 : Int) ≤ (k : Int) := by omega
        have hkl : (k : Int) < (al : Int) := by omega
        have hk6 : (k : Int) ≤ 1000000 := by omega
        have Hb9 := Lib.hid hb9
        have Hw9 := Lib.hid hw9
        clear hx hy hcell1 hcell2 hb9 hw9 hb d1 d2 x1 x2 e1 e2 G1 G2 hyes hk1 hk2
        cases hD : (x == y)
        all_goals
          rw [hD] at hE
          go_wp2_with fail
          refine wp_region_still_tail 8 (by kernel_rfl) (by kernel_rfl) ?_
          rw [show (({ wr with drawn := wr.drawn + 1 } : World)) = w9 from Hw9.out.symm]
          simp only [List.take_succ_cons, List.take_zero, List.drop_succ_cons, List.drop_zero]
          still_step
          still_step
          still_step
          refine still_load rfl 47 (.tmp 19) rfl b1 (o1 + k * 16) rfl (digC x) _ D1.out Try.underlying47 rfl L1.out ?_
          still_step
          still_step
          still_step
          refine still_load rfl 47 (.tmp 23) rfl b2 (o2 + k * 16) rfl (digC y) _ D2.out Try.underlying47 rfl L2.out ?_
          refine wpStill_nil ?_
          go_wp2_with fail
        · go_ret
          refine ⟨?_, Hb9.out⟩
          have : ¬ ds = es := by
            intro h
            have h1 := HX.out.1
            rw [h, HX.out.2] at h1
            simp only [Option.some.injEq] at h1
            rw [← h1] at hD
            simp at hD
          rw [decide_eq_false this]; rfl
        · go_roundw
          case rel => exact ⟨k + 1, by omega, by go_num, Hb9.out, fun j hj => by
              by_cases hjk : j = k
              · subst hjk; rw [HX.out.1, HX.out.2, eq_of_beq hD]
              · exact Hyes.out j (by omega)⟩
          case measure => simp [intOf]; omega
      · obtain rfl : k = al := by omega
        have Hb := Lib.hid hb
        have heq : ds = es := by
          apply List.ext_getElem?
          intro j
          by_cases hj : j < k
          · exact hyes j hj
          · rw [List.getElem?_eq_none (by rw [HL.out.1]; omega), List.getElem?_eq_none (by rw [HL.out.2]; omega)]
        have Heq := Lib.hid (decide_eq_true heq)
        clear hb hyes heq
        go_wp2_with fail
        go_ret
        exact ⟨by rw [Heq.out]; rfl, Hb.out⟩
  · have hne : ¬ ds = es := by intro h; exact hl (by rw [← h1.hl, ← h2.hl, h])
    have Hne := Lib.hid (decide_eq_false hne)
    have e1 : ((al : Int) == (bl : Int)) = false := by simp; omega
    have e2 : ((al : Int) != (bl : Int)) = true := by simp; omega
    clear h1 h2 hne
    go_enter Try.func47, Try.ntmps47
    go_wp2_with fail
    go_ret
    exact ⟨by rw [Hne.out]; rfl, Below.refl _ _⟩
end Go.Proofs.Ytnlblmghhkmbbaa
