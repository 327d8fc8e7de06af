/- Above answers as the chapter says. -/
import Derived.Test.YtnlblmghhkmbbaaSnodes
import Derived.Test.YtnlblmghhkmbbaaSrootE
namespace Go.Proofs.Ytnlblmghhkmbbaa
set_option linter.unusedVariables false
open Go.RowKit Go.Shelf

/-- The error of Above, and what it answers. -/
def aboveE (n i : Int) (leaf : List Int) (ds : List (List Int)) : Int := if placeE n i ≠ 0 then placeE n i else match climbV n.toNat i.toNat leaf ds with | some _ => 0 | none => 22
def aboveD (n i : Int) (leaf : List Int) (ds : List (List Int)) : List Int := if placeE n i ≠ 0 then List.replicate 16 0 else match climbV n.toNat i.toNat leaf ds with | some l => digestV (l.getLast?.getD []) | none => List.replicate 16 0
theorem aboveD_len (n i : Int) (leaf : List Int) (ds : List (List Int)) : (aboveD n i leaf ds).length = 16 := by
  unfold aboveD
  split
  · simp
  · split
    · exact digestV_len _
    · simp
attribute [local irreducible] digestV rootV halfV climbV
theorem zlit : digC (List.replicate 16 0) = #[.int .u8 0, .int .u8 0, .int .u8 0, .int .u8 0, .int .u8 0, .int .u8 0, .int .u8 0, .int .u8 0, .int .u8 0, .int .u8 0, .int .u8 0, .int .u8 0, .int .u8 0, .int .u8 0, .int .u8 0, .int .u8 0] := by rfl
set_option maxRecDepth 100000 in
set_option maxHeartbeats 4000000 in
theorem above_with (n i : Int) (leaf path : Value) (w : World) (E : Int) (hE : E ≠ 0)
    (hcall : ∀ w', Below w.heap.size w w' → Calls Try.prog 72 #[.int .i64 n, .int .i64 i, leaf, path] w' fun e w'' => e = .returned (.tuple #[.slice none 0 0, .int .i64 E]) ∧ Below w'.heap.size w' w'') :
    Calls Try.prog 48 #[.int .i64 n, .int .i64 i, leaf, path] w fun e w' => e = .returned (.tuple #[.agg (digC (List.replicate 16 0)), .int .i64 E]) ∧ Below w.heap.size w w' := by
  obtain ⟨W1, hW1⟩ : ∃ W1, W1 = w.alloc (.cells (digC (List.replicate 16 0)) 47) := ⟨_, rfl⟩
  have hR1 : Blk W1 w.heap.size 47 (digC (List.replicate 16 0)) := by rw [hW1]; exact heap_new w _
  have hb1 : Below w.heap.size w W1 := by rw [hW1]; exact (Below.refl _ w).alloc (Nat.le_refl _) _
  rw [zlit] at hW1
  have HW1 := Lib.hid hW1
  have HR1 := Lib.hid hR1
  have Hb1 := Lib.hid hb1
  have Hc := Lib.hid (hcall W1 hb1)
  have hne : (E == 0) = false := by simp [hE]
  have hne2 : (E != 0) = true := by simp [hE]
  clear hW1 hR1 hb1 hcall hE
  go_enter Try.func48, Try.ntmps48
  go_upto_region 1 with fail
  rw [← HW1.out]
  go_wp2_with fail
  refine Hc.out.mono ?_
  rintro e w2 ⟨rfl, hb2⟩
  have HR2 : Hid (Blk w2 w.heap.size 47 (digC (List.replicate 16 0))) := Lib.hid (HR1.out.below hb2 HR1.out.lt)
  have Hb2 : Hid (Below w.heap.size w w2) := Lib.hid (Hb1.out.trans (hb2.mono Hb1.out.size))
  have hrw := HR2.out.lt
  have z1 := Try.sizeDig (List.replicate 16 0) (by simp)
  have z3 : (digC (List.replicate 16 0)).all (fun x => x.oneCell') = true := digC_one _
  clear hb2 HR1 Hb1 HW1 Hc
  go_wp2_with (refine wpList_store_row rfl 47 (.tmp 8) (.tmp 22) rfl w.heap.size (digC (List.replicate 16 0)) rfl rfl 47 (digC (List.replicate 16 0)) HR2.out z1 rfl z3 ?_)
  refine bodyPost_ret (v := .tuple #[.agg (digC (List.replicate 16 0)), .int .i64 E]) ?_ rfl ⟨rfl, Hb2.out.trans (below_setRow _ _ _ _ (Nat.le_refl _))⟩
  exact results_cell_tmp (p := 8) (q := 9) rfl _ _ w.heap.size 47 _ (0, 0) _ rfl (setRow_heap _ _ _ _ _ _ HR2.out) Try.underlying47 rfl z1 _ rfl
set_option maxRecDepth 100000 in
set_option maxHeartbeats 4000000 in
theorem above_some (n i : Int) (leaf path : Value) (w : World) (l : List (List Int)) (hl : l ≠ []) (hlen : l.length ≤ 4096)
    (hcall : ∀ w', Below w.heap.size w w' → Calls Try.prog 72 #[.int .i64 n, .int .i64 i, leaf, path] w' (NodesPost (some l) w')) :
    Calls Try.prog 48 #[.int .i64 n, .int .i64 i, leaf, path] w fun e w' => e = .returned (.tuple #[.agg (digC (digestV (l.getLast?.getD []))), .int .i64 0]) ∧ Below w.heap.size w w' := by
  obtain ⟨W1, hW1⟩ : ∃ W1, W1 = w.alloc (.cells (digC (List.replicate 16 0)) 47) := ⟨_, rfl⟩
  have hR1 : Blk W1 w.heap.size 47 (digC (List.replicate 16 0)) := by rw [hW1]; exact heap_new w _
  have hb1 : Below w.heap.size w W1 := by rw [hW1]; exact (Below.refl _ w).alloc (Nat.le_refl _) _
  rw [zlit] at hW1
  have HW1 := Lib.hid hW1
  have HR1 := Lib.hid hR1
  have Hb1 := Lib.hid hb1
  have Hc := Lib.hid (hcall W1 hb1)
  clear hW1 hR1 hb1 hcall
  go_enter Try.func48, Try.ntmps48
  go_upto_region 1 with fail
  rw [← HW1.out]
  go_wp2_with fail
  refine Hc.out.mono ?_
  intro e w2 h2
  obtain ⟨v, ms, rfl, hN8, hml, hb2⟩ := h2
  obtain ⟨va, vc, rfl, -, -, hg8⟩ := row_slice hN8.row
  have hmsl : ms.length = l.length := by rw [← hml, List.length_map]
  have hpos : 0 < ms.length := by rw [hmsl]; exact List.length_pos_iff.2 hl
  obtain ⟨g8, rfl, hgB, -⟩ := hg8 hpos
  obtain ⟨j, hj⟩ : ∃ j, j = ms.length - 1 := ⟨_, rfl⟩
  have hjl : j < ms.length := by omega
  obtain ⟨x, hx⟩ : ∃ x, x = (ms[j]'hjl).xs := ⟨_, rfl⟩
  have hxl : l.getLast?.getD [] = x := by
    rw [hx, ← hml, List.getLast?_eq_getElem?, List.length_map, ← hj, List.getElem?_map, List.getElem?_eq_getElem hjl]; rfl
  have hrx := nodes_range hN8.row j hjl
  rw [← hx, Nat.mul_comm 17 j] at hrx
  have hjs : (ms.length : Int) - 1 = (j : Int) := by omega
  have RX := Lib.hid hrx
  have LX := Lib.hid (sizeDig2 (digestV x) (digestV_len x))
  have HR2 : Hid (Blk w2 w.heap.size 47 (digC (List.replicate 16 0))) := Lib.hid (HR1.out.below hb2 HR1.out.lt)
  have Hb2 : Hid (Below w.heap.size w w2) := Lib.hid (Hb1.out.trans (hb2.mono Hb1.out.size))
  have hrw := HR2.out.lt
  have Hxl := Lib.hid hxl
  have z1 := Try.sizeDig (digestV x) (digestV_len x)
  have z2 : (digC (List.replicate 16 0)).size = (digC (digestV x)).size := by rw [digC_size, digC_size, digestV_len]; rfl
  have z3 : (digC (digestV x)).all (fun x => x.oneCell') = true := digC_one _
  have hj0 : (0 : Int) ≤ (j : Int) := by omega
  have hjli : (j : Int) < (ms.length : Int) := by omega
  have hm4 : (ms.length : Int) ≤ 4096 := by omega
  have hj4 : (j : Int) ≤ 4096 := by omega
  clear hN8 hml hb2 hmsl hg8 hj hx hrx HR1 Hb1 HW1 Hc hgB hxl hl hlen
  go_wp2_with (first
    | (refine wpList_load_mid rfl 47 (.tmp 29) rfl g8 (j * 17) rfl (digC (digestV x)).toList _ RX.out Try.underlying47 rfl LX.out ?_; rw [Array.toArray_toList])
    | (refine wpList_store_row rfl 47 (.tmp 8) (.tmp 30) rfl w.heap.size (digC (digestV x)) rfl rfl 47 (digC (List.replicate 16 0)) HR2.out z1 z2 z3 ?_))
  rw [Hxl.out]
  refine bodyPost_ret (v := .tuple #[.agg (digC (digestV x)), .int .i64 0]) ?_ rfl ⟨rfl, Hb2.out.trans (below_setRow _ _ _ _ (Nat.le_refl _))⟩
  exact results_cell_tmp (p := 8) (q := 9) rfl _ _ w.heap.size 47 _ (0, 0) _ rfl (setRow_heap _ _ _ _ _ _ HR2.out) Try.underlying47 rfl z1 _ rfl
theorem above_any (n i : Int) (la : Option Addr) (ll lc : Nat) (leaf : List Int) (a : Option Addr) (p cap : Nat) (ds : List (List Int)) (w : World) (hl : Rd w la ll lc leaf) (hll : ll ≤ 140737488354000) (hp : RdG w a p cap ds) :
    Calls Try.prog 48 #[.int .i64 n, .int .i64 i, .slice la ll lc, .slice a p cap] w fun e w' => e = .returned (.tuple #[.agg (digC (aboveD n i leaf ds)), .int .i64 (aboveE n i leaf ds)]) ∧ Below w.heap.size w w' := by
  by_cases h : placeE n i = 0
  · have hn : n ≤ 4096 ∧ 0 ≤ i ∧ i < n := by unfold placeE at h; split at h <;> first | omega | (split at h <;> omega)
    have e1 : aboveE n i leaf ds = match climbV n.toNat i.toNat leaf ds with | some _ => 0 | none => 22 := by unfold aboveE; rw [if_neg (by simp [h])]
    have e2 : aboveD n i leaf ds = match climbV n.toNat i.toNat leaf ds with | some l => digestV (l.getLast?.getD []) | none => List.replicate 16 0 := by unfold aboveD; rw [if_neg (by simp [h])]
    obtain ⟨m, rfl⟩ := Int.eq_ofNat_of_zero_le (show 0 ≤ n by omega)
    obtain ⟨t, rfl⟩ := Int.eq_ofNat_of_zero_le hn.2.1
    have hcall := fun (w' : World) (hb : Below w.heap.size w w') => nodesOf_any m t la ll lc leaf a p cap ds w' (by omega) (by omega) (hl.below hb (Nat.le_refl _)) hll (hp.below hb (Nat.le_refl _))
    rw [e1, e2]
    simp only [Int.toNat_natCast]
    cases hc : climbV m t leaf ds with
    | none =>
      rw [hc] at hcall
      exact above_with _ _ _ _ w 22 (by omega) hcall
    | some l =>
      rw [hc] at hcall
      have := climbN_some m m t leaf ds l (by unfold climbV at hc; exact hc)
      exact above_some _ _ _ _ w l this.1 (by omega) hcall
  · have e1 : aboveE n i leaf ds = placeE n i := by unfold aboveE; rw [if_pos h]
    have e2 : aboveD n i leaf ds = List.replicate 16 0 := by unfold aboveD; rw [if_pos h]
    rw [e1, e2]
    exact above_with _ _ _ _ w _ h (fun w' hb => nodesOf_err n i _ _ w' h)
end Go.Proofs.Ytnlblmghhkmbbaa
