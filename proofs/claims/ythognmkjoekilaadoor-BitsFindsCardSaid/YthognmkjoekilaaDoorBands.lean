/- And, Or, Minus, told. -/
import Derived.Test.YthognmkjoekilaaDoorBjoined
import Derived.Test.YthognmkjoekilaaDoorBown
namespace Go.Proofs.YthognmkjoekilaaDoor
set_option linter.unusedVariables false
open Go.RowKit Go.Shelf

theorem and_boxes (N1 N2 : Int) (a b : Option Addr) (l c l2 c2 : Nat) (w : World) : ∃ W0, ((w.alloc (.cells #[.int .i64 N1, .slice a l c] 24)).alloc (.cells #[.int .i64 N2, .slice b l2 c2] 24)).alloc (.cells #[.int .i64 0, .slice none 0 0] 24) = W0 ∧ Blk W0 (w.heap.size) 24 #[.int .i64 N1, .slice a l c] ∧ Blk W0 (w.heap.size + 1) 24 #[.int .i64 N2, .slice b l2 c2] ∧ Blk W0 (w.heap.size + 2) 24 #[.int .i64 0, .slice none 0 0] ∧ Below w.heap.size w W0 ∧ W0.heap.size = w.heap.size + 3 := by
  refine ⟨_, rfl, ?_, ?_, ?_, ?_, by simp⟩
  · have h := heap_new w (.cells #[.int .i64 N1, .slice a l c] 24)
    have h0 : Blk (w.alloc (.cells #[.int .i64 N1, .slice a l c] 24)) (w.heap.size) 24 #[.int .i64 N1, .slice a l c] := h
    have h1 : Blk ((w.alloc (.cells #[.int .i64 N1, .slice a l c] 24)).alloc (.cells #[.int .i64 N2, .slice b l2 c2] 24)) (w.heap.size) 24 #[.int .i64 N1, .slice a l c] := h0.below ((Below.refl _ _).alloc (Nat.le_refl _) _) (by first | (simp only [World.size_alloc]; omega) | omega)
    have h2 : Blk (((w.alloc (.cells #[.int .i64 N1, .slice a l c] 24)).alloc (.cells #[.int .i64 N2, .slice b l2 c2] 24)).alloc (.cells #[.int .i64 0, .slice none 0 0] 24)) (w.heap.size) 24 #[.int .i64 N1, .slice a l c] := h1.below ((Below.refl _ _).alloc (Nat.le_refl _) _) (by first | (simp only [World.size_alloc]; omega) | omega)
    exact h2
  · have h := heap_new (w.alloc (.cells #[.int .i64 N1, .slice a l c] 24)) (.cells #[.int .i64 N2, .slice b l2 c2] 24)
    simp only [World.size_alloc] at h
    have h0 : Blk ((w.alloc (.cells #[.int .i64 N1, .slice a l c] 24)).alloc (.cells #[.int .i64 N2, .slice b l2 c2] 24)) (w.heap.size + 1) 24 #[.int .i64 N2, .slice b l2 c2] := h
    have h2 : Blk (((w.alloc (.cells #[.int .i64 N1, .slice a l c] 24)).alloc (.cells #[.int .i64 N2, .slice b l2 c2] 24)).alloc (.cells #[.int .i64 0, .slice none 0 0] 24)) (w.heap.size + 1) 24 #[.int .i64 N2, .slice b l2 c2] := h0.below ((Below.refl _ _).alloc (Nat.le_refl _) _) (by first | (simp only [World.size_alloc]; omega) | omega)
    exact h2
  · have h := heap_new ((w.alloc (.cells #[.int .i64 N1, .slice a l c] 24)).alloc (.cells #[.int .i64 N2, .slice b l2 c2] 24)) (.cells #[.int .i64 0, .slice none 0 0] 24)
    simp only [World.size_alloc] at h
    have h0 : Blk (((w.alloc (.cells #[.int .i64 N1, .slice a l c] 24)).alloc (.cells #[.int .i64 N2, .slice b l2 c2] 24)).alloc (.cells #[.int .i64 0, .slice none 0 0] 24)) (w.heap.size + 2) 24 #[.int .i64 0, .slice none 0 0] := h
    exact h0
  · exact (((Below.refl _ w).alloc (by first | (simp only [World.size_alloc]; omega) | omega) _).alloc (by first | (simp only [World.size_alloc]; omega) | omega) _).alloc (by first | (simp only [World.size_alloc]; omega) | omega) _
set_option maxRecDepth 100000 in
set_option maxHeartbeats 2000000 in
theorem and_ok (M : Nat) (a b : Option Addr) (l c l2 c2 : Nat) (xs ys : List Int) (w : World) (hx : Rd w a l c xs) (hy : Rd w b l2 c2 ys) (hv : Vb M xs) (hv2 : Vb M ys) :
    Calls Tryd.prog 30 #[.agg #[.int .i64 (M : Int), .slice a l c], .agg #[.int .i64 (M : Int), .slice b l2 c2]] w fun e w' => ∃ a' l' c', e = .returned (.tuple #[.agg #[.int .i64 (M : Int), .slice a' l' c'], .int .i64 0]) ∧ Rd w' a' l' c' (joinN andF xs ys l l) ∧ Below w.heap.size w w' := by
  obtain ⟨W0, hW0, hB0, hB1, hRes, hb0, hs0⟩ := and_boxes (M : Int) (M : Int) a b l c l2 c2 w
  have C := joined_lift_ok M a l c M b l2 c2 67 M (joinN andF xs ys l l) W0 (fun W hb h0 h1 h2 => joined1_ok andF _ _ _ M a b l c l2 c2 xs ys 67 W h0 h1 h2 (hx.below (hb0.trans (hb.mono (by omega))) (Nat.le_refl _)) (hy.below (hb0.trans (hb.mono (by omega))) (Nat.le_refl _)) hv hv2 (enters_of Tryd.func67 (by kernel_rfl) rfl) (fun x y h1 h2 W => andB_any x y h1 h2 W) (fun x y h1 h2 => (and_bitly x y h1 h2).1))
  have k0 : W0.cell? ⟨w.heap.size, 0, none⟩ = some (.int .i64 (M : Int)) := hB0.cell 0
  have k1 : W0.cell? ⟨w.heap.size, 1, none⟩ = some (.slice a l c) := hB0.cell 1
  have k2 : W0.cell? ⟨w.heap.size + 1, 0, none⟩ = some (.int .i64 (M : Int)) := hB1.cell 0
  have k3 : W0.cell? ⟨w.heap.size + 1, 1, none⟩ = some (.slice b l2 c2) := hB1.cell 1
  have HC := Lib.hid C
  have HW := Lib.hid hW0
  have Hb := Lib.hid hb0
  have Hs := Lib.hid hs0
  have HRes := Lib.hid hRes
  clear C hW0 hb0 hs0 hB0 hB1 hRes hv hv2 hx hy
  go_enter Tryd.func30, Tryd.ntmps30
  go_upto_region 1 with fail
  rw [HW.out]
  go_wp2_with fail
  refine HC.out.mono ?_
  rintro e w1 ⟨x1, x2, x3, rfl, ho, hb⟩
  have HO := Lib.hid ho
  have hR1 : Blk w1 (w.heap.size + 2) 24 #[.int .i64 0, .slice none 0 0] := HRes.out.below hb HRes.out.lt
  have Hb1 := Lib.hid (Hb.out.trans (hb.mono Hb.out.size))
  have HR1 := Lib.hid hR1
  clear k0 k1 k2 k3
  have f0 := hR1.frozen 0
  have f1 := hR1.frozen 1
  have k0 : w1.cell? ⟨w.heap.size + 2, 0, none⟩ = some (.int .i64 0) := hR1.cell 0
  have k1 : w1.cell? ⟨w.heap.size + 2, 1, none⟩ = some (.slice none 0 0) := hR1.cell 1
  clear hb hR1 HC HW Hb HRes ho
  go_wp2_with fail
  rw [cells2 HR1.out]
  obtain ⟨V, hV, rV, bV, sV, oV⟩ := filled HR1.out #[.int .i64 (M : Int), .slice x1 x2 x3]
  rw [hV]
  clear f0 f1 k0 k1
  have z0 : V.cell? ⟨w.heap.size + 2, 0, none⟩ = some (.int .i64 (M : Int)) := (show Blk V _ 24 _ from rV).cell 0
  have z1 : V.cell? ⟨w.heap.size + 2, 1, none⟩ = some (.slice x1 x2 x3) := (show Blk V _ 24 _ from rV).cell 1
  have HZ : Hid (Rd V x1 x2 x3 (joinN andF xs ys l l) ∧ Below w.heap.size w V) := Lib.hid ⟨own_read (HO.out.other oV (by have := Hs.out; omega)), Hb1.out.trans (bV.mono (by omega))⟩
  clear HR1 Hb1 rV bV sV oV hV HO
  simp [bodyPost, results, Tryd.results30, go_sem, z0, z1]
  exact ⟨x1, x2, x3, ⟨rfl, rfl, rfl⟩, HZ.out.1, HZ.out.2⟩
set_option maxRecDepth 100000 in
set_option maxHeartbeats 2000000 in
theorem and_bad (N1 N2 : Int) (a b : Option Addr) (l c l2 c2 : Nat) (xs ys : List Int) (er : Int) (w : World) (hx : Rd w a l c xs) (hy : Rd w b l2 c2 ys) (h1 : -9223372036854775808 ≤ N1) (h2 : N1 ≤ 9223372036854775807) (h3 : -9223372036854775808 ≤ N2) (h4 : N2 ≤ 9223372036854775807)
    (her : (validB N1 xs = true ∧ validB N2 ys = true ∧ N1 ≠ N2 ∧ er = 1) ∨ ((validB N1 xs = false ∨ validB N2 ys = false) ∧ er = 9)) :
    Calls Tryd.prog 30 #[.agg #[.int .i64 N1, .slice a l c], .agg #[.int .i64 N2, .slice b l2 c2]] w fun e w' => e = .returned (.tuple #[.agg #[.int .i64 0, .slice none 0 0], .int .i64 er]) ∧ Below w.heap.size w w' := by
  obtain ⟨W0, hW0, hB0, hB1, hRes, hb0, hs0⟩ := and_boxes N1 N2 a b l c l2 c2 w
  have C := joined_lift_bad N1 a l c N2 b l2 c2 67 er W0 (fun W hb h0 h1' h2' => joined1_er _ _ _ N1 N2 a b l c l2 c2 xs ys 67 er W h0 h1' h2' (hx.below (hb0.trans (hb.mono (by omega))) (Nat.le_refl _)) (hy.below (hb0.trans (hb.mono (by omega))) (Nat.le_refl _)) h1 h2 h3 h4 her)
  have k0 : W0.cell? ⟨w.heap.size, 0, none⟩ = some (.int .i64 N1) := hB0.cell 0
  have k1 : W0.cell? ⟨w.heap.size, 1, none⟩ = some (.slice a l c) := hB0.cell 1
  have k2 : W0.cell? ⟨w.heap.size + 1, 0, none⟩ = some (.int .i64 N2) := hB1.cell 0
  have k3 : W0.cell? ⟨w.heap.size + 1, 1, none⟩ = some (.slice b l2 c2) := hB1.cell 1
  have HC := Lib.hid C
  have HW := Lib.hid hW0
  have Hb := Lib.hid hb0
  have Hs := Lib.hid hs0
  have HRes := Lib.hid hRes
  clear C hW0 hb0 hs0 hB0 hB1 hRes her hx hy
  go_enter Tryd.func30, Tryd.ntmps30
  go_upto_region 1 with fail
  rw [HW.out]
  go_wp2_with fail
  refine HC.out.mono ?_
  rintro e w1 ⟨rfl, hb⟩
  have hR1 : Blk w1 (w.heap.size + 2) 24 #[.int .i64 0, .slice none 0 0] := HRes.out.below hb HRes.out.lt
  have Hb1 := Lib.hid (Hb.out.trans (hb.mono Hb.out.size))
  have HR1 := Lib.hid hR1
  clear k0 k1 k2 k3
  have f0 := hR1.frozen 0
  have f1 := hR1.frozen 1
  have k0 : w1.cell? ⟨w.heap.size + 2, 0, none⟩ = some (.int .i64 0) := hR1.cell 0
  have k1 : w1.cell? ⟨w.heap.size + 2, 1, none⟩ = some (.slice none 0 0) := hR1.cell 1
  clear hb hR1 HC HW Hb HRes 
  go_wp2_with fail
  rw [cells2 HR1.out]
  obtain ⟨V, hV, rV, bV, sV, oV⟩ := filled HR1.out #[.int .i64 0, .slice none 0 0]
  rw [hV]
  clear f0 f1 k0 k1
  have z0 : V.cell? ⟨w.heap.size + 2, 0, none⟩ = some (.int .i64 0) := (show Blk V _ 24 _ from rV).cell 0
  have z1 : V.cell? ⟨w.heap.size + 2, 1, none⟩ = some (.slice none 0 0) := (show Blk V _ 24 _ from rV).cell 1
  have HZ : Hid (Below w.heap.size w V) := Lib.hid (Hb1.out.trans (bV.mono (by omega)))
  clear HR1 Hb1 rV bV sV oV hV
  simp [bodyPost, results, Tryd.results30, go_sem, z0, z1]
  exact HZ.out
set_option maxRecDepth 100000 in
set_option maxHeartbeats 2000000 in
theorem or_ok (M : Nat) (a b : Option Addr) (l c l2 c2 : Nat) (xs ys : List Int) (w : World) (hx : Rd w a l c xs) (hy : Rd w b l2 c2 ys) (hv : Vb M xs) (hv2 : Vb M ys) :
    Calls Tryd.prog 31 #[.agg #[.int .i64 (M : Int), .slice a l c], .agg #[.int .i64 (M : Int), .slice b l2 c2]] w fun e w' => ∃ a' l' c', e = .returned (.tuple #[.agg #[.int .i64 (M : Int), .slice a' l' c'], .int .i64 0]) ∧ Rd w' a' l' c' (joinN orF xs ys l l) ∧ Below w.heap.size w w' := by
  obtain ⟨W0, hW0, hB0, hB1, hRes, hb0, hs0⟩ := and_boxes (M : Int) (M : Int) a b l c l2 c2 w
  have C := joined_lift_ok M a l c M b l2 c2 68 M (joinN orF xs ys l l) W0 (fun W hb h0 h1 h2 => joined1_ok orF _ _ _ M a b l c l2 c2 xs ys 68 W h0 h1 h2 (hx.below (hb0.trans (hb.mono (by omega))) (Nat.le_refl _)) (hy.below (hb0.trans (hb.mono (by omega))) (Nat.le_refl _)) hv hv2 (enters_of Tryd.func68 (by kernel_rfl) rfl) (fun x y h1 h2 W => orB_any x y h1 h2 W) (fun x y h1 h2 => (or_bitly x y h1 h2).1))
  have k0 : W0.cell? ⟨w.heap.size, 0, none⟩ = some (.int .i64 (M : Int)) := hB0.cell 0
  have k1 : W0.cell? ⟨w.heap.size, 1, none⟩ = some (.slice a l c) := hB0.cell 1
  have k2 : W0.cell? ⟨w.heap.size + 1, 0, none⟩ = some (.int .i64 (M : Int)) := hB1.cell 0
  have k3 : W0.cell? ⟨w.heap.size + 1, 1, none⟩ = some (.slice b l2 c2) := hB1.cell 1
  have HC := Lib.hid C
  have HW := Lib.hid hW0
  have Hb := Lib.hid hb0
  have Hs := Lib.hid hs0
  have HRes := Lib.hid hRes
  clear C hW0 hb0 hs0 hB0 hB1 hRes hv hv2 hx hy
  go_enter Tryd.func31, Tryd.ntmps31
  go_upto_region 1 with fail
  rw [HW.out]
  go_wp2_with fail
  refine HC.out.mono ?_
  rintro e w1 ⟨x1, x2, x3, rfl, ho, hb⟩
  have HO := Lib.hid ho
  have hR1 : Blk w1 (w.heap.size + 2) 24 #[.int .i64 0, .slice none 0 0] := HRes.out.below hb HRes.out.lt
  have Hb1 := Lib.hid (Hb.out.trans (hb.mono Hb.out.size))
  have HR1 := Lib.hid hR1
  clear k0 k1 k2 k3
  have f0 := hR1.frozen 0
  have f1 := hR1.frozen 1
  have k0 : w1.cell? ⟨w.heap.size + 2, 0, none⟩ = some (.int .i64 0) := hR1.cell 0
  have k1 : w1.cell? ⟨w.heap.size + 2, 1, none⟩ = some (.slice none 0 0) := hR1.cell 1
  clear hb hR1 HC HW Hb HRes ho
  go_wp2_with fail
  rw [cells2 HR1.out]
  obtain ⟨V, hV, rV, bV, sV, oV⟩ := filled HR1.out #[.int .i64 (M : Int), .slice x1 x2 x3]
  rw [hV]
  clear f0 f1 k0 k1
  have z0 : V.cell? ⟨w.heap.size + 2, 0, none⟩ = some (.int .i64 (M : Int)) := (show Blk V _ 24 _ from rV).cell 0
  have z1 : V.cell? ⟨w.heap.size + 2, 1, none⟩ = some (.slice x1 x2 x3) := (show Blk V _ 24 _ from rV).cell 1
  have HZ : Hid (Rd V x1 x2 x3 (joinN orF xs ys l l) ∧ Below w.heap.size w V) := Lib.hid ⟨own_read (HO.out.other oV (by have := Hs.out; omega)), Hb1.out.trans (bV.mono (by omega))⟩
  clear HR1 Hb1 rV bV sV oV hV HO
  simp [bodyPost, results, Tryd.results31, go_sem, z0, z1]
  exact ⟨x1, x2, x3, ⟨rfl, rfl, rfl⟩, HZ.out.1, HZ.out.2⟩
set_option maxRecDepth 100000 in
set_option maxHeartbeats 2000000 in
theorem or_bad (N1 N2 : Int) (a b : Option Addr) (l c l2 c2 : Nat) (xs ys : List Int) (er : Int) (w : World) (hx : Rd w a l c xs) (hy : Rd w b l2 c2 ys) (h1 : -9223372036854775808 ≤ N1) (h2 : N1 ≤ 9223372036854775807) (h3 : -9223372036854775808 ≤ N2) (h4 : N2 ≤ 9223372036854775807)
    (her : (validB N1 xs = true ∧ validB N2 ys = true ∧ N1 ≠ N2 ∧ er = 1) ∨ ((validB N1 xs = false ∨ validB N2 ys = false) ∧ er = 9)) :
    Calls Tryd.prog 31 #[.agg #[.int .i64 N1, .slice a l c], .agg #[.int .i64 N2, .slice b l2 c2]] w fun e w' => e = .returned (.tuple #[.agg #[.int .i64 0, .slice none 0 0], .int .i64 er]) ∧ Below w.heap.size w w' := by
  obtain ⟨W0, hW0, hB0, hB1, hRes, hb0, hs0⟩ := and_boxes N1 N2 a b l c l2 c2 w
  have C := joined_lift_bad N1 a l c N2 b l2 c2 68 er W0 (fun W hb h0 h1' h2' => joined1_er _ _ _ N1 N2 a b l c l2 c2 xs ys 68 er W h0 h1' h2' (hx.below (hb0.trans (hb.mono (by omega))) (Nat.le_refl _)) (hy.below (hb0.trans (hb.mono (by omega))) (Nat.le_refl _)) h1 h2 h3 h4 her)
  have k0 : W0.cell? ⟨w.heap.size, 0, none⟩ = some (.int .i64 N1) := hB0.cell 0
  have k1 : W0.cell? ⟨w.heap.size, 1, none⟩ = some (.slice a l c) := hB0.cell 1
  have k2 : W0.cell? ⟨w.heap.size + 1, 0, none⟩ = some (.int .i64 N2) := hB1.cell 0
  have k3 : W0.cell? ⟨w.heap.size + 1, 1, none⟩ = some (.slice b l2 c2) := hB1.cell 1
  have HC := Lib.hid C
  have HW := Lib.hid hW0
  have Hb := Lib.hid hb0
  have Hs := Lib.hid hs0
  have HRes := Lib.hid hRes
  clear C hW0 hb0 hs0 hB0 hB1 hRes her hx hy
  go_enter Tryd.func31, Tryd.ntmps31
  go_upto_region 1 with fail
  rw [HW.out]
  go_wp2_with fail
  refine HC.out.mono ?_
  rintro e w1 ⟨rfl, hb⟩
  have hR1 : Blk w1 (w.heap.size + 2) 24 #[.int .i64 0, .slice none 0 0] := HRes.out.below hb HRes.out.lt
  have Hb1 := Lib.hid (Hb.out.trans (hb.mono Hb.out.size))
  have HR1 := Lib.hid hR1
  clear k0 k1 k2 k3
  have f0 := hR1.frozen 0
  have f1 := hR1.frozen 1
  have k0 : w1.cell? ⟨w.heap.size + 2, 0, none⟩ = some (.int .i64 0) := hR1.cell 0
  have k1 : w1.cell? ⟨w.heap.size + 2, 1, none⟩ = some (.slice none 0 0) := hR1.cell 1
  clear hb hR1 HC HW Hb HRes 
  go_wp2_with fail
  rw [cells2 HR1.out]
  obtain ⟨V, hV, rV, bV, sV, oV⟩ := filled HR1.out #[.int .i64 0, .slice none 0 0]
  rw [hV]
  clear f0 f1 k0 k1
  have z0 : V.cell? ⟨w.heap.size + 2, 0, none⟩ = some (.int .i64 0) := (show Blk V _ 24 _ from rV).cell 0
  have z1 : V.cell? ⟨w.heap.size + 2, 1, none⟩ = some (.slice none 0 0) := (show Blk V _ 24 _ from rV).cell 1
  have HZ : Hid (Below w.heap.size w V) := Lib.hid (Hb1.out.trans (bV.mono (by omega)))
  clear HR1 Hb1 rV bV sV oV hV
  simp [bodyPost, results, Tryd.results31, go_sem, z0, z1]
  exact HZ.out
set_option maxRecDepth 100000 in
set_option maxHeartbeats 2000000 in
theorem minus_ok (M : Nat) (a b : Option Addr) (l c l2 c2 : Nat) (xs ys : List Int) (w : World) (hx : Rd w a l c xs) (hy : Rd w b l2 c2 ys) (hv : Vb M xs) (hv2 : Vb M ys) :
    Calls Tryd.prog 32 #[.agg #[.int .i64 (M : Int), .slice a l c], .agg #[.int .i64 (M : Int), .slice b l2 c2]] w fun e w' => ∃ a' l' c', e = .returned (.tuple #[.agg #[.int .i64 (M : Int), .slice a' l' c'], .int .i64 0]) ∧ Rd w' a' l' c' (joinN anF xs ys l l) ∧ Below w.heap.size w w' := by
  obtain ⟨W0, hW0, hB0, hB1, hRes, hb0, hs0⟩ := and_boxes (M : Int) (M : Int) a b l c l2 c2 w
  have C := joined_lift_ok M a l c M b l2 c2 69 M (joinN anF xs ys l l) W0 (fun W hb h0 h1 h2 => joined1_ok anF _ _ _ M a b l c l2 c2 xs ys 69 W h0 h1 h2 (hx.below (hb0.trans (hb.mono (by omega))) (Nat.le_refl _)) (hy.below (hb0.trans (hb.mono (by omega))) (Nat.le_refl _)) hv hv2 (enters_of Tryd.func69 (by kernel_rfl) rfl) (fun x y h1 h2 W => minusB_any x y h1 h2 W) (fun x y h1 h2 => (an_bitly x y h1 h2).1))
  have k0 : W0.cell? ⟨w.heap.size, 0, none⟩ = some (.int .i64 (M : Int)) := hB0.cell 0
  have k1 : W0.cell? ⟨w.heap.size, 1, none⟩ = some (.slice a l c) := hB0.cell 1
  have k2 : W0.cell? ⟨w.heap.size + 1, 0, none⟩ = some (.int .i64 (M : Int)) := hB1.cell 0
  have k3 : W0.cell? ⟨w.heap.size + 1, 1, none⟩ = some (.slice b l2 c2) := hB1.cell 1
  have HC := Lib.hid C
  have HW := Lib.hid hW0
  have Hb := Lib.hid hb0
  have Hs := Lib.hid hs0
  have HRes := Lib.hid hRes
  clear C hW0 hb0 hs0 hB0 hB1 hRes hv hv2 hx hy
  go_enter Tryd.func32, Tryd.ntmps32
  go_upto_region 1 with fail
  rw [HW.out]
  go_wp2_with fail
  refine HC.out.mono ?_
  rintro e w1 ⟨x1, x2, x3, rfl, ho, hb⟩
  have HO := Lib.hid ho
  have hR1 : Blk w1 (w.heap.size + 2) 24 #[.int .i64 0, .slice none 0 0] := HRes.out.below hb HRes.out.lt
  have Hb1 := Lib.hid (Hb.out.trans (hb.mono Hb.out.size))
  have HR1 := Lib.hid hR1
  clear k0 k1 k2 k3
  have f0 := hR1.frozen 0
  have f1 := hR1.frozen 1
  have k0 : w1.cell? ⟨w.heap.size + 2, 0, none⟩ = some (.int .i64 0) := hR1.cell 0
  have k1 : w1.cell? ⟨w.heap.size + 2, 1, none⟩ = some (.slice none 0 0) := hR1.cell 1
  clear hb hR1 HC HW Hb HRes ho
  go_wp2_with fail
  rw [cells2 HR1.out]
  obtain ⟨V, hV, rV, bV, sV, oV⟩ := filled HR1.out #[.int .i64 (M : Int), .slice x1 x2 x3]
  rw [hV]
  clear f0 f1 k0 k1
  have z0 : V.cell? ⟨w.heap.size + 2, 0, none⟩ = some (.int .i64 (M : Int)) := (show Blk V _ 24 _ from rV).cell 0
  have z1 : V.cell? ⟨w.heap.size + 2, 1, none⟩ = some (.slice x1 x2 x3) := (show Blk V _ 24 _ from rV).cell 1
  have HZ : Hid (Rd V x1 x2 x3 (joinN anF xs ys l l) ∧ Below w.heap.size w V) := Lib.hid ⟨own_read (HO.out.other oV (by have := Hs.out; omega)), Hb1.out.trans (bV.mono (by omega))⟩
  clear HR1 Hb1 rV bV sV oV hV HO
  simp [bodyPost, results, Tryd.results32, go_sem, z0, z1]
  exact ⟨x1, x2, x3, ⟨rfl, rfl, rfl⟩, HZ.out.1, HZ.out.2⟩
set_option maxRecDepth 100000 in
set_option maxHeartbeats 2000000 in
theorem minus_bad (N1 N2 : Int) (a b : Option Addr) (l c l2 c2 : Nat) (xs ys : List Int) (er : Int) (w : World) (hx : Rd w a l c xs) (hy : Rd w b l2 c2 ys) (h1 : -9223372036854775808 ≤ N1) (h2 : N1 ≤ 9223372036854775807) (h3 : -9223372036854775808 ≤ N2) (h4 : N2 ≤ 9223372036854775807)
    (her : (validB N1 xs = true ∧ validB N2 ys = true ∧ N1 ≠ N2 ∧ er = 1) ∨ ((validB N1 xs = false ∨ validB N2 ys = false) ∧ er = 9)) :
    Calls Tryd.prog 32 #[.agg #[.int .i64 N1, .slice a l c], .agg #[.int .i64 N2, .slice b l2 c2]] w fun e w' => e = .returned (.tuple #[.agg #[.int .i64 0, .slice none 0 0], .int .i64 er]) ∧ Below w.heap.size w w' := by
  obtain ⟨W0, hW0, hB0, hB1, hRes, hb0, hs0⟩ := and_boxes N1 N2 a b l c l2 c2 w
  have C := joined_lift_bad N1 a l c N2 b l2 c2 69 er W0 (fun W hb h0 h1' h2' => joined1_er _ _ _ N1 N2 a b l c l2 c2 xs ys 69 er W h0 h1' h2' (hx.below (hb0.trans (hb.mono (by omega))) (Nat.le_refl _)) (hy.below (hb0.trans (hb.mono (by omega))) (Nat.le_refl _)) h1 h2 h3 h4 her)
  have k0 : W0.cell? ⟨w.heap.size, 0, none⟩ = some (.int .i64 N1) := hB0.cell 0
  have k1 : W0.cell? ⟨w.heap.size, 1, none⟩ = some (.slice a l c) := hB0.cell 1
  have k2 : W0.cell? ⟨w.heap.size + 1, 0, none⟩ = some (.int .i64 N2) := hB1.cell 0
  have k3 : W0.cell? ⟨w.heap.size + 1, 1, none⟩ = some (.slice b l2 c2) := hB1.cell 1
  have HC := Lib.hid C
  have HW := Lib.hid hW0
  have Hb := Lib.hid hb0
  have Hs := Lib.hid hs0
  have HRes := Lib.hid hRes
  clear C hW0 hb0 hs0 hB0 hB1 hRes her hx hy
  go_enter Tryd.func32, Tryd.ntmps32
  go_upto_region 1 with fail
  rw [HW.out]
  go_wp2_with fail
  refine HC.out.mono ?_
  rintro e w1 ⟨rfl, hb⟩
  have hR1 : Blk w1 (w.heap.size + 2) 24 #[.int .i64 0, .slice none 0 0] := HRes.out.below hb HRes.out.lt
  have Hb1 := Lib.hid (Hb.out.trans (hb.mono Hb.out.size))
  have HR1 := Lib.hid hR1
  clear k0 k1 k2 k3
  have f0 := hR1.frozen 0
  have f1 := hR1.frozen 1
  have k0 : w1.cell? ⟨w.heap.size + 2, 0, none⟩ = some (.int .i64 0) := hR1.cell 0
  have k1 : w1.cell? ⟨w.heap.size + 2, 1, none⟩ = some (.slice none 0 0) := hR1.cell 1
  clear hb hR1 HC HW Hb HRes 
  go_wp2_with fail
  rw [cells2 HR1.out]
  obtain ⟨V, hV, rV, bV, sV, oV⟩ := filled HR1.out #[.int .i64 0, .slice none 0 0]
  rw [hV]
  clear f0 f1 k0 k1
  have z0 : V.cell? ⟨w.heap.size + 2, 0, none⟩ = some (.int .i64 0) := (show Blk V _ 24 _ from rV).cell 0
  have z1 : V.cell? ⟨w.heap.size + 2, 1, none⟩ = some (.slice none 0 0) := (show Blk V _ 24 _ from rV).cell 1
  have HZ : Hid (Below w.heap.size w V) := Lib.hid (Hb1.out.trans (bV.mono (by omega)))
  clear HR1 Hb1 rV bV sV oV hV
  simp [bodyPost, results, Tryd.results32, go_sem, z0, z1]
  exact HZ.out
end Go.Proofs.YthognmkjoekilaaDoor
