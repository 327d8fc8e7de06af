/- What a function that calls call answers, from what its function literal does. -/
import Derived.Test.YtknacgdjodmaiaaDoorBempty
import Derived.Test.YtknacgdjodmaiaaDoorBfilla
namespace Go.Proofs.YtknacgdjodmaiaaDoor
set_option linter.unusedVariables false
open Go.RowKit Go.Shelf

theorem Own.keep {w W : World} {B : Nat} {v : Value} {xs : List Int} (h : Own w B v xs) (hk : ∀ k, B ≤ k → W.heap[k]? = w.heap[k]?) : Own W B v xs := by
  refine ⟨⟨h.1.1, ?_⟩, h.2⟩
  rcases h.1.2 with hn | ⟨g', cap, cur, rfl, hg0, hgg, rest⟩
  · exact .inl hn
  · exact .inr ⟨g', cap, cur, rfl, hg0, (hk g' hg0).trans hgg, rest⟩
/-- The cells of ranges. -/
def rangeCells (l : List (Nat × Nat)) : List Value := l.flatMap fun r => [.int .i64 (r.1 : Int), .int .i64 (r.2 : Int)]
/-- In w the slice value v, of blocks from B on, is these ranges. -/
def OwnR (w : World) (B : Nat) (v : Value) (l : List (Nat × Nat)) : Prop := w.ownsRow B 60 2 v l.length (rangeCells l) ∧ ∀ r ∈ l, r.1 ≤ 65536 ∧ r.2 ≤ 65536
theorem OwnR.keep {w W : World} {B : Nat} {v : Value} {xs : List (Nat × Nat)} (h : OwnR w B v xs) (hk : ∀ k, B ≤ k → W.heap[k]? = w.heap[k]?) : OwnR W B v xs := by
  refine ⟨⟨h.1.1, ?_⟩, h.2⟩
  rcases h.1.2 with hn | ⟨g', cap, cur, rfl, hg0, hgg, rest⟩
  · exact .inl hn
  · exact .inr ⟨g', cap, cur, rfl, hg0, (hk g' hg0).trans hgg, rest⟩
theorem OwnR.mono {w : World} {B B' : Nat} {v : Value} {xs : List (Nat × Nat)} (h : OwnR w B v xs) (hB : B' ≤ B) : OwnR w B' v xs := by
  refine ⟨⟨h.1.1, ?_⟩, h.2⟩
  rcases h.1.2 with hn | ⟨g', cap, cur, rfl, hg0, rest⟩
  · exact .inl hn
  · exact .inr ⟨g', cap, cur, rfl, Nat.le_trans hB hg0, rest⟩

/-- The boxes of New. -/
theorem new_boxes (n : Int) (w : World) : ∃ W0, (w.alloc (.cells #[.int .i64 n] 3)).alloc (.cells #[.int .i64 0, .slice none 0 0] 24) = W0 ∧ Blk W0 (w.heap.size) 3 #[.int .i64 n] ∧ Blk W0 (w.heap.size + 1) 24 #[.int .i64 0, .slice none 0 0] ∧ Below w.heap.size w W0 ∧ W0.heap.size = w.heap.size + 2 := by
  refine ⟨_, rfl, ?_, ?_, ?_, by simp⟩
  · have h := heap_new w (.cells #[.int .i64 n] 3)
    have h0 : Blk (w.alloc (.cells #[.int .i64 n] 3)) (w.heap.size) 3 #[.int .i64 n] := h
    have h1 : Blk ((w.alloc (.cells #[.int .i64 n] 3)).alloc (.cells #[.int .i64 0, .slice none 0 0] 24)) (w.heap.size) 3 #[.int .i64 n] := h0.below ((Below.refl _ _).alloc (Nat.le_refl _) _) (by first | (simp only [World.size_alloc]; omega) | omega)
    exact h1
  · have h := heap_new (w.alloc (.cells #[.int .i64 n] 3)) (.cells #[.int .i64 0, .slice none 0 0] 24)
    simp only [World.size_alloc] at h
    have h0 : Blk ((w.alloc (.cells #[.int .i64 n] 3)).alloc (.cells #[.int .i64 0, .slice none 0 0] 24)) (w.heap.size + 1) 24 #[.int .i64 0, .slice none 0 0] := h
    exact h0
  · exact ((Below.refl _ w).alloc (by first | (simp only [World.size_alloc]; omega) | omega) _).alloc (by first | (simp only [World.size_alloc]; omega) | omega) _
set_option maxRecDepth 100000 in
set_option maxHeartbeats 2000000 in
theorem new_lift_ok (n : Int) (r : Int) (X : List Int) (w : World) (h : ∀ W, Below w.heap.size w W → Blk W (w.heap.size) 3 #[.int .i64 n] → Calls Tryd.prog 58 #[.pointer (some ⟨w.heap.size, 0, none⟩)] W fun e w' => ∃ a l c, e = .returned (.agg #[.int .i64 r, .slice a l c]) ∧ Own w' W.heap.size (.slice a l c) X ∧ Below W.heap.size W w') :
    Calls Tryd.prog 25 #[.int .i64 n] w fun e w' => ∃ a l c, e = .returned (.tuple #[.agg #[.int .i64 r, .slice a l c], .int .i64 0]) ∧ Own w' w.heap.size (.slice a l c) X ∧ Below w.heap.size w w' := by
  have hmf : ∀ (fn : Fn) (first cap : Array Value) (w : World), (Instr.makeFunc fn first cap).run Tryd.prog w = .ok (.func fn first cap) w := fun _ _ _ _ => rfl
  obtain ⟨W0, hW0, hB0, hRes, hb0, hs0⟩ := new_boxes n w
  have hent : ∀ (args : Array Value) (w : World), (callFunc 58 args).run Tryd.prog w = .ok (.enter 58 args) w := enters_of Tryd.func58 (by kernel_rfl) rfl
  have C := call_bits_ok 58 #[.pointer (some ⟨w.heap.size, 0, none⟩)] r (fun a l c W => Own W (W0.heap.size + 2) (.slice a l c) X) W0 hent (fun a l c W W' hO hk hs => hO.keep (fun k hk2 => hk k (by omega) (by omega)))
    (fun W hb hlt => (h W (hb0.trans (hb.mono (by omega))) (hB0.below hb (by omega))).mono (by
      rintro e w' ⟨a, l, c, rfl, ho, hb'⟩
      exact ⟨a, l, c, rfl, ho.mono (by omega), hb'⟩))
  have HC := Lib.hid C
  have HW := Lib.hid hW0
  have Hb := Lib.hid hb0
  have Hs := Lib.hid hs0
  have HRes := Lib.hid hRes
  clear C hW0 hb0 hs0 hB0 hRes h hent
  go_enter Tryd.func25, Tryd.ntmps25
  go_upto_region 1 with fail
  rw [HW.out]
  go_wp2_with fail
  refine HC.out.mono ?_
  rintro e w1 ⟨a, l, c, rfl, ho, hb⟩
  have HO := Lib.hid ho
  have hR1 : Blk w1 (w.heap.size + 1) 24 #[.int .i64 0, .slice none 0 0] := HRes.out.below hb HRes.out.lt
  have Hb1 := Lib.hid (Hb.out.trans (hb.mono Hb.out.size))
  have HR1 := Lib.hid hR1
  have f0 := hR1.frozen 0
  have f1 := hR1.frozen 1
  have k0 : w1.cell? ⟨w.heap.size + 1, 0, none⟩ = some (.int .i64 0) := hR1.cell 0
  have k1 : w1.cell? ⟨w.heap.size + 1, 1, none⟩ = some (.slice none 0 0) := hR1.cell 1
  clear hb hR1 HC HW Hb HRes ho
  go_wp2_with fail
  rw [cells2 HR1.out]
  obtain ⟨V, hV, rV, bV, sV, oV⟩ := filled HR1.out #[.int .i64 r, .slice a l c]
  rw [hV]
  clear f0 f1 k0 k1
  have z0 : V.cell? ⟨w.heap.size + 1, 0, none⟩ = some (.int .i64 r) := (show Blk V _ 24 _ from rV).cell 0
  have z1 : V.cell? ⟨w.heap.size + 1, 1, none⟩ = some (.slice a l c) := (show Blk V _ 24 _ from rV).cell 1
  have HZ : Hid (Own V w.heap.size (.slice a l c) X ∧ Below w.heap.size w V) := Lib.hid ⟨(HO.out.other oV (by have := Hs.out; omega)).mono (by have := Hs.out; omega), Hb1.out.trans (bV.mono (by omega))⟩
  clear HR1 Hb1 rV bV sV oV hV HO
  simp [bodyPost, results, Tryd.results25, go_sem, z0, z1]
  exact ⟨a, l, c, ⟨rfl, rfl, rfl⟩, HZ.out.1, HZ.out.2⟩
set_option maxRecDepth 100000 in
set_option maxHeartbeats 2000000 in
theorem new_lift_bad (n : Int) (er : Int) (w : World) (h : ∀ W, Below w.heap.size w W → Blk W (w.heap.size) 3 #[.int .i64 n] → Calls Tryd.prog 58 #[.pointer (some ⟨w.heap.size, 0, none⟩)] W fun e w' => e = pan er ∧ Below W.heap.size W w') :
    Calls Tryd.prog 25 #[.int .i64 n] w fun e w' => e = .returned (.tuple #[.agg #[.int .i64 0, .slice none 0 0], .int .i64 er]) ∧ Below w.heap.size w w' := by
  have hmf : ∀ (fn : Fn) (first cap : Array Value) (w : World), (Instr.makeFunc fn first cap).run Tryd.prog w = .ok (.func fn first cap) w := fun _ _ _ _ => rfl
  obtain ⟨W0, hW0, hB0, hRes, hb0, hs0⟩ := new_boxes n w
  have hent : ∀ (args : Array Value) (w : World), (callFunc 58 args).run Tryd.prog w = .ok (.enter 58 args) w := enters_of Tryd.func58 (by kernel_rfl) rfl
  have C := call_bits_bad 58 #[.pointer (some ⟨w.heap.size, 0, none⟩)] er W0 hent (fun W hb hlt => h W (hb0.trans (hb.mono (by omega))) (hB0.below hb (by omega)))
  have HC := Lib.hid C
  have HW := Lib.hid hW0
  have Hb := Lib.hid hb0
  have Hs := Lib.hid hs0
  have HRes := Lib.hid hRes
  clear C hW0 hb0 hs0 hB0 hRes h hent
  go_enter Tryd.func25, Tryd.ntmps25
  go_upto_region 1 with fail
  rw [HW.out]
  go_wp2_with fail
  refine HC.out.mono ?_
  rintro e w1 ⟨rfl, hb⟩
  have hR1 : Blk w1 (w.heap.size + 1) 24 #[.int .i64 0, .slice none 0 0] := HRes.out.below hb HRes.out.lt
  have Hb1 := Lib.hid (Hb.out.trans (hb.mono Hb.out.size))
  have HR1 := Lib.hid hR1
  have f0 := hR1.frozen 0
  have f1 := hR1.frozen 1
  have k0 : w1.cell? ⟨w.heap.size + 1, 0, none⟩ = some (.int .i64 0) := hR1.cell 0
  have k1 : w1.cell? ⟨w.heap.size + 1, 1, none⟩ = some (.slice none 0 0) := hR1.cell 1
  clear hb hR1 HC HW Hb HRes
  go_wp2_with fail
  rw [cells2 HR1.out]
  obtain ⟨V, hV, rV, bV, sV, oV⟩ := filled HR1.out #[.int .i64 0, .slice none 0 0]
  rw [hV]
  clear f0 f1 k0 k1
  have z0 : V.cell? ⟨w.heap.size + 1, 0, none⟩ = some (.int .i64 0) := (show Blk V _ 24 _ from rV).cell 0
  have z1 : V.cell? ⟨w.heap.size + 1, 1, none⟩ = some (.slice none 0 0) := (show Blk V _ 24 _ from rV).cell 1
  have HZ : Hid (Below w.heap.size w V) := Lib.hid (Hb1.out.trans (bV.mono (by omega)))
  clear HR1 Hb1 rV bV sV oV hV
  simp [bodyPost, results, Tryd.results25, go_sem, z0, z1]
  exact HZ.out

/-- The boxes of From. -/
theorem from_boxes (n : Int) (ax : Option Addr) (lx cx : Nat) (w : World) : ∃ W0, ((w.alloc (.cells #[.int .i64 n] 3)).alloc (.cells #[.slice ax lx cx] 22)).alloc (.cells #[.int .i64 0, .slice none 0 0] 24) = W0 ∧ Blk W0 (w.heap.size) 3 #[.int .i64 n] ∧ Blk W0 (w.heap.size + 1) 22 #[.slice ax lx cx] ∧ Blk W0 (w.heap.size + 2) 24 #[.int .i64 0, .slice none 0 0] ∧ Below w.heap.size w W0 ∧ W0.heap.size = w.heap.size + 3 := by
  refine ⟨_, rfl, ?_, ?_, ?_, ?_, by simp⟩
  · have h := heap_new w (.cells #[.int .i64 n] 3)
    have h0 : Blk (w.alloc (.cells #[.int .i64 n] 3)) (w.heap.size) 3 #[.int .i64 n] := h
    have h1 : Blk ((w.alloc (.cells #[.int .i64 n] 3)).alloc (.cells #[.slice ax lx cx] 22)) (w.heap.size) 3 #[.int .i64 n] := h0.below ((Below.refl _ _).alloc (Nat.le_refl _) _) (by first | (simp only [World.size_alloc]; omega) | omega)
    have h2 : Blk (((w.alloc (.cells #[.int .i64 n] 3)).alloc (.cells #[.slice ax lx cx] 22)).alloc (.cells #[.int .i64 0, .slice none 0 0] 24)) (w.heap.size) 3 #[.int .i64 n] := h1.below ((Below.refl _ _).alloc (Nat.le_refl _) _) (by first | (simp only [World.size_alloc]; omega) | omega)
    exact h2
  · have h := heap_new (w.alloc (.cells #[.int .i64 n] 3)) (.cells #[.slice ax lx cx] 22)
    simp only [World.size_alloc] at h
    have h0 : Blk ((w.alloc (.cells #[.int .i64 n] 3)).alloc (.cells #[.slice ax lx cx] 22)) (w.heap.size + 1) 22 #[.slice ax lx cx] := h
    have h2 : Blk (((w.alloc (.cells #[.int .i64 n] 3)).alloc (.cells #[.slice ax lx cx] 22)).alloc (.cells #[.int .i64 0, .slice none 0 0] 24)) (w.heap.size + 1) 22 #[.slice ax lx cx] := h0.below ((Below.refl _ _).alloc (Nat.le_refl _) _) (by first | (simp only [World.size_alloc]; omega) | omega)
    exact h2
  · have h := heap_new ((w.alloc (.cells #[.int .i64 n] 3)).alloc (.cells #[.slice ax lx cx] 22)) (.cells #[.int .i64 0, .slice none 0 0] 24)
    simp only [World.size_alloc] at h
    have h0 : Blk (((w.alloc (.cells #[.int .i64 n] 3)).alloc (.cells #[.slice ax lx cx] 22)).alloc (.cells #[.int .i64 0, .slice none 0 0] 24)) (w.heap.size + 2) 24 #[.int .i64 0, .slice none 0 0] := h
    exact h0
  · exact (((Below.refl _ w).alloc (by first | (simp only [World.size_alloc]; omega) | omega) _).alloc (by first | (simp only [World.size_alloc]; omega) | omega) _).alloc (by first | (simp only [World.size_alloc]; omega) | omega) _
set_option maxRecDepth 100000 in
set_option maxHeartbeats 2000000 in
theorem from_lift_ok (n : Int) (ax : Option Addr) (lx cx : Nat) (r : Int) (X : List Int) (w : World) (h : ∀ W, Below w.heap.size w W → Blk W (w.heap.size) 3 #[.int .i64 n] → Blk W (w.heap.size + 1) 22 #[.slice ax lx cx] → Calls Tryd.prog 62 #[.pointer (some ⟨w.heap.size, 0, none⟩), .pointer (some ⟨w.heap.size + 1, 0, none⟩)] W fun e w' => ∃ a l c, e = .returned (.agg #[.int .i64 r, .slice a l c]) ∧ Own w' W.heap.size (.slice a l c) X ∧ Below W.heap.size W w') :
    Calls Tryd.prog 26 #[.int .i64 n, .slice ax lx cx] w fun e w' => ∃ a l c, e = .returned (.tuple #[.agg #[.int .i64 r, .slice a l c], .int .i64 0]) ∧ Own w' w.heap.size (.slice a l c) X ∧ Below w.heap.size w w' := by
  have hmf : ∀ (fn : Fn) (first cap : Array Value) (w : World), (Instr.makeFunc fn first cap).run Tryd.prog w = .ok (.func fn first cap) w := fun _ _ _ _ => rfl
  obtain ⟨W0, hW0, hB0, hB1, hRes, hb0, hs0⟩ := from_boxes n ax lx cx w
  have hent : ∀ (args : Array Value) (w : World), (callFunc 62 args).run Tryd.prog w = .ok (.enter 62 args) w := enters_of Tryd.func62 (by kernel_rfl) rfl
  have C := call_bits_ok 62 #[.pointer (some ⟨w.heap.size, 0, none⟩), .pointer (some ⟨w.heap.size + 1, 0, none⟩)] r (fun a l c W => Own W (W0.heap.size + 2) (.slice a l c) X) W0 hent (fun a l c W W' hO hk hs => hO.keep (fun k hk2 => hk k (by omega) (by omega)))
    (fun W hb hlt => (h W (hb0.trans (hb.mono (by omega))) (hB0.below hb (by omega)) (hB1.below hb (by omega))).mono (by
      rintro e w' ⟨a, l, c, rfl, ho, hb'⟩
      exact ⟨a, l, c, rfl, ho.mono (by omega), hb'⟩))
  have HC := Lib.hid C
  have HW := Lib.hid hW0
  have Hb := Lib.hid hb0
  have Hs := Lib.hid hs0
  have HRes := Lib.hid hRes
  clear C hW0 hb0 hs0 hB0 hB1 hRes h hent
  go_enter Tryd.func26, Tryd.ntmps26
  go_upto_region 1 with fail
  rw [HW.out]
  go_wp2_with fail
  refine HC.out.mono ?_
  rintro e w1 ⟨a, l, c, rfl, ho, hb⟩
  have HO := Lib.hid ho
  have hR1 : Blk w1 (w.heap.size + 2) 24 #[.int .i64 0, .slice none 0 0] := HRes.out.below hb HRes.out.lt
  have Hb1 := Lib.hid (Hb.out.trans (hb.mono Hb.out.size))
  have HR1 := Lib.hid hR1
  have f0 := hR1.frozen 0
  have f1 := hR1.frozen 1
  have k0 : w1.cell? ⟨w.heap.size + 2, 0, none⟩ = some (.int .i64 0) := hR1.cell 0
  have k1 : w1.cell? ⟨w.heap.size + 2, 1, none⟩ = some (.slice none 0 0) := hR1.cell 1
  clear hb hR1 HC HW Hb HRes ho
  go_wp2_with fail
  rw [cells2 HR1.out]
  obtain ⟨V, hV, rV, bV, sV, oV⟩ := filled HR1.out #[.int .i64 r, .slice a l c]
  rw [hV]
  clear f0 f1 k0 k1
  have z0 : V.cell? ⟨w.heap.size + 2, 0, none⟩ = some (.int .i64 r) := (show Blk V _ 24 _ from rV).cell 0
  have z1 : V.cell? ⟨w.heap.size + 2, 1, none⟩ = some (.slice a l c) := (show Blk V _ 24 _ from rV).cell 1
  have HZ : Hid (Own V w.heap.size (.slice a l c) X ∧ Below w.heap.size w V) := Lib.hid ⟨(HO.out.other oV (by have := Hs.out; omega)).mono (by have := Hs.out; omega), Hb1.out.trans (bV.mono (by omega))⟩
  clear HR1 Hb1 rV bV sV oV hV HO
  simp [bodyPost, results, Tryd.results26, go_sem, z0, z1]
  exact ⟨a, l, c, ⟨rfl, rfl, rfl⟩, HZ.out.1, HZ.out.2⟩
set_option maxRecDepth 100000 in
set_option maxHeartbeats 2000000 in
theorem from_lift_bad (n : Int) (ax : Option Addr) (lx cx : Nat) (er : Int) (w : World) (h : ∀ W, Below w.heap.size w W → Blk W (w.heap.size) 3 #[.int .i64 n] → Blk W (w.heap.size + 1) 22 #[.slice ax lx cx] → Calls Tryd.prog 62 #[.pointer (some ⟨w.heap.size, 0, none⟩), .pointer (some ⟨w.heap.size + 1, 0, none⟩)] W fun e w' => e = pan er ∧ Below W.heap.size W w') :
    Calls Tryd.prog 26 #[.int .i64 n, .slice ax lx cx] w fun e w' => e = .returned (.tuple #[.agg #[.int .i64 0, .slice none 0 0], .int .i64 er]) ∧ Below w.heap.size w w' := by
  have hmf : ∀ (fn : Fn) (first cap : Array Value) (w : World), (Instr.makeFunc fn first cap).run Tryd.prog w = .ok (.func fn first cap) w := fun _ _ _ _ => rfl
  obtain ⟨W0, hW0, hB0, hB1, hRes, hb0, hs0⟩ := from_boxes n ax lx cx w
  have hent : ∀ (args : Array Value) (w : World), (callFunc 62 args).run Tryd.prog w = .ok (.enter 62 args) w := enters_of Tryd.func62 (by kernel_rfl) rfl
  have C := call_bits_bad 62 #[.pointer (some ⟨w.heap.size, 0, none⟩), .pointer (some ⟨w.heap.size + 1, 0, none⟩)] er W0 hent (fun W hb hlt => h W (hb0.trans (hb.mono (by omega))) (hB0.below hb (by omega)) (hB1.below hb (by omega)))
  have HC := Lib.hid C
  have HW := Lib.hid hW0
  have Hb := Lib.hid hb0
  have Hs := Lib.hid hs0
  have HRes := Lib.hid hRes
  clear C hW0 hb0 hs0 hB0 hB1 hRes h hent
  go_enter Tryd.func26, Tryd.ntmps26
  go_upto_region 1 with fail
  rw [HW.out]
  go_wp2_with fail
  refine HC.out.mono ?_
  rintro e w1 ⟨rfl, hb⟩
  have hR1 : Blk w1 (w.heap.size + 2) 24 #[.int .i64 0, .slice none 0 0] := HRes.out.below hb HRes.out.lt
  have Hb1 := Lib.hid (Hb.out.trans (hb.mono Hb.out.size))
  have HR1 := Lib.hid hR1
  have f0 := hR1.frozen 0
  have f1 := hR1.frozen 1
  have k0 : w1.cell? ⟨w.heap.size + 2, 0, none⟩ = some (.int .i64 0) := hR1.cell 0
  have k1 : w1.cell? ⟨w.heap.size + 2, 1, none⟩ = some (.slice none 0 0) := hR1.cell 1
  clear hb hR1 HC HW Hb HRes
  go_wp2_with fail
  rw [cells2 HR1.out]
  obtain ⟨V, hV, rV, bV, sV, oV⟩ := filled HR1.out #[.int .i64 0, .slice none 0 0]
  rw [hV]
  clear f0 f1 k0 k1
  have z0 : V.cell? ⟨w.heap.size + 2, 0, none⟩ = some (.int .i64 0) := (show Blk V _ 24 _ from rV).cell 0
  have z1 : V.cell? ⟨w.heap.size + 2, 1, none⟩ = some (.slice none 0 0) := (show Blk V _ 24 _ from rV).cell 1
  have HZ : Hid (Below w.heap.size w V) := Lib.hid (Hb1.out.trans (bV.mono (by omega)))
  clear HR1 Hb1 rV bV sV oV hV
  simp [bodyPost, results, Tryd.results26, go_sem, z0, z1]
  exact HZ.out

/-- The boxes of Get. -/
theorem get_boxes (Nb : Int) (ab : Option Addr) (lb cb : Nat) (at_ : Int) (w : World) : ∃ W0, (w.alloc (.cells #[.int .i64 Nb, .slice ab lb cb] 24)).alloc (.cells #[.int .i64 at_] 3) = W0 ∧ Blk W0 (w.heap.size) 24 #[.int .i64 Nb, .slice ab lb cb] ∧ Blk W0 (w.heap.size + 1) 3 #[.int .i64 at_] ∧ Below w.heap.size w W0 ∧ W0.heap.size = w.heap.size + 2 := by
  refine ⟨_, rfl, ?_, ?_, ?_, by simp⟩
  · have h := heap_new w (.cells #[.int .i64 Nb, .slice ab lb cb] 24)
    have h0 : Blk (w.alloc (.cells #[.int .i64 Nb, .slice ab lb cb] 24)) (w.heap.size) 24 #[.int .i64 Nb, .slice ab lb cb] := h
    have h1 : Blk ((w.alloc (.cells #[.int .i64 Nb, .slice ab lb cb] 24)).alloc (.cells #[.int .i64 at_] 3)) (w.heap.size) 24 #[.int .i64 Nb, .slice ab lb cb] := h0.below ((Below.refl _ _).alloc (Nat.le_refl _) _) (by first | (simp only [World.size_alloc]; omega) | omega)
    exact h1
  · have h := heap_new (w.alloc (.cells #[.int .i64 Nb, .slice ab lb cb] 24)) (.cells #[.int .i64 at_] 3)
    simp only [World.size_alloc] at h
    have h0 : Blk ((w.alloc (.cells #[.int .i64 Nb, .slice ab lb cb] 24)).alloc (.cells #[.int .i64 at_] 3)) (w.heap.size + 1) 3 #[.int .i64 at_] := h
    exact h0
  · exact ((Below.refl _ w).alloc (by first | (simp only [World.size_alloc]; omega) | omega) _).alloc (by first | (simp only [World.size_alloc]; omega) | omega) _
set_option maxRecDepth 100000 in
set_option maxHeartbeats 2000000 in
theorem get_lift_ok (Nb : Int) (ab : Option Addr) (lb cb : Nat) (at_ : Int) (r : Bool) (w : World) (h : ∀ W, Below w.heap.size w W → Blk W (w.heap.size) 24 #[.int .i64 Nb, .slice ab lb cb] → Blk W (w.heap.size + 1) 3 #[.int .i64 at_] → Calls Tryd.prog 45 #[.pointer (some ⟨w.heap.size, 0, none⟩), .pointer (some ⟨w.heap.size + 1, 0, none⟩)] W fun e w' => e = .returned (.bool r) ∧ Below W.heap.size W w') :
    Calls Tryd.prog 14 #[.agg #[.int .i64 Nb, .slice ab lb cb], .int .i64 at_] w fun e w' => e = .returned (.tuple #[.bool r, .int .i64 0]) ∧ Below w.heap.size w w' := by
  have hmf : ∀ (fn : Fn) (first cap : Array Value) (w : World), (Instr.makeFunc fn first cap).run Tryd.prog w = .ok (.func fn first cap) w := fun _ _ _ _ => rfl
  obtain ⟨W0, hW0, hB0, hB1, hb0, hs0⟩ := get_boxes Nb ab lb cb at_ w
  have hent : ∀ (args : Array Value) (w : World), (callFunc 45 args).run Tryd.prog w = .ok (.enter 45 args) w := enters_of Tryd.func45 (by kernel_rfl) rfl
  have C := call_bool_ok 45 #[.pointer (some ⟨w.heap.size, 0, none⟩), .pointer (some ⟨w.heap.size + 1, 0, none⟩)] r (fun _ => True) W0 hent (fun _ _ _ _ _ => trivial)
    (fun W hb hlt => (h W (hb0.trans (hb.mono (by omega))) (hB0.below hb (by omega)) (hB1.below hb (by omega))).mono (by
      rintro e w' ⟨rfl, hb'⟩
      exact ⟨rfl, trivial, hb'⟩))
  have HC := Lib.hid C
  have HW := Lib.hid hW0
  have Hb := Lib.hid hb0
  have Hs := Lib.hid hs0
  clear C hW0 hb0 hs0 hB0 hB1 h hent
  go_enter Tryd.func14, Tryd.ntmps14
  go_upto_region 1 with fail
  rw [HW.out]
  go_wp2_with fail
  refine HC.out.mono ?_
  rintro e w1 ⟨rfl, -, hb⟩
  have Hb1 := Lib.hid (Hb.out.trans (hb.mono Hb.out.size))
  clear hb HC HW Hb
  go_wp2_with fail
  go_ret2
  exact ⟨rfl, Hb1.out⟩
set_option maxRecDepth 100000 in
set_option maxHeartbeats 2000000 in
theorem get_lift_bad (Nb : Int) (ab : Option Addr) (lb cb : Nat) (at_ : Int) (er : Int) (w : World) (h : ∀ W, Below w.heap.size w W → Blk W (w.heap.size) 24 #[.int .i64 Nb, .slice ab lb cb] → Blk W (w.heap.size + 1) 3 #[.int .i64 at_] → Calls Tryd.prog 45 #[.pointer (some ⟨w.heap.size, 0, none⟩), .pointer (some ⟨w.heap.size + 1, 0, none⟩)] W fun e w' => e = pan er ∧ Below W.heap.size W w') :
    Calls Tryd.prog 14 #[.agg #[.int .i64 Nb, .slice ab lb cb], .int .i64 at_] w fun e w' => e = .returned (.tuple #[.bool false, .int .i64 er]) ∧ Below w.heap.size w w' := by
  have hmf : ∀ (fn : Fn) (first cap : Array Value) (w : World), (Instr.makeFunc fn first cap).run Tryd.prog w = .ok (.func fn first cap) w := fun _ _ _ _ => rfl
  obtain ⟨W0, hW0, hB0, hB1, hb0, hs0⟩ := get_boxes Nb ab lb cb at_ w
  have hent : ∀ (args : Array Value) (w : World), (callFunc 45 args).run Tryd.prog w = .ok (.enter 45 args) w := enters_of Tryd.func45 (by kernel_rfl) rfl
  have C := call_bool_bad 45 #[.pointer (some ⟨w.heap.size, 0, none⟩), .pointer (some ⟨w.heap.size + 1, 0, none⟩)] er W0 hent (fun W hb hlt => h W (hb0.trans (hb.mono (by omega))) (hB0.below hb (by omega)) (hB1.below hb (by omega)))
  have HC := Lib.hid C
  have HW := Lib.hid hW0
  have Hb := Lib.hid hb0
  have Hs := Lib.hid hs0
  clear C hW0 hb0 hs0 hB0 hB1 h hent
  go_enter Tryd.func14, Tryd.ntmps14
  go_upto_region 1 with fail
  rw [HW.out]
  go_wp2_with fail
  refine HC.out.mono ?_
  rintro e w1 ⟨rfl, hb⟩
  have Hb1 := Lib.hid (Hb.out.trans (hb.mono Hb.out.size))
  clear hb HC HW Hb
  go_wp2_with fail
  go_ret2
  exact ⟨rfl, Hb1.out⟩

/-- The boxes of Set. -/
theorem set_boxes (Nb : Int) (ab : Option Addr) (lb cb : Nat) (at_ : Int) (m : Int) (on : Bool) (w : World) : ∃ W0, ((((w.alloc (.cells #[.int .i64 Nb, .slice ab lb cb] 24)).alloc (.cells #[.int .i64 at_] 3)).alloc (.cells #[.int .i64 m] 3)).alloc (.cells #[.bool on] 4)).alloc (.cells #[.int .i64 0, .slice none 0 0] 24) = W0 ∧ Blk W0 (w.heap.size) 24 #[.int .i64 Nb, .slice ab lb cb] ∧ Blk W0 (w.heap.size + 1) 3 #[.int .i64 at_] ∧ Blk W0 (w.heap.size + 2) 3 #[.int .i64 m] ∧ Blk W0 (w.heap.size + 3) 4 #[.bool on] ∧ Blk W0 (w.heap.size + 4) 24 #[.int .i64 0, .slice none 0 0] ∧ Below w.heap.size w W0 ∧ W0.heap.size = w.heap.size + 5 := by
  refine ⟨_, rfl, ?_, ?_, ?_, ?_, ?_, ?_, by simp⟩
  · have h := heap_new w (.cells #[.int .i64 Nb, .slice ab lb cb] 24)
    have h0 : Blk (w.alloc (.cells #[.int .i64 Nb, .slice ab lb cb] 24)) (w.heap.size) 24 #[.int .i64 Nb, .slice ab lb cb] := h
    have h1 : Blk ((w.alloc (.cells #[.int .i64 Nb, .slice ab lb cb] 24)).alloc (.cells #[.int .i64 at_] 3)) (w.heap.size) 24 #[.int .i64 Nb, .slice ab lb cb] := h0.below ((Below.refl _ _).alloc (Nat.le_refl _) _) (by first | (simp only [World.size_alloc]; omega) | omega)
    have h2 : Blk (((w.alloc (.cells #[.int .i64 Nb, .slice ab lb cb] 24)).alloc (.cells #[.int .i64 at_] 3)).alloc (.cells #[.int .i64 m] 3)) (w.heap.size) 24 #[.int .i64 Nb, .slice ab lb cb] := h1.below ((Below.refl _ _).alloc (Nat.le_refl _) _) (by first | (simp only [World.size_alloc]; omega) | omega)
    have h3 : Blk ((((w.alloc (.cells #[.int .i64 Nb, .slice ab lb cb] 24)).alloc (.cells #[.int .i64 at_] 3)).alloc (.cells #[.int .i64 m] 3)).alloc (.cells #[.bool on] 4)) (w.heap.size) 24 #[.int .i64 Nb, .slice ab lb cb] := h2.below ((Below.refl _ _).alloc (Nat.le_refl _) _) (by first | (simp only [World.size_alloc]; omega) | omega)
    have h4 : Blk (((((w.alloc (.cells #[.int .i64 Nb, .slice ab lb cb] 24)).alloc (.cells #[.int .i64 at_] 3)).alloc (.cells #[.int .i64 m] 3)).alloc (.cells #[.bool on] 4)).alloc (.cells #[.int .i64 0, .slice none 0 0] 24)) (w.heap.size) 24 #[.int .i64 Nb, .slice ab lb cb] := h3.below ((Below.refl _ _).alloc (Nat.le_refl _) _) (by first | (simp only [World.size_alloc]; omega) | omega)
    exact h4
  · have h := heap_new (w.alloc (.cells #[.int .i64 Nb, .slice ab lb cb] 24)) (.cells #[.int .i64 at_] 3)
    simp only [World.size_alloc] at h
    have h0 : Blk ((w.alloc (.cells #[.int .i64 Nb, .slice ab lb cb] 24)).alloc (.cells #[.int .i64 at_] 3)) (w.heap.size + 1) 3 #[.int .i64 at_] := h
    have h2 : Blk (((w.alloc (.cells #[.int .i64 Nb, .slice ab lb cb] 24)).alloc (.cells #[.int .i64 at_] 3)).alloc (.cells #[.int .i64 m] 3)) (w.heap.size + 1) 3 #[.int .i64 at_] := h0.below ((Below.refl _ _).alloc (Nat.le_refl _) _) (by first | (simp only [World.size_alloc]; omega) | omega)
    have h3 : Blk ((((w.alloc (.cells #[.int .i64 Nb, .slice ab lb cb] 24)).alloc (.cells #[.int .i64 at_] 3)).alloc (.cells #[.int .i64 m] 3)).alloc (.cells #[.bool on] 4)) (w.heap.size + 1) 3 #[.int .i64 at_] := h2.below ((Below.refl _ _).alloc (Nat.le_refl _) _) (by first | (simp only [World.size_alloc]; omega) | omega)
    have h4 : Blk (((((w.alloc (.cells #[.int .i64 Nb, .slice ab lb cb] 24)).alloc (.cells #[.int .i64 at_] 3)).alloc (.cells #[.int .i64 m] 3)).alloc (.cells #[.bool on] 4)).alloc (.cells #[.int .i64 0, .slice none 0 0] 24)) (w.heap.size + 1) 3 #[.int .i64 at_] := h3.below ((Below.refl _ _).alloc (Nat.le_refl _) _) (by first | (simp only [World.size_alloc]; omega) | omega)
    exact h4
  · have h := heap_new ((w.alloc (.cells #[.int .i64 Nb, .slice ab lb cb] 24)).alloc (.cells #[.int .i64 at_] 3)) (.cells #[.int .i64 m] 3)
    simp only [World.size_alloc] at h
    have h0 : Blk (((w.alloc (.cells #[.int .i64 Nb, .slice ab lb cb] 24)).alloc (.cells #[.int .i64 at_] 3)).alloc (.cells #[.int .i64 m] 3)) (w.heap.size + 2) 3 #[.int .i64 m] := h
    have h3 : Blk ((((w.alloc (.cells #[.int .i64 Nb, .slice ab lb cb] 24)).alloc (.cells #[.int .i64 at_] 3)).alloc (.cells #[.int .i64 m] 3)).alloc (.cells #[.bool on] 4)) (w.heap.size + 2) 3 #[.int .i64 m] := h0.below ((Below.refl _ _).alloc (Nat.le_refl _) _) (by first | (simp only [World.size_alloc]; omega) | omega)
    have h4 : Blk (((((w.alloc (.cells #[.int .i64 Nb, .slice ab lb cb] 24)).alloc (.cells #[.int .i64 at_] 3)).alloc (.cells #[.int .i64 m] 3)).alloc (.cells #[.bool on] 4)).alloc (.cells #[.int .i64 0, .slice none 0 0] 24)) (w.heap.size + 2) 3 #[.int .i64 m] := h3.below ((Below.refl _ _).alloc (Nat.le_refl _) _) (by first | (simp only [World.size_alloc]; omega) | omega)
    exact h4
  · have h := heap_new (((w.alloc (.cells #[.int .i64 Nb, .slice ab lb cb] 24)).alloc (.cells #[.int .i64 at_] 3)).alloc (.cells #[.int .i64 m] 3)) (.cells #[.bool on] 4)
    simp only [World.size_alloc] at h
    have h0 : Blk ((((w.alloc (.cells #[.int .i64 Nb, .slice ab lb cb] 24)).alloc (.cells #[.int .i64 at_] 3)).alloc (.cells #[.int .i64 m] 3)).alloc (.cells #[.bool on] 4)) (w.heap.size + 3) 4 #[.bool on] := h
    have h4 : Blk (((((w.alloc (.cells #[.int .i64 Nb, .slice ab lb cb] 24)).alloc (.cells #[.int .i64 at_] 3)).alloc (.cells #[.int .i64 m] 3)).alloc (.cells #[.bool on] 4)).alloc (.cells #[.int .i64 0, .slice none 0 0] 24)) (w.heap.size + 3) 4 #[.bool on] := h0.below ((Below.refl _ _).alloc (Nat.le_refl _) _) (by first | (simp only [World.size_alloc]; omega) | omega)
    exact h4
  · have h := heap_new ((((w.alloc (.cells #[.int .i64 Nb, .slice ab lb cb] 24)).alloc (.cells #[.int .i64 at_] 3)).alloc (.cells #[.int .i64 m] 3)).alloc (.cells #[.bool on] 4)) (.cells #[.int .i64 0, .slice none 0 0] 24)
    simp only [World.size_alloc] at h
    have h0 : Blk (((((w.alloc (.cells #[.int .i64 Nb, .slice ab lb cb] 24)).alloc (.cells #[.int .i64 at_] 3)).alloc (.cells #[.int .i64 m] 3)).alloc (.cells #[.bool on] 4)).alloc (.cells #[.int .i64 0, .slice none 0 0] 24)) (w.heap.size + 4) 24 #[.int .i64 0, .slice none 0 0] := h
    exact h0
  · exact (((((Below.refl _ w).alloc (by first | (simp only [World.size_alloc]; omega) | omega) _).alloc (by first | (simp only [World.size_alloc]; omega) | omega) _).alloc (by first | (simp only [World.size_alloc]; omega) | omega) _).alloc (by first | (simp only [World.size_alloc]; omega) | omega) _).alloc (by first | (simp only [World.size_alloc]; omega) | omega) _
set_option maxRecDepth 100000 in
set_option maxHeartbeats 2000000 in
theorem set_lift_ok (Nb : Int) (ab : Option Addr) (lb cb : Nat) (at_ : Int) (m : Int) (on : Bool) (r : Int) (X : List Int) (w : World) (h : ∀ W, Below w.heap.size w W → Blk W (w.heap.size) 24 #[.int .i64 Nb, .slice ab lb cb] → Blk W (w.heap.size + 1) 3 #[.int .i64 at_] → Blk W (w.heap.size + 2) 3 #[.int .i64 m] → Blk W (w.heap.size + 3) 4 #[.bool on] → Calls Tryd.prog 48 #[.pointer (some ⟨w.heap.size, 0, none⟩), .pointer (some ⟨w.heap.size + 1, 0, none⟩), .pointer (some ⟨w.heap.size + 2, 0, none⟩), .pointer (some ⟨w.heap.size + 3, 0, none⟩)] W fun e w' => ∃ a l c, e = .returned (.agg #[.int .i64 r, .slice a l c]) ∧ Own w' W.heap.size (.slice a l c) X ∧ Below W.heap.size W w') :
    Calls Tryd.prog 15 #[.agg #[.int .i64 Nb, .slice ab lb cb], .int .i64 at_, .int .i64 m, .bool on] w fun e w' => ∃ a l c, e = .returned (.tuple #[.agg #[.int .i64 r, .slice a l c], .int .i64 0]) ∧ Own w' w.heap.size (.slice a l c) X ∧ Below w.heap.size w w' := by
  have hmf : ∀ (fn : Fn) (first cap : Array Value) (w : World), (Instr.makeFunc fn first cap).run Tryd.prog w = .ok (.func fn first cap) w := fun _ _ _ _ => rfl
  obtain ⟨W0, hW0, hB0, hB1, hB2, hB3, hRes, hb0, hs0⟩ := set_boxes Nb ab lb cb at_ m on w
  have hent : ∀ (args : Array Value) (w : World), (callFunc 48 args).run Tryd.prog w = .ok (.enter 48 args) w := enters_of Tryd.func48 (by kernel_rfl) rfl
  have C := call_bits_ok 48 #[.pointer (some ⟨w.heap.size, 0, none⟩), .pointer (some ⟨w.heap.size + 1, 0, none⟩), .pointer (some ⟨w.heap.size + 2, 0, none⟩), .pointer (some ⟨w.heap.size + 3, 0, none⟩)] r (fun a l c W => Own W (W0.heap.size + 2) (.slice a l c) X) W0 hent (fun a l c W W' hO hk hs => hO.keep (fun k hk2 => hk k (by omega) (by omega)))
    (fun W hb hlt => (h W (hb0.trans (hb.mono (by omega))) (hB0.below hb (by omega)) (hB1.below hb (by omega)) (hB2.below hb (by omega)) (hB3.below hb (by omega))).mono (by
      rintro e w' ⟨a, l, c, rfl, ho, hb'⟩
      exact ⟨a, l, c, rfl, ho.mono (by omega), hb'⟩))
  have HC := Lib.hid C
  have HW := Lib.hid hW0
  have Hb := Lib.hid hb0
  have Hs := Lib.hid hs0
  have HRes := Lib.hid hRes
  clear C hW0 hb0 hs0 hB0 hB1 hB2 hB3 hRes h hent
  go_enter Tryd.func15, Tryd.ntmps15
  go_upto_region 1 with fail
  rw [HW.out]
  go_wp2_with fail
  refine HC.out.mono ?_
  rintro e w1 ⟨a, l, c, rfl, ho, hb⟩
  have HO := Lib.hid ho
  have hR1 : Blk w1 (w.heap.size + 4) 24 #[.int .i64 0, .slice none 0 0] := HRes.out.below hb HRes.out.lt
  have Hb1 := Lib.hid (Hb.out.trans (hb.mono Hb.out.size))
  have HR1 := Lib.hid hR1
  have f0 := hR1.frozen 0
  have f1 := hR1.frozen 1
  have k0 : w1.cell? ⟨w.heap.size + 4, 0, none⟩ = some (.int .i64 0) := hR1.cell 0
  have k1 : w1.cell? ⟨w.heap.size + 4, 1, none⟩ = some (.slice none 0 0) := hR1.cell 1
  clear hb hR1 HC HW Hb HRes ho
  go_wp2_with fail
  rw [cells2 HR1.out]
  obtain ⟨V, hV, rV, bV, sV, oV⟩ := filled HR1.out #[.int .i64 r, .slice a l c]
  rw [hV]
  clear f0 f1 k0 k1
  have z0 : V.cell? ⟨w.heap.size + 4, 0, none⟩ = some (.int .i64 r) := (show Blk V _ 24 _ from rV).cell 0
  have z1 : V.cell? ⟨w.heap.size + 4, 1, none⟩ = some (.slice a l c) := (show Blk V _ 24 _ from rV).cell 1
  have HZ : Hid (Own V w.heap.size (.slice a l c) X ∧ Below w.heap.size w V) := Lib.hid ⟨(HO.out.other oV (by have := Hs.out; omega)).mono (by have := Hs.out; omega), Hb1.out.trans (bV.mono (by omega))⟩
  clear HR1 Hb1 rV bV sV oV hV HO
  simp [bodyPost, results, Tryd.results15, go_sem, z0, z1]
  exact ⟨a, l, c, ⟨rfl, rfl, rfl⟩, HZ.out.1, HZ.out.2⟩
set_option maxRecDepth 100000 in
set_option maxHeartbeats 2000000 in
theorem set_lift_bad (Nb : Int) (ab : Option Addr) (lb cb : Nat) (at_ : Int) (m : Int) (on : Bool) (er : Int) (w : World) (h : ∀ W, Below w.heap.size w W → Blk W (w.heap.size) 24 #[.int .i64 Nb, .slice ab lb cb] → Blk W (w.heap.size + 1) 3 #[.int .i64 at_] → Blk W (w.heap.size + 2) 3 #[.int .i64 m] → Blk W (w.heap.size + 3) 4 #[.bool on] → Calls Tryd.prog 48 #[.pointer (some ⟨w.heap.size, 0, none⟩), .pointer (some ⟨w.heap.size + 1, 0, none⟩), .pointer (some ⟨w.heap.size + 2, 0, none⟩), .pointer (some ⟨w.heap.size + 3, 0, none⟩)] W fun e w' => e = pan er ∧ Below W.heap.size W w') :
    Calls Tryd.prog 15 #[.agg #[.int .i64 Nb, .slice ab lb cb], .int .i64 at_, .int .i64 m, .bool on] w fun e w' => e = .returned (.tuple #[.agg #[.int .i64 0, .slice none 0 0], .int .i64 er]) ∧ Below w.heap.size w w' := by
  have hmf : ∀ (fn : Fn) (first cap : Array Value) (w : World), (Instr.makeFunc fn first cap).run Tryd.prog w = .ok (.func fn first cap) w := fun _ _ _ _ => rfl
  obtain ⟨W0, hW0, hB0, hB1, hB2, hB3, hRes, hb0, hs0⟩ := set_boxes Nb ab lb cb at_ m on w
  have hent : ∀ (args : Array Value) (w : World), (callFunc 48 args).run Tryd.prog w = .ok (.enter 48 args) w := enters_of Tryd.func48 (by kernel_rfl) rfl
  have C := call_bits_bad 48 #[.pointer (some ⟨w.heap.size, 0, none⟩), .pointer (some ⟨w.heap.size + 1, 0, none⟩), .pointer (some ⟨w.heap.size + 2, 0, none⟩), .pointer (some ⟨w.heap.size + 3, 0, none⟩)] er W0 hent (fun W hb hlt => h W (hb0.trans (hb.mono (by omega))) (hB0.below hb (by omega)) (hB1.below hb (by omega)) (hB2.below hb (by omega)) (hB3.below hb (by omega)))
  have HC := Lib.hid C
  have HW := Lib.hid hW0
  have Hb := Lib.hid hb0
  have Hs := Lib.hid hs0
  have HRes := Lib.hid hRes
  clear C hW0 hb0 hs0 hB0 hB1 hB2 hB3 hRes h hent
  go_enter Tryd.func15, Tryd.ntmps15
  go_upto_region 1 with fail
  rw [HW.out]
  go_wp2_with fail
  refine HC.out.mono ?_
  rintro e w1 ⟨rfl, hb⟩
  have hR1 : Blk w1 (w.heap.size + 4) 24 #[.int .i64 0, .slice none 0 0] := HRes.out.below hb HRes.out.lt
  have Hb1 := Lib.hid (Hb.out.trans (hb.mono Hb.out.size))
  have HR1 := Lib.hid hR1
  have f0 := hR1.frozen 0
  have f1 := hR1.frozen 1
  have k0 : w1.cell? ⟨w.heap.size + 4, 0, none⟩ = some (.int .i64 0) := hR1.cell 0
  have k1 : w1.cell? ⟨w.heap.size + 4, 1, none⟩ = some (.slice none 0 0) := hR1.cell 1
  clear hb hR1 HC HW Hb HRes
  go_wp2_with fail
  rw [cells2 HR1.out]
  obtain ⟨V, hV, rV, bV, sV, oV⟩ := filled HR1.out #[.int .i64 0, .slice none 0 0]
  rw [hV]
  clear f0 f1 k0 k1
  have z0 : V.cell? ⟨w.heap.size + 4, 0, none⟩ = some (.int .i64 0) := (show Blk V _ 24 _ from rV).cell 0
  have z1 : V.cell? ⟨w.heap.size + 4, 1, none⟩ = some (.slice none 0 0) := (show Blk V _ 24 _ from rV).cell 1
  have HZ : Hid (Below w.heap.size w V) := Lib.hid (Hb1.out.trans (bV.mono (by omega)))
  clear HR1 Hb1 rV bV sV oV hV
  simp [bodyPost, results, Tryd.results15, go_sem, z0, z1]
  exact HZ.out

/-- The boxes of Count. -/
theorem count_boxes (Nb : Int) (ab : Option Addr) (lb cb : Nat) (at_ : Int) (m : Int) (w : World) : ∃ W0, ((w.alloc (.cells #[.int .i64 Nb, .slice ab lb cb] 24)).alloc (.cells #[.int .i64 at_] 3)).alloc (.cells #[.int .i64 m] 3) = W0 ∧ Blk W0 (w.heap.size) 24 #[.int .i64 Nb, .slice ab lb cb] ∧ Blk W0 (w.heap.size + 1) 3 #[.int .i64 at_] ∧ Blk W0 (w.heap.size + 2) 3 #[.int .i64 m] ∧ Below w.heap.size w W0 ∧ W0.heap.size = w.heap.size + 3 := by
  refine ⟨_, rfl, ?_, ?_, ?_, ?_, by simp⟩
  · have h := heap_new w (.cells #[.int .i64 Nb, .slice ab lb cb] 24)
    have h0 : Blk (w.alloc (.cells #[.int .i64 Nb, .slice ab lb cb] 24)) (w.heap.size) 24 #[.int .i64 Nb, .slice ab lb cb] := h
    have h1 : Blk ((w.alloc (.cells #[.int .i64 Nb, .slice ab lb cb] 24)).alloc (.cells #[.int .i64 at_] 3)) (w.heap.size) 24 #[.int .i64 Nb, .slice ab lb cb] := h0.below ((Below.refl _ _).alloc (Nat.le_refl _) _) (by first | (simp only [World.size_alloc]; omega) | omega)
    have h2 : Blk (((w.alloc (.cells #[.int .i64 Nb, .slice ab lb cb] 24)).alloc (.cells #[.int .i64 at_] 3)).alloc (.cells #[.int .i64 m] 3)) (w.heap.size) 24 #[.int .i64 Nb, .slice ab lb cb] := h1.below ((Below.refl _ _).alloc (Nat.le_refl _) _) (by first | (simp only [World.size_alloc]; omega) | omega)
    exact h2
  · have h := heap_new (w.alloc (.cells #[.int .i64 Nb, .slice ab lb cb] 24)) (.cells #[.int .i64 at_] 3)
    simp only [World.size_alloc] at h
    have h0 : Blk ((w.alloc (.cells #[.int .i64 Nb, .slice ab lb cb] 24)).alloc (.cells #[.int .i64 at_] 3)) (w.heap.size + 1) 3 #[.int .i64 at_] := h
    have h2 : Blk (((w.alloc (.cells #[.int .i64 Nb, .slice ab lb cb] 24)).alloc (.cells #[.int .i64 at_] 3)).alloc (.cells #[.int .i64 m] 3)) (w.heap.size + 1) 3 #[.int .i64 at_] := h0.below ((Below.refl _ _).alloc (Nat.le_refl _) _) (by first | (simp only [World.size_alloc]; omega) | omega)
    exact h2
  · have h := heap_new ((w.alloc (.cells #[.int .i64 Nb, .slice ab lb cb] 24)).alloc (.cells #[.int .i64 at_] 3)) (.cells #[.int .i64 m] 3)
    simp only [World.size_alloc] at h
    have h0 : Blk (((w.alloc (.cells #[.int .i64 Nb, .slice ab lb cb] 24)).alloc (.cells #[.int .i64 at_] 3)).alloc (.cells #[.int .i64 m] 3)) (w.heap.size + 2) 3 #[.int .i64 m] := h
    exact h0
  · exact (((Below.refl _ w).alloc (by first | (simp only [World.size_alloc]; omega) | omega) _).alloc (by first | (simp only [World.size_alloc]; omega) | omega) _).alloc (by first | (simp only [World.size_alloc]; omega) | omega) _
set_option maxRecDepth 100000 in
set_option maxHeartbeats 2000000 in
theorem count_lift_ok (Nb : Int) (ab : Option Addr) (lb cb : Nat) (at_ : Int) (m : Int) (r : Int) (w : World) (h : ∀ W, Below w.heap.size w W → Blk W (w.heap.size) 24 #[.int .i64 Nb, .slice ab lb cb] → Blk W (w.heap.size + 1) 3 #[.int .i64 at_] → Blk W (w.heap.size + 2) 3 #[.int .i64 m] → Calls Tryd.prog 52 #[.pointer (some ⟨w.heap.size, 0, none⟩), .pointer (some ⟨w.heap.size + 1, 0, none⟩), .pointer (some ⟨w.heap.size + 2, 0, none⟩)] W fun e w' => e = .returned (.int .i64 r) ∧ Below W.heap.size W w') :
    Calls Tryd.prog 16 #[.agg #[.int .i64 Nb, .slice ab lb cb], .int .i64 at_, .int .i64 m] w fun e w' => e = .returned (.tuple #[.int .i64 r, .int .i64 0]) ∧ Below w.heap.size w w' := by
  have hmf : ∀ (fn : Fn) (first cap : Array Value) (w : World), (Instr.makeFunc fn first cap).run Tryd.prog w = .ok (.func fn first cap) w := fun _ _ _ _ => rfl
  obtain ⟨W0, hW0, hB0, hB1, hB2, hb0, hs0⟩ := count_boxes Nb ab lb cb at_ m w
  have hent : ∀ (args : Array Value) (w : World), (callFunc 52 args).run Tryd.prog w = .ok (.enter 52 args) w := enters_of Tryd.func52 (by kernel_rfl) rfl
  have C := call_int_ok 52 #[.pointer (some ⟨w.heap.size, 0, none⟩), .pointer (some ⟨w.heap.size + 1, 0, none⟩), .pointer (some ⟨w.heap.size + 2, 0, none⟩)] r (fun _ => True) W0 hent (fun _ _ _ _ _ => trivial)
    (fun W hb hlt => (h W (hb0.trans (hb.mono (by omega))) (hB0.below hb (by omega)) (hB1.below hb (by omega)) (hB2.below hb (by omega))).mono (by
      rintro e w' ⟨rfl, hb'⟩
      exact ⟨rfl, trivial, hb'⟩))
  have HC := Lib.hid C
  have HW := Lib.hid hW0
  have Hb := Lib.hid hb0
  have Hs := Lib.hid hs0
  clear C hW0 hb0 hs0 hB0 hB1 hB2 h hent
  go_enter Tryd.func16, Tryd.ntmps16
  go_upto_region 1 with fail
  rw [HW.out]
  go_wp2_with fail
  refine HC.out.mono ?_
  rintro e w1 ⟨rfl, -, hb⟩
  have Hb1 := Lib.hid (Hb.out.trans (hb.mono Hb.out.size))
  clear hb HC HW Hb
  go_wp2_with fail
  go_ret2
  exact ⟨rfl, Hb1.out⟩
set_option maxRecDepth 100000 in
set_option maxHeartbeats 2000000 in
theorem count_lift_bad (Nb : Int) (ab : Option Addr) (lb cb : Nat) (at_ : Int) (m : Int) (er : Int) (w : World) (h : ∀ W, Below w.heap.size w W → Blk W (w.heap.size) 24 #[.int .i64 Nb, .slice ab lb cb] → Blk W (w.heap.size + 1) 3 #[.int .i64 at_] → Blk W (w.heap.size + 2) 3 #[.int .i64 m] → Calls Tryd.prog 52 #[.pointer (some ⟨w.heap.size, 0, none⟩), .pointer (some ⟨w.heap.size + 1, 0, none⟩), .pointer (some ⟨w.heap.size + 2, 0, none⟩)] W fun e w' => e = pan er ∧ Below W.heap.size W w') :
    Calls Tryd.prog 16 #[.agg #[.int .i64 Nb, .slice ab lb cb], .int .i64 at_, .int .i64 m] w fun e w' => e = .returned (.tuple #[.int .i64 0, .int .i64 er]) ∧ Below w.heap.size w w' := by
  have hmf : ∀ (fn : Fn) (first cap : Array Value) (w : World), (Instr.makeFunc fn first cap).run Tryd.prog w = .ok (.func fn first cap) w := fun _ _ _ _ => rfl
  obtain ⟨W0, hW0, hB0, hB1, hB2, hb0, hs0⟩ := count_boxes Nb ab lb cb at_ m w
  have hent : ∀ (args : Array Value) (w : World), (callFunc 52 args).run Tryd.prog w = .ok (.enter 52 args) w := enters_of Tryd.func52 (by kernel_rfl) rfl
  have C := call_int_bad 52 #[.pointer (some ⟨w.heap.size, 0, none⟩), .pointer (some ⟨w.heap.size + 1, 0, none⟩), .pointer (some ⟨w.heap.size + 2, 0, none⟩)] er W0 hent (fun W hb hlt => h W (hb0.trans (hb.mono (by omega))) (hB0.below hb (by omega)) (hB1.below hb (by omega)) (hB2.below hb (by omega)))
  have HC := Lib.hid C
  have HW := Lib.hid hW0
  have Hb := Lib.hid hb0
  have Hs := Lib.hid hs0
  clear C hW0 hb0 hs0 hB0 hB1 hB2 h hent
  go_enter Tryd.func16, Tryd.ntmps16
  go_upto_region 1 with fail
  rw [HW.out]
  go_wp2_with fail
  refine HC.out.mono ?_
  rintro e w1 ⟨rfl, hb⟩
  have Hb1 := Lib.hid (Hb.out.trans (hb.mono Hb.out.size))
  clear hb HC HW Hb
  go_wp2_with fail
  go_ret2
  exact ⟨rfl, Hb1.out⟩

/-- The boxes of Resize. -/
theorem resize_boxes (Nb : Int) (ab : Option Addr) (lb cb : Nat) (n : Int) (w : World) : ∃ W0, ((w.alloc (.cells #[.int .i64 Nb, .slice ab lb cb] 24)).alloc (.cells #[.int .i64 n] 3)).alloc (.cells #[.int .i64 0, .slice none 0 0] 24) = W0 ∧ Blk W0 (w.heap.size) 24 #[.int .i64 Nb, .slice ab lb cb] ∧ Blk W0 (w.heap.size + 1) 3 #[.int .i64 n] ∧ Blk W0 (w.heap.size + 2) 24 #[.int .i64 0, .slice none 0 0] ∧ Below w.heap.size w W0 ∧ W0.heap.size = w.heap.size + 3 := by
  refine ⟨_, rfl, ?_, ?_, ?_, ?_, by simp⟩
  · have h := heap_new w (.cells #[.int .i64 Nb, .slice ab lb cb] 24)
    have h0 : Blk (w.alloc (.cells #[.int .i64 Nb, .slice ab lb cb] 24)) (w.heap.size) 24 #[.int .i64 Nb, .slice ab lb cb] := h
    have h1 : Blk ((w.alloc (.cells #[.int .i64 Nb, .slice ab lb cb] 24)).alloc (.cells #[.int .i64 n] 3)) (w.heap.size) 24 #[.int .i64 Nb, .slice ab lb cb] := h0.below ((Below.refl _ _).alloc (Nat.le_refl _) _) (by first | (simp only [World.size_alloc]; omega) | omega)
    have h2 : Blk (((w.alloc (.cells #[.int .i64 Nb, .slice ab lb cb] 24)).alloc (.cells #[.int .i64 n] 3)).alloc (.cells #[.int .i64 0, .slice none 0 0] 24)) (w.heap.size) 24 #[.int .i64 Nb, .slice ab lb cb] := h1.below ((Below.refl _ _).alloc (Nat.le_refl _) _) (by first | (simp only [World.size_alloc]; omega) | omega)
    exact h2
  · have h := heap_new (w.alloc (.cells #[.int .i64 Nb, .slice ab lb cb] 24)) (.cells #[.int .i64 n] 3)
    simp only [World.size_alloc] at h
    have h0 : Blk ((w.alloc (.cells #[.int .i64 Nb, .slice ab lb cb] 24)).alloc (.cells #[.int .i64 n] 3)) (w.heap.size + 1) 3 #[.int .i64 n] := h
    have h2 : Blk (((w.alloc (.cells #[.int .i64 Nb, .slice ab lb cb] 24)).alloc (.cells #[.int .i64 n] 3)).alloc (.cells #[.int .i64 0, .slice none 0 0] 24)) (w.heap.size + 1) 3 #[.int .i64 n] := h0.below ((Below.refl _ _).alloc (Nat.le_refl _) _) (by first | (simp only [World.size_alloc]; omega) | omega)
    exact h2
  · have h := heap_new ((w.alloc (.cells #[.int .i64 Nb, .slice ab lb cb] 24)).alloc (.cells #[.int .i64 n] 3)) (.cells #[.int .i64 0, .slice none 0 0] 24)
    simp only [World.size_alloc] at h
    have h0 : Blk (((w.alloc (.cells #[.int .i64 Nb, .slice ab lb cb] 24)).alloc (.cells #[.int .i64 n] 3)).alloc (.cells #[.int .i64 0, .slice none 0 0] 24)) (w.heap.size + 2) 24 #[.int .i64 0, .slice none 0 0] := h
    exact h0
  · exact (((Below.refl _ w).alloc (by first | (simp only [World.size_alloc]; omega) | omega) _).alloc (by first | (simp only [World.size_alloc]; omega) | omega) _).alloc (by first | (simp only [World.size_alloc]; omega) | omega) _
set_option maxRecDepth 100000 in
set_option maxHeartbeats 2000000 in
theorem resize_lift_ok (Nb : Int) (ab : Option Addr) (lb cb : Nat) (n : Int) (r : Int) (X : List Int) (w : World) (h : ∀ W, Below w.heap.size w W → Blk W (w.heap.size) 24 #[.int .i64 Nb, .slice ab lb cb] → Blk W (w.heap.size + 1) 3 #[.int .i64 n] → Calls Tryd.prog 63 #[.pointer (some ⟨w.heap.size, 0, none⟩), .pointer (some ⟨w.heap.size + 1, 0, none⟩)] W fun e w' => ∃ a l c, e = .returned (.agg #[.int .i64 r, .slice a l c]) ∧ Own w' W.heap.size (.slice a l c) X ∧ Below W.heap.size W w') :
    Calls Tryd.prog 28 #[.agg #[.int .i64 Nb, .slice ab lb cb], .int .i64 n] w fun e w' => ∃ a l c, e = .returned (.tuple #[.agg #[.int .i64 r, .slice a l c], .int .i64 0]) ∧ Own w' w.heap.size (.slice a l c) X ∧ Below w.heap.size w w' := by
  have hmf : ∀ (fn : Fn) (first cap : Array Value) (w : World), (Instr.makeFunc fn first cap).run Tryd.prog w = .ok (.func fn first cap) w := fun _ _ _ _ => rfl
  obtain ⟨W0, hW0, hB0, hB1, hRes, hb0, hs0⟩ := resize_boxes Nb ab lb cb n w
  have hent : ∀ (args : Array Value) (w : World), (callFunc 63 args).run Tryd.prog w = .ok (.enter 63 args) w := enters_of Tryd.func63 (by kernel_rfl) rfl
  have C := call_bits_ok 63 #[.pointer (some ⟨w.heap.size, 0, none⟩), .pointer (some ⟨w.heap.size + 1, 0, none⟩)] r (fun a l c W => Own W (W0.heap.size + 2) (.slice a l c) X) W0 hent (fun a l c W W' hO hk hs => hO.keep (fun k hk2 => hk k (by omega) (by omega)))
    (fun W hb hlt => (h W (hb0.trans (hb.mono (by omega))) (hB0.below hb (by omega)) (hB1.below hb (by omega))).mono (by
      rintro e w' ⟨a, l, c, rfl, ho, hb'⟩
      exact ⟨a, l, c, rfl, ho.mono (by omega), hb'⟩))
  have HC := Lib.hid C
  have HW := Lib.hid hW0
  have Hb := Lib.hid hb0
  have Hs := Lib.hid hs0
  have HRes := Lib.hid hRes
  clear C hW0 hb0 hs0 hB0 hB1 hRes h hent
  go_enter Tryd.func28, Tryd.ntmps28
  go_upto_region 1 with fail
  rw [HW.out]
  go_wp2_with fail
  refine HC.out.mono ?_
  rintro e w1 ⟨a, l, c, rfl, ho, hb⟩
  have HO := Lib.hid ho
  have hR1 : Blk w1 (w.heap.size + 2) 24 #[.int .i64 0, .slice none 0 0] := HRes.out.below hb HRes.out.lt
  have Hb1 := Lib.hid (Hb.out.trans (hb.mono Hb.out.size))
  have HR1 := Lib.hid hR1
  have f0 := hR1.frozen 0
  have f1 := hR1.frozen 1
  have k0 : w1.cell? ⟨w.heap.size + 2, 0, none⟩ = some (.int .i64 0) := hR1.cell 0
  have k1 : w1.cell? ⟨w.heap.size + 2, 1, none⟩ = some (.slice none 0 0) := hR1.cell 1
  clear hb hR1 HC HW Hb HRes ho
  go_wp2_with fail
  rw [cells2 HR1.out]
  obtain ⟨V, hV, rV, bV, sV, oV⟩ := filled HR1.out #[.int .i64 r, .slice a l c]
  rw [hV]
  clear f0 f1 k0 k1
  have z0 : V.cell? ⟨w.heap.size + 2, 0, none⟩ = some (.int .i64 r) := (show Blk V _ 24 _ from rV).cell 0
  have z1 : V.cell? ⟨w.heap.size + 2, 1, none⟩ = some (.slice a l c) := (show Blk V _ 24 _ from rV).cell 1
  have HZ : Hid (Own V w.heap.size (.slice a l c) X ∧ Below w.heap.size w V) := Lib.hid ⟨(HO.out.other oV (by have := Hs.out; omega)).mono (by have := Hs.out; omega), Hb1.out.trans (bV.mono (by omega))⟩
  clear HR1 Hb1 rV bV sV oV hV HO
  simp [bodyPost, results, Tryd.results28, go_sem, z0, z1]
  exact ⟨a, l, c, ⟨rfl, rfl, rfl⟩, HZ.out.1, HZ.out.2⟩
set_option maxRecDepth 100000 in
set_option maxHeartbeats 2000000 in
theorem resize_lift_bad (Nb : Int) (ab : Option Addr) (lb cb : Nat) (n : Int) (er : Int) (w : World) (h : ∀ W, Below w.heap.size w W → Blk W (w.heap.size) 24 #[.int .i64 Nb, .slice ab lb cb] → Blk W (w.heap.size + 1) 3 #[.int .i64 n] → Calls Tryd.prog 63 #[.pointer (some ⟨w.heap.size, 0, none⟩), .pointer (some ⟨w.heap.size + 1, 0, none⟩)] W fun e w' => e = pan er ∧ Below W.heap.size W w') :
    Calls Tryd.prog 28 #[.agg #[.int .i64 Nb, .slice ab lb cb], .int .i64 n] w fun e w' => e = .returned (.tuple #[.agg #[.int .i64 0, .slice none 0 0], .int .i64 er]) ∧ Below w.heap.size w w' := by
  have hmf : ∀ (fn : Fn) (first cap : Array Value) (w : World), (Instr.makeFunc fn first cap).run Tryd.prog w = .ok (.func fn first cap) w := fun _ _ _ _ => rfl
  obtain ⟨W0, hW0, hB0, hB1, hRes, hb0, hs0⟩ := resize_boxes Nb ab lb cb n w
  have hent : ∀ (args : Array Value) (w : World), (callFunc 63 args).run Tryd.prog w = .ok (.enter 63 args) w := enters_of Tryd.func63 (by kernel_rfl) rfl
  have C := call_bits_bad 63 #[.pointer (some ⟨w.heap.size, 0, none⟩), .pointer (some ⟨w.heap.size + 1, 0, none⟩)] er W0 hent (fun W hb hlt => h W (hb0.trans (hb.mono (by omega))) (hB0.below hb (by omega)) (hB1.below hb (by omega)))
  have HC := Lib.hid C
  have HW := Lib.hid hW0
  have Hb := Lib.hid hb0
  have Hs := Lib.hid hs0
  have HRes := Lib.hid hRes
  clear C hW0 hb0 hs0 hB0 hB1 hRes h hent
  go_enter Tryd.func28, Tryd.ntmps28
  go_upto_region 1 with fail
  rw [HW.out]
  go_wp2_with fail
  refine HC.out.mono ?_
  rintro e w1 ⟨rfl, hb⟩
  have hR1 : Blk w1 (w.heap.size + 2) 24 #[.int .i64 0, .slice none 0 0] := HRes.out.below hb HRes.out.lt
  have Hb1 := Lib.hid (Hb.out.trans (hb.mono Hb.out.size))
  have HR1 := Lib.hid hR1
  have f0 := hR1.frozen 0
  have f1 := hR1.frozen 1
  have k0 : w1.cell? ⟨w.heap.size + 2, 0, none⟩ = some (.int .i64 0) := hR1.cell 0
  have k1 : w1.cell? ⟨w.heap.size + 2, 1, none⟩ = some (.slice none 0 0) := hR1.cell 1
  clear hb hR1 HC HW Hb HRes
  go_wp2_with fail
  rw [cells2 HR1.out]
  obtain ⟨V, hV, rV, bV, sV, oV⟩ := filled HR1.out #[.int .i64 0, .slice none 0 0]
  rw [hV]
  clear f0 f1 k0 k1
  have z0 : V.cell? ⟨w.heap.size + 2, 0, none⟩ = some (.int .i64 0) := (show Blk V _ 24 _ from rV).cell 0
  have z1 : V.cell? ⟨w.heap.size + 2, 1, none⟩ = some (.slice none 0 0) := (show Blk V _ 24 _ from rV).cell 1
  have HZ : Hid (Below w.heap.size w V) := Lib.hid (Hb1.out.trans (bV.mono (by omega)))
  clear HR1 Hb1 rV bV sV oV hV
  simp [bodyPost, results, Tryd.results28, go_sem, z0, z1]
  exact HZ.out

/-- The boxes of Not. -/
theorem not_boxes (Nb : Int) (ab : Option Addr) (lb cb : Nat) (w : World) : ∃ W0, (w.alloc (.cells #[.int .i64 Nb, .slice ab lb cb] 24)).alloc (.cells #[.int .i64 0, .slice none 0 0] 24) = W0 ∧ Blk W0 (w.heap.size) 24 #[.int .i64 Nb, .slice ab lb cb] ∧ Blk W0 (w.heap.size + 1) 24 #[.int .i64 0, .slice none 0 0] ∧ Below w.heap.size w W0 ∧ W0.heap.size = w.heap.size + 2 := by
  refine ⟨_, rfl, ?_, ?_, ?_, by simp⟩
  · have h := heap_new w (.cells #[.int .i64 Nb, .slice ab lb cb] 24)
    have h0 : Blk (w.alloc (.cells #[.int .i64 Nb, .slice ab lb cb] 24)) (w.heap.size) 24 #[.int .i64 Nb, .slice ab lb cb] := h
    have h1 : Blk ((w.alloc (.cells #[.int .i64 Nb, .slice ab lb cb] 24)).alloc (.cells #[.int .i64 0, .slice none 0 0] 24)) (w.heap.size) 24 #[.int .i64 Nb, .slice ab lb cb] := h0.below ((Below.refl _ _).alloc (Nat.le_refl _) _) (by first | (simp only [World.size_alloc]; omega) | omega)
    exact h1
  · have h := heap_new (w.alloc (.cells #[.int .i64 Nb, .slice ab lb cb] 24)) (.cells #[.int .i64 0, .slice none 0 0] 24)
    simp only [World.size_alloc] at h
    have h0 : Blk ((w.alloc (.cells #[.int .i64 Nb, .slice ab lb cb] 24)).alloc (.cells #[.int .i64 0, .slice none 0 0] 24)) (w.heap.size + 1) 24 #[.int .i64 0, .slice none 0 0] := h
    exact h0
  · exact ((Below.refl _ w).alloc (by first | (simp only [World.size_alloc]; omega) | omega) _).alloc (by first | (simp only [World.size_alloc]; omega) | omega) _
set_option maxRecDepth 100000 in
set_option maxHeartbeats 2000000 in
theorem not_lift_ok (Nb : Int) (ab : Option Addr) (lb cb : Nat) (r : Int) (X : List Int) (w : World) (h : ∀ W, Below w.heap.size w W → Blk W (w.heap.size) 24 #[.int .i64 Nb, .slice ab lb cb] → Calls Tryd.prog 70 #[.pointer (some ⟨w.heap.size, 0, none⟩)] W fun e w' => ∃ a l c, e = .returned (.agg #[.int .i64 r, .slice a l c]) ∧ Own w' W.heap.size (.slice a l c) X ∧ Below W.heap.size W w') :
    Calls Tryd.prog 33 #[.agg #[.int .i64 Nb, .slice ab lb cb]] w fun e w' => ∃ a l c, e = .returned (.tuple #[.agg #[.int .i64 r, .slice a l c], .int .i64 0]) ∧ Own w' w.heap.size (.slice a l c) X ∧ Below w.heap.size w w' := by
  have hmf : ∀ (fn : Fn) (first cap : Array Value) (w : World), (Instr.makeFunc fn first cap).run Tryd.prog w = .ok (.func fn first cap) w := fun _ _ _ _ => rfl
  obtain ⟨W0, hW0, hB0, hRes, hb0, hs0⟩ := not_boxes Nb ab lb cb w
  have hent : ∀ (args : Array Value) (w : World), (callFunc 70 args).run Tryd.prog w = .ok (.enter 70 args) w := enters_of Tryd.func70 (by kernel_rfl) rfl
  have C := call_bits_ok 70 #[.pointer (some ⟨w.heap.size, 0, none⟩)] r (fun a l c W => Own W (W0.heap.size + 2) (.slice a l c) X) W0 hent (fun a l c W W' hO hk hs => hO.keep (fun k hk2 => hk k (by omega) (by omega)))
    (fun W hb hlt => (h W (hb0.trans (hb.mono (by omega))) (hB0.below hb (by omega))).mono (by
      rintro e w' ⟨a, l, c, rfl, ho, hb'⟩
      exact ⟨a, l, c, rfl, ho.mono (by omega), hb'⟩))
  have HC := Lib.hid C
  have HW := Lib.hid hW0
  have Hb := Lib.hid hb0
  have Hs := Lib.hid hs0
  have HRes := Lib.hid hRes
  clear C hW0 hb0 hs0 hB0 hRes h hent
  go_enter Tryd.func33, Tryd.ntmps33
  go_upto_region 1 with fail
  rw [HW.out]
  go_wp2_with fail
  refine HC.out.mono ?_
  rintro e w1 ⟨a, l, c, rfl, ho, hb⟩
  have HO := Lib.hid ho
  have hR1 : Blk w1 (w.heap.size + 1) 24 #[.int .i64 0, .slice none 0 0] := HRes.out.below hb HRes.out.lt
  have Hb1 := Lib.hid (Hb.out.trans (hb.mono Hb.out.size))
  have HR1 := Lib.hid hR1
  have f0 := hR1.frozen 0
  have f1 := hR1.frozen 1
  have k0 : w1.cell? ⟨w.heap.size + 1, 0, none⟩ = some (.int .i64 0) := hR1.cell 0
  have k1 : w1.cell? ⟨w.heap.size + 1, 1, none⟩ = some (.slice none 0 0) := hR1.cell 1
  clear hb hR1 HC HW Hb HRes ho
  go_wp2_with fail
  rw [cells2 HR1.out]
  obtain ⟨V, hV, rV, bV, sV, oV⟩ := filled HR1.out #[.int .i64 r, .slice a l c]
  rw [hV]
  clear f0 f1 k0 k1
  have z0 : V.cell? ⟨w.heap.size + 1, 0, none⟩ = some (.int .i64 r) := (show Blk V _ 24 _ from rV).cell 0
  have z1 : V.cell? ⟨w.heap.size + 1, 1, none⟩ = some (.slice a l c) := (show Blk V _ 24 _ from rV).cell 1
  have HZ : Hid (Own V w.heap.size (.slice a l c) X ∧ Below w.heap.size w V) := Lib.hid ⟨(HO.out.other oV (by have := Hs.out; omega)).mono (by have := Hs.out; omega), Hb1.out.trans (bV.mono (by omega))⟩
  clear HR1 Hb1 rV bV sV oV hV HO
  simp [bodyPost, results, Tryd.results33, go_sem, z0, z1]
  exact ⟨a, l, c, ⟨rfl, rfl, rfl⟩, HZ.out.1, HZ.out.2⟩
set_option maxRecDepth 100000 in
set_option maxHeartbeats 2000000 in
theorem not_lift_bad (Nb : Int) (ab : Option Addr) (lb cb : Nat) (er : Int) (w : World) (h : ∀ W, Below w.heap.size w W → Blk W (w.heap.size) 24 #[.int .i64 Nb, .slice ab lb cb] → Calls Tryd.prog 70 #[.pointer (some ⟨w.heap.size, 0, none⟩)] W fun e w' => e = pan er ∧ Below W.heap.size W w') :
    Calls Tryd.prog 33 #[.agg #[.int .i64 Nb, .slice ab lb cb]] w fun e w' => e = .returned (.tuple #[.agg #[.int .i64 0, .slice none 0 0], .int .i64 er]) ∧ Below w.heap.size w w' := by
  have hmf : ∀ (fn : Fn) (first cap : Array Value) (w : World), (Instr.makeFunc fn first cap).run Tryd.prog w = .ok (.func fn first cap) w := fun _ _ _ _ => rfl
  obtain ⟨W0, hW0, hB0, hRes, hb0, hs0⟩ := not_boxes Nb ab lb cb w
  have hent : ∀ (args : Array Value) (w : World), (callFunc 70 args).run Tryd.prog w = .ok (.enter 70 args) w := enters_of Tryd.func70 (by kernel_rfl) rfl
  have C := call_bits_bad 70 #[.pointer (some ⟨w.heap.size, 0, none⟩)] er W0 hent (fun W hb hlt => h W (hb0.trans (hb.mono (by omega))) (hB0.below hb (by omega)))
  have HC := Lib.hid C
  have HW := Lib.hid hW0
  have Hb := Lib.hid hb0
  have Hs := Lib.hid hs0
  have HRes := Lib.hid hRes
  clear C hW0 hb0 hs0 hB0 hRes h hent
  go_enter Tryd.func33, Tryd.ntmps33
  go_upto_region 1 with fail
  rw [HW.out]
  go_wp2_with fail
  refine HC.out.mono ?_
  rintro e w1 ⟨rfl, hb⟩
  have hR1 : Blk w1 (w.heap.size + 1) 24 #[.int .i64 0, .slice none 0 0] := HRes.out.below hb HRes.out.lt
  have Hb1 := Lib.hid (Hb.out.trans (hb.mono Hb.out.size))
  have HR1 := Lib.hid hR1
  have f0 := hR1.frozen 0
  have f1 := hR1.frozen 1
  have k0 : w1.cell? ⟨w.heap.size + 1, 0, none⟩ = some (.int .i64 0) := hR1.cell 0
  have k1 : w1.cell? ⟨w.heap.size + 1, 1, none⟩ = some (.slice none 0 0) := hR1.cell 1
  clear hb hR1 HC HW Hb HRes
  go_wp2_with fail
  rw [cells2 HR1.out]
  obtain ⟨V, hV, rV, bV, sV, oV⟩ := filled HR1.out #[.int .i64 0, .slice none 0 0]
  rw [hV]
  clear f0 f1 k0 k1
  have z0 : V.cell? ⟨w.heap.size + 1, 0, none⟩ = some (.int .i64 0) := (show Blk V _ 24 _ from rV).cell 0
  have z1 : V.cell? ⟨w.heap.size + 1, 1, none⟩ = some (.slice none 0 0) := (show Blk V _ 24 _ from rV).cell 1
  have HZ : Hid (Below w.heap.size w V) := Lib.hid (Hb1.out.trans (bV.mono (by omega)))
  clear HR1 Hb1 rV bV sV oV hV
  simp [bodyPost, results, Tryd.results33, go_sem, z0, z1]
  exact HZ.out

/-- The boxes of joined. -/
theorem joined_boxes (Nb : Int) (ab : Option Addr) (lb cb : Nat) (Nd : Int) (ad : Option Addr) (ld cd : Nat) (of : FuncId) (w : World) : ∃ W0, (((w.alloc (.cells #[.int .i64 Nb, .slice ab lb cb] 24)).alloc (.cells #[.int .i64 Nd, .slice ad ld cd] 24)).alloc (.cells #[.func (.func of) #[] #[]] 89)).alloc (.cells #[.int .i64 0, .slice none 0 0] 24) = W0 ∧ Blk W0 (w.heap.size) 24 #[.int .i64 Nb, .slice ab lb cb] ∧ Blk W0 (w.heap.size + 1) 24 #[.int .i64 Nd, .slice ad ld cd] ∧ Blk W0 (w.heap.size + 2) 89 #[.func (.func of) #[] #[]] ∧ Blk W0 (w.heap.size + 3) 24 #[.int .i64 0, .slice none 0 0] ∧ Below w.heap.size w W0 ∧ W0.heap.size = w.heap.size + 4 := by
  refine ⟨_, rfl, ?_, ?_, ?_, ?_, ?_, by simp⟩
  · have h := heap_new w (.cells #[.int .i64 Nb, .slice ab lb cb] 24)
    have h0 : Blk (w.alloc (.cells #[.int .i64 Nb, .slice ab lb cb] 24)) (w.heap.size) 24 #[.int .i64 Nb, .slice ab lb cb] := h
    have h1 : Blk ((w.alloc (.cells #[.int .i64 Nb, .slice ab lb cb] 24)).alloc (.cells #[.int .i64 Nd, .slice ad ld cd] 24)) (w.heap.size) 24 #[.int .i64 Nb, .slice ab lb cb] := h0.below ((Below.refl _ _).alloc (Nat.le_refl _) _) (by first | (simp only [World.size_alloc]; omega) | omega)
    have h2 : Blk (((w.alloc (.cells #[.int .i64 Nb, .slice ab lb cb] 24)).alloc (.cells #[.int .i64 Nd, .slice ad ld cd] 24)).alloc (.cells #[.func (.func of) #[] #[]] 89)) (w.heap.size) 24 #[.int .i64 Nb, .slice ab lb cb] := h1.below ((Below.refl _ _).alloc (Nat.le_refl _) _) (by first | (simp only [World.size_alloc]; omega) | omega)
    have h3 : Blk ((((w.alloc (.cells #[.int .i64 Nb, .slice ab lb cb] 24)).alloc (.cells #[.int .i64 Nd, .slice ad ld cd] 24)).alloc (.cells #[.func (.func of) #[] #[]] 89)).alloc (.cells #[.int .i64 0, .slice none 0 0] 24)) (w.heap.size) 24 #[.int .i64 Nb, .slice ab lb cb] := h2.below ((Below.refl _ _).alloc (Nat.le_refl _) _) (by first | (simp only [World.size_alloc]; omega) | omega)
    exact h3
  · have h := heap_new (w.alloc (.cells #[.int .i64 Nb, .slice ab lb cb] 24)) (.cells #[.int .i64 Nd, .slice ad ld cd] 24)
    simp only [World.size_alloc] at h
    have h0 : Blk ((w.alloc (.cells #[.int .i64 Nb, .slice ab lb cb] 24)).alloc (.cells #[.int .i64 Nd, .slice ad ld cd] 24)) (w.heap.size + 1) 24 #[.int .i64 Nd, .slice ad ld cd] := h
    have h2 : Blk (((w.alloc (.cells #[.int .i64 Nb, .slice ab lb cb] 24)).alloc (.cells #[.int .i64 Nd, .slice ad ld cd] 24)).alloc (.cells #[.func (.func of) #[] #[]] 89)) (w.heap.size + 1) 24 #[.int .i64 Nd, .slice ad ld cd] := h0.below ((Below.refl _ _).alloc (Nat.le_refl _) _) (by first | (simp only [World.size_alloc]; omega) | omega)
    have h3 : Blk ((((w.alloc (.cells #[.int .i64 Nb, .slice ab lb cb] 24)).alloc (.cells #[.int .i64 Nd, .slice ad ld cd] 24)).alloc (.cells #[.func (.func of) #[] #[]] 89)).alloc (.cells #[.int .i64 0, .slice none 0 0] 24)) (w.heap.size + 1) 24 #[.int .i64 Nd, .slice ad ld cd] := h2.below ((Below.refl _ _).alloc (Nat.le_refl _) _) (by first | (simp only [World.size_alloc]; omega) | omega)
    exact h3
  · have h := heap_new ((w.alloc (.cells #[.int .i64 Nb, .slice ab lb cb] 24)).alloc (.cells #[.int .i64 Nd, .slice ad ld cd] 24)) (.cells #[.func (.func of) #[] #[]] 89)
    simp only [World.size_alloc] at h
    have h0 : Blk (((w.alloc (.cells #[.int .i64 Nb, .slice ab lb cb] 24)).alloc (.cells #[.int .i64 Nd, .slice ad ld cd] 24)).alloc (.cells #[.func (.func of) #[] #[]] 89)) (w.heap.size + 2) 89 #[.func (.func of) #[] #[]] := h
    have h3 : Blk ((((w.alloc (.cells #[.int .i64 Nb, .slice ab lb cb] 24)).alloc (.cells #[.int .i64 Nd, .slice ad ld cd] 24)).alloc (.cells #[.func (.func of) #[] #[]] 89)).alloc (.cells #[.int .i64 0, .slice none 0 0] 24)) (w.heap.size + 2) 89 #[.func (.func of) #[] #[]] := h0.below ((Below.refl _ _).alloc (Nat.le_refl _) _) (by first | (simp only [World.size_alloc]; omega) | omega)
    exact h3
  · have h := heap_new (((w.alloc (.cells #[.int .i64 Nb, .slice ab lb cb] 24)).alloc (.cells #[.int .i64 Nd, .slice ad ld cd] 24)).alloc (.cells #[.func (.func of) #[] #[]] 89)) (.cells #[.int .i64 0, .slice none 0 0] 24)
    simp only [World.size_alloc] at h
    have h0 : Blk ((((w.alloc (.cells #[.int .i64 Nb, .slice ab lb cb] 24)).alloc (.cells #[.int .i64 Nd, .slice ad ld cd] 24)).alloc (.cells #[.func (.func of) #[] #[]] 89)).alloc (.cells #[.int .i64 0, .slice none 0 0] 24)) (w.heap.size + 3) 24 #[.int .i64 0, .slice none 0 0] := h
    exact h0
  · exact ((((Below.refl _ w).alloc (by first | (simp only [World.size_alloc]; omega) | omega) _).alloc (by first | (simp only [World.size_alloc]; omega) | omega) _).alloc (by first | (simp only [World.size_alloc]; omega) | omega) _).alloc (by first | (simp only [World.size_alloc]; omega) | omega) _
set_option maxRecDepth 100000 in
set_option maxHeartbeats 2000000 in
theorem joined_lift_ok (Nb : Int) (ab : Option Addr) (lb cb : Nat) (Nd : Int) (ad : Option Addr) (ld cd : Nat) (of : FuncId) (r : Int) (X : List Int) (w : World) (h : ∀ W, Below w.heap.size w W → Blk W (w.heap.size) 24 #[.int .i64 Nb, .slice ab lb cb] → Blk W (w.heap.size + 1) 24 #[.int .i64 Nd, .slice ad ld cd] → Blk W (w.heap.size + 2) 89 #[.func (.func of) #[] #[]] → Calls Tryd.prog 89 #[.pointer (some ⟨w.heap.size, 0, none⟩), .pointer (some ⟨w.heap.size + 1, 0, none⟩), .pointer (some ⟨w.heap.size + 2, 0, none⟩)] W fun e w' => ∃ a l c, e = .returned (.agg #[.int .i64 r, .slice a l c]) ∧ Own w' W.heap.size (.slice a l c) X ∧ Below W.heap.size W w') :
    Calls Tryd.prog 66 #[.agg #[.int .i64 Nb, .slice ab lb cb], .agg #[.int .i64 Nd, .slice ad ld cd], .func (.func of) #[] #[]] w fun e w' => ∃ a l c, e = .returned (.tuple #[.agg #[.int .i64 r, .slice a l c], .int .i64 0]) ∧ Own w' w.heap.size (.slice a l c) X ∧ Below w.heap.size w w' := by
  have hmf : ∀ (fn : Fn) (first cap : Array Value) (w : World), (Instr.makeFunc fn first cap).run Tryd.prog w = .ok (.func fn first cap) w := fun _ _ _ _ => rfl
  obtain ⟨W0, hW0, hB0, hB1, hB2, hRes, hb0, hs0⟩ := joined_boxes Nb ab lb cb Nd ad ld cd of w
  have hent : ∀ (args : Array Value) (w : World), (callFunc 89 args).run Tryd.prog w = .ok (.enter 89 args) w := enters_of Tryd.func89 (by kernel_rfl) rfl
  have C := call_bits_ok 89 #[.pointer (some ⟨w.heap.size, 0, none⟩), .pointer (some ⟨w.heap.size + 1, 0, none⟩), .pointer (some ⟨w.heap.size + 2, 0, none⟩)] r (fun a l c W => Own W (W0.heap.size + 2) (.slice a l c) X) W0 hent (fun a l c W W' hO hk hs => hO.keep (fun k hk2 => hk k (by omega) (by omega)))
    (fun W hb hlt => (h W (hb0.trans (hb.mono (by omega))) (hB0.below hb (by omega)) (hB1.below hb (by omega)) (hB2.below hb (by omega))).mono (by
      rintro e w' ⟨a, l, c, rfl, ho, hb'⟩
      exact ⟨a, l, c, rfl, ho.mono (by omega), hb'⟩))
  have HC := Lib.hid C
  have HW := Lib.hid hW0
  have Hb := Lib.hid hb0
  have Hs := Lib.hid hs0
  have HRes := Lib.hid hRes
  clear C hW0 hb0 hs0 hB0 hB1 hB2 hRes h hent
  go_enter Tryd.func66, Tryd.ntmps66
  go_upto_region 1 with fail
  rw [HW.out]
  go_wp2_with fail
  refine HC.out.mono ?_
  rintro e w1 ⟨a, l, c, rfl, ho, hb⟩
  have HO := Lib.hid ho
  have hR1 : Blk w1 (w.heap.size + 3) 24 #[.int .i64 0, .slice none 0 0] := HRes.out.below hb HRes.out.lt
  have Hb1 := Lib.hid (Hb.out.trans (hb.mono Hb.out.size))
  have HR1 := Lib.hid hR1
  have f0 := hR1.frozen 0
  have f1 := hR1.frozen 1
  have k0 : w1.cell? ⟨w.heap.size + 3, 0, none⟩ = some (.int .i64 0) := hR1.cell 0
  have k1 : w1.cell? ⟨w.heap.size + 3, 1, none⟩ = some (.slice none 0 0) := hR1.cell 1
  clear hb hR1 HC HW Hb HRes ho
  go_wp2_with fail
  rw [cells2 HR1.out]
  obtain ⟨V, hV, rV, bV, sV, oV⟩ := filled HR1.out #[.int .i64 r, .slice a l c]
  rw [hV]
  clear f0 f1 k0 k1
  have z0 : V.cell? ⟨w.heap.size + 3, 0, none⟩ = some (.int .i64 r) := (show Blk V _ 24 _ from rV).cell 0
  have z1 : V.cell? ⟨w.heap.size + 3, 1, none⟩ = some (.slice a l c) := (show Blk V _ 24 _ from rV).cell 1
  have HZ : Hid (Own V w.heap.size (.slice a l c) X ∧ Below w.heap.size w V) := Lib.hid ⟨(HO.out.other oV (by have := Hs.out; omega)).mono (by have := Hs.out; omega), Hb1.out.trans (bV.mono (by omega))⟩
  clear HR1 Hb1 rV bV sV oV hV HO
  simp [bodyPost, results, Tryd.results66, go_sem, z0, z1]
  exact ⟨a, l, c, ⟨rfl, rfl, rfl⟩, HZ.out.1, HZ.out.2⟩
set_option maxRecDepth 100000 in
set_option maxHeartbeats 2000000 in
theorem joined_lift_bad (Nb : Int) (ab : Option Addr) (lb cb : Nat) (Nd : Int) (ad : Option Addr) (ld cd : Nat) (of : FuncId) (er : Int) (w : World) (h : ∀ W, Below w.heap.size w W → Blk W (w.heap.size) 24 #[.int .i64 Nb, .slice ab lb cb] → Blk W (w.heap.size + 1) 24 #[.int .i64 Nd, .slice ad ld cd] → Blk W (w.heap.size + 2) 89 #[.func (.func of) #[] #[]] → Calls Tryd.prog 89 #[.pointer (some ⟨w.heap.size, 0, none⟩), .pointer (some ⟨w.heap.size + 1, 0, none⟩), .pointer (some ⟨w.heap.size + 2, 0, none⟩)] W fun e w' => e = pan er ∧ Below W.heap.size W w') :
    Calls Tryd.prog 66 #[.agg #[.int .i64 Nb, .slice ab lb cb], .agg #[.int .i64 Nd, .slice ad ld cd], .func (.func of) #[] #[]] w fun e w' => e = .returned (.tuple #[.agg #[.int .i64 0, .slice none 0 0], .int .i64 er]) ∧ Below w.heap.size w w' := by
  have hmf : ∀ (fn : Fn) (first cap : Array Value) (w : World), (Instr.makeFunc fn first cap).run Tryd.prog w = .ok (.func fn first cap) w := fun _ _ _ _ => rfl
  obtain ⟨W0, hW0, hB0, hB1, hB2, hRes, hb0, hs0⟩ := joined_boxes Nb ab lb cb Nd ad ld cd of w
  have hent : ∀ (args : Array Value) (w : World), (callFunc 89 args).run Tryd.prog w = .ok (.enter 89 args) w := enters_of Tryd.func89 (by kernel_rfl) rfl
  have C := call_bits_bad 89 #[.pointer (some ⟨w.heap.size, 0, none⟩), .pointer (some ⟨w.heap.size + 1, 0, none⟩), .pointer (some ⟨w.heap.size + 2, 0, none⟩)] er W0 hent (fun W hb hlt => h W (hb0.trans (hb.mono (by omega))) (hB0.below hb (by omega)) (hB1.below hb (by omega)) (hB2.below hb (by omega)))
  have HC := Lib.hid C
  have HW := Lib.hid hW0
  have Hb := Lib.hid hb0
  have Hs := Lib.hid hs0
  have HRes := Lib.hid hRes
  clear C hW0 hb0 hs0 hB0 hB1 hB2 hRes h hent
  go_enter Tryd.func66, Tryd.ntmps66
  go_upto_region 1 with fail
  rw [HW.out]
  go_wp2_with fail
  refine HC.out.mono ?_
  rintro e w1 ⟨rfl, hb⟩
  have hR1 : Blk w1 (w.heap.size + 3) 24 #[.int .i64 0, .slice none 0 0] := HRes.out.below hb HRes.out.lt
  have Hb1 := Lib.hid (Hb.out.trans (hb.mono Hb.out.size))
  have HR1 := Lib.hid hR1
  have f0 := hR1.frozen 0
  have f1 := hR1.frozen 1
  have k0 : w1.cell? ⟨w.heap.size + 3, 0, none⟩ = some (.int .i64 0) := hR1.cell 0
  have k1 : w1.cell? ⟨w.heap.size + 3, 1, none⟩ = some (.slice none 0 0) := hR1.cell 1
  clear hb hR1 HC HW Hb HRes
  go_wp2_with fail
  rw [cells2 HR1.out]
  obtain ⟨V, hV, rV, bV, sV, oV⟩ := filled HR1.out #[.int .i64 0, .slice none 0 0]
  rw [hV]
  clear f0 f1 k0 k1
  have z0 : V.cell? ⟨w.heap.size + 3, 0, none⟩ = some (.int .i64 0) := (show Blk V _ 24 _ from rV).cell 0
  have z1 : V.cell? ⟨w.heap.size + 3, 1, none⟩ = some (.slice none 0 0) := (show Blk V _ 24 _ from rV).cell 1
  have HZ : Hid (Below w.heap.size w V) := Lib.hid (Hb1.out.trans (bV.mono (by omega)))
  clear HR1 Hb1 rV bV sV oV hV
  simp [bodyPost, results, Tryd.results66, go_sem, z0, z1]
  exact HZ.out

/-- The boxes of Runs. -/
theorem runs_boxes (Nb : Int) (ab : Option Addr) (lb cb : Nat) (on : Bool) (w : World) : ∃ W0, (w.alloc (.cells #[.int .i64 Nb, .slice ab lb cb] 24)).alloc (.cells #[.bool on] 4) = W0 ∧ Blk W0 (w.heap.size) 24 #[.int .i64 Nb, .slice ab lb cb] ∧ Blk W0 (w.heap.size + 1) 4 #[.bool on] ∧ Below w.heap.size w W0 ∧ W0.heap.size = w.heap.size + 2 := by
  refine ⟨_, rfl, ?_, ?_, ?_, by simp⟩
  · have h := heap_new w (.cells #[.int .i64 Nb, .slice ab lb cb] 24)
    have h0 : Blk (w.alloc (.cells #[.int .i64 Nb, .slice ab lb cb] 24)) (w.heap.size) 24 #[.int .i64 Nb, .slice ab lb cb] := h
    have h1 : Blk ((w.alloc (.cells #[.int .i64 Nb, .slice ab lb cb] 24)).alloc (.cells #[.bool on] 4)) (w.heap.size) 24 #[.int .i64 Nb, .slice ab lb cb] := h0.below ((Below.refl _ _).alloc (Nat.le_refl _) _) (by first | (simp only [World.size_alloc]; omega) | omega)
    exact h1
  · have h := heap_new (w.alloc (.cells #[.int .i64 Nb, .slice ab lb cb] 24)) (.cells #[.bool on] 4)
    simp only [World.size_alloc] at h
    have h0 : Blk ((w.alloc (.cells #[.int .i64 Nb, .slice ab lb cb] 24)).alloc (.cells #[.bool on] 4)) (w.heap.size + 1) 4 #[.bool on] := h
    exact h0
  · exact ((Below.refl _ w).alloc (by first | (simp only [World.size_alloc]; omega) | omega) _).alloc (by first | (simp only [World.size_alloc]; omega) | omega) _
set_option maxRecDepth 100000 in
set_option maxHeartbeats 2000000 in
theorem runs_lift_ok (Nb : Int) (ab : Option Addr) (lb cb : Nat) (on : Bool) (X : List (Nat × Nat)) (w : World) (h : ∀ W, Below w.heap.size w W → Blk W (w.heap.size) 24 #[.int .i64 Nb, .slice ab lb cb] → Blk W (w.heap.size + 1) 4 #[.bool on] → Calls Tryd.prog 74 #[.pointer (some ⟨w.heap.size, 0, none⟩), .pointer (some ⟨w.heap.size + 1, 0, none⟩)] W fun e w' => ∃ a l c, e = .returned (.slice a l c) ∧ OwnR w' W.heap.size (.slice a l c) X ∧ Below W.heap.size W w') :
    Calls Tryd.prog 37 #[.agg #[.int .i64 Nb, .slice ab lb cb], .bool on] w fun e w' => ∃ a l c, e = .returned (.tuple #[.slice a l c, .int .i64 0]) ∧ OwnR w' w.heap.size (.slice a l c) X ∧ Below w.heap.size w w' := by
  have hmf : ∀ (fn : Fn) (first cap : Array Value) (w : World), (Instr.makeFunc fn first cap).run Tryd.prog w = .ok (.func fn first cap) w := fun _ _ _ _ => rfl
  obtain ⟨W0, hW0, hB0, hB1, hb0, hs0⟩ := runs_boxes Nb ab lb cb on w
  have hent : ∀ (args : Array Value) (w : World), (callFunc 74 args).run Tryd.prog w = .ok (.enter 74 args) w := enters_of Tryd.func74 (by kernel_rfl) rfl
  have C := call_ranges_ok 74 #[.pointer (some ⟨w.heap.size, 0, none⟩), .pointer (some ⟨w.heap.size + 1, 0, none⟩)] (fun a l c W => OwnR W (W0.heap.size + 1) (.slice a l c) X) W0 hent (fun a l c W W' hO hk hs => hO.keep (fun k hk2 => hk k (by omega)))
    (fun W hb hlt => (h W (hb0.trans (hb.mono (by omega))) (hB0.below hb (by omega)) (hB1.below hb (by omega))).mono (by
      rintro e w' ⟨a, l, c, rfl, ho, hb'⟩
      exact ⟨a, l, c, rfl, ho.mono (by omega), hb'⟩))
  have HC := Lib.hid C
  have HW := Lib.hid hW0
  have Hb := Lib.hid hb0
  have Hs := Lib.hid hs0
  clear C hW0 hb0 hs0 hB0 hB1 h hent
  go_enter Tryd.func37, Tryd.ntmps37
  go_upto_region 1 with fail
  rw [HW.out]
  go_wp2_with fail
  refine HC.out.mono ?_
  rintro e w1 ⟨a, l, c, rfl, ho, hb⟩
  have HO := Lib.hid ho
  have Hb1 := Lib.hid (Hb.out.trans (hb.mono Hb.out.size))
  clear hb HC HW Hb ho
  go_wp2_with fail
  go_ret2
  exact ⟨a, l, c, rfl, HO.out.mono (by have := Hs.out; omega), Hb1.out⟩
set_option maxRecDepth 100000 in
set_option maxHeartbeats 2000000 in
theorem runs_lift_bad (Nb : Int) (ab : Option Addr) (lb cb : Nat) (on : Bool) (er : Int) (w : World) (h : ∀ W, Below w.heap.size w W → Blk W (w.heap.size) 24 #[.int .i64 Nb, .slice ab lb cb] → Blk W (w.heap.size + 1) 4 #[.bool on] → Calls Tryd.prog 74 #[.pointer (some ⟨w.heap.size, 0, none⟩), .pointer (some ⟨w.heap.size + 1, 0, none⟩)] W fun e w' => e = pan er ∧ Below W.heap.size W w') :
    Calls Tryd.prog 37 #[.agg #[.int .i64 Nb, .slice ab lb cb], .bool on] w fun e w' => e = .returned (.tuple #[.slice none 0 0, .int .i64 er]) ∧ Below w.heap.size w w' := by
  have hmf : ∀ (fn : Fn) (first cap : Array Value) (w : World), (Instr.makeFunc fn first cap).run Tryd.prog w = .ok (.func fn first cap) w := fun _ _ _ _ => rfl
  obtain ⟨W0, hW0, hB0, hB1, hb0, hs0⟩ := runs_boxes Nb ab lb cb on w
  have hent : ∀ (args : Array Value) (w : World), (callFunc 74 args).run Tryd.prog w = .ok (.enter 74 args) w := enters_of Tryd.func74 (by kernel_rfl) rfl
  have C := call_ranges_bad 74 #[.pointer (some ⟨w.heap.size, 0, none⟩), .pointer (some ⟨w.heap.size + 1, 0, none⟩)] er W0 hent (fun W hb hlt => h W (hb0.trans (hb.mono (by omega))) (hB0.below hb (by omega)) (hB1.below hb (by omega)))
  have HC := Lib.hid C
  have HW := Lib.hid hW0
  have Hb := Lib.hid hb0
  have Hs := Lib.hid hs0
  clear C hW0 hb0 hs0 hB0 hB1 h hent
  go_enter Tryd.func37, Tryd.ntmps37
  go_upto_region 1 with fail
  rw [HW.out]
  go_wp2_with fail
  refine HC.out.mono ?_
  rintro e w1 ⟨rfl, hb⟩
  have Hb1 := Lib.hid (Hb.out.trans (hb.mono Hb.out.size))
  clear hb HC HW Hb
  go_wp2_with fail
  go_ret2
  exact ⟨rfl, Hb1.out⟩

/-- The boxes of Find. -/
theorem find_boxes (Nb : Int) (ab : Option Addr) (lb cb : Nat) (many : Int) (how : Int) (near : Int) (w : World) : ∃ W0, (((w.alloc (.cells #[.int .i64 Nb, .slice ab lb cb] 24)).alloc (.cells #[.int .i64 many] 3)).alloc (.cells #[.int .i64 how] 3)).alloc (.cells #[.int .i64 near] 3) = W0 ∧ Blk W0 (w.heap.size) 24 #[.int .i64 Nb, .slice ab lb cb] ∧ Blk W0 (w.heap.size + 1) 3 #[.int .i64 many] ∧ Blk W0 (w.heap.size + 2) 3 #[.int .i64 how] ∧ Blk W0 (w.heap.size + 3) 3 #[.int .i64 near] ∧ Below w.heap.size w W0 ∧ W0.heap.size = w.heap.size + 4 := by
  refine ⟨_, rfl, ?_, ?_, ?_, ?_, ?_, by simp⟩
  · have h := heap_new w (.cells #[.int .i64 Nb, .slice ab lb cb] 24)
    have h0 : Blk (w.alloc (.cells #[.int .i64 Nb, .slice ab lb cb] 24)) (w.heap.size) 24 #[.int .i64 Nb, .slice ab lb cb] := h
    have h1 : Blk ((w.alloc (.cells #[.int .i64 Nb, .slice ab lb cb] 24)).alloc (.cells #[.int .i64 many] 3)) (w.heap.size) 24 #[.int .i64 Nb, .slice ab lb cb] := h0.below ((Below.refl _ _).alloc (Nat.le_refl _) _) (by first | (simp only [World.size_alloc]; omega) | omega)
    have h2 : Blk (((w.alloc (.cells #[.int .i64 Nb, .slice ab lb cb] 24)).alloc (.cells #[.int .i64 many] 3)).alloc (.cells #[.int .i64 how] 3)) (w.heap.size) 24 #[.int .i64 Nb, .slice ab lb cb] := h1.below ((Below.refl _ _).alloc (Nat.le_refl _) _) (by first | (simp only [World.size_alloc]; omega) | omega)
    have h3 : Blk ((((w.alloc (.cells #[.int .i64 Nb, .slice ab lb cb] 24)).alloc (.cells #[.int .i64 many] 3)).alloc (.cells #[.int .i64 how] 3)).alloc (.cells #[.int .i64 near] 3)) (w.heap.size) 24 #[.int .i64 Nb, .slice ab lb cb] := h2.below ((Below.refl _ _).alloc (Nat.le_refl _) _) (by first | (simp only [World.size_alloc]; omega) | omega)
    exact h3
  · have h := heap_new (w.alloc (.cells #[.int .i64 Nb, .slice ab lb cb] 24)) (.cells #[.int .i64 many] 3)
    simp only [World.size_alloc] at h
    have h0 : Blk ((w.alloc (.cells #[.int .i64 Nb, .slice ab lb cb] 24)).alloc (.cells #[.int .i64 many] 3)) (w.heap.size + 1) 3 #[.int .i64 many] := h
    have h2 : Blk (((w.alloc (.cells #[.int .i64 Nb, .slice ab lb cb] 24)).alloc (.cells #[.int .i64 many] 3)).alloc (.cells #[.int .i64 how] 3)) (w.heap.size + 1) 3 #[.int .i64 many] := h0.below ((Below.refl _ _).alloc (Nat.le_refl _) _) (by first | (simp only [World.size_alloc]; omega) | omega)
    have h3 : Blk ((((w.alloc (.cells #[.int .i64 Nb, .slice ab lb cb] 24)).alloc (.cells #[.int .i64 many] 3)).alloc (.cells #[.int .i64 how] 3)).alloc (.cells #[.int .i64 near] 3)) (w.heap.size + 1) 3 #[.int .i64 many] := h2.below ((Below.refl _ _).alloc (Nat.le_refl _) _) (by first | (simp only [World.size_alloc]; omega) | omega)
    exact h3
  · have h := heap_new ((w.alloc (.cells #[.int .i64 Nb, .slice ab lb cb] 24)).alloc (.cells #[.int .i64 many] 3)) (.cells #[.int .i64 how] 3)
    simp only [World.size_alloc] at h
    have h0 : Blk (((w.alloc (.cells #[.int .i64 Nb, .slice ab lb cb] 24)).alloc (.cells #[.int .i64 many] 3)).alloc (.cells #[.int .i64 how] 3)) (w.heap.size + 2) 3 #[.int .i64 how] := h
    have h3 : Blk ((((w.alloc (.cells #[.int .i64 Nb, .slice ab lb cb] 24)).alloc (.cells #[.int .i64 many] 3)).alloc (.cells #[.int .i64 how] 3)).alloc (.cells #[.int .i64 near] 3)) (w.heap.size + 2) 3 #[.int .i64 how] := h0.below ((Below.refl _ _).alloc (Nat.le_refl _) _) (by first | (simp only [World.size_alloc]; omega) | omega)
    exact h3
  · have h := heap_new (((w.alloc (.cells #[.int .i64 Nb, .slice ab lb cb] 24)).alloc (.cells #[.int .i64 many] 3)).alloc (.cells #[.int .i64 how] 3)) (.cells #[.int .i64 near] 3)
    simp only [World.size_alloc] at h
    have h0 : Blk ((((w.alloc (.cells #[.int .i64 Nb, .slice ab lb cb] 24)).alloc (.cells #[.int .i64 many] 3)).alloc (.cells #[.int .i64 how] 3)).alloc (.cells #[.int .i64 near] 3)) (w.heap.size + 3) 3 #[.int .i64 near] := h
    exact h0
  · exact ((((Below.refl _ w).alloc (by first | (simp only [World.size_alloc]; omega) | omega) _).alloc (by first | (simp only [World.size_alloc]; omega) | omega) _).alloc (by first | (simp only [World.size_alloc]; omega) | omega) _).alloc (by first | (simp only [World.size_alloc]; omega) | omega) _
set_option maxRecDepth 100000 in
set_option maxHeartbeats 2000000 in
theorem find_lift_ok (Nb : Int) (ab : Option Addr) (lb cb : Nat) (many : Int) (how : Int) (near : Int) (r : Int) (w : World) (h : ∀ W, Below w.heap.size w W → Blk W (w.heap.size) 24 #[.int .i64 Nb, .slice ab lb cb] → Blk W (w.heap.size + 1) 3 #[.int .i64 many] → Blk W (w.heap.size + 2) 3 #[.int .i64 how] → Blk W (w.heap.size + 3) 3 #[.int .i64 near] → Calls Tryd.prog 77 #[.pointer (some ⟨w.heap.size, 0, none⟩), .pointer (some ⟨w.heap.size + 1, 0, none⟩), .pointer (some ⟨w.heap.size + 3, 0, none⟩), .pointer (some ⟨w.heap.size + 2, 0, none⟩)] W fun e w' => e = .returned (.int .i64 r) ∧ Below W.heap.size W w') :
    Calls Tryd.prog 40 #[.agg #[.int .i64 Nb, .slice ab lb cb], .int .i64 many, .int .i64 how, .int .i64 near] w fun e w' => e = .returned (.tuple #[.int .i64 r, .int .i64 0]) ∧ Below w.heap.size w w' := by
  have hmf : ∀ (fn : Fn) (first cap : Array Value) (w : World), (Instr.makeFunc fn first cap).run Tryd.prog w = .ok (.func fn first cap) w := fun _ _ _ _ => rfl
  obtain ⟨W0, hW0, hB0, hB1, hB2, hB3, hb0, hs0⟩ := find_boxes Nb ab lb cb many how near w
  have hent : ∀ (args : Array Value) (w : World), (callFunc 77 args).run Tryd.prog w = .ok (.enter 77 args) w := enters_of Tryd.func77 (by kernel_rfl) rfl
  have C := call_int_ok 77 #[.pointer (some ⟨w.heap.size, 0, none⟩), .pointer (some ⟨w.heap.size + 1, 0, none⟩), .pointer (some ⟨w.heap.size + 3, 0, none⟩), .pointer (some ⟨w.heap.size + 2, 0, none⟩)] r (fun _ => True) W0 hent (fun _ _ _ _ _ => trivial)
    (fun W hb hlt => (h W (hb0.trans (hb.mono (by omega))) (hB0.below hb (by omega)) (hB1.below hb (by omega)) (hB2.below hb (by omega)) (hB3.below hb (by omega))).mono (by
      rintro e w' ⟨rfl, hb'⟩
      exact ⟨rfl, trivial, hb'⟩))
  have HC := Lib.hid C
  have HW := Lib.hid hW0
  have Hb := Lib.hid hb0
  have Hs := Lib.hid hs0
  clear C hW0 hb0 hs0 hB0 hB1 hB2 hB3 h hent
  go_enter Tryd.func40, Tryd.ntmps40
  go_upto_region 1 with fail
  rw [HW.out]
  go_wp2_with fail
  refine HC.out.mono ?_
  rintro e w1 ⟨rfl, -, hb⟩
  have Hb1 := Lib.hid (Hb.out.trans (hb.mono Hb.out.size))
  clear hb HC HW Hb
  go_wp2_with fail
  go_ret2
  exact ⟨rfl, Hb1.out⟩
set_option maxRecDepth 100000 in
set_option maxHeartbeats 2000000 in
theorem find_lift_bad (Nb : Int) (ab : Option Addr) (lb cb : Nat) (many : Int) (how : Int) (near : Int) (er : Int) (w : World) (h : ∀ W, Below w.heap.size w W → Blk W (w.heap.size) 24 #[.int .i64 Nb, .slice ab lb cb] → Blk W (w.heap.size + 1) 3 #[.int .i64 many] → Blk W (w.heap.size + 2) 3 #[.int .i64 how] → Blk W (w.heap.size + 3) 3 #[.int .i64 near] → Calls Tryd.prog 77 #[.pointer (some ⟨w.heap.size, 0, none⟩), .pointer (some ⟨w.heap.size + 1, 0, none⟩), .pointer (some ⟨w.heap.size + 3, 0, none⟩), .pointer (some ⟨w.heap.size + 2, 0, none⟩)] W fun e w' => e = pan er ∧ Below W.heap.size W w') :
    Calls Tryd.prog 40 #[.agg #[.int .i64 Nb, .slice ab lb cb], .int .i64 many, .int .i64 how, .int .i64 near] w fun e w' => e = .returned (.tuple #[.int .i64 0, .int .i64 er]) ∧ Below w.heap.size w w' := by
  have hmf : ∀ (fn : Fn) (first cap : Array Value) (w : World), (Instr.makeFunc fn first cap).run Tryd.prog w = .ok (.func fn first cap) w := fun _ _ _ _ => rfl
  obtain ⟨W0, hW0, hB0, hB1, hB2, hB3, hb0, hs0⟩ := find_boxes Nb ab lb cb many how near w
  have hent : ∀ (args : Array Value) (w : World), (callFunc 77 args).run Tryd.prog w = .ok (.enter 77 args) w := enters_of Tryd.func77 (by kernel_rfl) rfl
  have C := call_int_bad 77 #[.pointer (some ⟨w.heap.size, 0, none⟩), .pointer (some ⟨w.heap.size + 1, 0, none⟩), .pointer (some ⟨w.heap.size + 3, 0, none⟩), .pointer (some ⟨w.heap.size + 2, 0, none⟩)] er W0 hent (fun W hb hlt => h W (hb0.trans (hb.mono (by omega))) (hB0.below hb (by omega)) (hB1.below hb (by omega)) (hB2.below hb (by omega)) (hB3.below hb (by omega)))
  have HC := Lib.hid C
  have HW := Lib.hid hW0
  have Hb := Lib.hid hb0
  have Hs := Lib.hid hs0
  clear C hW0 hb0 hs0 hB0 hB1 hB2 hB3 h hent
  go_enter Tryd.func40, Tryd.ntmps40
  go_upto_region 1 with fail
  rw [HW.out]
  go_wp2_with fail
  refine HC.out.mono ?_
  rintro e w1 ⟨rfl, hb⟩
  have Hb1 := Lib.hid (Hb.out.trans (hb.mono Hb.out.size))
  clear hb HC HW Hb
  go_wp2_with fail
  go_ret2
  exact ⟨rfl, Hb1.out⟩

/-- The boxes of Gather. -/
theorem gather_boxes (Nb : Int) (ab : Option Addr) (lb cb : Nat) (many : Int) (near : Int) (w : World) : ∃ W0, ((w.alloc (.cells #[.int .i64 Nb, .slice ab lb cb] 24)).alloc (.cells #[.int .i64 many] 3)).alloc (.cells #[.int .i64 near] 3) = W0 ∧ Blk W0 (w.heap.size) 24 #[.int .i64 Nb, .slice ab lb cb] ∧ Blk W0 (w.heap.size + 1) 3 #[.int .i64 many] ∧ Blk W0 (w.heap.size + 2) 3 #[.int .i64 near] ∧ Below w.heap.size w W0 ∧ W0.heap.size = w.heap.size + 3 := by
  refine ⟨_, rfl, ?_, ?_, ?_, ?_, by simp⟩
  · have h := heap_new w (.cells #[.int .i64 Nb, .slice ab lb cb] 24)
    have h0 : Blk (w.alloc (.cells #[.int .i64 Nb, .slice ab lb cb] 24)) (w.heap.size) 24 #[.int .i64 Nb, .slice ab lb cb] := h
    have h1 : Blk ((w.alloc (.cells #[.int .i64 Nb, .slice ab lb cb] 24)).alloc (.cells #[.int .i64 many] 3)) (w.heap.size) 24 #[.int .i64 Nb, .slice ab lb cb] := h0.below ((Below.refl _ _).alloc (Nat.le_refl _) _) (by first | (simp only [World.size_alloc]; omega) | omega)
    have h2 : Blk (((w.alloc (.cells #[.int .i64 Nb, .slice ab lb cb] 24)).alloc (.cells #[.int .i64 many] 3)).alloc (.cells #[.int .i64 near] 3)) (w.heap.size) 24 #[.int .i64 Nb, .slice ab lb cb] := h1.below ((Below.refl _ _).alloc (Nat.le_refl _) _) (by first | (simp only [World.size_alloc]; omega) | omega)
    exact h2
  · have h := heap_new (w.alloc (.cells #[.int .i64 Nb, .slice ab lb cb] 24)) (.cells #[.int .i64 many] 3)
    simp only [World.size_alloc] at h
    have h0 : Blk ((w.alloc (.cells #[.int .i64 Nb, .slice ab lb cb] 24)).alloc (.cells #[.int .i64 many] 3)) (w.heap.size + 1) 3 #[.int .i64 many] := h
    have h2 : Blk (((w.alloc (.cells #[.int .i64 Nb, .slice ab lb cb] 24)).alloc (.cells #[.int .i64 many] 3)).alloc (.cells #[.int .i64 near] 3)) (w.heap.size + 1) 3 #[.int .i64 many] := h0.below ((Below.refl _ _).alloc (Nat.le_refl _) _) (by first | (simp only [World.size_alloc]; omega) | omega)
    exact h2
  · have h := heap_new ((w.alloc (.cells #[.int .i64 Nb, .slice ab lb cb] 24)).alloc (.cells #[.int .i64 many] 3)) (.cells #[.int .i64 near] 3)
    simp only [World.size_alloc] at h
    have h0 : Blk (((w.alloc (.cells #[.int .i64 Nb, .slice ab lb cb] 24)).alloc (.cells #[.int .i64 many] 3)).alloc (.cells #[.int .i64 near] 3)) (w.heap.size + 2) 3 #[.int .i64 near] := h
    exact h0
  · exact (((Below.refl _ w).alloc (by first | (simp only [World.size_alloc]; omega) | omega) _).alloc (by first | (simp only [World.size_alloc]; omega) | omega) _).alloc (by first | (simp only [World.size_alloc]; omega) | omega) _
set_option maxRecDepth 100000 in
set_option maxHeartbeats 2000000 in
theorem gather_lift_ok (Nb : Int) (ab : Option Addr) (lb cb : Nat) (many : Int) (near : Int) (X : List (Nat × Nat)) (w : World) (h : ∀ W, Below w.heap.size w W → Blk W (w.heap.size) 24 #[.int .i64 Nb, .slice ab lb cb] → Blk W (w.heap.size + 1) 3 #[.int .i64 many] → Blk W (w.heap.size + 2) 3 #[.int .i64 near] → Calls Tryd.prog 80 #[.pointer (some ⟨w.heap.size, 0, none⟩), .pointer (some ⟨w.heap.size + 1, 0, none⟩), .pointer (some ⟨w.heap.size + 2, 0, none⟩)] W fun e w' => ∃ a l c, e = .returned (.slice a l c) ∧ OwnR w' W.heap.size (.slice a l c) X ∧ Below W.heap.size W w') :
    Calls Tryd.prog 42 #[.agg #[.int .i64 Nb, .slice ab lb cb], .int .i64 many, .int .i64 near] w fun e w' => ∃ a l c, e = .returned (.tuple #[.slice a l c, .int .i64 0]) ∧ OwnR w' w.heap.size (.slice a l c) X ∧ Below w.heap.size w w' := by
  have hmf : ∀ (fn : Fn) (first cap : Array Value) (w : World), (Instr.makeFunc fn first cap).run Tryd.prog w = .ok (.func fn first cap) w := fun _ _ _ _ => rfl
  obtain ⟨W0, hW0, hB0, hB1, hB2, hb0, hs0⟩ := gather_boxes Nb ab lb cb many near w
  have hent : ∀ (args : Array Value) (w : World), (callFunc 80 args).run Tryd.prog w = .ok (.enter 80 args) w := enters_of Tryd.func80 (by kernel_rfl) rfl
  have C := call_ranges_ok 80 #[.pointer (some ⟨w.heap.size, 0, none⟩), .pointer (some ⟨w.heap.size + 1, 0, none⟩), .pointer (some ⟨w.heap.size + 2, 0, none⟩)] (fun a l c W => OwnR W (W0.heap.size + 1) (.slice a l c) X) W0 hent (fun a l c W W' hO hk hs => hO.keep (fun k hk2 => hk k (by omega)))
    (fun W hb hlt => (h W (hb0.trans (hb.mono (by omega))) (hB0.below hb (by omega)) (hB1.below hb (by omega)) (hB2.below hb (by omega))).mono (by
      rintro e w' ⟨a, l, c, rfl, ho, hb'⟩
      exact ⟨a, l, c, rfl, ho.mono (by omega), hb'⟩))
  have HC := Lib.hid C
  have HW := Lib.hid hW0
  have Hb := Lib.hid hb0
  have Hs := Lib.hid hs0
  clear C hW0 hb0 hs0 hB0 hB1 hB2 h hent
  go_enter Tryd.func42, Tryd.ntmps42
  go_upto_region 1 with fail
  rw [HW.out]
  go_wp2_with fail
  refine HC.out.mono ?_
  rintro e w1 ⟨a, l, c, rfl, ho, hb⟩
  have HO := Lib.hid ho
  have Hb1 := Lib.hid (Hb.out.trans (hb.mono Hb.out.size))
  clear hb HC HW Hb ho
  go_wp2_with fail
  go_ret2
  exact ⟨a, l, c, rfl, HO.out.mono (by have := Hs.out; omega), Hb1.out⟩
set_option maxRecDepth 100000 in
set_option maxHeartbeats 2000000 in
theorem gather_lift_bad (Nb : Int) (ab : Option Addr) (lb cb : Nat) (many : Int) (near : Int) (er : Int) (w : World) (h : ∀ W, Below w.heap.size w W → Blk W (w.heap.size) 24 #[.int .i64 Nb, .slice ab lb cb] → Blk W (w.heap.size + 1) 3 #[.int .i64 many] → Blk W (w.heap.size + 2) 3 #[.int .i64 near] → Calls Tryd.prog 80 #[.pointer (some ⟨w.heap.size, 0, none⟩), .pointer (some ⟨w.heap.size + 1, 0, none⟩), .pointer (some ⟨w.heap.size + 2, 0, none⟩)] W fun e w' => e = pan er ∧ Below W.heap.size W w') :
    Calls Tryd.prog 42 #[.agg #[.int .i64 Nb, .slice ab lb cb], .int .i64 many, .int .i64 near] w fun e w' => e = .returned (.tuple #[.slice none 0 0, .int .i64 er]) ∧ Below w.heap.size w w' := by
  have hmf : ∀ (fn : Fn) (first cap : Array Value) (w : World), (Instr.makeFunc fn first cap).run Tryd.prog w = .ok (.func fn first cap) w := fun _ _ _ _ => rfl
  obtain ⟨W0, hW0, hB0, hB1, hB2, hb0, hs0⟩ := gather_boxes Nb ab lb cb many near w
  have hent : ∀ (args : Array Value) (w : World), (callFunc 80 args).run Tryd.prog w = .ok (.enter 80 args) w := enters_of Tryd.func80 (by kernel_rfl) rfl
  have C := call_ranges_bad 80 #[.pointer (some ⟨w.heap.size, 0, none⟩), .pointer (some ⟨w.heap.size + 1, 0, none⟩), .pointer (some ⟨w.heap.size + 2, 0, none⟩)] er W0 hent (fun W hb hlt => h W (hb0.trans (hb.mono (by omega))) (hB0.below hb (by omega)) (hB1.below hb (by omega)) (hB2.below hb (by omega)))
  have HC := Lib.hid C
  have HW := Lib.hid hW0
  have Hb := Lib.hid hb0
  have Hs := Lib.hid hs0
  clear C hW0 hb0 hs0 hB0 hB1 hB2 h hent
  go_enter Tryd.func42, Tryd.ntmps42
  go_upto_region 1 with fail
  rw [HW.out]
  go_wp2_with fail
  refine HC.out.mono ?_
  rintro e w1 ⟨rfl, hb⟩
  have Hb1 := Lib.hid (Hb.out.trans (hb.mono Hb.out.size))
  clear hb HC HW Hb
  go_wp2_with fail
  go_ret2
  exact ⟨rfl, Hb1.out⟩
end Go.Proofs.YtknacgdjodmaiaaDoor
