/- Bitmaps told by their bits. -/
import Derived.Test.YthognmkjoekilaaDoorBlcount
import Derived.Test.YthognmkjoekilaaDoorBwithin
import Derived.Test.YthognmkjoekilaaDoorBwide
import Derived.Test.YthognmkjoekilaaDoorBrmade
namespace Go.Proofs.YthognmkjoekilaaDoor
set_option linter.unusedVariables false
open Go.RowKit Go.Shelf

/-- A bitmap's bits, told. -/
structure Is (M : Nat) (X : List Int) (f : Nat → Bool) : Prop where
  v : Vb M X
  b : ∀ j, j < M → bitV X j = f j
theorem Is.eq {M : Nat} {X Y : List Int} {f g : Nat → Bool} (h : Is M X f) (k : Is M Y g) (hfg : ∀ j, j < M → f j = g j) : X = Y :=
  h.v.ext k.v fun j hj => by rw [h.b j hj, k.b j hj, hfg j hj]
theorem and_is (M : Nat) (a b : Option Addr) (l c l2 c2 : Nat) (xs ys : List Int) (w : World) (hx : Rd w a l c xs) (hy : Rd w b l2 c2 ys) (hv : Vb M xs) (hv2 : Vb M ys) :
    Calls Tryd.prog 30 #[.agg #[.int .i64 (M : Int), .slice a l c], .agg #[.int .i64 (M : Int), .slice b l2 c2]] w fun e w' => ∃ a' l' c' X, e = .returned (.tuple #[.agg #[.int .i64 (M : Int), .slice a' l' c'], .int .i64 0]) ∧ Rd w' a' l' c' X ∧ Is M X (fun j => bitV xs j && bitV ys j) ∧ Below w.heap.size w w' :=
  (and_ok M a b l c l2 c2 xs ys w hx hy hv hv2).mono fun e w' ⟨x, y, z, h1, h2, h3⟩ => ⟨x, y, z, _, h1, h2, ⟨Vb.join and_bitly rfl hv hv2 hx.hl, fun j hj => Vb.joinBit and_bitly hv hv2 hx.hl j hj⟩, h3⟩
theorem or_is (M : Nat) (a b : Option Addr) (l c l2 c2 : Nat) (xs ys : List Int) (w : World) (hx : Rd w a l c xs) (hy : Rd w b l2 c2 ys) (hv : Vb M xs) (hv2 : Vb M ys) :
    Calls Tryd.prog 31 #[.agg #[.int .i64 (M : Int), .slice a l c], .agg #[.int .i64 (M : Int), .slice b l2 c2]] w fun e w' => ∃ a' l' c' X, e = .returned (.tuple #[.agg #[.int .i64 (M : Int), .slice a' l' c'], .int .i64 0]) ∧ Rd w' a' l' c' X ∧ Is M X (fun j => bitV xs j || bitV ys j) ∧ Below w.heap.size w w' :=
  (or_ok M a b l c l2 c2 xs ys w hx hy hv hv2).mono fun e w' ⟨x, y, z, h1, h2, h3⟩ => ⟨x, y, z, _, h1, h2, ⟨Vb.join or_bitly rfl hv hv2 hx.hl, fun j hj => Vb.joinBit or_bitly hv hv2 hx.hl j hj⟩, h3⟩
theorem minus_is (M : Nat) (a b : Option Addr) (l c l2 c2 : Nat) (xs ys : List Int) (w : World) (hx : Rd w a l c xs) (hy : Rd w b l2 c2 ys) (hv : Vb M xs) (hv2 : Vb M ys) :
    Calls Tryd.prog 32 #[.agg #[.int .i64 (M : Int), .slice a l c], .agg #[.int .i64 (M : Int), .slice b l2 c2]] w fun e w' => ∃ a' l' c' X, e = .returned (.tuple #[.agg #[.int .i64 (M : Int), .slice a' l' c'], .int .i64 0]) ∧ Rd w' a' l' c' X ∧ Is M X (fun j => bitV xs j && !bitV ys j) ∧ Below w.heap.size w w' :=
  (minus_ok M a b l c l2 c2 xs ys w hx hy hv hv2).mono fun e w' ⟨x, y, z, h1, h2, h3⟩ => ⟨x, y, z, _, h1, h2, ⟨Vb.join an_bitly rfl hv hv2 hx.hl, fun j hj => Vb.joinBit an_bitly hv hv2 hx.hl j hj⟩, h3⟩
theorem not_is (M : Nat) (a : Option Addr) (l c : Nat) (xs : List Int) (w : World) (hx : Rd w a l c xs) (hv : Vb M xs) :
    Calls Tryd.prog 33 #[.agg #[.int .i64 (M : Int), .slice a l c]] w fun e w' => ∃ a' l' c' X, e = .returned (.tuple #[.agg #[.int .i64 (M : Int), .slice a' l' c'], .int .i64 0]) ∧ Rd w' a' l' c' X ∧ Is M X (fun j => !bitV xs j) ∧ Below w.heap.size w w' :=
  (not_ok M a l c xs w hx hv).mono fun e w' ⟨x, y, z, h1, h2, h3⟩ => ⟨x, y, z, _, h1, h2, ⟨Vb.not hv hx.hl, fun j hj => Vb.notBit hv hx.hl j hj⟩, h3⟩
theorem same_is (N : Int) (a : Option Addr) (l c : Nat) (a2 : Option Addr) (l2 c2 : Nat) (xs : List Int) (w : World) (h1 : Rd w a l c xs) (h2 : Rd w a2 l2 c2 xs) :
    Calls Tryd.prog 22 #[.agg #[.int .i64 N, .slice a l c], .agg #[.int .i64 N, .slice a2 l2 c2]] w fun e w' => e = .returned (.bool true) ∧ Below w.heap.size w w' :=
  (same_any N N a l c xs a2 l2 c2 xs w h1 h2).mono fun e w' ⟨k1, k2⟩ => ⟨by rw [k1, show decide (N = N ∧ xs = xs) = true from by simp], k2⟩
/-- Two boxes. -/
theorem boxed_two (w : World) (N1 N2 : Int) (a b : Option Addr) (l c l2 c2 : Nat) (xs ys : List Int) (hx : Rd w a l c xs) (hy : Rd w b l2 c2 ys) :
    ∃ g2 g3 V, w.heap.size = g2 ∧ w.heap.size + 1 = g3 ∧ (w.alloc (.cells #[.int .i64 N1, .slice a l c] 24)).alloc (.cells #[.int .i64 N2, .slice b l2 c2] 24) = V ∧ Bx V g2 N1 a l c xs ∧ Bx V g3 N2 b l2 c2 ys ∧ Below w.heap.size w V := by
  obtain ⟨g, W, e1, e2, hB, hb, hq⟩ := boxed (Below.refl _ w) N1 a l c xs hx
  obtain ⟨g', W', e1', e2', hB', hb', hq'⟩ := boxed hb N2 b l2 c2 ys (hy.below hb (Nat.le_refl _))
  refine ⟨g, g', W', e1, ?_, by rw [e2]; exact e2', hB.below hq', hB', hb'⟩
  rw [← e1', ← e2]; simp
theorem set_is (M : Nat) (a : Option Addr) (l c : Nat) (bs : List Int) (w : World) (hr : Rd w a l c bs) (at_ m e : Nat) (on : Bool) (hv : Vb M bs) (he : e = at_ + m) (hc : e ≤ M) : Calls Tryd.prog 15 #[.agg #[.int .i64 (M : Int), .slice a l c], .int .i64 (at_ : Int), .int .i64 (m : Int), .bool on] w fun e' w' => ∃ a' l' c' X, e' = .returned (.tuple #[.agg #[.int .i64 (M : Int), .slice a' l' c'], .int .i64 0]) ∧ Rd w' a' l' c' X ∧ Is M X (fun j => if at_ ≤ j ∧ j < e then on else bitV bs j) ∧ Below w.heap.size w w' :=
  (set_ok M a l c bs w hr at_ m e on hv he hc).mono fun e' w' ⟨x, y, z, h1, h2, h3⟩ => ⟨x, y, z, _, h1, h2, ⟨hv.fill at_ e on hc, fun j hj => hv.fillBit at_ e on j hj⟩, h3⟩
/-- Bits of which the first k are already others. -/
def mixL (M : Nat) (f g : Nat → Bool) (k : Nat) : List Bool := (List.range M).map fun j => if j < k then g j else f j
theorem mixL_len (M : Nat) (f g : Nat → Bool) (k : Nat) : (mixL M f g k).length = M := by simp [mixL]
theorem mixL_at (M : Nat) (f g : Nat → Bool) (k j : Nat) (hj : j < M) : (mixL M f g k).getD j false = if j < k then g j else f j := by simp [mixL, List.getD, hj]
theorem mixL_start (M : Nat) (bs : List Int) (g : Nat → Bool) (k : Nat) (h : ∀ j, j < k → g j = bitV bs j) : mixL M (bitV bs) g k = listV bs M := by
  unfold mixL listV
  apply List.map_congr_left
  intro j hj
  by_cases h1 : j < k
  · rw [if_pos h1, h j h1]
  · rw [if_neg h1]
theorem mixL_next (M : Nat) (f g : Nat → Bool) (k : Nat) (hk : k < M) : mixL M f g (k + 1) = (mixL M f g k).set k (g k) := by
  apply List.ext_getElem (by simp [mixL])
  intro i h1 h2
  rw [List.getElem_set]
  simp only [mixL, List.getElem_map, List.getElem_range]
  by_cases hik : k = i
  · subst hik; simp
  · rw [if_neg hik]
    by_cases h3 : i < k
    · rw [if_pos (by omega), if_pos h3]
    · rw [if_neg (by omega), if_neg h3]
theorem made_is {M : Nat} {L : List Bool} (h : L.length = M) (hM : M ≤ 65536) : Is M (madeV L) (fun j => L.getD j false) := by
  subst h
  exact ⟨Vb.made L hM, fun j hj => made_bit L j hj⟩
theorem Is.as {M : Nat} {X : List Int} {f g : Nat → Bool} (h : Is M X f) (hfg : ∀ j, j < M → f j = g j) : Is M X g := ⟨h.v, fun j hj => (h.b j hj).trans (hfg j hj)⟩
theorem OwnL.stored {w : World} {B g n cap : Nat} {l : List Bool} (h : OwnL w B (.slice (some ⟨g, 0, none⟩) n cap) n l) (j : Nat) (b : Bool) :
    OwnL (w.setCell ⟨g, j, none⟩ (.bool b)) B (.slice (some ⟨g, 0, none⟩) n cap) n (l.set j b) := by
  refine ⟨?_, by rw [List.length_set]; exact h.2⟩
  rw [List.map_set]
  exact (h.1.stored j (.bool b)).1
theorem OwnL.cell {w : World} {B n cap : Nat} {va : Option Addr} {l : List Bool} (h : OwnL w B (.slice va n cap) n l) (j : Nat) (hj : j < n) :
    ∃ g, va = some ⟨g, 0, none⟩ ∧ B ≤ g ∧ w.cell? ⟨g, j, none⟩ = some (.bool (l.getD j false)) ∧ w.frozen? ⟨g, j, none⟩ = false := by
  rcases h.1.2 with ⟨hv, h0⟩ | ⟨g, cap', cur, hv, hg0, hg, -⟩
  · omega
  · injection hv with h1 h2 h3
    subst h1
    have hl := h.2
    refine ⟨g, rfl, hg0, ?_, h.1.frozenAt j⟩
    rw [h.1.cellAt j (by omega), List.getElem?_map, List.getElem?_eq_getElem (by omega)]
    simp [List.getD, show j < l.length by omega]
end Go.Proofs.YthognmkjoekilaaDoor
