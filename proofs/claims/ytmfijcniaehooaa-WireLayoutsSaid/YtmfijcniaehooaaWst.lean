/- What stands while fields are read. -/
import Derived.Test.YtmfijcniaehooaaWcatch
import Derived.RangeFuncBox
import Derived.Deep.AppendLies
namespace Go.Proofs.Ytmfijcniaehooaa
set_option linter.unusedVariables false
open Go.RowKit

/-- From W to W' only blocks of the element types in E have changed, and new ones came. -/
structure Only (E : List TypeId) (W W' : World) : Prop where
  os : W'.os = W.os
  tape : W'.tape = W.tape
  output : W'.output = W.output
  size : W.heap.size ≤ W'.heap.size
  block : ∀ (k : Nat) cs t fr, W.heap[k]? = some (.cells cs t fr) → t ∉ E → W'.heap[k]? = some (.cells cs t fr)
section
variable {E E' : List TypeId} {W W' W'' : World}
theorem Only.trans (h : Only E W W') (k : Only E W' W'') : Only E W W'' :=
  ⟨k.os.trans h.os, k.tape.trans h.tape, k.output.trans h.output, Nat.le_trans h.size k.size, fun i cs t fr hi ht => k.block i cs t fr (h.block i cs t fr hi ht) ht⟩
theorem Only.mono (h : Only E W W') (hE : ∀ t, t ∉ E' → t ∉ E) : Only E' W W' := ⟨h.os, h.tape, h.output, h.size, fun i cs t fr hi ht => h.block i cs t fr hi (hE t ht)⟩
theorem Only.of_below (h : Below W.heap.size W W') : Only E W W' :=
  ⟨h.os, h.tape, h.output, h.size, fun i cs t fr hi _ => (h.block i (Array.getElem?_eq_some_iff.1 hi).1).trans hi⟩
theorem Only.boxed {B : Nat} {t : TypeId} {v : Value} (h : Only E W W') (hb : Boxed W B t v) (ht : t ∉ E) : Boxed W' B t v := h.block _ _ _ _ hb ht
theorem Only.tab {T : Nat} (h : Only E W W') (hb : IsTab W T) (ht : 121 ∉ E) : IsTab W' T := h.block _ _ _ _ hb ht
theorem Only.row {base : Nat} {e : TypeId} {size : Nat} {v : Value} {n : Nat} {xs : List Value} (h : Only E W W') (ho : W.ownsRow base e size v n xs) (ht : e ∉ E) : W'.ownsRow base e size v n xs := by
  refine ⟨ho.1, ?_⟩
  rcases ho.2 with hn | ⟨g, cap, cur, rfl, hg0, hg, rest⟩
  · exact .inl hn
  · exact .inr ⟨g, cap, cur, rfl, hg0, h.block _ _ _ _ hg ht, rest⟩
theorem Only.own {B : Nat} {v : Value} {xs : List Int} (h : Only E W W') (ho : Own W B v xs) (ht : 5 ∉ E) : Own W' B v xs := ⟨h.row ho.1 ht, ho.2⟩
theorem Only.of_moved {R p q len cap : Nat} {a : Option Addr} {xs : List Int} (h : IsR W R p a len cap xs) (k : Moved W W' R q a len cap xs) (hE : 137 ∈ E) : Only E W W' :=
  ⟨k.grown.os, k.grown.tape, k.grown.output, k.grown.size, fun i cs t fr hi ht => by
    have hlt := (Array.getElem?_eq_some_iff.1 hi).1
    refine (k.grown.block i hlt (fun e => ?_)).trans hi
    obtain rfl : i = R := by simpa using e
    have := h.blk.symm.trans hi
    simp only [Option.some.injEq, Obj.cells.injEq] at this
    exact ht (this.2.1 ▸ hE)⟩
theorem Only.of_grown {base : Nat} {e : TypeId} {size : Nat} {v : Value} {n : Nat} {xs : List Value} (ho : W.ownsRow base e size v n xs) (hg : W.grownBy W' v.ownBlock) (hE : e ∈ E) : Only E W W' :=
  ⟨hg.os, hg.tape, hg.output, hg.size, fun i cs t fr hi ht => by
    have hlt := (Array.getElem?_eq_some_iff.1 hi).1
    refine (hg.block i hlt (fun e' => ?_)).trans hi
    rcases ho.2 with ⟨rfl, _⟩ | ⟨g, cap, cur, rfl, hg0, hgg, rest⟩
    · simp [Value.ownBlock] at e'
    · obtain rfl : i = g := by simpa [Value.ownBlock] using e'
      have := hgg.symm.trans hi
      simp only [Option.some.injEq, Obj.cells.injEq] at this
      exact ht (this.2.1 ▸ hE)⟩
theorem Only.setBox {B : Nat} {t : TypeId} {v : Value} (hb : Boxed W B t v) (u : Value) (hE : t ∈ E) : Only E W (W.setCell ⟨B, 0, none⟩ u) :=
  ⟨rfl, rfl, rfl, by simp [World.setCell], fun i cs t' fr hi ht => by
    refine (heap_setCell_other W ⟨B, 0, none⟩ i u (fun e => ?_)).trans hi
    have e : i = B := e
    subst e
    have := (show W.heap[i]? = _ from hb).symm.trans hi
    simp only [Option.some.injEq, Obj.cells.injEq] at this
    exact ht (this.2.1 ▸ hE)⟩
/-- What an append to a boxed slice does. -/
theorem box_step {B base m n : Nat} {t e : TypeId} {size : Nat} {v v' : Value} {xs ys : List Value} {w2 : World} {tmp : Obj} (hbx : Boxed W B t v) (hrow : W.ownsRow base e size v n xs) (hte : t ≠ e)
    (hown' : w2.ownsRow base e size v' m ys) (hgrow : (W.alloc tmp).grownBy w2 v.ownBlock) (hB : base ≤ B) (hbase : base ≤ W.heap.size) :
    Only [t, e] W (w2.setCell ⟨B, 0, none⟩ v') ∧ Boxed (w2.setCell ⟨B, 0, none⟩ v') B t v' ∧ (w2.setCell ⟨B, 0, none⟩ v').ownsRow base e size v' m ys ∧ Below base W (w2.setCell ⟨B, 0, none⟩ v') := by
  obtain ⟨h1, h2, h3, h4, h5⟩ := hbx.appended hte hrow hbase hB hown' hgrow
  refine ⟨?_, h2, h3, h5⟩
  refine ((Only.of_below ((Below.refl _ _).alloc (Nat.le_refl _) tmp)).trans (Only.of_grown (hrow.alloc tmp) hgrow (by simp))).trans (Only.setBox h1 v' (by simp))
end
/-- The cells of items. -/
def itemCells (xs : List Itm) : List Value := xs.flatMap fun x => [.int .i64 x.n, .slice x.a x.len x.cap]
theorem itemCells_len (xs : List Itm) : (itemCells xs).length = xs.length * 2 := by
  induction xs with
  | nil => rfl
  | cons x xs ih => simp only [itemCells, List.flatMap_cons, List.length_append, List.length_cons, List.length_nil] at *; omega
theorem itemCells_snoc (xs : List Itm) (x : Itm) : itemCells (xs ++ [x]) = itemCells xs ++ [.int .i64 x.n, .slice x.a x.len x.cap] := by simp [itemCells]
/-- Where readAll stands: the items and the bounds that it has, and the place. -/
structure St (w : World) (T R : Nat) (a2 : Option Addr) (len2 cap2 : Nat) (bs : List Int) (items : List Itm) (v0 : Value) (bds : List Int) (v1 : Value) (p : Nat) (W : World) : Prop where
  bx0 : Boxed W w.heap.size 50 v0
  bx1 : Boxed W (w.heap.size + 1) 63 v1
  bx2 : Boxed W (w.heap.size + 1 + 1) 24 (.int .i64 0)
  tab : IsTab W T
  rd : IsR W R p a2 len2 cap2 bs
  row0 : W.ownsRow w.heap.size 52 2 v0 items.length (itemCells items)
  row1 : W.ownsRow w.heap.size 3 1 v1 bds.length (bds.map (Value.int .i64))
  own : ∀ x ∈ items, Own W w.heap.size (.slice x.a x.len x.cap) x.xs
  below : Below w.heap.size w W
/-- A bound more. -/
theorem St.bound {w W w2 : World} {T R : Nat} {a2 : Option Addr} {len2 cap2 : Nat} {bs : List Int} {items : List Itm} {v0 v1 v' : Value} {bds : List Int} {p : Nat} {tmp : Obj} {b : Int}
    (h : St w T R a2 len2 cap2 bs items v0 bds v1 p W) (h2 : Rd w a2 len2 cap2 bs)
    (hown' : w2.ownsRow w.heap.size 3 1 v' (bds.length + 1) (bds.map (Value.int .i64) ++ [.int .i64 b])) (hgrow : (W.alloc tmp).grownBy w2 v1.ownBlock) :
    St w T R a2 len2 cap2 bs items v0 (bds ++ [b]) v' p (w2.setCell ⟨w.heap.size + 1, 0, none⟩ v') := by
  obtain ⟨o, bx, row, bel⟩ := box_step h.bx1 h.row1 (by decide) hown' hgrow (by omega) h.below.size
  have hb3 := h.below.trans bel
  exact ⟨o.boxed h.bx0 (by decide), bx, o.boxed h.bx2 (by decide), o.tab h.tab (by decide), ⟨o.block _ _ _ _ h.rd.blk (by decide), h2.below hb3 (Nat.le_refl _), h.rd.hp⟩,
    o.row h.row0 (by decide), by simpa using row, fun x hx => o.own (h.own x hx) (by decide), hb3⟩
/-- A field was read: the Reader has moved. -/
theorem St.moved {w W W' : World} {T R : Nat} {a2 : Option Addr} {len2 cap2 : Nat} {bs : List Int} {items : List Itm} {v0 v1 : Value} {bds : List Int} {p q : Nat}
    (h : St w T R a2 len2 cap2 bs items v0 bds v1 p W) (h2 : Rd w a2 len2 cap2 bs) (hR : w.heap.size ≤ R) (k : Moved W W' R q a2 len2 cap2 bs) : St w T R a2 len2 cap2 bs items v0 bds v1 q W' := by
  have o : Only [137] W W' := Only.of_moved h.rd k (by simp)
  have hb : Below w.heap.size w W' := h.below.trans ⟨k.grown.os, k.grown.tape, k.grown.output, k.grown.size, fun i hi => k.grown.block i (Nat.lt_of_lt_of_le hi h.below.size) (by intro e; simp at e; omega)⟩
  exact ⟨o.boxed h.bx0 (by decide), o.boxed h.bx1 (by decide), o.boxed h.bx2 (by decide), o.tab h.tab (by decide), k.isR,
    o.row h.row0 (by decide), o.row h.row1 (by decide), fun x hx => o.own (h.own x hx) (by decide), hb⟩
/-- An item more. -/
theorem St.item {w W w2 : World} {T R : Nat} {a2 : Option Addr} {len2 cap2 : Nat} {bs : List Int} {items : List Itm} {v0 v1 v' : Value} {bds : List Int} {p : Nat} {tmp : Obj} {x : Itm}
    (h : St w T R a2 len2 cap2 bs items v0 bds v1 p W) (h2 : Rd w a2 len2 cap2 bs) (hx : Own W w.heap.size (.slice x.a x.len x.cap) x.xs)
    (hown' : w2.ownsRow w.heap.size 52 2 v' (items.length + 1) (itemCells items ++ [.int .i64 x.n, .slice x.a x.len x.cap])) (hgrow : (W.alloc tmp).grownBy w2 v0.ownBlock) :
    St w T R a2 len2 cap2 bs (items ++ [x]) v' bds v1 p (w2.setCell ⟨w.heap.size, 0, none⟩ v') := by
  obtain ⟨o, bx, row, bel⟩ := box_step h.bx0 h.row0 (by decide) hown' hgrow (by omega) h.below.size
  have hb3 := h.below.trans bel
  refine ⟨bx, o.boxed h.bx1 (by decide), o.boxed h.bx2 (by decide), o.tab h.tab (by decide), ⟨o.block _ _ _ _ h.rd.blk (by decide), h2.below hb3 (Nat.le_refl _), h.rd.hp⟩,
    by rw [itemCells_snoc]; simpa using row, o.row h.row1 (by decide), fun y hy => ?_, hb3⟩
  rcases List.mem_append.1 hy with hy | hy
  · exact o.own (h.own y hy) (by decide)
  · obtain rfl : y = x := by simpa using hy
    exact o.own hx (by decide)
theorem St.alloc {w W : World} {T R : Nat} {a2 : Option Addr} {len2 cap2 : Nat} {bs : List Int} {items : List Itm} {v0 v1 : Value} {bds : List Int} {p : Nat} (h : St w T R a2 len2 cap2 bs items v0 bds v1 p W) (h2 : Rd w a2 len2 cap2 bs) {W' : World} (hb : Below W.heap.size W W') : St w T R a2 len2 cap2 bs items v0 bds v1 p W' := by
  have o : Only [] W W' := Only.of_below hb
  have hb3 : Below w.heap.size w W' := h.below.trans (hb.mono h.below.size)
  exact ⟨o.boxed h.bx0 (by simp), o.boxed h.bx1 (by simp), o.boxed h.bx2 (by simp), o.tab h.tab (by simp), ⟨o.block _ _ _ _ h.rd.blk (by simp), h2.below hb3 (Nat.le_refl _), h.rd.hp⟩,
    o.row h.row0 (by simp), o.row h.row1 (by simp), fun x hx => o.own (h.own x hx) (by simp), hb3⟩
end Go.Proofs.Ytmfijcniaehooaa
