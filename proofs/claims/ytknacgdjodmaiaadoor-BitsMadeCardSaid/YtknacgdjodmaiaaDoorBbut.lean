/- Layer 3: worlds in which one block alone has changed, and what is new. -/
import Derived.Test.YtknacgdjodmaiaaDoorBparts
namespace Go.Proofs.YtknacgdjodmaiaaDoor
set_option linter.unusedVariables false
open Go.RowKit Go.Shelf

/-- Block g is just these cells. -/
def Blk (w : World) (g : Nat) (t : TypeId) (cs : Array Value) : Prop := w.heap[g]? = some (.cells cs t (0, 0))
section
variable {w w' : World} {g : Nat} {t : TypeId} {cs : Array Value}
theorem Blk.lt (h : Blk w g t cs) : g < w.heap.size := by
  rcases Nat.lt_or_ge g w.heap.size with hlt | hge
  · exact hlt
  · unfold Blk at h; rw [Array.getElem?_eq_none hge] at h; cases h
theorem Blk.cell (h : Blk w g t cs) (i : Nat) : w.cell? ⟨g, i, none⟩ = cs[i]? := cell_of_row w g i cs t (0, 0) h
theorem Blk.frozen (h : Blk w g t cs) (i : Nat) : w.frozen? ⟨g, i, none⟩ = false := by
  unfold Blk at h
  simp [World.frozen?, h]
theorem Blk.set_ (h : Blk w g t cs) (i : Nat) (u : Value) : Blk (w.setCell ⟨g, i, none⟩ u) g t (cs.setIfInBounds i u) := by
  unfold Blk at h ⊢
  simp [World.setCell, Array.getElem?_modify, h]
theorem Blk.below {B : Nat} (h : Blk w g t cs) (hb : Below B w w') (hg : g < B) : Blk w' g t cs := (hb.block g hg).trans h
end
theorem heap_new (w : World) (o : Obj) : (w.alloc o).heap[w.heap.size]? = some o := heap_alloc_new w o
theorem below_drewN {B : Nat} {a w : World} (h : Below B a w) (n : Nat) : Below B a (w.drewN n) := ⟨h.os, h.tape, h.output, h.size, h.block⟩
/-- All but block g, and what lies ahead of it, is as it was. -/
structure But (g : Nat) (W W' : World) : Prop where
  below : Below g W W'
  others : ∀ k, k < W.heap.size → k ≠ g → W'.heap[k]? = W.heap[k]?
section
variable {g : Nat} {W W' W'' : World}
theorem But.refl (g : Nat) (W : World) : But g W W := ⟨Below.refl _ _, fun _ _ _ => rfl⟩
theorem But.size (h : But g W W') : W.heap.size ≤ W'.heap.size := h.below.size
theorem But.trans (h : But g W W') (k : But g W' W'') : But g W W'' :=
  ⟨h.below.trans k.below, fun i hi hg => (k.others i (Nat.lt_of_lt_of_le hi h.size) hg).trans (h.others i hi hg)⟩
theorem But.of_below (h : Below W.heap.size W W') (hg : g ≤ W.heap.size) : But g W W' := ⟨h.mono hg, fun k hk _ => h.block k hk⟩
theorem But.setCell (h : But g W W') (i : Nat) (u : Value) : But g W (W'.setCell ⟨g, i, none⟩ u) :=
  h.trans ⟨(Below.refl g W').setCell (p := ⟨g, i, none⟩) (Nat.le_refl _) u, fun k hk hne => Below.heap_setCell _ _ _ k hne⟩
theorem But.drewN (h : But g W W') (n : Nat) : But g W (W'.drewN n) := ⟨below_drewN h.below n, h.others⟩
theorem But.drew (h : But g W W') : But g W W'.drew := ⟨h.below.drew, h.others⟩
theorem But.alloc (h : But g W W') (hg : g ≤ W'.heap.size) (o : Obj) : But g W (W'.alloc o) :=
  h.trans (But.of_below ((Below.refl _ W').alloc (Nat.le_refl _) o) hg)
theorem But.blk {k : Nat} {t : TypeId} {cs : Array Value} (h : But g W W') (hb : Blk W k t cs) (hne : k ≠ g) : Blk W' k t cs := (h.others k hb.lt hne).trans hb
theorem But.boxed {k : Nat} {t : TypeId} {v : Value} (h : But g W W') (hb : Boxed W k t v) (hne : k ≠ g) : Boxed W' k t v := (h.others k hb.lt hne).trans hb
theorem But.keeps {t : TypeId} {cs : Array Value} (h : But g W W') (hb : Blk W g t cs) : KeepsOthers W W' :=
  ⟨h.size, fun k o hk ho => by
    by_cases e : k = g
    · subst e
      have : some o = some (Obj.cells cs t (0, 0)) := hk.symm.trans hb
      cases this
      cases ho
    · exact (h.others k (Array.getElem?_eq_some_iff.1 hk).1 e).trans hk⟩
theorem But.rd {a : Option Addr} {len cap : Nat} {xs : List Int} (h : But g W W') (hr : Rd W a len cap xs) (hne : ∀ x, a = some x → x.block ≠ g) : Rd W' a len cap xs := by
  refine ⟨hr.hl, hr.hc, hr.hm, hr.hb, hr.hn, fun h0 => ?_⟩
  obtain ⟨b, off, ha, hc⟩ := hr.hr h0
  refine ⟨b, off, ha, fun i hi => ?_⟩
  have hlt := World.block_lt_of_cell? W _ (hc i hi)
  exact (World.cell?_of_block (w := W) (a := ⟨b, off + i, none⟩) (h.others b hlt (hne _ ha))).trans (hc i hi)
end
/-- What a slice owns can be read, and where it lies. -/
theorem Own.rdb {w : World} {B m : Nat} {v : Value} {xs : List Int} (h : Own w B v xs) (hm : xs.length = m) : ∃ a cap, v = .slice a m cap ∧ Rd w a m cap xs ∧ (∀ x, a = some x → ∃ b, x = ⟨b, 0, none⟩ ∧ B ≤ b) := by
  subst hm
  rcases h.1.2 with ⟨rfl, h0⟩ | ⟨g, cap, cur, rfl, hg0, hg, hnc, hcm, hcs, htake⟩
  · obtain rfl : xs = [] := by simpa using h0
    exact ⟨none, 0, rfl, ⟨rfl, Nat.le_refl _, Nat.zero_le _, by simp, fun _ => rfl, by simp⟩, by simp⟩
  · refine ⟨_, cap, rfl, ⟨rfl, hnc, hcm, h.2, (by intro e; cases e), fun _ => ⟨g, 0, rfl, fun i hi => ?_⟩⟩, (by intro x e; cases e; exact ⟨g, rfl, hg0⟩)⟩
    rw [h.1.cellAt (0 + i) (by simpa using hi)]
    rw [Nat.zero_add, getD_at _ _ hi]
    simp [hi]
/-- Block g holds these cells: cells alone. -/
theorem blk_own {β : Type} (g : Nat) (t : TypeId) (f : β → Array Value) : Go.Own (fun s W => Blk W g t (f s)) := fun s X Y row hs hg hrow =>
  (hg.block g hs.lt (fun e => by obtain ⟨o, ho, hc⟩ := hrow g e.symm; have : some o = some (Obj.cells (f s) t (0, 0)) := ho.symm.trans hs; cases this; cases hc)).trans hs
theorem rd_own {β : Type} (a : Option Addr) (len cap : Nat) (xs : List Int) : Go.Own (fun (_ : β) W => Rd W a len cap xs) := fun s X Y row hr hg hrow => by
  refine ⟨hr.hl, hr.hc, hr.hm, hr.hb, hr.hn, fun h0 => ?_⟩
  obtain ⟨b, off, ha, hc⟩ := hr.hr h0
  exact ⟨b, off, ha, fun i hi => cell_kept (hc i hi) hg hrow⟩
theorem ownFrom_but {β : Type} {g B : Nat} {w₀ : World} (hg : g < w₀.heap.size) (hB : w₀.heap.size ≤ B) : OwnFrom B (fun (_ : β) W => But g w₀ W) :=
  fun _ X Y row hs hgr hrow => ⟨hs.below.grown hgr (by have := hs.size; omega) (fun k e => by have := (hrow k e).1; omega), fun k hk hne =>
    (hgr.block k (Nat.lt_of_lt_of_le hk hs.size) (fun e => by have := (hrow k e.symm).1; omega)).trans (hs.others k hk hne)⟩
theorem But.putNew {g : Nat} {W W' : World} (h : But g W W') {D : Nat} {o : Obj} (o' : Obj) (hD : W.heap.size ≤ D) (hg : g < W.heap.size) (hk : W'.heap[D]? = some o) : But g W (W'.putObj D o') :=
  ⟨h.below.grown (grownBy_putObj' W' D o') (by have := h.size; omega) (fun k e => by cases e; omega), fun k hk hne =>
    (World.putObj_heap_other (by omega)).trans (h.others k hk hne)⟩
theorem Blk.putNew {k : Nat} {W : World} {t : TypeId} {cs : Array Value} (h : Blk W k t cs) {D : Nat} (o' : Obj) (hne : k ≠ D) : Blk (W.putObj D o') k t cs := (World.putObj_heap_other hne).trans h
theorem Own.but {g B : Nat} {W W' : World} {v : Value} {xs : List Int} (h : Own W B v xs) (hb : But g W W') (hg : g < B) : Own W' B v xs := by
  refine ⟨⟨h.1.1, ?_⟩, h.2⟩
  rcases h.1.2 with hn | ⟨g', cap, cur, rfl, hg0, hgg, rest⟩
  · exact .inl hn
  · refine .inr ⟨g', cap, cur, rfl, hg0, ?_, rest⟩
    rw [hb.others g' (Array.getElem?_eq_some_iff.1 hgg).1 (by omega)]
    exact hgg
theorem Own.putNew {B D : Nat} {W : World} {v : Value} {xs : List Int} (h : Own W B v xs) {o : Obj} (o' : Obj) (hk : W.heap[D]? = some o) (ho : o.isCells = false) : Own (W.putObj D o') B v xs :=
  ⟨ownsRow_putObj h.1 o' hk ho, h.2⟩

theorem Own.stored {w : World} {B g n cap : Nat} {xs : List Int} (h : Own w B (.slice (some ⟨g, 0, none⟩) n cap) xs) (hn : xs.length = n) (j : Nat) (z : Int) (hz : 0 ≤ z ∧ z ≤ 255) :
    Own (w.setCell ⟨g, j, none⟩ (.int .u8 z)) B (.slice (some ⟨g, 0, none⟩) n cap) (xs.set j z) := by
  subst hn
  refine ⟨?_, fun m hm => ?_⟩
  · rw [List.length_set, List.map_set]
    exact (h.1.stored j (.int .u8 z)).1
  · rcases List.mem_or_eq_of_mem_set hm with hm | rfl
    · exact h.2 m hm
    · exact hz

end Go.Proofs.YtknacgdjodmaiaaDoor
