/- The reference's ToText, told in plain values. -/
import Derived.Test.YtnhkkhceoaembaaRtext
import Derived.Deep.RegionHeldLaw
namespace Go.Proofs.Ytnhkkhceoaembaa
set_option linter.unusedVariables false
open Go.RowKit

theorem set3 {W : World} {g : Nat} {x y z a b c : Value} {t : TypeId} (h : W.heap[g]? = some (.cells #[x, y, z] t (0, 0))) : ((W.setCell ⟨g, 0, none⟩ a).setCell ⟨g, 1, none⟩ b).setCell ⟨g, 2, none⟩ c = W.setRow g #[a, b, c] := by
  have he : (((W.setCell ⟨g, 0, none⟩ a).setCell ⟨g, 1, none⟩ b).setCell ⟨g, 2, none⟩ c).heap = (W.setRow g #[a, b, c]).heap := by
    refine Array.ext_getElem? fun i => ?_
    by_cases hi : i = g
    · subst hi
      rw [setRow_heap _ _ _ _ _ _ h]
      simp [World.setCell, Array.getElem?_modify, h]
    · rw [setRow_other _ _ _ _ hi, heap_setCell_other _ ⟨g, 2, none⟩ i c hi, heap_setCell_other _ ⟨g, 1, none⟩ i b hi, heap_setCell_other _ ⟨g, 0, none⟩ i a hi]
  have e1 : ((W.setCell ⟨g, 0, none⟩ a).setCell ⟨g, 1, none⟩ b).setCell ⟨g, 2, none⟩ c = { W with heap := (((W.setCell ⟨g, 0, none⟩ a).setCell ⟨g, 1, none⟩ b).setCell ⟨g, 2, none⟩ c).heap } := rfl
  have e2 : W.setRow g #[a, b, c] = { W with heap := (W.setRow g #[a, b, c]).heap } := rfl
  rw [e1, e2, he]
theorem cells3 {W : World} {g : Nat} {x y z : Value} {t : TypeId} (h : W.heap[g]? = some (.cells #[x, y, z] t (0, 0))) : (W.cell? ⟨g, 0, none⟩ = some x ∧ W.cell? ⟨g, 1, none⟩ = some y ∧ W.cell? ⟨g, 2, none⟩ = some z) ∧ (W.frozen? ⟨g, 0, none⟩ = false ∧ W.frozen? ⟨g, 1, none⟩ = false ∧ W.frozen? ⟨g, 2, none⟩ = false) := by
  refine ⟨⟨cell_of_row W g 0 _ _ _ h, cell_of_row W g 1 _ _ _ h, cell_of_row W g 2 _ _ _ h⟩, ?_, ?_, ?_⟩ <;> simp [World.frozen?, h]
theorem le_of_some2 {a R k : Nat} (h : a ≤ R) (hk : some R = some k) : a ≤ k := by
  have : R = k := by simpa using hk
  omega
theorem Own.rdm {w : World} {B : Nat} {v : Value} {xs : List Int} (h : Own w B v xs) {n : Nat} (hn : xs.length = n) : ∃ a cap, v = .slice a n cap ∧ Rd w a n cap xs := by
  subst hn; exact h.rd
section
variable {P : Program} {w : World} {ops : Array Oper} {o : Oper} {a : Act} {K : Act → World → Prop} {Q : Exit → Act → World → Prop} {E : Prop}
/-- Bytes appended, at a step of a region that draws its order. -/
theorem step_append_rd (hgd : o.guard = none) (s x : Operand) (t : TypeId)
    (ho : o.op = .call { callee := .builtin .append, args := #[s, x], argTypes := #[t, t] }) (base : Nat)
    (hinfo : (P.info? 5).map (fun i => (i.zero, i.size, i.bytes)) = some (some (.int .u8 0), 1, 1)) (ht : P.underlying t = some (.slice 5))
    (v : Value) (ys : List Int) (hs : a.eval s = v) (hown : Own w base v ys) (x0 : Addr) (m c : Nat) (xs : List Int) (hx : a.eval x = .slice (some x0) m c) (hrd : Rd w (some x0) m c xs)
    (hbytes : ys.length + m ≤ 140737488355328) (hbase : base ≤ w.heap.size)
    (h : ∀ v' w', Own w' base v' (ys ++ xs) → w.grownBy w' v.ownBlock → K (a.put o.dst v') w') :
    if Region.wanted o (yielded ops a.tmps) = true then Oper.wp P o a w K Q else E := by
  have hw : Region.wanted o (yielded ops a.tmps) = true := by simp [Region.wanted, hgd]
  rw [if_pos hw]
  obtain ⟨i0, hi, hz0, hz1, hz2⟩ := info_parts hinfo
  have hbd : ∀ n ∈ ys ++ xs, 0 ≤ n ∧ n ≤ 255 := by
    intro n hn
    rcases List.mem_append.1 hn with hn | hn
    · exact hown.2 n hn
    · exact hrd.hb n hn
  have hl := hrd.hl
  refine wp_append_own w s x t ho base _ i0 (.int .u8 0) 1 1 ht hi hz0 hz1 hz2 rfl (by decide) v ys.length _ hs hown.1 x0 m c (xs.map (Value.int .u8)) hx (by simp [hl]) hrd.cells (oneCells xs) (by unfold maxLen; omega) (by omega) hbase ?_
  intro v' w' ho' hg _
  exact h v' w' ⟨by rw [List.length_append, hl, List.map_append]; exact ho', hbd⟩ hg
theorem step_store_row (hgd : o.guard = none) (ty : TypeId) (x y : Operand) (ho : o.op = .store ty x y)
    (g : Nat) (cells : Array Value) (hx : a.eval x = .pointer (some ⟨g, 0, none⟩)) (hy : a.eval y = .agg cells)
    (t : TypeId) (old : Array Value) (hg : w.heap[g]? = some (.cells old t (0, 0))) (hi : (P.info? ty).map (·.size) = some cells.size)
    (hold : old.size = cells.size) (h1 : cells.all (·.oneCell') = true)
    (h : K (a.put o.dst undef) (w.setRow g cells)) : if Region.wanted o (yielded ops a.tmps) = true then Oper.wp P o a w K Q else E := by
  have hw : Region.wanted o (yielded ops a.tmps) = true := by simp [Region.wanted, hgd]
  rw [if_pos hw]
  exact wp_store_row ty x y ho g cells hx hy t old hg hi hold h1 h
end
set_option maxRecDepth 100000 in
set_option maxHeartbeats 8000000 in
theorem refToText_ok (a : Option Addr) (len cap : Nat) (xs : List Int) (w : World) (h : Rd w a len cap xs) (n u : Int) (hv : toVarV xs = (n, u, 0)) (hn0 : 0 ≤ n) (hn : n ≤ 65535) (hu : 1 ≤ u) (hu9 : u ≤ 9) (hfit : n ≤ len - u) :
    Calls Try.prog 36 #[.slice a len cap] w fun e w' => ∃ v, e = .returned (.agg #[v, .int .i64 (u + n), .int .i64 0]) ∧
      Own w' w.heap.size v ((xs.drop u.toNat).take n.toNat) ∧ Below w.heap.size w w' := by
  have hc := h.hc
  have hm := h.hm
  unfold maxLen at hm
  obtain ⟨b, off, rfl, hcell⟩ := h.hr (by omega)
  have hg0 := heap_alloc_last w (.cells #[.slice none 0 0, .int .i64 0, .int .i64 0] 28)
  obtain ⟨W0, hW0⟩ : ∃ W0, W0 = w.alloc (.cells #[.slice none 0 0, .int .i64 0, .int .i64 0] 28) := ⟨_, rfl⟩
  have hs0 : W0.heap.size = w.heap.size + 1 := by rw [hW0]; simp
  have hb0 : Below w.heap.size w W0 := by rw [hW0]; exact (Below.refl _ w).alloc (Nat.le_refl _) _
  rw [← hW0] at hg0
  have H0 := Lib.hid (h.below hb0 (Nat.le_refl _))
  have Hb0 := Lib.hid hb0
  have HW0 := Lib.hid hW0
  have Hg := Lib.hid hg0
  have HT : Hid (num (toVarV xs) = .returned (.agg #[.int .i64 n, .int .i64 u, .int .i64 0])) := Lib.hid (by rw [hv]; rfl)
  clear hg0 hW0 hb0 hv hcell h
  go_enter Try.func36, Try.ntmps36
  go_wp2_with fail
  rw [← HW0.out]
  clear HW0
  refine (refToVar_any _ _ _ xs W0 H0.out).mono ?_
  rintro e w1 ⟨rfl, hb⟩
  rw [HT.out]
  have hs1 := hb.size
  have H1 := Lib.hid (H0.out.below hb (Nat.le_refl _))
  have Hb1 := Lib.hid hb
  clear hb HT H0
  go_wp2_with fail
  obtain ⟨w2, hw2⟩ : ∃ w2, w2 = w1.alloc (.cells #[.int .i64 n, .int .i64 u, .int .i64 0] 34) := ⟨_, rfl⟩
  have hs2 : w2.heap.size = w1.heap.size + 1 := by rw [hw2]; simp
  have hb2 : Below w1.heap.size w1 w2 := by rw [hw2]; exact (Below.refl _ w1).alloc (Nat.le_refl _) _
  have hcl : ∀ j, w2.cell? ⟨w1.heap.size, j, none⟩ = #[Value.int .i64 n, .int .i64 u, .int .i64 0][j]? := fun j => by rw [hw2]; exact World.cell?_alloc_mark w1 _ _ (0, 0) j
  rw [← hw2]
  have c0 : w2.cell? ⟨w1.heap.size, 0, none⟩ = some (.int .i64 n) := hcl 0
  have c1 : w2.cell? ⟨w1.heap.size, 1, none⟩ = some (.int .i64 u) := hcl 1
  have H2 := Lib.hid ((H1.out.below hb2 (Nat.le_refl _)))
  have Hb2 := Lib.hid (Hb1.out.trans (hb2.mono hs1))
  have Hg2 := Lib.hid ((Hb2.out.block w.heap.size (by omega)).trans Hg.out)
  have hl1 : w1.heap.size < w2.heap.size := by omega
  have hlw : w.heap.size < w2.heap.size := by omega
  clear hw2 hcl hb2 H1 Hb1
  have i1 : u ≤ u + n := by omega
  have i2 : u + n ≤ (cap : Int) := by omega
  have i3 : u + n - u = n := by omega
  have i4 : (0 : Int) ≤ u := by omega
  have i5 : IntKind.i64.wrap (u + n) = u + n := by rw [IntKind.wrap_i64]; omega
  have i6 : max (u + n) 0 = u + n := by omega
  have i7 : (0 : Int) ≤ u + n := by omega
  have i8 : (u + n).toNat - u.toNat = n.toNat := by omega
  by_cases hcu : cap = u.toNat
  · have hcu2 : u.toNat = cap := hcu.symm
    have i9 : (u + n).toNat - cap = n.toNat := by omega
    have HO : Hid (Own (w2.alloc (.cells #[] 5)).drew W0.heap.size (.slice (some ⟨w1.heap.size + 1, 0, none⟩) 0 0) []) := Lib.hid (by
      have := World.ownsRow_made (base := W0.heap.size) (e := 5) (size := 1) w2 #[] 0 (by omega) (by decide) rfl
      rw [hs2] at this
      exact ⟨this.drew, by simp⟩)
    have HR : Hid (Rd (w2.alloc (.cells #[] 5)).drew (some ⟨b, off, none⟩) n.toNat 0 ((xs.drop u.toNat).take n.toNat)) := Lib.hid
      ((Rd.cut H2.out u.toNat n.toNat (by omega) (by intro h0; exfalso; omega) (by omega) (by decide)).below ((Below.refl w2.heap.size w2).alloc (Nat.le_refl _) (.cells #[] 5)).drew (Nat.le_refl _))
    have hbs : W0.heap.size ≤ (w2.alloc (.cells #[] 5)).drew.heap.size := by simp; omega
    have hnl : ([] : List Int).length + n.toNat ≤ 140737488355328 := by simp; omega
    have hlen : ([] ++ (xs.drop u.toNat).take n.toNat).length = n.toNat := by
      have := H2.out.hl
      simp; omega
    have Hlen := Lib.hid hlen
    have HG : Hid (∀ w3, (w2.alloc (.cells #[] 5)).drew.grownBy w3 (some (w1.heap.size + 1)) → (Below W0.heap.size W0 w3 ∧ w3.heap[w.heap.size]? = some (.cells #[.slice none 0 0, .int .i64 0, .int .i64 0] 28 (0, 0))) ∧ w3.cell? ⟨w1.heap.size, 0, none⟩ = some (.int .i64 n) ∧ w3.cell? ⟨w1.heap.size, 1, none⟩ = some (.int .i64 u)) := Lib.hid (fun w3 hg => by
      have hb3 := ((Hb2.out.alloc (by omega) (.cells #[] 5)).drew).grown hg (by simp; omega) (fun k hk => le_of_some2 (by omega) hk)
      have hd : Below w2.heap.size w2 (w2.alloc (.cells #[] 5)).drew := ((Below.refl w2.heap.size w2).alloc (Nat.le_refl _) (.cells #[] 5)).drew
      refine ⟨⟨hb3, (hb3.block w.heap.size (by omega)).trans Hg.out⟩, ?_, ?_⟩
      · exact ((hg.cell_far _ (by simp; omega) (by simp)).trans (hd.cell hl1)).trans c0
      · exact ((hg.cell_far _ (by simp; omega) (by simp)).trans (hd.cell hl1)).trans c1)
    clear hlen
    have hne : ¬ w1.heap.size = w.heap.size := by omega
    have hne2 : ¬ w.heap.size = w1.heap.size := by omega
    clear hcu
    go_region_held_law (fun w' => w'.cell? ⟨w1.heap.size, 0, none⟩ = some (.int .i64 n) ∧ w'.cell? ⟨w1.heap.size, 1, none⟩ = some (.int .i64 u)) (first | go_keep | (exact ⟨k0, k1⟩) | (simp [k0, k1, hne, hne2]; done)) (first
      | (refine step_append_rd rfl _ _ 22 (by rfl) W0.heap.size Try.infoB Try.underlying22 (.slice (some ⟨w1.heap.size + 1, 0, none⟩) 0 0) [] (by rfl) HO.out _ _ _ ((xs.drop u.toNat).take n.toNat) (by rfl) HR.out hnl hbs ?_; intro v' w3 ho3 hg3; obtain ⟨a3, c3, hv3, hr3⟩ := ho3.rdm Hlen.out; subst hv3; have Ho3 := Lib.hid ho3; have Hg3 := Lib.hid (HG.out w3 hg3); have k0 := Hg3.out.2.1; have k1 := Hg3.out.2.2; obtain ⟨⟨q0, q1, q2⟩, q4, q5, q6⟩ := cells3 Hg3.out.1.2; clear ho3 hr3 hg3)
      | fail)
    go_wp2_with fail
    rw [set3 Hg3.out.1.2]
    refine bodyPost_ret (v := .agg #[.slice a3 n.toNat c3, .int .i64 (u + n), .int .i64 0]) ?_ rfl ?_
    · exact results_cell_row rfl _ _ w.heap.size 28 #[.slice a3 n.toNat c3, .int .i64 (u + n), .int .i64 0] (0, 0) _ rfl (setRow_heap _ _ _ _ _ _ Hg3.out.1.2) Try.underlying28 rfl (Try.sizeRaw _ _ _)
    · refine ⟨.slice a3 n.toNat c3, rfl, ?_, (Hb0.out.trans (Hg3.out.1.1.mono (by omega))).trans (below_setRow' _ _ _ _ (Nat.le_refl _))⟩
      exact (Ho3.out.setRow (by omega) _).mono (by omega)
  · have hcu' : (cap = u.toNat) = False := by simp [hcu]
    have HO : Hid (Own (w2.alloc (.cells #[] 5)).drew W0.heap.size (.slice (some ⟨w1.heap.size + 1, 0, none⟩) 0 0) []) := Lib.hid (by
      have := World.ownsRow_made (base := W0.heap.size) (e := 5) (size := 1) w2 #[] 0 (by omega) (by decide) rfl
      rw [hs2] at this
      exact ⟨this.drew, by simp⟩)
    have HR : Hid (Rd (w2.alloc (.cells #[] 5)).drew (some ⟨b, off + u.toNat, none⟩) n.toNat (cap - u.toNat) ((xs.drop u.toNat).take n.toNat)) := Lib.hid
      ((Rd.cut H2.out u.toNat n.toNat (by omega) (by intro h0; rfl) (by omega) (by unfold maxLen; omega)).below ((Below.refl w2.heap.size w2).alloc (Nat.le_refl _) (.cells #[] 5)).drew (Nat.le_refl _))
    have hbs : W0.heap.size ≤ (w2.alloc (.cells #[] 5)).drew.heap.size := by simp; omega
    have hnl : ([] : List Int).length + n.toNat ≤ 140737488355328 := by simp; omega
    have hlen : ([] ++ (xs.drop u.toNat).take n.toNat).length = n.toNat := by
      have := H2.out.hl
      simp; omega
    have Hlen := Lib.hid hlen
    have HG : Hid (∀ w3, (w2.alloc (.cells #[] 5)).drew.grownBy w3 (some (w1.heap.size + 1)) → (Below W0.heap.size W0 w3 ∧ w3.heap[w.heap.size]? = some (.cells #[.slice none 0 0, .int .i64 0, .int .i64 0] 28 (0, 0))) ∧ w3.cell? ⟨w1.heap.size, 0, none⟩ = some (.int .i64 n) ∧ w3.cell? ⟨w1.heap.size, 1, none⟩ = some (.int .i64 u)) := Lib.hid (fun w3 hg => by
      have hb3 := ((Hb2.out.alloc (by omega) (.cells #[] 5)).drew).grown hg (by simp; omega) (fun k hk => le_of_some2 (by omega) hk)
      have hd : Below w2.heap.size w2 (w2.alloc (.cells #[] 5)).drew := ((Below.refl w2.heap.size w2).alloc (Nat.le_refl _) (.cells #[] 5)).drew
      refine ⟨⟨hb3, (hb3.block w.heap.size (by omega)).trans Hg.out⟩, ?_, ?_⟩
      · exact ((hg.cell_far _ (by simp; omega) (by simp)).trans (hd.cell hl1)).trans c0
      · exact ((hg.cell_far _ (by simp; omega) (by simp)).trans (hd.cell hl1)).trans c1)
    clear hlen
    have hne : ¬ w1.heap.size = w.heap.size := by omega
    have hne2 : ¬ w.heap.size = w1.heap.size := by omega
    go_region_held_law (fun w' => w'.cell? ⟨w1.heap.size, 0, none⟩ = some (.int .i64 n) ∧ w'.cell? ⟨w1.heap.size, 1, none⟩ = some (.int .i64 u)) (first | go_keep | (exact ⟨k0, k1⟩) | (simp [k0, k1, hne, hne2]; done)) (first
      | (refine step_append_rd rfl _ _ 22 (by rfl) W0.heap.size Try.infoB Try.underlying22 (.slice (some ⟨w1.heap.size + 1, 0, none⟩) 0 0) [] (by rfl) HO.out _ _ _ ((xs.drop u.toNat).take n.toNat) (by rfl) HR.out hnl hbs ?_; intro v' w3 ho3 hg3; obtain ⟨a3, c3, hv3, hr3⟩ := ho3.rdm Hlen.out; subst hv3; have Ho3 := Lib.hid ho3; have Hg3 := Lib.hid (HG.out w3 hg3); have k0 := Hg3.out.2.1; have k1 := Hg3.out.2.2; obtain ⟨⟨q0, q1, q2⟩, q4, q5, q6⟩ := cells3 Hg3.out.1.2; clear ho3 hr3 hg3)
      | fail)
    go_wp2_with fail
    rw [set3 Hg3.out.1.2]
    refine bodyPost_ret (v := .agg #[.slice a3 n.toNat c3, .int .i64 (u + n), .int .i64 0]) ?_ rfl ?_
    · exact results_cell_row rfl _ _ w.heap.size 28 #[.slice a3 n.toNat c3, .int .i64 (u + n), .int .i64 0] (0, 0) _ rfl (setRow_heap _ _ _ _ _ _ Hg3.out.1.2) Try.underlying28 rfl (Try.sizeRaw _ _ _)
    · refine ⟨.slice a3 n.toNat c3, rfl, ?_, (Hb0.out.trans (Hg3.out.1.1.mono (by omega))).trans (below_setRow' _ _ _ _ (Nat.le_refl _))⟩
      exact (Ho3.out.setRow (by omega) _).mono (by omega)
set_option maxRecDepth 100000 in
set_option maxHeartbeats 1000000 in
theorem refToText_bad (a : Option Addr) (len cap : Nat) (xs : List Int) (w : World) (h : Rd w a len cap xs) (n u : Int) (hv : toVarV xs = (n, u, 0)) (hn0 : 0 ≤ n) (hn : n ≤ 9223372036854775807) (hu : 1 ≤ u) (hu9 : u ≤ 9) (hlen : u ≤ len) (hbad : 65535 < n) :
    Calls Try.prog 36 #[.slice a len cap] w fun e w' => e = .returned (.agg #[.slice none 0 0, .int .i64 0, .int .i64 2]) ∧ Below w.heap.size w w' := by
  have hc := h.hc
  have hm := h.hm
  unfold maxLen at hm
  have hg0 := heap_alloc_last w (.cells #[.slice none 0 0, .int .i64 0, .int .i64 0] 28)
  obtain ⟨W0, hW0⟩ : ∃ W0, W0 = w.alloc (.cells #[.slice none 0 0, .int .i64 0, .int .i64 0] 28) := ⟨_, rfl⟩
  have hs0 : W0.heap.size = w.heap.size + 1 := by rw [hW0]; simp
  have hb0 : Below w.heap.size w W0 := by rw [hW0]; exact (Below.refl _ w).alloc (Nat.le_refl _) _
  rw [← hW0] at hg0
  have H0 := Lib.hid (h.below hb0 (Nat.le_refl _))
  have Hb0 := Lib.hid hb0
  have HW0 := Lib.hid hW0
  have Hg := Lib.hid hg0
  have HT : Hid (num (toVarV xs) = .returned (.agg #[.int .i64 n, .int .i64 u, .int .i64 0])) := Lib.hid (by rw [hv]; rfl)
  clear hg0 hW0 hb0 hv h
  go_enter Try.func36, Try.ntmps36
  go_wp2_with fail
  rw [← HW0.out]
  clear HW0
  refine (refToVar_any _ _ _ xs W0 H0.out).mono ?_
  rintro e w1 ⟨rfl, hb⟩
  rw [HT.out]
  have hs1 := hb.size
  have hb2 := hb.alloc hs1 (.cells #[.int .i64 n, .int .i64 u, .int .i64 0] 34)
  have Hg2 := Lib.hid ((hb2.block w.heap.size (by omega)).trans Hg.out)
  have Hb2 := Lib.hid (Hb0.out.trans (hb2.mono (by omega)))
  clear hb hb2 HT H0
  go_wp2_with (refine wpList_store_row rfl 28 (.tmp 2) (.tmp 15) rfl w.heap.size #[.slice none 0 0, .int .i64 0, .int .i64 2] rfl rfl 28 #[.slice none 0 0, .int .i64 0, .int .i64 0] Hg2.out (Try.sizeRaw _ _ _) rfl (oneRaw _ _ _ _ _) ?_)
  refine bodyPost_ret (v := .agg #[.slice none 0 0, .int .i64 0, .int .i64 2]) ?_ rfl ?_
  · exact results_cell_row rfl _ _ w.heap.size 28 #[.slice none 0 0, .int .i64 0, .int .i64 2] (0, 0) _ rfl (setRow_heap _ _ _ _ _ _ Hg2.out) Try.underlying28 rfl (Try.sizeRaw _ _ _)
  · exact ⟨rfl, Hb2.out.trans (below_setRow' _ _ _ _ (Nat.le_refl _))⟩
set_option maxRecDepth 100000 in
set_option maxHeartbeats 1000000 in
theorem refToText_short (a : Option Addr) (len cap : Nat) (xs : List Int) (w : World) (h : Rd w a len cap xs) (n u : Int) (hv : toVarV xs = (n, u, 0)) (hn0 : 0 ≤ n) (hn : n ≤ 65535) (hu : 1 ≤ u) (hu9 : u ≤ 9) (hlen : u ≤ len) (hbad : len - u < n) :
    Calls Try.prog 36 #[.slice a len cap] w fun e w' => e = .returned (.agg #[.slice none 0 0, .int .i64 0, .int .i64 4]) ∧ Below w.heap.size w w' := by
  have hc := h.hc
  have hm := h.hm
  unfold maxLen at hm
  have hg0 := heap_alloc_last w (.cells #[.slice none 0 0, .int .i64 0, .int .i64 0] 28)
  obtain ⟨W0, hW0⟩ : ∃ W0, W0 = w.alloc (.cells #[.slice none 0 0, .int .i64 0, .int .i64 0] 28) := ⟨_, rfl⟩
  have hs0 : W0.heap.size = w.heap.size + 1 := by rw [hW0]; simp
  have hb0 : Below w.heap.size w W0 := by rw [hW0]; exact (Below.refl _ w).alloc (Nat.le_refl _) _
  rw [← hW0] at hg0
  have H0 := Lib.hid (h.below hb0 (Nat.le_refl _))
  have Hb0 := Lib.hid hb0
  have HW0 := Lib.hid hW0
  have Hg := Lib.hid hg0
  have HT : Hid (num (toVarV xs) = .returned (.agg #[.int .i64 n, .int .i64 u, .int .i64 0])) := Lib.hid (by rw [hv]; rfl)
  clear hg0 hW0 hb0 hv h
  go_enter Try.func36, Try.ntmps36
  go_wp2_with fail
  rw [← HW0.out]
  clear HW0
  refine (refToVar_any _ _ _ xs W0 H0.out).mono ?_
  rintro e w1 ⟨rfl, hb⟩
  rw [HT.out]
  have hs1 := hb.size
  have hb2 := hb.alloc hs1 (.cells #[.int .i64 n, .int .i64 u, .int .i64 0] 34)
  have Hg2 := Lib.hid ((hb2.block w.heap.size (by omega)).trans Hg.out)
  have Hb2 := Lib.hid (Hb0.out.trans (hb2.mono (by omega)))
  clear hb hb2 HT H0
  go_wp2_with (refine wpList_store_row rfl 28 (.tmp 2) (.tmp 24) rfl w.heap.size #[.slice none 0 0, .int .i64 0, .int .i64 4] rfl rfl 28 #[.slice none 0 0, .int .i64 0, .int .i64 0] Hg2.out (Try.sizeRaw _ _ _) rfl (oneRaw _ _ _ _ _) ?_)
  refine bodyPost_ret (v := .agg #[.slice none 0 0, .int .i64 0, .int .i64 4]) ?_ rfl ?_
  · exact results_cell_row rfl _ _ w.heap.size 28 #[.slice none 0 0, .int .i64 0, .int .i64 4] (0, 0) _ rfl (setRow_heap _ _ _ _ _ _ Hg2.out) Try.underlying28 rfl (Try.sizeRaw _ _ _)
  · exact ⟨rfl, Hb2.out.trans (below_setRow' _ _ _ _ (Nat.le_refl _))⟩
set_option maxRecDepth 100000 in
set_option maxHeartbeats 1000000 in
theorem refToText_err (a : Option Addr) (len cap : Nat) (xs : List Int) (w : World) (h : Rd w a len cap xs) (hv : toVarV xs = (0, 0, 4)) :
    Calls Try.prog 36 #[.slice a len cap] w fun e w' => e = .returned (.agg #[.slice none 0 0, .int .i64 0, .int .i64 4]) ∧ Below w.heap.size w w' := by
  have hc := h.hc
  have hm := h.hm
  unfold maxLen at hm
  have hg0 := heap_alloc_last w (.cells #[.slice none 0 0, .int .i64 0, .int .i64 0] 28)
  obtain ⟨W0, hW0⟩ : ∃ W0, W0 = w.alloc (.cells #[.slice none 0 0, .int .i64 0, .int .i64 0] 28) := ⟨_, rfl⟩
  have hs0 : W0.heap.size = w.heap.size + 1 := by rw [hW0]; simp
  have hb0 : Below w.heap.size w W0 := by rw [hW0]; exact (Below.refl _ w).alloc (Nat.le_refl _) _
  rw [← hW0] at hg0
  have H0 := Lib.hid (h.below hb0 (Nat.le_refl _))
  have Hb0 := Lib.hid hb0
  have HW0 := Lib.hid hW0
  have Hg := Lib.hid hg0
  have HT : Hid (num (toVarV xs) = .returned (.agg #[.int .i64 0, .int .i64 0, .int .i64 4])) := Lib.hid (by rw [hv]; rfl)
  clear hg0 hW0 hb0 hv h
  go_enter Try.func36, Try.ntmps36
  go_wp2_with fail
  rw [← HW0.out]
  clear HW0
  refine (refToVar_any _ _ _ xs W0 H0.out).mono ?_
  rintro e w1 ⟨rfl, hb⟩
  rw [HT.out]
  have hs1 := hb.size
  have hb2 := hb.alloc hs1 (.cells #[.int .i64 0, .int .i64 0, .int .i64 4] 34)
  have Hg2 := Lib.hid ((hb2.block w.heap.size (by omega)).trans Hg.out)
  have Hb2 := Lib.hid (Hb0.out.trans (hb2.mono (by omega)))
  clear hb hb2 HT H0
  go_wp2_with (refine wpList_store_row rfl 28 (.tmp 2) (.tmp 11) rfl w.heap.size #[.slice none 0 0, .int .i64 0, .int .i64 4] rfl rfl 28 #[.slice none 0 0, .int .i64 0, .int .i64 0] Hg2.out (Try.sizeRaw _ _ _) rfl (oneRaw _ _ _ _ _) ?_)
  refine bodyPost_ret (v := .agg #[.slice none 0 0, .int .i64 0, .int .i64 4]) ?_ rfl ?_
  · exact results_cell_row rfl _ _ w.heap.size 28 #[.slice none 0 0, .int .i64 0, .int .i64 4] (0, 0) _ rfl (setRow_heap _ _ _ _ _ _ Hg2.out) Try.underlying28 rfl (Try.sizeRaw _ _ _)
  · exact ⟨rfl, Hb2.out.trans (below_setRow' _ _ _ _ (Nat.le_refl _))⟩
theorem refToText_any (a : Option Addr) (len cap : Nat) (xs : List Int) (w : World) (h : Rd w a len cap xs) :
    Calls Try.prog 36 #[.slice a len cap] w fun e w' => ∃ v, e = .returned (.agg #[v, .int .i64 (toTextV xs).2.1, .int .i64 (toTextV xs).2.2]) ∧ Own w' w.heap.size v (toTextV xs).1 ∧ Below w.heap.size w w' := by
  have hb := toVarV_bd xs h.hb
  have hl := h.hl
  rcases hv : toVarV xs with ⟨n, u, e⟩
  rw [hv] at hb
  simp only at hb
  obtain ⟨b1, b2, b3, b4, b5, ⟨rfl, b6⟩ | ⟨rfl, rfl, rfl⟩⟩ := hb
  · by_cases c1 : 65535 < n
    · have e1 : toTextV xs = ([], 0, 2) := by unfold toTextV; simp [hv, c1]
      rw [e1]
      refine (refToText_bad a len cap xs w h n u hv b1 b2 b6 b4 (by omega) c1).mono ?_
      rintro e w' ⟨rfl, hbb⟩
      exact ⟨_, rfl, Own.nil _ _, hbb⟩
    · by_cases c2 : (xs.length : Int) - u < n
      · have e1 : toTextV xs = ([], 0, 4) := by unfold toTextV; simp [hv, c1, c2]
        rw [e1]
        refine (refToText_short a len cap xs w h n u hv b1 (by omega) b6 b4 (by omega) (by omega)).mono ?_
        rintro e w' ⟨rfl, hbb⟩
        exact ⟨_, rfl, Own.nil _ _, hbb⟩
      · have e1 : toTextV xs = ((xs.drop u.toNat).take n.toNat, u + n, 0) := by unfold toTextV; simp [hv, c1, c2]
        rw [e1]
        exact refToText_ok a len cap xs w h n u hv b1 (by omega) b6 b4 (by omega)
  · have e1 : toTextV xs = ([], 0, 4) := by unfold toTextV; simp [hv]
    rw [e1]
    refine (refToText_err a len cap xs w h hv).mono ?_
    rintro e w' ⟨rfl, hbb⟩
    exact ⟨_, rfl, Own.nil _ _, hbb⟩
end Go.Proofs.Ytnhkkhceoaembaa
