/- Parts, copies and growth of rows of bytes. -/
import Derived.Test.YtmfijcniaehooaaWtovar
import Derived.Laws.AppendOwnNone
namespace Go.Proofs.Ytmfijcniaehooaa
set_option linter.unusedVariables false
open Go.RowKit

theorem Rd.below {w w' : World} {B : Nat} {a : Option Addr} {len cap : Nat} {xs : List Int} (h : Rd w a len cap xs) (hb : Below B w w') (hB : w.heap.size ≤ B) : Rd w' a len cap xs := by
  refine ⟨h.hl, h.hc, h.hm, h.hb, h.hn, fun h0 => ?_⟩
  obtain ⟨b, off, ha, hc⟩ := h.hr h0
  refine ⟨b, off, ha, fun i hi => ?_⟩
  have hlt := World.block_lt_of_cell? w _ (hc i hi)
  exact (hb.cell (p := ⟨b, off + i, none⟩) (Nat.lt_of_lt_of_le hlt hB)).trans (hc i hi)
theorem Rd.cells {w : World} {x : Addr} {len cap : Nat} {xs : List Int} (h : Rd w (some x) len cap xs) : ∀ j u, (xs.map (Value.int .u8))[j]? = some u → w.cell? (x.add j) = some u := by
  intro j u hu
  have hj : j < xs.length := by
    have := (List.getElem?_eq_some_iff.1 hu).1
    simpa using this
  have hl := h.hl
  obtain ⟨b, off, ha, hc⟩ := h.hr (by omega)
  cases ha
  have := hc j (by omega)
  have e : (⟨b, off, none⟩ : Addr).add j = ⟨b, off + j, none⟩ := by
    by_cases h0 : j = 0
    · subst h0; rfl
    · simp [Addr.add, h0]
  rw [e, this]
  simp [hj] at hu
  rw [← hu, getD_at _ _ hj]
theorem oneCells (xs : List Int) : ∀ u ∈ xs.map (Value.int .u8), u.oneCell' = true := by
  intro u hu
  obtain ⟨n, _, rfl⟩ := List.mem_map.1 hu
  rfl
theorem Own.alloc {w : World} {B : Nat} {v : Value} {xs : List Int} (h : Own w B v xs) (o : Obj) : Own (w.alloc o) B v xs := ⟨h.1.alloc o, h.2⟩
theorem Own.below {w w' : World} {B B' : Nat} {v : Value} {xs : List Int} (h : Own w B v xs) (hb : Below B' w w') (hB : w.heap.size ≤ B') : Own w' B v xs := by
  refine ⟨⟨h.1.1, ?_⟩, h.2⟩
  rcases h.1.2 with hn | ⟨g, cap, cur, rfl, hg0, hg, rest⟩
  · exact .inl hn
  · refine .inr ⟨g, cap, cur, rfl, hg0, ?_, rest⟩
    rw [hb.block g (Nat.lt_of_lt_of_le (Array.getElem?_eq_some_iff.1 hg).1 hB)]
    exact hg
/-- What a slice owns can be read. -/
theorem Own.rd {w : World} {B : Nat} {v : Value} {xs : List Int} (h : Own w B v xs) : ∃ a cap, v = .slice a xs.length cap ∧ Rd w a xs.length cap xs := by
  rcases h.1.2 with ⟨rfl, h0⟩ | ⟨g, cap, cur, rfl, hg0, hg, hnc, hcm, hcs, htake⟩
  · obtain rfl : xs = [] := by simpa using h0
    exact ⟨none, 0, rfl, rfl, Nat.le_refl _, Nat.zero_le _, by simp, fun _ => rfl, by simp⟩
  · refine ⟨_, cap, rfl, rfl, hnc, hcm, h.2, (by intro e; cases e), fun _ => ⟨g, 0, rfl, fun i hi => ?_⟩⟩
    rw [h.1.cellAt (0 + i) (by simpa using hi)]
    rw [Nat.zero_add, getD_at _ _ hi]
    simp [hi]

/-- A part of what is read. -/
theorem Rd.cut {w : World} {b off len cap : Nat} {xs : List Int} (h : Rd w (some ⟨b, off, none⟩) len cap xs) (i m : Nat) (hi : i + m ≤ len) {x : Addr} {c : Nat} (hx : 0 < m → x = ⟨b, off + i, none⟩) (hc : m ≤ c) (hcm : c ≤ maxLen) :
    Rd w (some x) m c ((xs.drop i).take m) := by
  have hl := h.hl
  refine ⟨by simp [hl]; omega, hc, hcm, fun n hn => h.hb n (List.mem_of_mem_drop (List.mem_of_mem_take hn)), (by intro e; cases e), fun h0 => ?_⟩
  obtain rfl := hx h0
  obtain ⟨b', off', e, hcell⟩ := h.hr (by omega)
  cases e
  refine ⟨b, off + i, rfl, fun j hj => ?_⟩
  have := hcell (i + j) (by omega)
  rw [Nat.add_assoc, this, getD_at _ _ (by omega), getD_at _ _ (by simp [hl]; omega)]
  simp
/-- bytes.Clone. -/
theorem clone_any (a : Option Addr) (len cap : Nat) (xs : List Int) (w : World) (h : Rd w a len cap xs) (hbig : len ≤ 140737488355328) :
    Calls Try.prog 69 #[.slice a len cap] w fun e w' => ∃ v, e = .returned v ∧ Own w' w.heap.size v xs ∧ Below w.heap.size w w' := by
  have hl := h.hl
  cases a with
  | none =>
    have h0 := h.hn rfl
    have h1 := h.hc
    obtain rfl : xs = [] := by
      apply List.eq_nil_of_length_eq_zero; omega
    refine (Try.bytes_Clone_nil len cap w).mono ?_
    rintro e w' ⟨rfl, rfl⟩
    exact ⟨_, rfl, Own.nil _ _, Below.refl _ _⟩
  | some x =>
    refine (Try.bytes_Clone_at x len cap xs w hl hbig ?_).mono ?_
    · intro i hi
      refine h.cells i _ ?_
      simp [getD_at xs i (by omega), List.getElem?_eq_getElem (show i < xs.length by omega)]
    · rintro e w' ⟨v, rfl, ho, _, hb⟩
      exact ⟨v, rfl, ⟨by rw [hl]; exact ho, h.hb⟩, hb⟩

section
variable {P : Program} {w : World} {ops : Array Oper} {rest : List Oper} {o : Oper} {a : Act} {Q : Exit → Act → World → Prop}
/-- Bytes appended to a slice of the call's own, wherever they lie. -/
theorem wpList_append_rd (hgd : o.guard = none) (s x : Operand) (t : TypeId)
    (ho : o.op = .call { callee := .builtin .append, args := #[s, x], argTypes := #[t, t] }) (base : Nat)
    (hinfo : (P.info? 5).map (fun i => (i.zero, i.size, i.bytes)) = some (some (.int .u8 0), 1, 1)) (ht : P.underlying t = some (.slice 5))
    (v : Value) (ys : List Int) (hs : a.eval s = v) (hown : Own w base v ys) (ad : Option Addr) (m c : Nat) (xs : List Int) (hx : a.eval x = .slice ad m c) (hrd : Rd w ad m c xs)
    (hbytes : ys.length + m ≤ 140737488355328) (hbase : base ≤ w.heap.size)
    (h : ∀ v' w', Own w' base v' (ys ++ xs) → w.grownBy w' v.ownBlock → wpList P ops Q rest (a.put o.dst v') w') : wpList P ops Q (o :: rest) a w := by
  obtain ⟨i0, hi, hz0, hz1, hz2⟩ := info_parts hinfo
  have hbd : ∀ n ∈ ys ++ xs, 0 ≤ n ∧ n ≤ 255 := by
    intro n hn
    rcases List.mem_append.1 hn with hn | hn
    · exact hown.2 n hn
    · exact hrd.hb n hn
  have hl := hrd.hl
  cases ad with
  | none =>
    have hc0 := hrd.hn rfl
    have hcl := hrd.hc
    obtain rfl : m = 0 := by omega
    obtain rfl : xs = [] := by simpa using hl
    subst hc0
    exact wpList_append_own_none hgd s x t ho base _ i0 1 ht hi v ys.length _ hs hown.1 hx (h v w (by simpa using hown) ⟨rfl, rfl, rfl, Nat.le_refl _, fun _ _ _ => rfl⟩)
  | some x0 =>
    refine wpList_append_own w hgd s x t ho base _ i0 (.int .u8 0) 1 1 ht hi hz0 hz1 hz2 rfl (by decide) v ys.length _ hs hown.1 x0 m c (xs.map (Value.int .u8)) hx (by simp [hl]) hrd.cells (oneCells xs) (by unfold maxLen; omega) (by omega) hbase ?_
    intro v' w' ho' hg _
    exact h v' w' ⟨by rw [List.length_append, hl, List.map_append]; exact ho', hbd⟩ hg
end
end Go.Proofs.Ytmfijcniaehooaa
