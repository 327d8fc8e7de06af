/- Layer 3: rows of bytes: what it is to read as bytes; parts, copies, growth, strings of them. -/
import Derived.Test.YtknacgdjodmaiaaDoorRows
import Derived.WalkKit
import Derived.WalkSpells
import Derived.WalkLawsBesides
import Derived.Lib.Hide
import Derived.Laws.BitsAllLaws
import Derived.Below
import Derived.Test.YtknacgdjodmaiaaDoorShelf
import Derived.Laws.AppendOwnNone
import Derived.Laws.BytesArg
import Derived.Maps.AppendAt
import Derived.OwnWalk
namespace Go.Proofs.YtknacgdjodmaiaaDoor
set_option linter.unusedVariables false
open Go.RowKit

/-- The slice (a, len, cap) reads in w as the bytes xs. -/
structure Rd (w : World) (a : Option Addr) (len cap : Nat) (xs : List Int) : Prop where
  hl : xs.length = len
  hc : len ≤ cap
  hm : cap ≤ maxLen
  hb : ∀ n ∈ xs, 0 ≤ n ∧ n ≤ 255
  hn : a = none → cap = 0
  hr : 0 < len → ∃ b off, a = some ⟨b, off, none⟩ ∧ ∀ i, i < len → w.cell? ⟨b, off + i, none⟩ = some (.int .u8 (xs.getD i 0))

theorem take_snoc (xs : List Int) (k : Nat) (h : k < xs.length) : xs.take (k + 1) = xs.take k ++ [xs[k]] := by
  rw [List.take_succ_eq_append_getElem h]
/-- In w the slice value v, of blocks from B on, is the bytes xs. -/
def Own (w : World) (B : Nat) (v : Value) (xs : List Int) : Prop := w.ownsRow B 5 1 v xs.length (xs.map (Value.int .u8)) ∧ ∀ n ∈ xs, 0 ≤ n ∧ n ≤ 255
theorem Own.nil (w : World) (B : Nat) : Own w B (.slice none 0 0) [] := ⟨World.ownsRow_nil _ _ _ _, by simp⟩
theorem getD_at (xs : List Int) (k : Nat) (h : k < xs.length) : xs.getD k 0 = xs[k] := by simp [List.getD, h]
theorem Rd.below {w w' : World} {B : Nat} {a : Option Addr} {len cap : Nat} {xs : List Int} (h : Rd w a len cap xs) (hb : Below B w w') (hB : w.heap.size ≤ B) : Rd w' a len cap xs := by
  refine ⟨h.hl, h.hc, h.hm, h.hb, h.hn, fun h0 => ?_⟩
  obtain ⟨b, off, ha, hc⟩ := h.hr h0
  refine ⟨b, off, ha, fun i hi => ?_⟩
  have hlt := World.block_lt_of_cell? w _ (hc i hi)
  exact (hb.cell (p := ⟨b, off + i, none⟩) (Nat.lt_of_lt_of_le hlt hB)).trans (hc i hi)
theorem Rd.cells {w : World} {x : Addr} {len cap : Nat} {xs : List Int} (h : Rd w (some x) len cap xs) : ∀ j u, (xs.map (Value.int .u8))[j]? = some u → w.cell? (x.add j) = some u := by
  intro j u hu
  have hj : j < xs.length := by
    have := (List.getElem?_eq_some_iff.1 hu).1
    simpa using this
  have hl := h.hl
  obtain ⟨b, off, ha, hc⟩ := h.hr (by omega)
  cases ha
  have := hc j (by omega)
  have e : (⟨b, off, none⟩ : Addr).add j = ⟨b, off + j, none⟩ := by
    by_cases h0 : j = 0
    · subst h0; rfl
    · simp [Addr.add, h0]
  rw [e, this]
  simp [hj] at hu
  rw [← hu, getD_at _ _ hj]
theorem oneCells (xs : List Int) : ∀ u ∈ xs.map (Value.int .u8), u.oneCell' = true := by
  intro u hu
  obtain ⟨n, _, rfl⟩ := List.mem_map.1 hu
  rfl
theorem Own.alloc {w : World} {B : Nat} {v : Value} {xs : List Int} (h : Own w B v xs) (o : Obj) : Own (w.alloc o) B v xs := ⟨h.1.alloc o, h.2⟩
theorem Own.below {w w' : World} {B B' : Nat} {v : Value} {xs : List Int} (h : Own w B v xs) (hb : Below B' w w') (hB : w.heap.size ≤ B') : Own w' B v xs := by
  refine ⟨⟨h.1.1, ?_⟩, h.2⟩
  rcases h.1.2 with hn | ⟨g, cap, cur, rfl, hg0, hg, rest⟩
  · exact .inl hn
  · refine .inr ⟨g, cap, cur, rfl, hg0, ?_, rest⟩
    rw [hb.block g (Nat.lt_of_lt_of_le (Array.getElem?_eq_some_iff.1 hg).1 hB)]
    exact hg
/-- What a slice owns can be read. -/
theorem Own.rd {w : World} {B : Nat} {v : Value} {xs : List Int} (h : Own w B v xs) : ∃ a cap, v = .slice a xs.length cap ∧ Rd w a xs.length cap xs := by
  rcases h.1.2 with ⟨rfl, h0⟩ | ⟨g, cap, cur, rfl, hg0, hg, hnc, hcm, hcs, htake⟩
  · obtain rfl : xs = [] := by simpa using h0
    exact ⟨none, 0, rfl, rfl, Nat.le_refl _, Nat.zero_le _, by simp, fun _ => rfl, by simp⟩
  · refine ⟨_, cap, rfl, rfl, hnc, hcm, h.2, (by intro e; cases e), fun _ => ⟨g, 0, rfl, fun i hi => ?_⟩⟩
    rw [h.1.cellAt (0 + i) (by simpa using hi)]
    rw [Nat.zero_add, getD_at _ _ hi]
    simp [hi]

/-- A part of what is read. -/
theorem Rd.cut {w : World} {b off len cap : Nat} {xs : List Int} (h : Rd w (some ⟨b, off, none⟩) len cap xs) (i m : Nat) (hi : i + m ≤ len) {x : Addr} {c : Nat} (hx : 0 < m → x = ⟨b, off + i, none⟩) (hc : m ≤ c) (hcm : c ≤ maxLen) :
    Rd w (some x) m c ((xs.drop i).take m) := by
  have hl := h.hl
  refine ⟨by simp [hl]; omega, hc, hcm, fun n hn => h.hb n (List.mem_of_mem_drop (List.mem_of_mem_take hn)), (by intro e; cases e), fun h0 => ?_⟩
  obtain rfl := hx h0
  obtain ⟨b', off', e, hcell⟩ := h.hr (by omega)
  cases e
  refine ⟨b, off + i, rfl, fun j hj => ?_⟩
  have := hcell (i + j) (by omega)
  rw [Nat.add_assoc, this, getD_at _ _ (by omega), getD_at _ _ (by simp [hl]; omega)]
  simp
theorem Tryd.infoB : (Tryd.prog.info? 5).map (fun i => (i.zero, i.size, i.bytes)) = some (some (.int .u8 0), 1, 1) := by kernel_rfl
section
variable {P : Program} {w : World} {ops : Array Oper} {rest : List Oper} {o : Oper} {a : Act} {Q : Exit → Act → World → Prop}
/-- Bytes appended to a slice of the call's own, wherever they lie. -/
theorem wpList_append_rd (hgd : o.guard = none) (s x : Operand) (t : TypeId)
    (ho : o.op = .call { callee := .builtin .append, args := #[s, x], argTypes := #[t, t] }) (base : Nat)
    (hinfo : (P.info? 5).map (fun i => (i.zero, i.size, i.bytes)) = some (some (.int .u8 0), 1, 1)) (ht : P.underlying t = some (.slice 5))
    (v : Value) (ys : List Int) (hs : a.eval s = v) (hown : Own w base v ys) (ad : Option Addr) (m c : Nat) (xs : List Int) (hx : a.eval x = .slice ad m c) (hrd : Rd w ad m c xs)
    (hbytes : ys.length + m ≤ 140737488355328) (hbase : base ≤ w.heap.size)
    (h : ∀ v' w', Own w' base v' (ys ++ xs) → w.grownBy w' v.ownBlock → wpList P ops Q rest (a.put o.dst v') w') : wpList P ops Q (o :: rest) a w := by
  obtain ⟨i0, hi, hz0, hz1, hz2⟩ := info_parts hinfo
  have hbd : ∀ n ∈ ys ++ xs, 0 ≤ n ∧ n ≤ 255 := by
    intro n hn
    rcases List.mem_append.1 hn with hn | hn
    · exact hown.2 n hn
    · exact hrd.hb n hn
  have hl := hrd.hl
  cases ad with
  | none =>
    have hc0 := hrd.hn rfl
    have hcl := hrd.hc
    obtain rfl : m = 0 := by omega
    obtain rfl : xs = [] := by simpa using hl
    subst hc0
    exact wpList_append_own_none hgd s x t ho base _ i0 1 ht hi v ys.length _ hs hown.1 hx (h v w (by simpa using hown) ⟨rfl, rfl, rfl, Nat.le_refl _, fun _ _ _ => rfl⟩)
  | some x0 =>
    refine wpList_append_own w hgd s x t ho base _ i0 (.int .u8 0) 1 1 ht hi hz0 hz1 hz2 rfl (by decide) v ys.length _ hs hown.1 x0 m c (xs.map (Value.int .u8)) hx (by simp [hl]) hrd.cells (oneCells xs) (by unfold maxLen; omega) (by omega) hbase ?_
    intro v' w' ho' hg _
    exact h v' w' ⟨by rw [List.length_append, hl, List.map_append]; exact ho', hbd⟩ hg
end
theorem Rd.convAny {w : World} {a : Option Addr} {len cap : Nat} {xs : List Int} (h : Rd w a len cap xs) : (convert 22 9 (.slice a len cap)).run Tryd.prog w = .ok (.string (strOfNums xs)) w := by
  by_cases h0 : 0 < len
  · obtain ⟨b, off, rfl, hc⟩ := h.hr h0
    exact run_convert_bytes_arg w 22 5 Tryd.underlying22 Tryd.underlying5 b off len cap xs h.hl hc 9 Tryd.underlying9
  · obtain rfl : len = 0 := by omega
    obtain rfl : xs = [] := List.eq_nil_of_length_eq_zero h.hl
    rcases a with _ | ad
    · exact run_convert_bytes_nil w 22 5 Tryd.underlying22 Tryd.underlying5 0 cap 9 Tryd.underlying9
    · rw [run_convert_bytes_string w 22 9 5 (some ad) 0 cap Tryd.underlying22 Tryd.underlying5 Tryd.underlying9]
      have hl := run_loadCells_list (P := Tryd.prog) w ad [] (fun j v hj => by simp at hj)
      rw [run_bytesToString w ad 0 cap [] (by simpa using hl)]
      rfl
theorem strOfNums_inj {xs ys : List Int} (hx : ∀ n ∈ xs, 0 ≤ n ∧ n ≤ 255) (hy : ∀ n ∈ ys, 0 ≤ n ∧ n ≤ 255) (h : strOfNums xs = strOfNums ys) : xs = ys := by
  have h1 : xs.map (fun n => UInt8.ofNat n.toNat) = ys.map (fun n => UInt8.ofNat n.toNat) := by
    rw [← strOfNums_data, ← strOfNums_data, h]
  clear h
  induction xs generalizing ys with
  | nil => cases ys with
    | nil => rfl
    | cons y ys => simp at h1
  | cons x xs ih => cases ys with
    | nil => simp at h1
    | cons y ys =>
      simp only [List.map_cons, List.cons.injEq] at h1
      have a := hx x (by simp)
      have b := hy y (by simp)
      have e : (UInt8.ofNat x.toNat).toNat = (UInt8.ofNat y.toNat).toNat := by rw [h1.1]
      simp only [UInt8.toNat_ofNat'] at e
      have hxy : x = y := by omega
      rw [hxy, ih (fun n hn => hx n (by simp [hn])) (fun n hn => hy n (by simp [hn])) h1.2]
theorem Own.rdz {w : World} {B m : Nat} {v : Value} {xs : List Int} (h : Own w B v xs) (hm : xs.length = m) : ∃ a cap, v = .slice a m cap ∧ Rd w a m cap xs := by subst hm; exact h.rd
theorem Rd.drewN {w : World} {a : Option Addr} {len cap : Nat} {xs : List Int} (h : Rd w a len cap xs) (n : Nat) : Rd (w.drewN n) a len cap xs := ⟨h.hl, h.hc, h.hm, h.hb, h.hn, h.hr⟩
theorem Rd.drew {w : World} {a : Option Addr} {len cap : Nat} {xs : List Int} (h : Rd w a len cap xs) : Rd w.drew a len cap xs := ⟨h.hl, h.hc, h.hm, h.hb, h.hn, h.hr⟩
theorem str_eq {xs ys : List Int} (hx : ∀ n ∈ xs, 0 ≤ n ∧ n ≤ 255) (hy : ∀ n ∈ ys, 0 ≤ n ∧ n ≤ 255) : ((strOfNums xs).toList == (strOfNums ys).toList) = decide (xs = ys) := by
  by_cases hxy : xs = ys
  · subst hxy; simp
  · rw [decide_eq_false hxy]
    have : strOfNums xs ≠ strOfNums ys := fun hh => hxy (strOfNums_inj hx hy hh)
    rw [beq_eq_false_iff_ne]
    intro hh
    rw [ByteArray.toList_eq, ByteArray.toList_eq] at hh
    exact this (ByteArray.ext (Array.toList_inj.1 hh))
theorem Rd.nil (w : World) : Rd w none 0 0 [] := ⟨rfl, Nat.le_refl _, Nat.zero_le _, by simp, fun _ => rfl, by simp⟩
theorem Own.mono {w : World} {B B' : Nat} {v : Value} {xs : List Int} (h : Own w B v xs) (hB : B' ≤ B) : Own w B' v xs := by
  refine ⟨⟨h.1.1, ?_⟩, h.2⟩
  rcases h.1.2 with hn | ⟨g, cap, cur, rfl, hg0, rest⟩
  · exact .inl hn
  · exact .inr ⟨g, cap, cur, rfl, Nat.le_trans hB hg0, rest⟩

theorem clone_any (a : Option Addr) (len cap : Nat) (xs : List Int) (w : World) (h : Rd w a len cap xs) (hbig : len ≤ 140737488355328) :
    Calls Tryd.prog 85 #[.slice a len cap] w fun e w' => ∃ v, e = .returned v ∧ Own w' w.heap.size v xs ∧ Below w.heap.size w w' := by
  have hl := h.hl
  cases a with
  | none =>
    have h0 := h.hn rfl
    have h1 := h.hc
    obtain rfl : xs = [] := by
      apply List.eq_nil_of_length_eq_zero; omega
    refine (Tryd.bytes_Clone_nil len cap w).mono ?_
    rintro e w' ⟨rfl, rfl⟩
    exact ⟨_, rfl, Own.nil _ _, Below.refl _ _⟩
  | some x =>
    refine (Tryd.bytes_Clone_at x len cap xs w hl hbig ?_).mono ?_
    · intro i hi
      refine h.cells i _ ?_
      simp [getD_at xs i (by omega), List.getElem?_eq_getElem (show i < xs.length by omega)]
    · rintro e w' ⟨v, rfl, ho, _, hb⟩
      exact ⟨v, rfl, ⟨by rw [hl]; exact ho, h.hb⟩, hb⟩
end Go.Proofs.YtknacgdjodmaiaaDoor
