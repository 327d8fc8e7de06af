/- Readers in memory, and where they stand. -/
import Derived.Test.YtmfijcniaehooaaWpackall
import Derived.Deep.QuietTactic
import Derived.BigQuiet
namespace Go.Proofs.Ytmfijcniaehooaa
set_option linter.unusedVariables false
open Go.RowKit

/-- In w the block R is a Reader of the bytes xs, at the place p. -/
structure IsR (w : World) (R p : Nat) (a : Option Addr) (len cap : Nat) (xs : List Int) : Prop where
  blk : w.heap[R]? = some (.cells #[.int .i64 p, .slice a len cap] 137 (0, 0))
  rd : Rd w a len cap xs
  hp : p ≤ len
theorem IsR.c0 {w : World} {R p len cap : Nat} {a : Option Addr} {xs : List Int} (h : IsR w R p a len cap xs) : w.cell? ⟨R, 0, none⟩ = some (.int .i64 p) := by rw [cell_of_row _ _ _ _ _ _ h.blk]; rfl
theorem IsR.c1 {w : World} {R p len cap : Nat} {a : Option Addr} {xs : List Int} (h : IsR w R p a len cap xs) : w.cell? ⟨R, 1, none⟩ = some (.slice a len cap) := by rw [cell_of_row _ _ _ _ _ _ h.blk]; rfl
theorem IsR.f0 {w : World} {R p len cap : Nat} {a : Option Addr} {xs : List Int} (h : IsR w R p a len cap xs) : w.frozen? ⟨R, 0, none⟩ = false := frozen_of_row _ _ _ _ _ h.blk
theorem IsR.lt {w : World} {R p len cap : Nat} {a : Option Addr} {xs : List Int} (h : IsR w R p a len cap xs) : R < w.heap.size := (Array.getElem?_eq_some_iff.1 h.blk).1
theorem below_drewN (B : Nat) (w : World) (n : Nat) : Below B w (w.drewN n) := ⟨rfl, rfl, rfl, Nat.le_refl _, fun _ _ => rfl⟩
theorem grown_drewN (w : World) (n : Nat) (row : Option Nat) : w.grownBy (w.drewN n) row := ⟨rfl, rfl, rfl, Nat.le_refl _, fun _ _ _ => rfl⟩
theorem grown_trans {a b c : World} {row : Option Nat} (h : a.grownBy b row) (k : b.grownBy c row) : a.grownBy c row :=
  ⟨k.os.trans h.os, k.tape.trans h.tape, k.output.trans h.output, Nat.le_trans h.size k.size, fun i hi hne => (k.block i (Nat.lt_of_lt_of_le hi h.size) hne).trans (h.block i hi hne)⟩
theorem grown_of_below {w w' : World} (h : Below w.heap.size w w') (row : Option Nat) : w.grownBy w' row := ⟨h.os, h.tape, h.output, h.size, fun i hi _ => h.block i hi⟩
theorem IsR.below {w w' : World} {B R p len cap : Nat} {a : Option Addr} {xs : List Int} (h : IsR w R p a len cap xs) (hb : Below B w w') (hB : w.heap.size ≤ B) : IsR w' R p a len cap xs :=
  ⟨(hb.block R (Nat.lt_of_lt_of_le h.lt hB)).trans h.blk, h.rd.below hb hB, h.hp⟩
theorem Rd.ne {w : World} {R len cap : Nat} {t : TypeId} {a : Option Addr} {xs : List Int} {n : Int} {u : Value} (h : Rd w a len cap xs) (hb : w.heap[R]? = some (.cells #[.int .i64 n, u] t (0, 0))) (hu : ∀ m, u ≠ .int .u8 m) (h0 : 0 < len) :
    ∀ b off, a = some ⟨b, off, none⟩ → b ≠ R := by
  rintro b off rfl rfl
  obtain ⟨b', off', e, hc⟩ := h.hr h0
  cases e
  have := hc 0 h0
  rw [cell_of_row _ _ _ _ _ _ hb] at this
  rcases ho : off with _ | _ | o
  · simp [ho] at this
  · simp [ho] at this; exact hu _ this
  · simp [ho] at this
/-- The place of a Reader is moved. -/
theorem IsR.move {w : World} {R p len cap : Nat} {a : Option Addr} {xs : List Int} (h : IsR w R p a len cap xs) (q : Nat) (hq : q ≤ len) : IsR (w.setCell ⟨R, 0, none⟩ (.int .i64 q)) R q a len cap xs := by
  refine ⟨heap_setCell_same _ _ _ _ _ _ h.blk, ?_, hq⟩
  have hr := h.rd
  refine ⟨hr.hl, hr.hc, hr.hm, hr.hb, hr.hn, fun h0 => ?_⟩
  obtain ⟨b, off, ha, hc⟩ := hr.hr h0
  have hne := hr.ne h.blk (by simp) h0 b off ha
  exact ⟨b, off, ha, fun i hi => by rw [← hc i hi]; exact World.cell?_of_block (w := w) (heap_setCell_other w ⟨R, 0, none⟩ b _ hne)⟩
theorem grown_setCell (w : World) (R i : Nat) (v : Value) : w.grownBy (w.setCell ⟨R, i, none⟩ v) (some R) :=
  ⟨rfl, rfl, rfl, by simp [World.setCell], fun k _ hk => heap_setCell_other w ⟨R, i, none⟩ k v (fun e => hk (by rw [e]))⟩

theorem addr_add (b off p : Nat) : (⟨b, off, none⟩ : Addr).add p = ⟨b, off + p, none⟩ := by
  by_cases h0 : p = 0
  · subst h0; rfl
  · simp [Addr.add, h0]
/-- A part, as the walk spells it. -/
theorem Rd.cut2 {w : World} {a : Option Addr} {len cap : Nat} {xs : List Int} (h : Rd w a len cap xs) (p n : Nat) (hp : p + n ≤ len) : Rd w (a.map (fun x => x.add p)) n (cap - p) ((xs.drop p).take n) := by
  have hl := h.hl
  have hc := h.hc
  have hm := h.hm
  refine ⟨by simp [hl]; omega, by omega, by omega, fun n hn => h.hb n (List.mem_of_mem_drop (List.mem_of_mem_take hn)), fun e => ?_, fun h0 => ?_⟩
  · have := h.hn (by simpa using e); omega
  · obtain ⟨b, off, rfl, hcell⟩ := h.hr (by omega)
    refine ⟨b, off + p, by simp [addr_add], fun j hj => ?_⟩
    have := hcell (p + j) (by omega)
    rw [Nat.add_assoc, this, getD_at _ _ (by omega), getD_at _ _ (by simp [hl]; omega)]
    simp
/-- The empty part at the end, as the walk spells it. -/
theorem Rd.cut0 {w : World} {a : Option Addr} {len cap : Nat} {xs : List Int} (h : Rd w a len cap xs) : Rd w a 0 0 [] :=
  ⟨rfl, Nat.le_refl _, Nat.zero_le _, by simp, fun _ => rfl, by simp⟩

section
variable {w : World} {R p len cap : Nat} {a : Option Addr} {xs : List Int} (h : IsR w R p a len cap xs)
include h
set_option maxHeartbeats 400000 in
theorem at_any : Calls Try.prog 52 #[.pointer (some ⟨R, 0, none⟩)] w fun e w' => e = .returned (.int .i64 p) ∧ w = w' := by
  have c0 := h.c0
  clear h
  go_enter Try.func52, Try.ntmps52
  go_wp2
  go_ret
  exact ⟨rfl, rfl⟩
set_option maxHeartbeats 400000 in
theorem left_any : Calls Try.prog 53 #[.pointer (some ⟨R, 0, none⟩)] w fun e w' => e = .returned (.int .i64 ((len : Int) - p)) ∧ ∃ n, w' = w.drewN n := by
  have c0 := h.c0
  have c1 := h.c1
  have hp := h.hp
  have hm := h.rd.hm
  have hc := h.rd.hc
  unfold maxLen at hm
  clear h
  go_enter Try.func53, Try.ntmps53
  go_wp2
  go_quiet (fail)
  go_wp2
  go_ret
  exact ⟨rfl, _, rfl⟩
set_option maxHeartbeats 400000 in
theorem goOn_any (n : Nat) (hn : p + n ≤ len) : Calls Try.prog 83 #[.pointer (some ⟨R, 0, none⟩), .int .i64 n] w fun e w' => e = .returned (.tuple #[]) ∧ w.setCell ⟨R, 0, none⟩ (.int .i64 ((p + n : Nat) : Int)) = w' := by
  have c0 := h.c0
  have f0 := h.f0
  have hm := h.rd.hm
  have hc := h.rd.hc
  unfold maxLen at hm
  clear h
  go_enter Try.func83, Try.ntmps83
  go_wp2
  go_end0
  exact ⟨rfl, by simp⟩
end
/-- What is read elsewhere stays. -/
theorem Rd.set {w : World} {R len cap p l2 c2 : Nat} {a : Option Addr} {xs ys : List Int} (h : Rd w a len cap xs) {a2 : Option Addr} (hR : IsR w R p a2 l2 c2 ys) (v : Value) : Rd (w.setCell ⟨R, 0, none⟩ v) a len cap xs := by
  refine ⟨h.hl, h.hc, h.hm, h.hb, h.hn, fun h0 => ?_⟩
  obtain ⟨b, off, ha, hc⟩ := h.hr h0
  have hne := h.ne hR.blk (by simp) h0 b off ha
  exact ⟨b, off, ha, fun i hi => by rw [← hc i hi]; exact World.cell?_of_block (w := w) (heap_setCell_other w ⟨R, 0, none⟩ b _ hne)⟩
theorem Own.set {w : World} {R p l2 c2 B : Nat} {v : Value} {ys xs : List Int} (h : Own w B v xs) {a2 : Option Addr} (hR : IsR w R p a2 l2 c2 ys) (u : Value) : Own (w.setCell ⟨R, 0, none⟩ u) B v xs := by
  refine ⟨⟨h.1.1, ?_⟩, h.2⟩
  rcases h.1.2 with hn | ⟨g, cap, cur, rfl, hg0, hg, rest⟩
  · exact .inl hn
  · refine .inr ⟨g, cap, cur, rfl, hg0, ?_, rest⟩
    rw [heap_setCell_other w ⟨R, 0, none⟩ g u ?_]
    · exact hg
    · rintro rfl
      have := hR.blk.symm.trans hg
      simp at this
/-- From w to w2 the Reader R was moved to q; nothing else that was there has changed, and what was read is read. -/
structure Moved (w w2 : World) (R q : Nat) (a : Option Addr) (len cap : Nat) (xs : List Int) : Prop where
  isR : IsR w2 R q a len cap xs
  grown : w.grownBy w2 (some R)
  keeps : ∀ a2 l2 c2 ys, Rd w a2 l2 c2 ys → Rd w2 a2 l2 c2 ys
  owns : ∀ B v ys, Own w B v ys → Own w2 B v ys
theorem went_any {w : World} {R p len cap : Nat} {a : Option Addr} {xs : List Int} (h : IsR w R p a len cap xs) (n : Nat) (hn : p + n ≤ len) :
    Calls Try.prog 83 #[.pointer (some ⟨R, 0, none⟩), .int .i64 n] w fun e w' => e = .returned (.tuple #[]) ∧ Moved w w' R (p + n) a len cap xs := by
  refine (goOn_any h n hn).mono ?_
  rintro e w' ⟨rfl, rfl⟩
  exact ⟨rfl, h.move (p + n) hn, grown_setCell _ _ _ _, fun a2 l2 c2 ys hr => hr.set h _, fun B v ys ho => ho.set h _⟩
theorem Moved.trans {w w1 w2 : World} {R q q2 : Nat} {a : Option Addr} {len cap : Nat} {xs : List Int} (h : Moved w w1 R q a len cap xs) (k : Moved w1 w2 R q2 a len cap xs) : Moved w w2 R q2 a len cap xs :=
  ⟨k.isR, grown_trans h.grown k.grown, fun a2 l2 c2 ys hr => k.keeps _ _ _ _ (h.keeps _ _ _ _ hr), fun B v ys ho => k.owns _ _ _ (h.owns _ _ _ ho)⟩
theorem Moved.of_below {w w1 : World} {R p : Nat} {a : Option Addr} {len cap : Nat} {xs : List Int} (h : IsR w R p a len cap xs) (hb : Below w.heap.size w w1) : Moved w w1 R p a len cap xs :=
  ⟨h.below hb (Nat.le_refl _), grown_of_below hb _, fun a2 l2 c2 ys hr => hr.below hb (Nat.le_refl _), fun B v ys ho => ho.below hb (Nat.le_refl _)⟩
end Go.Proofs.Ytmfijcniaehooaa
