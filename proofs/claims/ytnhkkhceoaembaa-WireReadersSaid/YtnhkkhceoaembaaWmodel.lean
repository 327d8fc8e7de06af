/- The law's model of a Reader. -/
import Derived.Test.YtnhkkhceoaembaaWdid2
namespace Go.Proofs.Ytnhkkhceoaembaa
set_option linter.unusedVariables false
open Go.RowKit

/-- In w the block M is a model of the bytes xs, at the place p. -/
structure IsM (w : World) (M p : Nat) (a : Option Addr) (len cap : Nat) (xs : List Int) : Prop where
  blk : w.heap[M]? = some (.cells #[.slice a len cap, .int .i64 p] 80 (0, 0))
  rd : Rd w a len cap xs
  hp : p ≤ len
theorem IsM.c0 {w : World} {M p len cap : Nat} {a : Option Addr} {xs : List Int} (h : IsM w M p a len cap xs) : w.cell? ⟨M, 0, none⟩ = some (.slice a len cap) := by rw [cell_of_row _ _ _ _ _ _ h.blk]; rfl
theorem IsM.c1 {w : World} {M p len cap : Nat} {a : Option Addr} {xs : List Int} (h : IsM w M p a len cap xs) : w.cell? ⟨M, 1, none⟩ = some (.int .i64 p) := by rw [cell_of_row _ _ _ _ _ _ h.blk]; rfl
theorem IsM.f1 {w : World} {M p len cap : Nat} {a : Option Addr} {xs : List Int} (h : IsM w M p a len cap xs) : w.frozen? ⟨M, 1, none⟩ = false := frozen_of_row _ _ _ _ _ h.blk
theorem IsM.lt {w : World} {M p len cap : Nat} {a : Option Addr} {xs : List Int} (h : IsM w M p a len cap xs) : M < w.heap.size := (Array.getElem?_eq_some_iff.1 h.blk).1
theorem IsM.below {w w' : World} {B M p len cap : Nat} {a : Option Addr} {xs : List Int} (h : IsM w M p a len cap xs) (hb : Below B w w') (hB : w.heap.size ≤ B) : IsM w' M p a len cap xs :=
  ⟨(hb.block M (Nat.lt_of_lt_of_le h.lt hB)).trans h.blk, h.rd.below hb hB, h.hp⟩
theorem model_no (v : Value) (z : Int) (hv : ∀ m, v ≠ .int .u8 m) : ∀ (i : Nat) (m : Int), (#[v, .int .i64 z] : Array Value)[i]? ≠ some (.int .u8 m) := by
  intro i m
  rcases i with _ | _ | i
  · simp; exact hv m
  · simp
  · simp
/-- From w to w2 the model M was moved to q, and nothing else that was there. -/
structure MovedM (w w2 : World) (M q : Nat) (a : Option Addr) (len cap : Nat) (xs : List Int) : Prop where
  isM : IsM w2 M q a len cap xs
  grown : w.grownBy w2 (some M)
  keeps : ∀ a2 l2 c2 ys, Rd w a2 l2 c2 ys → Rd w2 a2 l2 c2 ys
  owns : ∀ B v ys, Own w B v ys → Own w2 B v ys
theorem IsM.move {w : World} {M p len cap : Nat} {a : Option Addr} {xs : List Int} (h : IsM w M p a len cap xs) (q : Nat) (hq : q ≤ len) : MovedM w (w.setCell ⟨M, 1, none⟩ (.int .i64 q)) M q a len cap xs := by
  have hk : ∀ k, k ≠ M → (w.setCell ⟨M, 1, none⟩ (.int .i64 q)).heap[k]? = w.heap[k]? := fun k hk => heap_setCell_other w ⟨M, 1, none⟩ k _ hk
  have hno := model_no (.slice a len cap) p (by simp)
  refine ⟨⟨heap_setCell_same _ _ _ _ _ _ h.blk, h.rd.apart h.blk hno hk, hq⟩, grown_setCell _ _ _ _, fun a2 l2 c2 ys hr => hr.apart h.blk hno hk, fun B v ys ho => ho.apart h.blk (by decide) hk⟩
theorem MovedM.of_below {w w1 : World} {M p : Nat} {a : Option Addr} {len cap : Nat} {xs : List Int} (h : IsM w M p a len cap xs) (hb : Below w.heap.size w w1) : MovedM w w1 M p a len cap xs :=
  ⟨h.below hb (Nat.le_refl _), grown_of_below hb _, fun a2 l2 c2 ys hr => hr.below hb (Nat.le_refl _), fun B v ys ho => ho.below hb (Nat.le_refl _)⟩
theorem MovedM.trans {w w1 w2 : World} {M q q2 : Nat} {a : Option Addr} {len cap : Nat} {xs : List Int} (h : MovedM w w1 M q a len cap xs) (k : MovedM w1 w2 M q2 a len cap xs) : MovedM w w2 M q2 a len cap xs :=
  ⟨k.isM, grown_trans h.grown k.grown, fun a2 l2 c2 ys hr => k.keeps _ _ _ _ (h.keeps _ _ _ _ hr), fun B v ys ho => k.owns _ _ _ (h.owns _ _ _ ho)⟩
theorem MovedM.pre {w w1 w2 : World} {M q : Nat} {a : Option Addr} {len cap : Nat} {xs : List Int} (hb : Below w.heap.size w w1) (k : MovedM w1 w2 M q a len cap xs) : MovedM w w2 M q a len cap xs :=
  ⟨k.isM, grown_trans (grown_of_below hb _) k.grown, fun a2 l2 c2 ys hr => k.keeps _ _ _ _ (hr.below hb (Nat.le_refl _)), fun B v ys ho => k.owns _ _ _ (ho.below hb (Nat.le_refl _))⟩
theorem MovedM.low {w w2 w3 : World} {M p q : Nat} {a : Option Addr} {len cap : Nat} {xs : List Int} (h0 : IsM w M p a len cap xs) (k : MovedM w w2 M q a len cap xs) (hb : Below w.heap.size w2 w3) : MovedM w w3 M q a len cap xs :=
  ⟨⟨(hb.block M h0.lt).trans k.isM.blk, h0.rd.later k.isM.rd hb, k.isM.hp⟩,
    ⟨hb.os.trans k.grown.os, hb.tape.trans k.grown.tape, hb.output.trans k.grown.output, Nat.le_trans k.grown.size hb.size, fun i hi hne => (hb.block i hi).trans (k.grown.block i hi hne)⟩,
    fun a2 l2 c2 ys hr => hr.later (k.keeps _ _ _ _ hr) hb, fun B v ys ho => ho.later (k.owns _ _ _ ho) hb⟩
section
variable {w : World} {M p len cap : Nat} {a : Option Addr} {xs : List Int} (h : IsM w M p a len cap xs)
include h
set_option maxHeartbeats 400000 in
theorem took_ok (u : Nat) (hu : p + u ≤ len) : Calls Try.prog 81 #[.pointer (some ⟨M, 0, none⟩), .int .i64 u, .int .i64 0] w fun e w' => e = .returned (.tuple #[]) ∧ MovedM w w' M (p + u) a len cap xs := by
  have c1 := h.c1
  have f1 := h.f1
  have hm := h.rd.hm
  have hc := h.rd.hc
  unfold maxLen at hm
  have HM := Lib.hid (h.move (p + u) hu)
  clear h
  go_enter Try.func81, Try.ntmps81
  go_wp2
  go_end0
  refine ⟨rfl, ?_⟩
  have := HM.out
  simpa using this
omit h in
set_option maxHeartbeats 400000 in
theorem took_no (u er : Int) (her : er ≠ 0) : Calls Try.prog 81 #[.pointer (some ⟨M, 0, none⟩), .int .i64 u, .int .i64 er] w fun e w' => e = .returned (.tuple #[]) ∧ w' = w := by
  have hne : (er == 0) = false := by simp [her]
  clear her
  go_enter Try.func81, Try.ntmps81
  go_wp2
  go_end0
  exact ⟨rfl, rfl⟩
end
/-- What goes on by what was read, if it was. -/
theorem took_any {w : World} {M p len cap : Nat} {a : Option Addr} {xs : List Int} (h : IsM w M p a len cap xs) (u er : Int) (q : Nat) (hq : er = 0 → ∃ m : Nat, u = m ∧ p + m ≤ len ∧ q = p + m) (hq2 : er ≠ 0 → q = p) :
    Calls Try.prog 81 #[.pointer (some ⟨M, 0, none⟩), .int .i64 u, .int .i64 er] w fun e w' => e = .returned (.tuple #[]) ∧ MovedM w w' M q a len cap xs := by
  by_cases her : er = 0
  · obtain ⟨m, rfl, hm, rfl⟩ := hq her
    subst her
    exact took_ok h m hm
  · rw [hq2 her]
    refine (took_no u er her).mono ?_
    rintro e w' ⟨rfl, rfl⟩
    exact ⟨rfl, MovedM.of_below h (Below.refl _ _)⟩
/-- What the model's do tells. -/
def ToldM (w : World) (M : Nat) (a : Option Addr) (len cap : Nat) (xs : List Int) (n : Int) (bs : List Int) (er : Int) (q : Nat) (e : Ending) (w' : World) : Prop :=
  ∃ a1 l1 c1, e = .returned (.agg #[.int .i64 n, .slice a1 l1 c1, .int .i64 er]) ∧ Own w' w.heap.size (.slice a1 l1 c1) bs ∧ MovedM w w' M q a len cap xs
end Go.Proofs.Ytnhkkhceoaembaa
