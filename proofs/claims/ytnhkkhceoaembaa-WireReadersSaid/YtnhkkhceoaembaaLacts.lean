/- What a slice of acts reads as. -/
import Derived.Test.YtnhkkhceoaembaaLopen
namespace Go.Proofs.Ytnhkkhceoaembaa
set_option linter.unusedVariables false
open Go.RowKit Go.Deep Go.WideShapes Go.ChangeShapes

/-- A slice that reads as acts. -/
structure RdA (w : World) (a : Option Addr) (len cap : Nat) (xs : List (Int × Int)) : Prop where
  hl : xs.length = len
  hc : len ≤ cap
  hm : cap ≤ maxLen
  hb : ∀ x ∈ xs, (-9223372036854775808 ≤ x.1 ∧ x.1 ≤ 9223372036854775807) ∧ -9223372036854775808 ≤ x.2 ∧ x.2 ≤ 9223372036854775807
  hr : 0 < len → ∃ b off, a = some ⟨b, off, none⟩ ∧ ∀ i, i < len → w.cell? ⟨b, off + i * 2, none⟩ = some (.int .i64 (xs.getD i (0, 0)).1) ∧ w.cell? ⟨b, off + i * 2 + 1, none⟩ = some (.int .i64 (xs.getD i (0, 0)).2)
theorem RdA.below {w w' : World} {B : Nat} {a : Option Addr} {len cap : Nat} {xs : List (Int × Int)} (h : RdA w a len cap xs) (hb : Below B w w') (hB : w.heap.size ≤ B) : RdA w' a len cap xs := by
  refine ⟨h.hl, h.hc, h.hm, h.hb, fun h0 => ?_⟩
  obtain ⟨b, off, ha, hc⟩ := h.hr h0
  refine ⟨b, off, ha, fun i hi => ?_⟩
  have hk : ∀ {p : Addr} {v : Value}, w.cell? p = some v → w'.cell? p = some v := fun {p v} h => (hb.cell (Nat.lt_of_lt_of_le (World.block_lt_of_cell? w _ h) hB)).trans h
  exact ⟨hk (hc i hi).1, hk (hc i hi).2⟩
theorem Try.cellsAct : Try.prog.cellsOf 87 = 2 := by kernel_rfl
variable {H : Type} {enc : TypeId × Value → H} {W : World} {held : Bool}
set_option maxRecDepth 100000 in
theorem open_acts {fuel : Nat} {a : Option Addr} {len cap : Nat} {x : DataW H × List MemPlace} (h : DataW.trod enc Try.prog W 0 (fun _ => true) held fuel 75 [.slice a len cap] = some x) (hg : Light Try.prog 75 x.1) : ∃ fs, RdA W a len cap fs := by
  rcases open_slice Try.underlying75 h with ⟨hcs, _⟩ | ⟨ad, l, c, m, n, D, Pl, hcs, hb, hl, hm, hmm, _, hx⟩
  · simp at hcs
    obtain ⟨rfl, rfl, rfl⟩ := hcs
    exact ⟨[], rfl, Nat.le_refl _, Nat.zero_le _, by simp, by simp⟩
  · simp only [List.cons.injEq, Value.slice.injEq, and_true] at hcs
    obtain ⟨rfl, rfl, rfl⟩ := hcs
    have hlm : len ≤ m := by rw [hmm]; split <;> omega
    have each : ∀ i, i < len → ∃ f : Int × Int, ((-9223372036854775808 ≤ f.1 ∧ f.1 ≤ 9223372036854775807) ∧ -9223372036854775808 ≤ f.2 ∧ f.2 ≤ 9223372036854775807) ∧ W.cell? (ad.add (i * 2)) = some (.int .i64 f.1) ∧ W.cell? (ad.add (i * 2 + 1)) = some (.int .i64 f.2) := by
      intro i hi
      obtain ⟨cs', h1, h2⟩ := hx i (by omega)
      rw [Try.cellsAct] at h1
      obtain ⟨_, hlen, hcell⟩ := World.cells?_some h1
      obtain ⟨xs, k, hk, hxy, _, hxl, hf⟩ := DataW.trod_struct Try.underlying87 h2
      match xs, hxl, cs', hlen with
      | [y0, y1], _, [v0, v1], _ =>
        have g0 := hf 0 _ rfl
        have g1 := hf 1 _ rfl
        simp [Try.cells1.1] at g0 g1
        have e0 := hcell 0 (by omega)
        have e1 := hcell 1 (by omega)
        rw [add_add] at e0 e1
        obtain ⟨z1, hz1, -, hw1⟩ := DataW.trod_int Try.underlying3 g0
        obtain ⟨z2, hz2, -, hw2⟩ := DataW.trod_int Try.underlying3 g1
        simp at hz1 hz2
        subst hz1; subst hz2
        exact ⟨(z1, z2), ⟨⟨(wf_i64 hw1).1, (wf_i64 hw1).2⟩, (wf_i64 hw2).1, (wf_i64 hw2).2⟩, by simpa using e0, by simpa using e1⟩
    obtain ⟨q, hq⟩ := choose_lt each
    refine ⟨(List.range len).map q, by simp, hl, hm, fun f hf => ?_, fun h0 => ?_⟩
    · obtain ⟨i, hi, rfl⟩ := List.mem_map.1 hf
      exact (hq i (List.mem_range.1 hi)).1
    · obtain ⟨b, off, spot⟩ := ad
      have hspot : spot = none := by simpa [Addr.add] using World.cell?_spot (hq 0 h0).2.1
      subst hspot
      refine ⟨b, off, rfl, fun i hi => ?_⟩
      obtain ⟨-, c0, c1⟩ := hq i hi
      rw [addr_add] at c0 c1
      have e : ((List.range len).map q).getD i (0, 0) = q i := by simp [List.getD, hi]
      rw [e]
      exact ⟨c0, c1⟩
end Go.Proofs.Ytnhkkhceoaembaa
