/- What an argument reads as (layer 3): bytes and bitmaps out of the form in which a statement hands them in. -/
import Derived.Test.YtknacgdjodmaiaaDoorBlaid
import Derived.Deep.Slices
import Derived.ChangeMaps5
import Derived.OpenShut
import Derived.SizedLaws
namespace Go.Proofs.YtknacgdjodmaiaaDoor
set_option linter.unusedVariables false
open Go.RowKit Go.Deep Go.WideShapes Go.ChangeShapes

theorem Tryd.cellsB : Tryd.prog.cellsOf 5 = 1 := by kernel_rfl
theorem cellsSl : Tryd.prog.cellsOf 22 = 1 := by kernel_rfl
theorem cellsBt : Tryd.prog.cellsOf 24 = 2 := by kernel_rfl
theorem addr_add (b off i : Nat) : (⟨b, off, none⟩ : Addr).add i = ⟨b, off + i, none⟩ := by
  by_cases h0 : i = 0
  · subst h0; rfl
  · simp [Addr.add, h0]
theorem wf_i64 {n : Int} (h : (Lit.int .i64 n).wf = true) : -9223372036854775808 ≤ n ∧ n ≤ 9223372036854775807 := by
  simp [Lit.wf, IntKind.min, IntKind.max, IntKind.signed, IntKind.bits] at h
  omega
theorem wf_u8 {n : Int} (h : (Lit.int .u8 n).wf = true) : 0 ≤ n ∧ n ≤ 255 := by
  simp [Lit.wf, IntKind.min, IntKind.max, IntKind.signed, IntKind.bits] at h
  omega
theorem wf_u32 {n : Int} (h : (Lit.int .u32 n).wf = true) : 0 ≤ n ∧ n ≤ 4294967295 := by
  simp [Lit.wf, IntKind.min, IntKind.max, IntKind.signed, IntKind.bits] at h
  omega
theorem Tryd.bytesB : Tryd.prog.bytesOf 5 = 1 := by kernel_rfl
theorem reach_eq : reachBytes = 140737488351232 := rfl
theorem weightsAll_mem {H : Type} {P : Program} {e : TypeId} : ∀ {ds : List (DataW H)} {d : DataW H}, d ∈ ds → ∀ n ∈ d.weights P e, n ∈ DataW.weightsAll P e ds
  | [], _, h, _, _ => by simp at h
  | d0 :: ds, d, hd, n, hn => by
    simp only [DataW.weightsAll, List.mem_append]
    rcases List.mem_cons.1 hd with rfl | h
    · exact Or.inl hn
    · exact Or.inr (weightsAll_mem h n hn)
/-- All that a datum holds is within the reach. -/
def Light {H : Type} (P : Program) (t : TypeId) (d : DataW H) : Prop := ∀ n ∈ d.weights P t, n ≤ reachBytes
theorem light_at {H : Type} {P : Program} {ts : List TypeId} {ds : List (DataW H)} (h : (DataW.weightsEach P ts ds).all (· ≤ reachBytes) = true) {j : Nat} {t : TypeId} {d : DataW H} (ht : ts[j]? = some t) (hd : ds[j]? = some d) : Light P t d :=
  fun n hn => by simpa using List.all_eq_true.1 h n (DataW.weights_mem_each ht hd n hn)
theorem light_elem {H : Type} {P : Program} {t e : TypeId} {elems rest : List (DataW H)} {d : DataW H} (h : Light P t (.slice elems rest)) (ht : P.underlying t = some (.slice e)) (hd : d ∈ elems) : Light P e d :=
  fun n hn => h n (by simp only [DataW.weights, ht, List.mem_cons, List.mem_append]; exact .inr (.inl (weightsAll_mem hd n hn)))
section
variable {H : Type} {enc : TypeId × Value → H} {W : World} {held : Bool}
theorem open_rd {fuel : Nat} {a : Option Addr} {len cap : Nat} {x : DataW H × List MemPlace} (h : DataW.trod enc Tryd.prog W 0 (fun _ => true) held fuel 22 [.slice a len cap] = some x) (hg : Light Tryd.prog 22 x.1) : ∃ xs, Rd W a len cap xs ∧ cap ≤ 140737488351232 := by
  rcases open_ints Tryd.underlying22 Tryd.underlying5 Tryd.cellsB h with ⟨hcs, _⟩ | ⟨ad, l, c, zs, hcs, _, hl, hm, hz, hxx, hcell, hwz⟩
  · simp at hcs
    obtain ⟨rfl, rfl, rfl⟩ := hcs
    exact ⟨[], ⟨rfl, Nat.le_refl _, Nat.zero_le _, by simp, fun _ => rfl, by simp⟩, by omega⟩
  · simp only [List.cons.injEq, Value.slice.injEq, and_true] at hcs
    obtain ⟨rfl, rfl, rfl⟩ := hcs
    simp only [if_true] at hz
    have hr := hg cap (by rw [hxx]; simp [DataW.weights, Tryd.underlying22, Tryd.bytesB, lits, hz]; left; omega)
    rw [reach_eq] at hr
    refine ⟨zs.take len, ⟨by simp; omega, hl, hm, fun n hn => wf_u8 (hwz n (List.mem_of_mem_take hn)), (by intro e; cases e), fun h0 => ?_⟩, hr⟩
    obtain ⟨b, off, spot⟩ := ad
    have hc := hcell 0 (by omega)
    have hspot : spot = none := by simpa [Addr.add] using World.cell?_spot hc
    subst hspot
    refine ⟨b, off, rfl, fun i hi => ?_⟩
    have hc := hcell i (by omega)
    rw [addr_add] at hc
    rw [hc]
    have hi2 : i < zs.length := by omega
    simp [List.getD, List.getElem?_take, hi, hi2]
set_option maxRecDepth 100000 in
theorem open_bits {n : Nat} {cs : List Value} {x : DataW H × List MemPlace} (h2 : DataW.trod enc Tryd.prog W 0 (fun _ => true) held n 24 cs = some x) (hg : Light Tryd.prog 24 x.1) : ∃ (N : Int) (a : Option Addr) (l c : Nat) (bs : List Int), ((Rd W a l c bs ∧ c ≤ 140737488351232) ∧ (-9223372036854775808 ≤ N ∧ N ≤ 9223372036854775807)) ∧ cs = [.int .i64 N, .slice a l c] := by
  obtain ⟨xs, k, hk, hxy, hlen, hxl, hf⟩ := DataW.trod_struct Tryd.underlying24 h2
  rw [cellsBt] at hlen
  match xs, hxl, cs, hlen with
  | [y0, y1], _, [v0, v1], _ =>
    have g0 := hf 0 _ rfl
    have g1 := hf 1 _ rfl
    simp [cellsI, cellsSl] at g0 g1
    obtain ⟨z1, hz1, -, hw1⟩ := DataW.trod_int Tryd.underlying3 g0
    simp at hz1
    subst hz1
    have hv : ∃ a l c, v1 = .slice a l c := by
      rcases open_slice Tryd.underlying22 g1 with ⟨hcs, _⟩ | ⟨ad, l, c, m, n, D, Pl, hcs, _⟩
      · simp at hcs; exact ⟨_, _, _, hcs⟩
      · simp at hcs; exact ⟨_, _, _, hcs⟩
    obtain ⟨a, l, c, rfl⟩ := hv
    have hg1 : Light Tryd.prog 22 y1.1 := fun n hn => hg n (by rw [hxy]; simp only [DataW.weights, Tryd.underlying24]; simp [DataW.weightsEach]; right; exact hn)
    obtain ⟨bs, hbs, hcap⟩ := open_rd g1 hg1
    exact ⟨z1, a, l, c, bs, ⟨⟨hbs, hcap⟩, wf_i64 hw1⟩, rfl⟩
end
end Go.Proofs.YtknacgdjodmaiaaDoor
