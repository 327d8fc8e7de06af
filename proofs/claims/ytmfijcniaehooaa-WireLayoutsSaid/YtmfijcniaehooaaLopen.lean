/- What an argument reads as: layouts, items and bytes out of the form in which a statement hands them in. -/
import Derived.Test.YtmfijcniaehooaaWpackall
import Derived.Deep.Slices
import Derived.ChangeMaps5
import Derived.OpenShut
import Derived.SizedLaws
namespace Go.Proofs.Ytmfijcniaehooaa
set_option linter.unusedVariables false
open Go.RowKit Go.Deep Go.WideShapes Go.ChangeShapes

theorem Try.cellsF : Try.prog.cellsOf 101 = 3 := by kernel_rfl
theorem Try.cellsD : Try.prog.cellsOf 52 = 2 := by kernel_rfl
theorem Try.cellsB : Try.prog.cellsOf 5 = 1 := by kernel_rfl
theorem Try.cells1 : Try.prog.cellsOf 3 = 1 ∧ Try.prog.cellsOf 9 = 1 ∧ Try.prog.cellsOf 22 = 1 := by refine ⟨?_, ?_, ?_⟩ <;> kernel_rfl
theorem addr_add (b off i : Nat) : (⟨b, off, none⟩ : Addr).add i = ⟨b, off + i, none⟩ := by
  by_cases h0 : i = 0
  · subst h0; rfl
  · simp [Addr.add, h0]
theorem wf_i64 {n : Int} (h : (Lit.int .i64 n).wf = true) : -9223372036854775808 ≤ n ∧ n ≤ 9223372036854775807 := by
  simp [Lit.wf, IntKind.min, IntKind.max, IntKind.signed, IntKind.bits] at h
  omega
theorem wf_u8 {n : Int} (h : (Lit.int .u8 n).wf = true) : 0 ≤ n ∧ n ≤ 255 := by
  simp [Lit.wf, IntKind.min, IntKind.max, IntKind.signed, IntKind.bits] at h
  omega
theorem Try.bytesB : Try.prog.bytesOf 5 = 1 := by kernel_rfl
theorem reach_eq : reachBytes = 140737488351232 := rfl
theorem weightsAll_mem {H : Type} {P : Program} {e : TypeId} : ∀ {ds : List (DataW H)} {d : DataW H}, d ∈ ds → ∀ n ∈ d.weights P e, n ∈ DataW.weightsAll P e ds
  | [], _, h, _, _ => by simp at h
  | d0 :: ds, d, hd, n, hn => by
    simp only [DataW.weightsAll, List.mem_append]
    rcases List.mem_cons.1 hd with rfl | h
    · exact Or.inl hn
    · exact Or.inr (weightsAll_mem h n hn)
/-- All that a datum holds is within the reach. -/
def Light {H : Type} (P : Program) (t : TypeId) (d : DataW H) : Prop := ∀ n ∈ d.weights P t, n ≤ reachBytes
theorem light_at {H : Type} {P : Program} {ts : List TypeId} {ds : List (DataW H)} (h : (DataW.weightsEach P ts ds).all (· ≤ reachBytes) = true) {j : Nat} {t : TypeId} {d : DataW H} (ht : ts[j]? = some t) (hd : ds[j]? = some d) : Light P t d :=
  fun n hn => by simpa using List.all_eq_true.1 h n (DataW.weights_mem_each ht hd n hn)
theorem light_elem {H : Type} {P : Program} {t e : TypeId} {elems rest : List (DataW H)} {d : DataW H} (h : Light P t (.slice elems rest)) (ht : P.underlying t = some (.slice e)) (hd : d ∈ elems) : Light P e d :=
  fun n hn => h n (by simp only [DataW.weights, ht, List.mem_cons, List.mem_append]; exact .inr (.inl (weightsAll_mem hd n hn)))
section
variable {H : Type} {enc : TypeId × Value → H} {W : World} {held : Bool}
theorem open_rd {fuel : Nat} {a : Option Addr} {len cap : Nat} {x : DataW H × List MemPlace} (h : DataW.trod enc Try.prog W 0 (fun _ => true) held fuel 22 [.slice a len cap] = some x) (hg : Light Try.prog 22 x.1) : ∃ xs, Rd W a len cap xs ∧ cap ≤ 140737488351232 := by
  rcases open_ints Try.underlying22 Try.underlying5 Try.cellsB h with ⟨hcs, _⟩ | ⟨ad, l, c, zs, hcs, _, hl, hm, hz, hxx, hcell, hwz⟩
  · simp at hcs
    obtain ⟨rfl, rfl, rfl⟩ := hcs
    exact ⟨[], ⟨rfl, Nat.le_refl _, Nat.zero_le _, by simp, fun _ => rfl, by simp⟩, by omega⟩
  · simp only [List.cons.injEq, Value.slice.injEq, and_true] at hcs
    obtain ⟨rfl, rfl, rfl⟩ := hcs
    simp only [if_true] at hz
    have hr := hg cap (by rw [hxx]; simp [DataW.weights, Try.underlying22, Try.bytesB, lits, hz]; left; omega)
    rw [reach_eq] at hr
    refine ⟨zs.take len, ⟨by simp; omega, hl, hm, fun n hn => wf_u8 (hwz n (List.mem_of_mem_take hn)), (by intro e; cases e), fun h0 => ?_⟩, hr⟩
    obtain ⟨b, off, spot⟩ := ad
    have hc := hcell 0 (by omega)
    have hspot : spot = none := by simpa [Addr.add] using World.cell?_spot hc
    subst hspot
    refine ⟨b, off, rfl, fun i hi => ?_⟩
    have hc := hcell i (by omega)
    rw [addr_add] at hc
    rw [hc]
    have hi2 : i < zs.length := by omega
    simp [List.getD, List.getElem?_take, hi, hi2]
set_option maxRecDepth 100000 in
theorem open_fields {fuel : Nat} {a : Option Addr} {len cap : Nat} {x : DataW H × List MemPlace} (h : DataW.trod enc Try.prog W 0 (fun _ => true) held fuel 49 [.slice a len cap] = some x) (hg : Light Try.prog 49 x.1) : ∃ fs, RdF W a len cap fs := by
  rcases open_slice Try.underlying49 h with ⟨hcs, _⟩ | ⟨ad, l, c, m, n, D, Pl, hcs, hb, hl, hm, hmm, _, hx⟩
  · simp at hcs
    obtain ⟨rfl, rfl, rfl⟩ := hcs
    exact ⟨[], rfl, Nat.le_refl _, Nat.zero_le _, by simp, fun _ => rfl, by simp⟩
  · simp only [List.cons.injEq, Value.slice.injEq, and_true] at hcs
    obtain ⟨rfl, rfl, rfl⟩ := hcs
    have hlm : len ≤ m := by rw [hmm]; split <;> omega
    have each : ∀ i, i < len → ∃ f : Fld, f.Ok ∧ W.cell? (ad.add (i * 3)) = some (.string f.name) ∧ W.cell? (ad.add (i * 3 + 1)) = some (.int .i64 f.kind) ∧ W.cell? (ad.add (i * 3 + 2)) = some (.int .i64 f.width) := by
      intro i hi
      obtain ⟨cs', h1, h2⟩ := hx i (by omega)
      rw [Try.cellsF] at h1
      obtain ⟨_, hlen, hcell⟩ := World.cells?_some h1
      obtain ⟨xs, k, hk, hxy, _, hxl, hf⟩ := DataW.trod_struct Try.underlying101 h2
      match xs, hxl, cs', hlen with
      | [y0, y1, y2], _, [v0, v1, v2], _ =>
        have g0 := hf 0 _ rfl
        have g1 := hf 1 _ rfl
        have g2 := hf 2 _ rfl
        simp [Try.cells1.1, Try.cells1.2.1] at g0 g1 g2
        have e0 := hcell 0 (by omega)
        have e1 := hcell 1 (by omega)
        have e2 := hcell 2 (by omega)
        rw [add_add] at e0 e1 e2
        obtain ⟨s, hs, -, -⟩ := DataW.trod_string Try.underlying9 g0
        obtain ⟨z1, hz1, -, hw1⟩ := DataW.trod_int Try.underlying3 g1
        obtain ⟨z2, hz2, -, hw2⟩ := DataW.trod_int Try.underlying3 g2
        simp at hs hz1 hz2
        subst hs; subst hz1; subst hz2
        exact ⟨⟨s, z1, z2⟩, ⟨(wf_i64 hw1).1, (wf_i64 hw1).2, (wf_i64 hw2).1, (wf_i64 hw2).2⟩, by simpa using e0, by simpa using e1, by simpa using e2⟩
    obtain ⟨q, hq⟩ := choose_lt each
    refine ⟨(List.range len).map q, by simp, hl, hm, fun f hf => ?_, (by intro e; cases e), fun h0 => ?_⟩
    · obtain ⟨i, hi, rfl⟩ := List.mem_map.1 hf
      exact (hq i (List.mem_range.1 hi)).1
    · obtain ⟨b, off, spot⟩ := ad
      have hspot : spot = none := by simpa [Addr.add] using World.cell?_spot (hq 0 h0).2.1
      subst hspot
      refine ⟨b, off, rfl, fun i hi => ?_⟩
      obtain ⟨-, c0, c1, c2⟩ := hq i hi
      rw [addr_add] at c0 c1 c2
      have e : ((List.range len).map q).getD i default = q i := by simp [List.getD, hi]
      rw [e]
      exact ⟨c0, c1, c2⟩
set_option maxRecDepth 100000 in
theorem open_datum {n : Nat} {cs : List Value} {x : DataW H × List MemPlace} (h2 : DataW.trod enc Try.prog W 0 (fun _ => true) held n 52 cs = some x) (hg : Light Try.prog 52 x.1) : ∃ t : Itm, (t.Ok W ∧ t.cap ≤ 140737488351232) ∧ cs = [.int .i64 t.n, .slice t.a t.len t.cap] := by
  obtain ⟨xs, k, hk, hxy, hlen, hxl, hf⟩ := DataW.trod_struct Try.underlying52 h2
  rw [Try.cellsD] at hlen
  match xs, hxl, cs, hlen with
  | [y0, y1], _, [v0, v1], _ =>
    have g0 := hf 0 _ rfl
    have g1 := hf 1 _ rfl
    simp [Try.cells1.1, Try.cells1.2.2] at g0 g1
    obtain ⟨z1, hz1, -, hw1⟩ := DataW.trod_int Try.underlying3 g0
    simp at hz1
    subst hz1
    have hv : ∃ a l c, v1 = .slice a l c := by
      rcases open_slice Try.underlying22 g1 with ⟨hcs, _⟩ | ⟨ad, l, c, m, n, D, Pl, hcs, _⟩
      · simp at hcs; exact ⟨_, _, _, hcs⟩
      · simp at hcs; exact ⟨_, _, _, hcs⟩
    obtain ⟨a, l, c, rfl⟩ := hv
    have hg1 : Light Try.prog 22 y1.1 := fun n hn => hg n (by rw [hxy]; simp only [DataW.weights, Try.underlying52]; simp [DataW.weightsEach]; right; exact hn)
    obtain ⟨bs, hbs, hcap⟩ := open_rd g1 hg1
    exact ⟨⟨z1, a, l, c, bs⟩, ⟨⟨(wf_i64 hw1).1, (wf_i64 hw1).2, hbs⟩, hcap⟩, rfl⟩
set_option maxRecDepth 100000 in
theorem open_items {fuel : Nat} {a : Option Addr} {len cap : Nat} {x : DataW H × List MemPlace} (h : DataW.trod enc Try.prog W 0 (fun _ => true) held fuel 50 [.slice a len cap] = some x) (hg : Light Try.prog 50 x.1) : ∃ xs, RdI W a len cap xs ∧ ∀ x ∈ xs, x.cap ≤ 140737488351232 := by
  rcases open_slice Try.underlying50 h with ⟨hcs, _⟩ | ⟨ad, l, c, m, n, D, Pl, hcs, hb, hl, hm, hmm, hxx, hx⟩
  · simp at hcs
    obtain ⟨rfl, rfl, rfl⟩ := hcs
    exact ⟨[], ⟨rfl, Nat.le_refl _, Nat.zero_le _, by simp, fun _ => rfl, by simp⟩, by simp⟩
  · simp only [List.cons.injEq, Value.slice.injEq, and_true] at hcs
    obtain ⟨rfl, rfl, rfl⟩ := hcs
    have hlm : len ≤ m := by rw [hmm]; split <;> omega
    have each : ∀ i, i < len → ∃ t : Itm, (t.Ok W ∧ t.cap ≤ 140737488351232) ∧ W.cell? (ad.add (i * 2)) = some (.int .i64 t.n) ∧ W.cell? (ad.add (i * 2 + 1)) = some (.slice t.a t.len t.cap) := by
      intro i hi
      obtain ⟨cs', h1, h2⟩ := hx i (by omega)
      rw [Try.cellsD] at h1
      obtain ⟨_, hlen, hcell⟩ := World.cells?_some h1
      have hgi : Light Try.prog 52 (D i) := light_elem (t := 50) (elems := (List.range len).map D) (rest := (List.range (m - len)).map fun j => D (len + j)) (by rw [hxx] at hg; exact hg) Try.underlying50 (List.mem_map.2 ⟨i, List.mem_range.2 hi, rfl⟩)
      obtain ⟨t, ht, rfl⟩ := open_datum h2 hgi
      have e0 := hcell 0 (by omega)
      have e1 := hcell 1 (by omega)
      rw [add_add] at e0 e1
      exact ⟨t, ht, by simpa using e0, by simpa using e1⟩
    obtain ⟨q, hq⟩ := choose_lt each
    refine ⟨(List.range len).map q, ⟨by simp, hl, hm, fun f hf => ?_, (by intro e; cases e), fun h0 => ?_⟩, fun f hf => ?_⟩
    · obtain ⟨i, hi, rfl⟩ := List.mem_map.1 hf
      exact (hq i (List.mem_range.1 hi)).1.1
    · obtain ⟨b, off, spot⟩ := ad
      have hspot : spot = none := by simpa [Addr.add] using World.cell?_spot (hq 0 h0).2.1
      subst hspot
      refine ⟨b, off, rfl, fun i hi => ?_⟩
      obtain ⟨-, c0, c1⟩ := hq i hi
      rw [addr_add] at c0 c1
      have e : ((List.range len).map q).getD i default = q i := by simp [List.getD, hi]
      rw [e]
      exact ⟨c0, c1⟩
    · obtain ⟨i, hi, rfl⟩ := List.mem_map.1 hf
      exact (hq i (List.mem_range.1 hi)).1.2
theorem okWide_agg {P : Program} {t : TypeId} {b0 : Nat} {r : Reach} {v : Value} (ht : (match P.underlying t with | some (.struct _) | some (.array _ _) => true | _ => false) = true) (h : Value.okWide P W r b0 t v) : ∃ cs, v = .agg cs := by
  unfold Value.okWide at h
  split at h
  · obtain ⟨cs, rfl, _⟩ := h; exact ⟨cs, rfl⟩
  · obtain ⟨cs, rfl, _⟩ := h; exact ⟨cs, rfl⟩
  · rename_i h1 h2
    split at ht
    · rename_i q; exact absurd q (h1 _)
    · rename_i q; exact absurd q (h2 _ _)
    · simp at ht
end
end Go.Proofs.Ytmfijcniaehooaa
