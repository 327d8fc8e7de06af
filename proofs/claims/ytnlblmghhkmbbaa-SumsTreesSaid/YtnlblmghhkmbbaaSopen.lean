/- What an argument reads as (layer 2): bytes, lists of bytes, digests, rolling checksums and sponges out of the form in which a statement hands them in. -/
import Derived.Test.YtnlblmghhkmbbaaSdigs
import Derived.Test.YtnlblmghhkmbbaaSroll
import Derived.Test.YtnlblmghhkmbbaaSabe
import Derived.Deep.Slices
import Derived.ChangeMaps5
import Derived.OpenShut
import Derived.SizedLaws
namespace Go.Proofs.Ytnlblmghhkmbbaa
set_option linter.unusedVariables false
open Go.RowKit Go.Deep Go.WideShapes Go.ChangeShapes

instance : Inhabited Pc := ⟨⟨none, 0, 0, []⟩⟩
theorem Try.cellsB : Try.prog.cellsOf 5 = 1 := by kernel_rfl
theorem Try.cellsL : Try.prog.cellsOf 22 = 1 := by kernel_rfl
theorem Try.cellsU : Try.prog.cellsOf 23 = 1 := by kernel_rfl
theorem Try.cellsI : Try.prog.cellsOf 3 = 1 := by kernel_rfl
theorem Try.cellsG : Try.prog.cellsOf 47 = 16 := by kernel_rfl
theorem Try.cells4 : Try.prog.cellsOf 68 = 4 := by kernel_rfl
theorem Try.cellsR : Try.prog.cellsOf 31 = 3 := by kernel_rfl
theorem Try.cellsS : Try.prog.cellsOf 41 = 8 := by kernel_rfl
theorem Try.cellsP : Try.prog.cellsOf 43 = 9 := by kernel_rfl
theorem addr_add (b off i : Nat) : (⟨b, off, none⟩ : Addr).add i = ⟨b, off + i, none⟩ := by
  by_cases h0 : i = 0
  · subst h0; rfl
  · simp [Addr.add, h0]
theorem wf_i64 {n : Int} (h : (Lit.int .i64 n).wf = true) : -9223372036854775808 ≤ n ∧ n ≤ 9223372036854775807 := by
  simp [Lit.wf, IntKind.min, IntKind.max, IntKind.signed, IntKind.bits] at h
  omega
theorem wf_u8 {n : Int} (h : (Lit.int .u8 n).wf = true) : 0 ≤ n ∧ n ≤ 255 := by
  simp [Lit.wf, IntKind.min, IntKind.max, IntKind.signed, IntKind.bits] at h
  omega
theorem wf_u32 {n : Int} (h : (Lit.int .u32 n).wf = true) : 0 ≤ n ∧ n ≤ 4294967295 := by
  simp [Lit.wf, IntKind.min, IntKind.max, IntKind.signed, IntKind.bits] at h
  omega
theorem Try.bytesB : Try.prog.bytesOf 5 = 1 := by kernel_rfl
theorem reach_eq : reachBytes = 140737488351232 := rfl
theorem weightsAll_mem {H : Type} {P : Program} {e : TypeId} : ∀ {ds : List (DataW H)} {d : DataW H}, d ∈ ds → ∀ n ∈ d.weights P e, n ∈ DataW.weightsAll P e ds
  | [], _, h, _, _ => by simp at h
  | d0 :: ds, d, hd, n, hn => by
    simp only [DataW.weightsAll, List.mem_append]
    rcases List.mem_cons.1 hd with rfl | h
    · exact Or.inl hn
    · exact Or.inr (weightsAll_mem h n hn)
/-- All that a datum holds is within the reach. -/
def Light {H : Type} (P : Program) (t : TypeId) (d : DataW H) : Prop := ∀ n ∈ d.weights P t, n ≤ reachBytes
theorem light_at {H : Type} {P : Program} {ts : List TypeId} {ds : List (DataW H)} (h : (DataW.weightsEach P ts ds).all (· ≤ reachBytes) = true) {j : Nat} {t : TypeId} {d : DataW H} (ht : ts[j]? = some t) (hd : ds[j]? = some d) : Light P t d :=
  fun n hn => by simpa using List.all_eq_true.1 h n (DataW.weights_mem_each ht hd n hn)
theorem light_elem {H : Type} {P : Program} {t e : TypeId} {elems rest : List (DataW H)} {d : DataW H} (h : Light P t (.slice elems rest)) (ht : P.underlying t = some (.slice e)) (hd : d ∈ elems) : Light P e d :=
  fun n hn => h n (by simp only [DataW.weights, ht, List.mem_cons, List.mem_append]; exact .inr (.inl (weightsAll_mem hd n hn)))
section
variable {H : Type} {enc : TypeId × Value → H} {W : World} {held : Bool}
theorem open_rd {fuel : Nat} {a : Option Addr} {len cap : Nat} {x : DataW H × List MemPlace} (h : DataW.trod enc Try.prog W 0 (fun _ => true) held fuel 22 [.slice a len cap] = some x) (hg : Light Try.prog 22 x.1) : ∃ xs, Rd W a len cap xs ∧ cap ≤ 140737488351232 := by
  rcases open_ints Try.underlying22 Try.underlying5 Try.cellsB h with ⟨hcs, _⟩ | ⟨ad, l, c, zs, hcs, _, hl, hm, hz, hxx, hcell, hwz⟩
  · simp at hcs
    obtain ⟨rfl, rfl, rfl⟩ := hcs
    exact ⟨[], ⟨rfl, Nat.le_refl _, Nat.zero_le _, by simp, fun _ => rfl, by simp⟩, by omega⟩
  · simp only [List.cons.injEq, Value.slice.injEq, and_true] at hcs
    obtain ⟨rfl, rfl, rfl⟩ := hcs
    simp only [if_true] at hz
    have hr := hg cap (by rw [hxx]; simp [DataW.weights, Try.underlying22, Try.bytesB, lits, hz]; left; omega)
    rw [reach_eq] at hr
    refine ⟨zs.take len, ⟨by simp; omega, hl, hm, fun n hn => wf_u8 (hwz n (List.mem_of_mem_take hn)), (by intro e; cases e), fun h0 => ?_⟩, hr⟩
    obtain ⟨b, off, spot⟩ := ad
    have hc := hcell 0 (by omega)
    have hspot : spot = none := by simpa [Addr.add] using World.cell?_spot hc
    subst hspot
    refine ⟨b, off, rfl, fun i hi => ?_⟩
    have hc := hcell i (by omega)
    rw [addr_add] at hc
    rw [hc]
    have hi2 : i < zs.length := by omega
    simp [List.getD, List.getElem?_take, hi, hi2]
set_option maxRecDepth 100000 in
theorem open_leaves {fuel : Nat} {a : Option Addr} {len cap : Nat} {x : DataW H × List MemPlace} (h : DataW.trod enc Try.prog W 0 (fun _ => true) held fuel 55 [.slice a len cap] = some x) (hg : Light Try.prog 55 x.1) : ∃ ps, RdP W a len cap ps ∧ ∀ p ∈ ps, p.cap ≤ 140737488351232 := by
  rcases open_slice Try.underlying55 h with ⟨hcs, _⟩ | ⟨ad, l, c, m, n, D, Pl, hcs, hb, hl, hm, hmm, hxx, hx⟩
  · simp at hcs
    obtain ⟨rfl, rfl, rfl⟩ := hcs
    exact ⟨[], ⟨rfl, Nat.le_refl _, Nat.zero_le _, by simp, by simp⟩, by simp⟩
  · simp only [List.cons.injEq, Value.slice.injEq, and_true] at hcs
    obtain ⟨rfl, rfl, rfl⟩ := hcs
    have hlm : len ≤ m := by rw [hmm]; split <;> omega
    have each : ∀ i, i < len → ∃ p : Pc, (Rd W p.a p.len p.cap p.xs ∧ p.cap ≤ 140737488351232) ∧ W.cell? (ad.add i) = some (.slice p.a p.len p.cap) := by
      intro i hi
      obtain ⟨cs', h1, h2⟩ := hx i (by omega)
      rw [Try.cellsL] at h1
      obtain ⟨_, hlen, hcell⟩ := World.cells?_some h1
      have hgi : Light Try.prog 22 (D i) := light_elem (t := 55) (elems := (List.range len).map D) (rest := (List.range (m - len)).map fun j => D (len + j)) (by rw [hxx] at hg; exact hg) Try.underlying55 (List.mem_map.2 ⟨i, List.mem_range.2 hi, rfl⟩)
      match cs', hlen with
      | [v], _ =>
        have hv : ∃ a l c, v = .slice a l c := by
          rcases open_slice Try.underlying22 h2 with ⟨hcs, _⟩ | ⟨ad, l, c, m, n, D, Pl, hcs, _⟩
          · simp at hcs; exact ⟨_, _, _, hcs⟩
          · simp at hcs; exact ⟨_, _, _, hcs⟩
        obtain ⟨a', l', c', rfl⟩ := hv
        obtain ⟨bs, hbs, hcap⟩ := open_rd h2 hgi
        have e0 := hcell 0 (by omega)
        rw [add_add, Nat.mul_one] at e0
        exact ⟨⟨a', l', c', bs⟩, ⟨hbs, hcap⟩, by simpa using e0⟩
    obtain ⟨q, hq⟩ := choose_lt each
    refine ⟨(List.range len).map q, ⟨by simp, hl, hm, fun f hf => ?_, fun h0 => ?_⟩, fun f hf => ?_⟩
    · obtain ⟨i, hi, rfl⟩ := List.mem_map.1 hf
      exact (hq i (List.mem_range.1 hi)).1.1
    · obtain ⟨b, off, spot⟩ := ad
      have hspot : spot = none := by simpa [Addr.add] using World.cell?_spot (hq 0 h0).2
      subst hspot
      refine ⟨b, off, rfl, fun i hi => ?_⟩
      have c0 := (hq i (by simpa using hi)).2
      rw [addr_add] at c0
      simp only [List.getElem_map, List.getElem_range]
      exact c0
    · obtain ⟨i, hi, rfl⟩ := List.mem_map.1 hf
      exact (hq i (List.mem_range.1 hi)).1.2
theorem open_dig {fuel : Nat} {cs : List Value} {x : DataW H × List MemPlace} (h : DataW.trod enc Try.prog W 0 (fun _ => true) held fuel 47 cs = some x) : ∃ d : List Int, Dig d ∧ cs = (digC d).toList := by
  obtain ⟨xs, k, hk, hxy, hlen, hxl, hf⟩ := DataW.trod_array Try.underlying47 h
  rw [Try.cellsG] at hlen
  rw [Try.cellsB] at hf
  have each : ∀ i, i < 16 → ∃ n : Int, (0 ≤ n ∧ n ≤ 255) ∧ cs[i]? = some (.int .u8 n) := by
    intro i hi
    have h1 := hf i hi
    have h2 : ((cs.drop (i * 1)).take 1) = [cs[i]'(by omega)] := by
      rw [Nat.mul_one, List.drop_eq_getElem_cons (by omega)]
      rfl
    rw [h2, List.getElem?_eq_getElem (by omega)] at h1
    obtain ⟨z, hz, -, hw⟩ := DataW.trod_int Try.underlying5 h1
    simp at hz
    exact ⟨z, wf_u8 hw, by rw [List.getElem?_eq_getElem (by omega), hz]⟩
  obtain ⟨q, hq⟩ := choose_lt each
  refine ⟨(List.range 16).map q, ⟨by simp, fun n hn => ?_⟩, ?_⟩
  · obtain ⟨i, hi, rfl⟩ := List.mem_map.1 hn
    exact (hq i (List.mem_range.1 hi)).1
  · apply List.ext_getElem?
    intro i
    by_cases hi : i < 16
    · rw [(hq i hi).2]
      simp [digC, hi]
    · rw [List.getElem?_eq_none (by omega), List.getElem?_eq_none (by simp [digC]; omega)]
theorem open_arr4 {fuel : Nat} {cs : List Value} {x : DataW H × List MemPlace} (h : DataW.trod enc Try.prog W 0 (fun _ => true) held fuel 68 cs = some x) : ∃ d : List Int, (d.length = 4 ∧ ∀ n ∈ d, 0 ≤ n ∧ n ≤ 255) ∧ cs = (digC d).toList := by
  obtain ⟨xs, k, hk, hxy, hlen, hxl, hf⟩ := DataW.trod_array Try.underlying68 h
  rw [Try.cells4] at hlen
  rw [Try.cellsB] at hf
  have each : ∀ i, i < 4 → ∃ n : Int, (0 ≤ n ∧ n ≤ 255) ∧ cs[i]? = some (.int .u8 n) := by
    intro i hi
    have h1 := hf i hi
    have h2 : ((cs.drop (i * 1)).take 1) = [cs[i]'(by omega)] := by
      rw [Nat.mul_one, List.drop_eq_getElem_cons (by omega)]
      rfl
    rw [h2, List.getElem?_eq_getElem (by omega)] at h1
    obtain ⟨z, hz, -, hw⟩ := DataW.trod_int Try.underlying5 h1
    simp at hz
    exact ⟨z, wf_u8 hw, by rw [List.getElem?_eq_getElem (by omega), hz]⟩
  obtain ⟨q, hq⟩ := choose_lt each
  refine ⟨(List.range 4).map q, ⟨by simp, fun n hn => ?_⟩, ?_⟩
  · obtain ⟨i, hi, rfl⟩ := List.mem_map.1 hn
    exact (hq i (List.mem_range.1 hi)).1
  · apply List.ext_getElem?
    intro i
    by_cases hi : i < 4
    · rw [(hq i hi).2]
      simp [digC, hi]
    · rw [List.getElem?_eq_none (by omega), List.getElem?_eq_none (by simp [digC]; omega)]
set_option maxRecDepth 100000 in
theorem open_digs {fuel : Nat} {a : Option Addr} {len cap : Nat} {x : DataW H × List MemPlace} (h : DataW.trod enc Try.prog W 0 (fun _ => true) held fuel 56 [.slice a len cap] = some x) (hg : Light Try.prog 56 x.1) : ∃ ds, RdG W a len cap ds := by
  rcases open_slice Try.underlying56 h with ⟨hcs, _⟩ | ⟨ad, l, c, m, n, D, Pl, hcs, hb, hl, hm, hmm, hxx, hx⟩
  · simp at hcs
    obtain ⟨rfl, rfl, rfl⟩ := hcs
    exact ⟨[], rfl, Nat.le_refl _, Nat.zero_le _, by simp, by simp⟩
  · simp only [List.cons.injEq, Value.slice.injEq, and_true] at hcs
    obtain ⟨rfl, rfl, rfl⟩ := hcs
    have hlm : len ≤ m := by rw [hmm]; split <;> omega
    have each : ∀ i, i < len → ∃ d : List Int, Dig d ∧ ∀ j, j < 16 → W.cell? (ad.add (i * 16 + j)) = (digC d).toList[j]? := by
      intro i hi
      obtain ⟨cs', h1, h2⟩ := hx i (by omega)
      rw [Try.cellsG] at h1
      obtain ⟨_, hlen, hcell⟩ := World.cells?_some h1
      obtain ⟨d, hd, rfl⟩ := open_dig h2
      refine ⟨d, hd, fun j hj => ?_⟩
      have := hcell j (by omega)
      rw [add_add] at this
      rw [this]
    obtain ⟨q, hq⟩ := choose_lt each
    refine ⟨(List.range len).map q, by simp, hl, hm, fun f hf => ?_, fun h0 => ?_⟩
    · obtain ⟨i, hi, rfl⟩ := List.mem_map.1 hf
      exact (hq i (List.mem_range.1 hi)).1
    · obtain ⟨b, off, spot⟩ := ad
      have c0 := (hq 0 h0).2 0 (by omega)
      have hd0 := (hq 0 h0).1.1
      have hspot : spot = none := by
        rw [Array.getElem?_toList, digC_get _ 0 (by omega)] at c0
        simpa [Addr.add] using World.cell?_spot c0
      subst hspot
      refine ⟨b, off, rfl, fun i hi j v hv => ?_⟩
      have hi' : i < len := by simpa using hi
      simp only [List.getElem_map, List.getElem_range] at hv
      have hd := (hq i hi').1.1
      have hj : j < 16 := by
        have := (List.getElem?_eq_some_iff.1 hv).1
        simp [digC, hd] at this
        exact this
      have := (hq i hi').2 j hj
      rw [addr_add] at this
      rw [show off + 16 * i + j = off + (i * 16 + j) by omega, this, hv]
set_option maxRecDepth 100000 in
theorem open_roll {fuel : Nat} {cs : List Value} {x : DataW H × List MemPlace} (h : DataW.trod enc Try.prog W 0 (fun _ => true) held fuel 31 cs = some x) : ∃ A B N : Int, ((0 ≤ A ∧ A ≤ 4294967295) ∧ (0 ≤ B ∧ B ≤ 4294967295) ∧ (-9223372036854775808 ≤ N ∧ N ≤ 9223372036854775807)) ∧ cs = [.int .u32 A, .int .u32 B, .int .i64 N] := by
  obtain ⟨xs, k, hk, hxy, hlen, hxl, hf⟩ := DataW.trod_struct Try.underlying31 h
  rw [Try.cellsR] at hlen
  match xs, hxl, cs, hlen with
  | [y0, y1, y2], _, [v0, v1, v2], _ =>
    have g0 := hf 0 _ rfl
    have g1 := hf 1 _ rfl
    have g2 := hf 2 _ rfl
    simp [Try.cellsU, Try.cellsI] at g0 g1 g2
    obtain ⟨z0, hz0, -, hw0⟩ := DataW.trod_int Try.underlying23 g0
    obtain ⟨z1, hz1, -, hw1⟩ := DataW.trod_int Try.underlying23 g1
    obtain ⟨z2, hz2, -, hw2⟩ := DataW.trod_int Try.underlying3 g2
    simp at hz0 hz1 hz2
    subst hz0; subst hz1; subst hz2
    exact ⟨z0, z1, z2, ⟨wf_u32 hw0, wf_u32 hw1, wf_i64 hw2⟩, rfl⟩
theorem okWide_agg {P : Program} {t : TypeId} {b0 : Nat} {r : Reach} {v : Value} (ht : (match P.underlying t with | some (.struct _) | some (.array _ _) => true | _ => false) = true) (h : Value.okWide P W r b0 t v) : ∃ cs, v = .agg cs := by
  unfold Value.okWide at h
  split at h
  · obtain ⟨cs, rfl, _⟩ := h; exact ⟨cs, rfl⟩
  · obtain ⟨cs, rfl, _⟩ := h; exact ⟨cs, rfl⟩
  · rename_i h1 h2
    split at ht
    · rename_i q; exact absurd q (h1 _)
    · rename_i q; exact absurd q (h2 _ _)
    · simp at ht
end
end Go.Proofs.Ytnlblmghhkmbbaa
