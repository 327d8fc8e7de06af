/- SumsBijection: the statement about layer 2 of that name, proved for every input. -/
import Derived.Test.YtabolbcigbdahaaRows
import Derived.WalkKit
import Derived.ProofKit
import Derived.OpenShut
import Derived.ShutString
import Derived.ChangeOld
import Derived.Below
import Derived.Test.YtabolbcigbdahaaQSumsBijection
namespace Go.Proofs.Ytabolbcigbdahaa.sumsBijection
open Go.ChangeShapes Go.WideShapes Go.ChangeAt Go.RowKit
open Go.ChangeMaps (open_string shut_string)
set_option linter.unusedVariables false

theorem okWide_agg {P : Program} {W : World} {t : TypeId} {b0 : Nat} {r : Reach} {v : Value} (ht : (match P.underlying t with | some (.struct _) | some (.array _ _) => true | _ => false) = true) (h : Value.okWide P W r b0 t v) : ∃ cs, v = .agg cs := by
  unfold Value.okWide at h
  split at h
  · obtain ⟨cs, rfl, _⟩ := h; exact ⟨cs, rfl⟩
  · obtain ⟨cs, rfl, _⟩ := h; exact ⟨cs, rfl⟩
  · rename_i h1 h2
    split at ht
    · rename_i q; exact absurd q (h1 _)
    · rename_i q; exact absurd q (h2 _ _)
    · simp at ht
theorem own : ownKnob Try.prog.godebug = none := by kernel_rfl
theorem laidOut : laidOutB Try.prog = true := by kernel_rfl
theorem cellsS : Try.prog.cellsOf 41 = 8 := by kernel_rfl
theorem cellsW : Try.prog.cellsOf 23 = 1 := by kernel_rfl
theorem wf_u32 {n : Int} (h : (Lit.int .u32 n).wf = true) : 0 ≤ n ∧ n ≤ 4294967295 := by
  simp [Lit.wf, IntKind.min, IntKind.max, IntKind.signed, IntKind.bits] at h
  omega
/-- A word out of a number. -/
theorem word {n : Int} (h : (Lit.int .u32 n).wf = true) : wv (BitVec.ofNat 32 n.toNat) = .int .u32 n := by
  have := wf_u32 h
  unfold wv
  rw [BitVec.toNat_ofNat, Nat.mod_eq_of_lt (by omega)]
  congr 1
  omega
/-- A state out of its cells. -/
theorem open_state {H : Type} {enc : TypeId × Value → H} {W : World} {held : Bool} {fuel : Nat} {cs : List Value} {x : DataW H × List MemPlace} (h : DataW.trod enc Try.prog W 0 (fun _ => true) held fuel 41 cs = some x) : ∃ s : St, cs = (vals s).toList := by
  obtain ⟨xs, k, hk, hxy, hlen, hxl, hf⟩ := DataW.trod_array Try.underlying41 h
  rw [cellsS] at hlen
  rw [cellsW] at hf
  match cs, hlen with
  | [v0, v1, v2, v3, v4, v5, v6, v7], _ =>
    have g : ∀ i (hi : i < 8) v, [v0, v1, v2, v3, v4, v5, v6, v7][i]? = some v → ∃ n : Int, v = .int .u32 n ∧ (Lit.int .u32 n).wf = true := by
      intro i hi v hv
      have h1 := hf i hi
      have h2 : (([v0, v1, v2, v3, v4, v5, v6, v7].drop (i * 1)).take 1) = [v] := by
        rw [Nat.mul_one]
        obtain ⟨hl, hq⟩ := List.getElem?_eq_some_iff.1 hv
        rw [List.drop_eq_getElem_cons hl, hq]
        rfl
      rw [h2, List.getElem?_eq_getElem (by omega)] at h1
      obtain ⟨z, hz, -, hw⟩ := DataW.trod_int Try.underlying23 h1
      simp at hz
      exact ⟨z, hz, hw⟩
    obtain ⟨n0, rfl, w0⟩ := g 0 (by omega) v0 rfl
    obtain ⟨n1, rfl, w1⟩ := g 1 (by omega) v1 rfl
    obtain ⟨n2, rfl, w2⟩ := g 2 (by omega) v2 rfl
    obtain ⟨n3, rfl, w3⟩ := g 3 (by omega) v3 rfl
    obtain ⟨n4, rfl, w4⟩ := g 4 (by omega) v4 rfl
    obtain ⟨n5, rfl, w5⟩ := g 5 (by omega) v5 rfl
    obtain ⟨n6, rfl, w6⟩ := g 6 (by omega) v6 rfl
    obtain ⟨n7, rfl, w7⟩ := g 7 (by omega) v7 rfl
    refine ⟨fun i => BitVec.ofNat 32 ([n0, n1, n2, n3, n4, n5, n6, n7].getD i 0).toNat, ?_⟩
    show _ = [wv (BitVec.ofNat 32 n0.toNat), wv (BitVec.ofNat 32 n1.toNat), wv (BitVec.ofNat 32 n2.toNat), wv (BitVec.ofNat 32 n3.toNat), wv (BitVec.ofNat 32 n4.toNat), wv (BitVec.ofNat 32 n5.toNat), wv (BitVec.ofNat 32 n6.toNat), wv (BitVec.ofNat 32 n7.toNat)]
    rw [word w0, word w1, word w2, word w3, word w4, word w5, word w6, word w7]
set_option maxRecDepth 100000 in
theorem lifted (os : Os) (started : os.Started) (H : Type) (enc : TypeId × Value → H) :
    ReturnsInHanded {} Try.checked os 11 .any (Rows.sumsBijectionSpec.pre6 enc Try.prog Try.f11 Rows.sumsBijectionRow.domain false) (Rows.sumsBijectionSpec.post enc Try.prog Try.f11 false true false false) := by
  refine returnsInHanded_of_change (C := Try.checked) own started (by kernel_rfl) Try.func11
    (ChangeSpec.witness6 (enc := enc) (C := Try.checked) false ⟨#[], #[.agg #[.int .u32 0, .int .u32 0, .int .u32 0, .int .u32 0, .int .u32 0, .int .u32 0, .int .u32 0, .int .u32 0]], []⟩ 8 (by kernel_rfl) (by kernel_rfl) (by kernel_rfl) (by kernel_rfl)) ?_
  intro W base args ds gs before hval0 hW hcnd _
  have hval : ∀ (j : Nat) t v, Try.f11.params[j]? = some t → args[j]? = some v → Value.okWide Try.prog W .any base t v := hval0
  have hW' := hW
  obtain ⟨p, q, hA0, hV, rfl, hfz, hnd⟩ := hW
  have hA : DataW.TrodAll enc Try.prog W 0 (fun _ => true) true Try.f11.params.toList args.toList ds p := hA0
  rw [Try.params11] at hA hval
  obtain ⟨v0, vs0, d0, ds0, p0, q0, hargs, rfl, rfl, h0, r0⟩ := trodAll_cons hA
  obtain ⟨rfl, rfl, rfl⟩ := trodAll_nil r0
  obtain rfl : args = #[v0] := by cases args; simp_all
  obtain ⟨rfl, rfl⟩ := trodVars_none hV
  obtain ⟨cs0, rfl⟩ := okWide_agg (t := 41) (by kernel_rfl) (hval 0 41 v0 rfl rfl)
  have k0 := h0
  have lt0 : ∀ x ∈ p0, x.block < W.heap.size := by obtain ⟨m, hm⟩ := k0; exact DataW.trod_lt m _ _ _ hm
  obtain ⟨s, rfl⟩ : ∃ s : St, cs0 = vals s := by
    obtain ⟨fuel, hf⟩ := h0
    obtain ⟨s, hs⟩ := open_state (by simpa [Value.cells] using hf)
    exact ⟨s, Array.toList_inj.1 hs⟩
  clear hA0 hval0
  refine (bijection s W).mono fun e W' ⟨he, bel⟩ => ?_
  subst he
  exact ⟨_, rfl, _, _, _, [], _, [], hW', trodAll_mk1 (shut_bool Try.underlying4 _), (trodAll_cons_mk (Below.trod laidOut (by kernel_rfl) (of_decide_eq_true (by kernel_rfl)) k0 bel lt0) trodAll_mk0), rfl, bel.frame _, fun h => by cases h⟩

theorem over : Rows.sumsBijectionRow.holds Try.pinned (OpenSpec.ofChange Rows.sumsBijectionSpec) :=
  OpenClaim.holds_of_wide 11 Try.f11 rfl rfl rfl rfl rfl rfl rfl ⟨rfl, rfl, rfl, rfl, rfl⟩ rfl rfl rfl rfl rfl (by kernel_rfl) Try.func11 (by kernel_rfl)
    (of_decide_eq_true (by kernel_rfl)) (by unfold Func.isWrapper; first | (rw [if_pos (by decide +kernel)]; kernel_rfl) | (rw [if_neg (by decide +kernel)]; exact ⟨rfl, rfl⟩))
    (fun os started H enc _ => lifted os started H enc)

theorem proved : Rows.SumsBijectionSaid := over
#print axioms proved
end Go.Proofs.Ytabolbcigbdahaa.sumsBijection
