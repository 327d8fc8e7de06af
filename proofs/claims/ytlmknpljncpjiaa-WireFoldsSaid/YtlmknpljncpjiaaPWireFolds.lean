/- WireFolds: the statement about layer 1 of that name, proved for every input. -/
import Derived.Test.YtlmknpljncpjiaaRows
import Derived.WalkKit
import Derived.ProofKit
import Derived.OpenShut
import Derived.ShutString
import Derived.ChangeOld
import Derived.Below
import Derived.Test.YtlmknpljncpjiaaWfold
import Derived.Test.YtlmknpljncpjiaaWsanity
namespace Go.Proofs.Ytlmknpljncpjiaa.wireFolds
open Go.ChangeShapes Go.WideShapes Go.ChangeAt Go.RowKit
open Go.ChangeMaps (open_string shut_string)
set_option linter.unusedVariables false

theorem own : ownKnob Try.prog.godebug = none := by kernel_rfl
theorem laidOut : laidOutB Try.prog = true := by kernel_rfl

/-- WHAT THE WALK IS TOLD OF A SLICE OF INTEGERS THAT CAME IN: it is nil; or it leads to a row of 'cap' cells, the numbers 'zs' (the first 'len' are its elements, the rest its spare room), each fitting its kind. -/
def IsRow (k : IntKind) (w : World) (a : Option Addr) (len cap : Nat) (zs : List Int) : Prop :=
  (a = none ∧ len = 0 ∧ cap = 0 ∧ zs = []) ∨
  ∃ x, a = some x ∧ len ≤ cap ∧ cap ≤ maxLen ∧ zs.length = cap ∧ (∀ i, i < zs.length → w.cell? (x.add i) = some (.int k (zs.getD i 0))) ∧ ∀ n ∈ zs, (Lit.int k n).wf = true

theorem fold_pair (a b : Int) : ((foldV a).2 = 0 ∧ (foldV b).2 = 0 → (0 ≤ a → a < b → (foldV a).1 < (foldV b).1) ∧ (a < 0 → b < a → (foldV a).1 < (foldV b).1) ∧ (a ≠ b → (foldV a).1 ≠ (foldV b).1)) := by
  unfold foldV
  intro h
  split at h <;> split at h <;> (repeat' split) <;> (try split at h) <;> simp at h ⊢ <;> omega
theorem unfold_neg (n : Int) (h : n < 0) : unfoldV n = (0, 24) := by unfold unfoldV; rw [if_pos h]
theorem unfold_fold (n : Int) (h : ¬ n < 0) (h2 : n ≤ 9223372036854775807) : ∃ k, unfoldV n = (k, 0) ∧ foldV k = (n, 0) ∧ -9223372036854775808 ≤ k ∧ k ≤ 9223372036854775807 := by
  unfold unfoldV foldV
  rw [if_neg h]
  split
  · refine ⟨_, rfl, ?_, by omega, by omega⟩
    rw [if_neg (by omega), if_pos (by omega)]
    congr 1; omega
  · refine ⟨_, rfl, ?_, by omega, by omega⟩
    rw [if_neg (by omega), if_neg (by omega)]
    congr 1; omega
set_option maxRecDepth 100000 in
set_option maxHeartbeats 4000000 in
theorem walk (a0 : Int) (a1 : Int) (w : World) (w0 : (Lit.int .i64 a0).wf = true) (w1 : (Lit.int .i64 a1).wf = true) :
    Calls Try.prog 14 #[.int .i64 a0, .int .i64 a1] w fun e w' => e = .returned (.bool true) ∧ Below w.heap.size w w' := by
  obtain ⟨p1, p2⟩ := bounds_i64 w0
  obtain ⟨q1, q2⟩ := bounds_i64 w1
  have HF := Lib.hid (fold_pair a0 a1)
  by_cases hneg : a1 < 0
  · have HU := Lib.hid (unfold_neg a1 hneg)
    go_enter Try.func14, Try.ntmps14
    go_wp2_with fail
    refine (fold_any a0 _ p1 p2).mono ?_
    rintro e u1 ⟨rfl, rfl⟩
    go_wp2_with fail
    refine (fold_any a1 _ q1 q2).mono ?_
    rintro e u1 ⟨rfl, rfl⟩
    generalize (foldV a0).1 = x at HF ⊢
    generalize (foldV a0).2 = ex at HF ⊢
    generalize (foldV a1).1 = y at HF ⊢
    generalize (foldV a1).2 = ey at HF ⊢
    go_wp2_with fail
    all_goals first
      | (exfalso; have hf := HF.out; simp only [beq_iff_eq, bne_iff_ne, ne_eq] at *; omega)
      | (refine (unfold_any a1 _ q1 q2).mono ?_
         rintro e u1 ⟨rfl, rfl⟩
         rw [HU.out]
         go_wp2_with fail
         refine (sanity_any _).mono ?_
         rintro e u1 ⟨rfl, hb⟩
         have Hb := Lib.hid hb
         clear hb
         go_wp2_with fail
         go_ret
         exact ⟨by simp; try omega, Hb.out⟩)
  · obtain ⟨k, hk1, hk2, k1, k2⟩ := unfold_fold a1 hneg q2
    have HU := Lib.hid hk1
    have HV := Lib.hid hk2
    clear hk1 hk2
    go_enter Try.func14, Try.ntmps14
    go_wp2_with fail
    refine (fold_any a0 _ p1 p2).mono ?_
    rintro e u1 ⟨rfl, rfl⟩
    go_wp2_with fail
    refine (fold_any a1 _ q1 q2).mono ?_
    rintro e u1 ⟨rfl, rfl⟩
    generalize (foldV a0).1 = x at HF ⊢
    generalize (foldV a0).2 = ex at HF ⊢
    generalize (foldV a1).1 = y at HF ⊢
    generalize (foldV a1).2 = ey at HF ⊢
    go_wp2_with fail
    all_goals first
      | (exfalso; have hf := HF.out; simp only [beq_iff_eq, bne_iff_ne, ne_eq] at *; omega)
      | (refine (unfold_any a1 _ q1 q2).mono ?_
         rintro e u1 ⟨rfl, rfl⟩
         rw [HU.out]
         go_wp2_with fail
         refine (fold_any k _ k1 k2).mono ?_
         rintro e u1 ⟨rfl, rfl⟩
         rw [HV.out]
         go_wp2_with fail
         refine (sanity_any _).mono ?_
         rintro e u1 ⟨rfl, hb⟩
         have Hb := Lib.hid hb
         clear hb
         go_wp2_with fail
         go_ret
         exact ⟨by simp; try omega, Hb.out⟩)

/-! ### THE ROW's STEP: WRITTEN OUT: LEAVE IT -/
set_option maxRecDepth 100000 in
theorem lifted (os : Os) (started : os.Started) (H : Type) (enc : TypeId × Value → H) :
    ReturnsInHanded {} Try.checked os 14 .any (Rows.wireFoldsSpec.pre6 enc Try.prog Try.f14 Rows.wireFoldsRow.domain false) (Rows.wireFoldsSpec.post enc Try.prog Try.f14 false true false false) := by
  refine returnsInHanded_of_change (C := Try.checked) own started (by kernel_rfl) Try.func14
    (ChangeSpec.witness6 (enc := enc) (C := Try.checked) false ⟨#[], #[.int .i64 0, .int .i64 0], []⟩ 8 (by kernel_rfl) (by kernel_rfl) (by kernel_rfl) (by kernel_rfl)) ?_
  intro W base args ds gs before hval0 hW hcnd _
  have hval : ∀ (j : Nat) t v, Try.f14.params[j]? = some t → args[j]? = some v → Value.okWide Try.prog W .any base t v := hval0
  have hW' := hW
  obtain ⟨p, q, hA0, hV, rfl, hfz, hnd⟩ := hW
  have hA : DataW.TrodAll enc Try.prog W 0 (fun _ => true) true Try.f14.params.toList args.toList ds p := hA0
  rw [Try.params14] at hA hval
  obtain ⟨v0, vs0, d0, ds0, p0, q0, hargs, rfl, rfl, h0, r0⟩ := trodAll_cons hA
  obtain ⟨v1, vs1, d1, ds1, p1, q1, rfl, rfl, rfl, h1, r1⟩ := trodAll_cons r0
  obtain ⟨rfl, rfl, rfl⟩ := trodAll_nil r1
  obtain rfl : args = #[v0, v1] := by cases args; simp_all
  obtain ⟨rfl, rfl⟩ := trodVars_none hV
  obtain ⟨a0, rfl, rfl, rfl, w0⟩ := open_int Try.underlying3 (hval 0 3 v0 rfl rfl) h0
  obtain ⟨a1, rfl, rfl, rfl, w1⟩ := open_int Try.underlying3 (hval 1 3 v1 rfl rfl) h1
  clear hA0 hval0
  refine (walk a0 a1 W w0 w1).mono fun e W' ⟨he, bel⟩ => ?_
  subst he
  exact ⟨_, rfl, _, _, _, [], _, [], hW', trodAll_mk1 (shut_bool Try.underlying4 _), (trodAll_cons_mk (shut_int Try.underlying3 w0) (trodAll_cons_mk (shut_int Try.underlying3 w1) trodAll_mk0)), rfl, bel.frame _, fun h => by cases h⟩

theorem over : Rows.wireFoldsRow.holds Try.pinned (OpenSpec.ofChange Rows.wireFoldsSpec) :=
  OpenClaim.holds_of_wide 14 Try.f14 rfl rfl rfl rfl rfl rfl rfl ⟨rfl, rfl, rfl, rfl, rfl⟩ rfl rfl rfl rfl rfl (by kernel_rfl) Try.func14 (by kernel_rfl)
    (of_decide_eq_true (by kernel_rfl)) (by unfold Func.isWrapper; first | (rw [if_pos (by decide +kernel)]; kernel_rfl) | (rw [if_neg (by decide +kernel)]; exact ⟨rfl, rfl⟩))
    (fun os started H enc _ => lifted os started H enc)

/-- ████ THE STATEMENT ████ -/
theorem proved : Rows.WireFoldsSaid := over
#print axioms proved
end Go.Proofs.Ytlmknpljncpjiaa.wireFolds
