/- Two digests are compared. -/
import Derived.DeepKeys
import Derived.Test.YtnlblmghhkmbbaaSabove
namespace Go.Proofs.Ytnlblmghhkmbbaa
set_option linter.unusedVariables false
open Go.RowKit Go.Shelf

theorem items_eq (w : World) (a b : List Int) (ha : a.length = 16) (hb : b.length = 16) : ∀ (is : List Nat), (∀ i ∈ is, i < 16) →
    (Op.eqItems 9999 5 1 (digC a) (digC b) is).run Try.prog w = .ok (is.all fun i => a[i]? == b[i]?) w := by
  intro is
  induction is with
  | nil => intro _; simp [Op.eqItems]
  | cons i is ih =>
    intro h
    have hi := h i (by simp)
    have p1 : ∀ (l : List Int), l.length = 16 → (part 5 (digC l) (i * 1)).run Try.prog w = .ok (.int .u8 (l[i]?.getD 0)) w := by
      intro l hl
      have hg := digC_get l i (by omega)
      rw [Nat.mul_one]
      rw [run_part_plain w (by kernel_rfl) hg, List.getD_eq_getElem?_getD]
    have e1 : (Op.equalIn 9999 5 (.int .u8 (a[i]?.getD 0)) (.int .u8 (b[i]?.getD 0))).run Try.prog w = .ok ((a[i]?.getD 0) == (b[i]?.getD 0)) w :=
      run_equalIn_int w 9998 _ _ .u8 _ _ Try.underlying5
    have e2 : (a[i]? == b[i]?) = ((a[i]?.getD 0) == (b[i]?.getD 0)) := by
      rw [List.getElem?_eq_getElem (by omega), List.getElem?_eq_getElem (by omega)]
      simp
    simp only [Op.eqItems, Sem.run_bind, p1 a ha, p1 b hb, Result.andThen_ok, e1, List.all_cons, e2]
    cases hq : ((a[i]?.getD 0) == (b[i]?.getD 0))
    · simp
    · simp [ih (fun j hj => h j (by simp [hj]))]
theorem all_eq (a b : List Int) (ha : a.length = 16) (hb : b.length = 16) : ((List.range 16).all fun i => a[i]? == b[i]?) = (a == b) := by
  rw [Bool.eq_iff_iff]
  simp only [List.all_eq_true, List.mem_range, beq_iff_eq]
  constructor
  · intro h
    apply List.ext_getElem?
    intro i
    by_cases hi : i < 16
    · exact h i hi
    · rw [List.getElem?_eq_none (by omega), List.getElem?_eq_none (by omega)]
  · rintro rfl i _; rfl
theorem run_neq_dig (w : World) (a b : List Int) (ha : a.length = 16) (hb : b.length = 16) :
    (binOp .neq 47 (.agg (digC a)) (.agg (digC b))).run Try.prog w = .ok (.bool (!(a == b))) w := by
  obtain ⟨i, hi⟩ : ∃ i, Try.prog.info? 5 = some i := Option.isSome_iff_exists.1 (by kernel_rfl)
  rw [run_neq_struct, run_equalIn_array w 9999 (digC a) (digC b) Try.underlying47 hi]
  rw [show Try.prog.cellsOf 5 = 1 from by kernel_rfl, items_eq w a b ha hb (List.range 16) (by simp), all_eq a b ha hb]
  rfl
end Go.Proofs.Ytnlblmghhkmbbaa
