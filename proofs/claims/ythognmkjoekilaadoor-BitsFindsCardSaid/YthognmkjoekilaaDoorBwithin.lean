/- Whether a range lies in some bits, by the reference. -/
import Derived.Test.YthognmkjoekilaaDoorBget
namespace Go.Proofs.YthognmkjoekilaaDoor
set_option linter.unusedVariables false
open Go.RowKit Go.Shelf

/-- Whether a range lies in some bits. -/
def withinV (n at_ m : Int) : Bool := decide (0 ≤ at_ ∧ 0 ≤ m ∧ at_ ≤ n ∧ m ≤ n - at_)
set_option maxRecDepth 100000 in
theorem within_any (n at_ m : Int) (hn1 : -9223372036854775808 ≤ n) (hn2 : n ≤ 9223372036854775807) (w : World) :
    Calls Tryd.prog 21 #[.int .i64 n, .int .i64 at_, .int .i64 m] w fun e w' => e = .returned (.bool (withinV n at_ m)) ∧ w = w' := by
  have key : ∀ b : Bool, withinV n at_ m = b → Hid (withinV n at_ m = b) := fun b h => Lib.hid h
  by_cases c1 : 0 ≤ at_
  · by_cases c2 : 0 ≤ m
    · by_cases c3 : at_ ≤ n
      · have e1 : IntKind.i64.wrap (n - at_) = n - at_ := IntWalk.i64_in _ (by omega)
        by_cases c4 : m ≤ n - at_
        · have k := key true (by unfold withinV; simp; omega)
          clear key
          go_enter Tryd.func21, Tryd.ntmps21
          go_wp2
          go_ret
          exact ⟨by rw [k.out]; rfl, rfl⟩
        · have k := key false (by unfold withinV; simp; omega)
          have c4 : n - at_ < m := by omega
          clear key
          go_enter Tryd.func21, Tryd.ntmps21
          go_wp2
          go_ret
          exact ⟨by rw [k.out]; rfl, rfl⟩
      · have k := key false (by unfold withinV; simp; omega)
        have c3 : n < at_ := by omega
        clear key
        go_enter Tryd.func21, Tryd.ntmps21
        go_wp2
        go_ret
        exact ⟨by rw [k.out]; rfl, rfl⟩
    · have k := key false (by unfold withinV; simp; omega)
      have c2 : m < 0 := by omega
      clear key
      go_enter Tryd.func21, Tryd.ntmps21
      go_wp2
      go_ret
      exact ⟨by rw [k.out]; rfl, rfl⟩
  · have k := key false (by unfold withinV; simp; omega)
    have c1 : at_ < 0 := by omega
    clear key
    go_enter Tryd.func21, Tryd.ntmps21
    go_wp2
    go_ret
    exact ⟨by rw [k.out]; rfl, rfl⟩
end Go.Proofs.YthognmkjoekilaaDoor
