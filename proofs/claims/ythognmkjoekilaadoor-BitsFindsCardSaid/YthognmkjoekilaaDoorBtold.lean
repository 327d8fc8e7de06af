/- Layer 3: what the exported functions answer. -/
import Derived.Test.YthognmkjoekilaaDoorBown
import Derived.Test.YthognmkjoekilaaDoorBsetp
import Derived.Test.YthognmkjoekilaaDoorBma
import Derived.Test.YthognmkjoekilaaDoorBmb
namespace Go.Proofs.YthognmkjoekilaaDoor
set_option linter.unusedVariables false
open Go.RowKit

section
variable (M : Nat) (a : Option Addr) (l c : Nat) (bs : List Int) (w : World) (hr : Rd w a l c bs)
include hr
theorem not_ok (hv : Vb M bs) : Calls Tryd.prog 33 #[.agg #[.int .i64 (M : Int), .slice a l c]] w fun e w' => ∃ a' l' c', e = .returned (.tuple #[.agg #[.int .i64 (M : Int), .slice a' l' c'], .int .i64 0]) ∧ Rd w' a' l' c' (notV M l bs) ∧ Below w.heap.size w w' :=
  (not_lift_ok M a l c M (notV M l bs) w (fun W hb h0 => not1_ok _ M a l c bs W h0 (hr.below hb (Nat.le_refl _)) hv.valid)).mono fun e w' ⟨x, y, z, h1, h2, h3⟩ => ⟨x, y, z, h1, own_read h2, h3⟩
theorem count_ok (at_ m e : Nat) (hv : Vb M bs) (he : e = at_ + m) (hc : e ≤ M) (ho : Ones w) : Calls Tryd.prog 16 #[.agg #[.int .i64 (M : Int), .slice a l c], .int .i64 (at_ : Int), .int .i64 (m : Int)] w fun e' w' => e' = .returned (.tuple #[.int .i64 (cntV bs at_ e : Int), .int .i64 0]) ∧ Below w.heap.size w w' :=
  count_lift_ok M a l c at_ m (cntV bs at_ e) w fun W hb h0 h1 h2 => count1_ok _ _ _ M a l c bs at_ m e W h0 h1 h2 (hr.below hb (Nat.le_refl _)) hv.valid he (by omega) (ho.below hb (Nat.le_refl _))
theorem set_ok (at_ m e : Nat) (on : Bool) (hv : Vb M bs) (he : e = at_ + m) (hc : e ≤ M) : Calls Tryd.prog 15 #[.agg #[.int .i64 (M : Int), .slice a l c], .int .i64 (at_ : Int), .int .i64 (m : Int), .bool on] w fun e' w' => ∃ a' l' c', e' = .returned (.tuple #[.agg #[.int .i64 (M : Int), .slice a' l' c'], .int .i64 0]) ∧ Rd w' a' l' c' (fillV bs at_ e on) ∧ Below w.heap.size w w' :=
  (set_lift_ok M a l c at_ m on M (fillV bs at_ e on) w fun W hb h0 h1 h2 h3 => set1_ok _ _ _ _ M a l c bs at_ m e on W h0 h1 h2 h3 (hr.below hb (Nat.le_refl _)) hv.valid he (by omega)).mono fun e w' ⟨x, y, z, h1, h2, h3⟩ => ⟨x, y, z, h1, own_read h2, h3⟩
end
section
variable (N : Int) (a : Option Addr) (l c : Nat) (bs : List Int) (w : World) (hr : Rd w a l c bs) (hN1 : -9223372036854775808 ≤ N) (hN2 : N ≤ 9223372036854775807)
include hr hN1 hN2
theorem not_bad (hv : validB N bs = false) : Calls Tryd.prog 33 #[.agg #[.int .i64 N, .slice a l c]] w fun e w' => e = .returned (.tuple #[.agg #[.int .i64 0, .slice none 0 0], .int .i64 9]) ∧ Below w.heap.size w w' :=
  not_lift_bad N a l c 9 w fun W hb h0 => not1_bad _ N a l c bs W h0 (hr.below hb (Nat.le_refl _)) hN1 hN2 hv
theorem count_bad (at_ m : Int) (ha1 : -9223372036854775808 ≤ at_) (ha2 : at_ ≤ 9223372036854775807) (hv : validB N bs = false) : Calls Tryd.prog 16 #[.agg #[.int .i64 N, .slice a l c], .int .i64 at_, .int .i64 m] w fun e' w' => e' = .returned (.tuple #[.int .i64 0, .int .i64 9]) ∧ Below w.heap.size w w' :=
  count_lift_bad N a l c at_ m 9 w fun W hb h0 h1 h2 => count1_bad _ _ _ N a l c bs at_ m W h0 h1 h2 (hr.below hb (Nat.le_refl _)) hN1 hN2 ha1 ha2 hv
theorem count_rng (at_ m : Int) (ha1 : -9223372036854775808 ≤ at_) (ha2 : at_ ≤ 9223372036854775807) (hv : validB N bs = true) (hc : ¬ (0 ≤ at_ ∧ 0 ≤ m ∧ m ≤ N - at_)) : Calls Tryd.prog 16 #[.agg #[.int .i64 N, .slice a l c], .int .i64 at_, .int .i64 m] w fun e' w' => e' = .returned (.tuple #[.int .i64 0, .int .i64 1]) ∧ Below w.heap.size w w' :=
  count_lift_bad N a l c at_ m 1 w fun W hb h0 h1 h2 => count1_rng _ _ _ N a l c bs at_ m W h0 h1 h2 (hr.below hb (Nat.le_refl _)) hN1 hN2 ha1 ha2 hv hc
theorem set_bad (at_ m : Int) (on : Bool) (ha1 : -9223372036854775808 ≤ at_) (ha2 : at_ ≤ 9223372036854775807) (hv : validB N bs = false) : Calls Tryd.prog 15 #[.agg #[.int .i64 N, .slice a l c], .int .i64 at_, .int .i64 m, .bool on] w fun e' w' => e' = .returned (.tuple #[.agg #[.int .i64 0, .slice none 0 0], .int .i64 9]) ∧ Below w.heap.size w w' :=
  set_lift_bad N a l c at_ m on 9 w fun W hb h0 h1 h2 h3 => set1_bad _ _ _ _ N a l c bs at_ m on W h0 h1 h2 h3 (hr.below hb (Nat.le_refl _)) hN1 hN2 ha1 ha2 hv
theorem set_rng (at_ m : Int) (on : Bool) (ha1 : -9223372036854775808 ≤ at_) (ha2 : at_ ≤ 9223372036854775807) (hv : validB N bs = true) (hc : ¬ (0 ≤ at_ ∧ 0 ≤ m ∧ m ≤ N - at_)) : Calls Tryd.prog 15 #[.agg #[.int .i64 N, .slice a l c], .int .i64 at_, .int .i64 m, .bool on] w fun e' w' => e' = .returned (.tuple #[.agg #[.int .i64 0, .slice none 0 0], .int .i64 1]) ∧ Below w.heap.size w w' :=
  set_lift_bad N a l c at_ m on 1 w fun W hb h0 h1 h2 h3 => set1_rng _ _ _ _ N a l c bs at_ m on W h0 h1 h2 h3 (hr.below hb (Nat.le_refl _)) hN1 hN2 ha1 ha2 hv hc
end
end Go.Proofs.YthognmkjoekilaaDoor
