/- Collide, for every input; the reference's SameDigests. -/
import Derived.Test.YtjkkjfigoanplaaScoll
namespace Go.Proofs.Ytjkkjfigoanplaa
set_option linter.unusedVariables false
open Go.RowKit Go.Shelf

/-- What Collide returns: an error, or two slices whose bytes collide; what it says of the nodes of both proofs. -/
def CollideOk (la lb : List (List Int)) (w : World) (e : Ending) (w' : World) : Prop :=
  Below w.heap.size w w' ∧ ((∃ (ua : Option Addr) (ul uc : Nat) (va : Option Addr) (vl vc : Nat) (xs ys : List Int), e = .returned (.tuple #[.slice ua ul uc, .slice va vl vc, .int .i64 0]) ∧ Rd w' ua ul uc xs ∧ Rd w' va vl vc ys ∧ clash xs ys = true ∧
      ∃ k, ∃ h : k < la.length, ∃ h' : k < lb.length, la[k] = xs ∧ lb[k] = ys ∧ ∀ j (hj : j < k), clash (la[j]'(by omega)) (lb[j]'(by omega)) = false) ∨
    (e = .returned (.tuple #[.slice none 0 0, .slice none 0 0, .int .i64 3]) ∧ ∀ j (hj : j < la.length) (hj' : j < lb.length), clash la[j] lb[j] = false))
attribute [local irreducible] digestV rootV halfV climbV clash
set_option maxRecDepth 100000 in
set_option maxHeartbeats 4000000 in
/-- The first proof has an error. -/
theorem collide_one (n i : Int) (leaf path other way : Value) (w : World) (E : Int) (hE : E ≠ 0)
    (h1 : Calls Try.prog 72 #[.int .i64 n, .int .i64 i, leaf, path] w fun e w' => e = .returned (.tuple #[.slice none 0 0, .int .i64 E]) ∧ Below w.heap.size w w') :
    Calls Try.prog 52 #[.int .i64 n, .int .i64 i, leaf, path, other, way] w fun e w' => e = .returned (.tuple #[.slice none 0 0, .slice none 0 0, .int .i64 E]) ∧ Below w.heap.size w w' := by
  have H1 := Lib.hid h1
  have hne : (E == 0) = false := by simp [hE]
  have hne2 : (E != 0) = true := by simp [hE]
  clear h1 hE
  go_enter Try.func52, Try.ntmps52
  go_wp2_with fail
  refine H1.out.mono ?_
  rintro e w1 ⟨rfl, hb⟩
  go_wp2_with fail
  refine bodyPost_ret (res3 rfl _ _ _) rfl ?_
  exact ⟨rfl, hb⟩
set_option maxRecDepth 100000 in
set_option maxHeartbeats 4000000 in
/-- The second proof has an error. -/
theorem collide_two (n i : Int) (leaf path other way : Value) (w : World) (E : Int) (hE : E ≠ 0) (la : List (List Int))
    (h1 : Calls Try.prog 72 #[.int .i64 n, .int .i64 i, leaf, path] w (NodesPost (some la) w))
    (h2 : ∀ w', Below w.heap.size w w' → Calls Try.prog 72 #[.int .i64 n, .int .i64 i, other, way] w' fun e w'' => e = .returned (.tuple #[.slice none 0 0, .int .i64 E]) ∧ Below w'.heap.size w' w'') :
    Calls Try.prog 52 #[.int .i64 n, .int .i64 i, leaf, path, other, way] w fun e w' => e = .returned (.tuple #[.slice none 0 0, .slice none 0 0, .int .i64 E]) ∧ Below w.heap.size w w' := by
  have H1 := Lib.hid h1
  have H2 := Lib.hid h2
  have hne : (E == 0) = false := by simp [hE]
  have hne2 : (E != 0) = true := by simp [hE]
  clear h1 h2 hE
  go_enter Try.func52, Try.ntmps52
  go_wp2_with fail
  refine H1.out.mono ?_
  intro e w1 hp
  obtain ⟨v, ms, rfl, hN, hml, hb1⟩ := hp
  have Hb1 := Lib.hid hb1
  have Hc := Lib.hid (H2.out w1 hb1)
  clear hN hml hb1 H2
  go_wp2_with fail
  refine Hc.out.mono ?_
  rintro e w2 ⟨rfl, hb2⟩
  have Hb2 := Lib.hid (Hb1.out.trans (hb2.mono Hb1.out.size))
  clear hb2
  go_wp2_with fail
  refine bodyPost_ret (res3 rfl _ _ _) rfl ?_
  exact ⟨rfl, Hb2.out⟩
set_option maxRecDepth 100000 in
set_option maxHeartbeats 4000000 in
/-- Both proofs lead somewhere. -/
theorem collide_both (n i : Int) (leaf path other way : Value) (w : World) (la lb : List (List Int)) (hlen : la.length = lb.length) (h4 : la.length ≤ 4096)
    (h1 : Calls Try.prog 72 #[.int .i64 n, .int .i64 i, leaf, path] w (NodesPost (some la) w))
    (h2 : ∀ w', Below w.heap.size w w' → Calls Try.prog 72 #[.int .i64 n, .int .i64 i, other, way] w' (NodesPost (some lb) w')) :
    Calls Try.prog 52 #[.int .i64 n, .int .i64 i, leaf, path, other, way] w (CollideOk la lb w) := by
  have H1 := Lib.hid h1
  have H2 := Lib.hid h2
  have Hlen := Lib.hid (And.intro hlen h4)
  clear h1 h2 hlen h4
  go_enter Try.func52, Try.ntmps52
  go_wp2_with fail
  refine H1.out.mono ?_
  intro e w1 hp
  obtain ⟨v, ms, rfl, hN, hml, hb1⟩ := hp
  have Hb1 := Lib.hid hb1
  have Hc := Lib.hid (H2.out w1 hb1)
  have HN := Lib.hid (And.intro hN hml)
  clear hN hml hb1 H2
  go_wp2_with fail
  refine Hc.out.mono ?_
  intro e w2 hp
  obtain ⟨v2, ns, rfl, hN2, hml2, hb2⟩ := hp
  have Hb2 := Lib.hid (Hb1.out.trans (hb2.mono Hb1.out.size))
  have N1 := Lib.hid (HN.out.1.below hb2 (Nat.le_refl _))
  have N2 := Lib.hid (hN2.mono Hb1.out.size)
  have HL := Lib.hid (And.intro HN.out.2 hml2)
  clear hN2 hml2 hb2 HN Hc
  go_wp2_with fail
  have e1 : ms.length = la.length := by rw [← HL.out.1, List.length_map]
  have e2 : ns.length = lb.length := by rw [← HL.out.2, List.length_map]
  refine (collision_any w.heap.size v v2 ms ns w2 N1.out N2.out (by rw [e1, e2]; exact Hlen.out.1) (by rw [e1]; exact Hlen.out.2)).mono ?_
  rintro e w3 ⟨hb3, hc⟩
  have Hb3 := Lib.hid (Hb2.out.trans (hb3.mono Hb2.out.size))
  have M1 : ∀ j (hj : j < la.length), la[j] = (ms[j]'(by omega)).xs := by
    intro j hj
    have := HL.out.1
    subst this
    simp
  have M2 : ∀ j (hj : j < lb.length), lb[j] = (ns[j]'(by omega)).xs := by
    intro j hj
    have := HL.out.2
    subst this
    simp
  rcases hc with ⟨k, hk, hk', rfl, hcl, hno⟩ | ⟨rfl, hno⟩
  · have O1 := (N1.out.own ms[k] (List.getElem_mem _)).below hb3 (Nat.le_refl _)
    have O2 := (N2.out.own ns[k] (List.getElem_mem _)).below hb3 (Nat.le_refl _)
    obtain ⟨ua, uc, hu, r1⟩ := O1.rdz rfl
    obtain ⟨va, vc, hv, r2⟩ := O2.rdz rfl
    rw [hu, hv]
    have HR := Lib.hid (And.intro r1 r2)
    have HK := Lib.hid (And.intro hcl hno)
    clear hb3 O1 O2 hu hv r1 r2 hcl hno
    go_wp2_with fail
    refine bodyPost_ret (res3 rfl _ _ _) rfl ⟨Hb3.out, .inl ⟨_, _, _, _, _, _, _, _, rfl, HR.out.1, HR.out.2, HK.out.1, k, by omega, by omega, M1 k _, M2 k _, fun j hj => ?_⟩⟩
    rw [M1 j (by omega), M2 j (by omega)]
    exact HK.out.2 j hj
  · have HK := Lib.hid hno
    clear hno hb3
    go_wp2_with fail
    refine bodyPost_ret (res3 rfl _ _ _) rfl ⟨Hb3.out, .inr ⟨rfl, fun j hj hj' => ?_⟩⟩
    rw [M1 j hj, M2 j hj']
    exact HK.out j _ _
end Go.Proofs.Ytjkkjfigoanplaa
