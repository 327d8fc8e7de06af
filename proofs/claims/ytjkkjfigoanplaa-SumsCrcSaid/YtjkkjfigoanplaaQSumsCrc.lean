/- What the statement SumsCrc calls answers true, for every input that its walk is handed. -/
import Derived.Test.YtjkkjfigoanplaaRows
import Derived.WalkKit
import Derived.ProofKit
import Derived.OpenShut
import Derived.ShutString
import Derived.ChangeOld
import Derived.Below
import Derived.SizedLaws
import Derived.Test.YtjkkjfigoanplaaSopen
import Derived.Test.YtjkkjfigoanplaaSsane
import Derived.Test.YtjkkjfigoanplaaSjoin2
import Derived.Test.YtjkkjfigoanplaaScjoin
namespace Go.Proofs.Ytjkkjfigoanplaa.sumsCrc
open Go.ChangeShapes Go.WideShapes Go.ChangeAt Go.RowKit
open Go.ChangeMaps (open_string shut_string)
set_option linter.unusedVariables false

open Go.Shelf
theorem word_of {n : Int} (h : (Lit.int .u32 n).wf = true) : ∃ x : B32, n = (x.toNat : Int) := by
  have := wf_u32 h
  refine ⟨BitVec.ofNat 32 n.toNat, ?_⟩
  rw [BitVec.toNat_ofNat, Nat.mod_eq_of_lt (by omega)]
  omega
theorem both (a b : B32) (n : Int) : ∃ z e : Int, (∀ u, Calls Try.prog 16 #[.int .u32 (a.toNat : Int), .int .u32 (b.toNat : Int), .int .i64 n] u fun e' w' => e' = .returned (.tuple #[.int .u32 z, .int .i64 e]) ∧ Below u.heap.size u w') ∧
    (∀ u, Calls Try.prog 17 #[.int .u32 (a.toNat : Int), .int .u32 (b.toNat : Int), .int .i64 n] u fun e' w' => e' = .returned (.tuple #[.int .u32 z, .int .i64 e]) ∧ Below u.heap.size u w') := by
  by_cases h1 : n < 0
  · exact ⟨_, _, fun u => (join_less a b n u h1).mono (by rintro e w ⟨rfl, rfl⟩; exact ⟨rfl, Below.refl _ _⟩), fun u => (joinR_less a b n u h1).mono (by rintro e w ⟨rfl, rfl⟩; exact ⟨rfl, Below.refl _ _⟩)⟩
  by_cases h2 : 2147483647 < n
  · exact ⟨_, _, fun u => (join_more a b n u h2).mono (by rintro e w ⟨rfl, rfl⟩; exact ⟨rfl, Below.refl _ _⟩), fun u => (joinR_more a b n u h2).mono (by rintro e w ⟨rfl, rfl⟩; exact ⟨rfl, Below.refl _ _⟩)⟩
  obtain ⟨m, rfl⟩ : ∃ m : Nat, n = m := ⟨n.toNat, by omega⟩
  exact ⟨_, _, fun u => (join_ok a b m u (by omega)).mono (by rintro e w ⟨rfl, rfl⟩; exact ⟨rfl, Below.refl _ _⟩), fun u => (joinR_ok a b m u (by omega)).mono (by rintro e w ⟨rfl, hb⟩; exact ⟨rfl, hb⟩)⟩
attribute [local irreducible] crcV shifts
set_option maxRecDepth 100000 in
set_option maxHeartbeats 8000000 in
theorem walk (a0 : Option Addr) (len0 cap0 : Nat) (xs0 : List Int) (a1 : Int) (a2 : Int) (a3 : Int) (w : World) (w0 : Rd w a0 len0 cap0 xs0 ∧ cap0 ≤ 140737488351232) (w1 : (Lit.int .u32 a1).wf = true) (w2 : (Lit.int .u32 a2).wf = true) (w3 : (Lit.int .i64 a3).wf = true) :
    Calls Try.prog 3 #[.slice a0 len0 cap0, .int .u32 a1, .int .u32 a2, .int .i64 a3] w fun e w' => e = .returned (.bool true) ∧ Below w.heap.size w w' := by
  obtain ⟨hr0, hc0⟩ := w0
  obtain ⟨a, rfl⟩ := word_of w1
  obtain ⟨b, rfl⟩ := word_of w2
  obtain ⟨z, er, hJ, hR⟩ := both a b a3
  clear w1 w2
  by_cases h1 : (3000 : Int) < (len0 : Int)
  · go_enter Try.func3, Try.ntmps3
    go_wp2_with fail
    refine (sane_any w).mono ?_
    rintro e w' ⟨rfl, hb⟩
    go_wp2_with fail
    go_ret
    exact ⟨rfl, hb⟩
  obtain ⟨X, hX⟩ : ∃ X, X = crcV xs0 := ⟨_, rfl⟩
  have HX := Lib.hid hX
  have HR0 := Lib.hid hr0
  have HJ := Lib.hid hJ
  have HR := Lib.hid hR
  clear hX hr0 hJ hR
  go_enter Try.func3, Try.ntmps3
  go_wp2_with fail
  refine (HJ.out w).mono ?_
  rintro e w1 ⟨rfl, hb1⟩
  have Hb1 := Lib.hid hb1
  clear hb1
  go_wp2_with fail
  refine (HR.out w1).mono ?_
  rintro e w2 ⟨rfl, hb2⟩
  have Hb2 := Lib.hid (Hb1.out.trans (hb2.mono Hb1.out.size))
  clear hb2 Hb1
  go_wp2_with fail
  refine (sane_any w2).mono ?_
  rintro e w3 ⟨rfl, hb3⟩
  have Hb3 := Lib.hid (Hb2.out.trans (hb3.mono Hb2.out.size))
  clear hb3 Hb2
  go_wp2_with fail
  refine (crc_any _ _ _ xs0 w3 (HR0.out.below Hb3.out (Nat.le_refl _))).mono ?_
  rintro e w4 ⟨rfl, hb4⟩
  rw [← HX.out]
  have Hb4 := Lib.hid (Hb3.out.trans (hb4.mono Hb3.out.size))
  clear hb4 Hb3
  go_wp2_with fail
  refine (crcR_any _ _ _ xs0 w4 (HR0.out.below Hb4.out (Nat.le_refl _))).mono ?_
  rintro e w5 ⟨rfl, rfl⟩
  rw [← HX.out]
  go_wp2_with fail
  go_ret
  exact ⟨rfl, Hb4.out⟩
end Go.Proofs.Ytjkkjfigoanplaa.sumsCrc
