/- What the statement SumsJoined calls answers true, for every input that its walk is handed. -/
import Derived.Test.YtjkkjfigoanplaaRows
import Derived.WalkKit
import Derived.ProofKit
import Derived.OpenShut
import Derived.ShutString
import Derived.ChangeOld
import Derived.Below
import Derived.SizedLaws
import Derived.Test.YtjkkjfigoanplaaSopen
import Derived.Test.YtjkkjfigoanplaaSsane
import Derived.Test.YtjkkjfigoanplaaSjoin2
import Derived.Test.YtjkkjfigoanplaaStimes
import Derived.IntWalk
namespace Go.Proofs.Ytjkkjfigoanplaa.sumsJoined
open Go.ChangeShapes Go.WideShapes Go.ChangeAt Go.RowKit
open Go.ChangeMaps (open_string shut_string)
set_option linter.unusedVariables false

open Go.Shelf
theorem word_of {n : Int} (h : (Lit.int .u32 n).wf = true) : ∃ x : B32, n = (x.toNat : Int) := by
  have := wf_u32 h
  refine ⟨BitVec.ofNat 32 n.toNat, ?_⟩
  rw [BitVec.toNat_ofNat, Nat.mod_eq_of_lt (by omega)]
  omega
theorem crc_nil : (crcV []).toNat = 0 := by decide
attribute [local irreducible] crcV shifts
set_option maxRecDepth 100000 in
set_option maxHeartbeats 8000000 in
theorem walk (a0 : Option Addr) (len0 cap0 : Nat) (xs0 : List Int) (a1 : Option Addr) (len1 cap1 : Nat) (xs1 : List Int) (a2 : Int) (a3 : Int) (a4 : Int) (a5 : Int) (a6 : Int) (w : World) (w0 : Rd w a0 len0 cap0 xs0 ∧ cap0 ≤ 140737488351232) (w1 : Rd w a1 len1 cap1 xs1 ∧ cap1 ≤ 140737488351232) (w2 : (Lit.int .u32 a2).wf = true) (w3 : (Lit.int .u32 a3).wf = true) (w4 : (Lit.int .u32 a4).wf = true) (w5 : (Lit.int .i64 a5).wf = true) (w6 : (Lit.int .i64 a6).wf = true) :
    Calls Try.prog 9 #[.slice a0 len0 cap0, .slice a1 len1 cap1, .int .u32 a2, .int .u32 a3, .int .u32 a4, .int .i64 a5, .int .i64 a6] w fun e w' => e = .returned (.bool true) ∧ Below w.heap.size w w' := by
  obtain ⟨hr0, hc0⟩ := w0
  obtain ⟨hr1, hc1⟩ := w1
  obtain ⟨a, rfl⟩ := word_of w2
  obtain ⟨b, rfl⟩ := word_of w3
  obtain ⟨c, rfl⟩ := word_of w4
  have hn := wf_i64 w5
  have hm := wf_i64 w6
  clear w2 w3 w4 w5 w6
  by_cases h1 : (2000 : Int) < (len0 : Int)
  · go_enter Try.func9, Try.ntmps9
    go_wp2_with fail
    refine (sane_any w).mono ?_
    rintro e w' ⟨rfl, hb⟩
    go_wp2_with fail
    go_ret
    exact ⟨rfl, hb⟩
  by_cases h2 : (2000 : Int) < (len1 : Int)
  · go_enter Try.func9, Try.ntmps9
    go_wp2_with fail
    refine (sane_any w).mono ?_
    rintro e w' ⟨rfl, hb⟩
    go_wp2_with fail
    go_ret
    exact ⟨rfl, hb⟩
  by_cases h3 : a5 < 0
  · go_enter Try.func9, Try.ntmps9
    go_wp2_with fail
    refine (sane_any w).mono ?_
    rintro e w' ⟨rfl, hb⟩
    go_wp2_with fail
    go_ret
    exact ⟨rfl, hb⟩
  by_cases h4 : a6 < 0
  · go_enter Try.func9, Try.ntmps9
    go_wp2_with fail
    refine (sane_any w).mono ?_
    rintro e w' ⟨rfl, hb⟩
    go_wp2_with fail
    go_ret
    exact ⟨rfl, hb⟩
  by_cases h5 : 536870912 < a5
  · go_enter Try.func9, Try.ntmps9
    go_wp2_with fail
    refine (sane_any w).mono ?_
    rintro e w' ⟨rfl, hb⟩
    go_wp2_with fail
    go_ret
    exact ⟨rfl, hb⟩
  by_cases h6 : 536870912 < a6
  · go_enter Try.func9, Try.ntmps9
    go_wp2_with fail
    refine (sane_any w).mono ?_
    rintro e w' ⟨rfl, hb⟩
    go_wp2_with fail
    go_ret
    exact ⟨rfl, hb⟩
  obtain ⟨n, rfl⟩ : ∃ n : Nat, a5 = n := ⟨a5.toNat, by omega⟩
  obtain ⟨m, rfl⟩ : ∃ m : Nat, a6 = m := ⟨a6.toNat, by omega⟩
  have hl0 := hr0.hl
  have hl1 := hr1.hl
  have hcc0 := hr0.hc
  have hcc1 := hr1.hc
  have i1 : ([] : List Int).length + len0 ≤ 140737488355328 := by simp; omega
  have i3 : xs0.length + len1 ≤ 140737488355328 := by omega
  have hL : (xs0 ++ xs1).length = len0 + len1 := by rw [List.length_append]; omega
  have hB := crc_join xs0 xs1
  rw [hl1] at hB
  obtain ⟨X, hX⟩ : ∃ X, X = crcV xs0 := ⟨_, rfl⟩
  obtain ⟨Y, hY⟩ : ∃ Y, Y = crcV xs1 := ⟨_, rfl⟩
  obtain ⟨Z, hZ⟩ : ∃ Z, Z = crcV (xs0 ++ xs1) := ⟨_, rfl⟩
  rw [← hX, ← hY, ← hZ] at hB
  obtain ⟨ab, hab⟩ : ∃ z, z = shifts (8 * n) a ^^^ b := ⟨_, rfl⟩
  obtain ⟨l, hlv⟩ : ∃ z, z = shifts (8 * m) ab ^^^ c := ⟨_, rfl⟩
  obtain ⟨bc, hbc⟩ : ∃ z, z = shifts (8 * m) b ^^^ c := ⟨_, rfl⟩
  have hrv : shifts (8 * (n + m)) a ^^^ bc = l := by
    rw [hlv, hab, hbc, shifts_xor, Nat.mul_add, shifts_add (8 * m) (8 * n) a, BitVec.xor_assoc]
  have hov : shifts (8 * 0) a ^^^ 0#32 = a := by rw [BitVec.xor_zero]; unfold shifts; rfl
  have htv : shifts (8 * n) 0#32 ^^^ b = b := by rw [shifts_nil, BitVec.zero_xor]
  have J1 := Lib.hid (fun w' => join_ok X Y len1 w' (by omega))
  have J2 := Lib.hid (fun w' => join_ok a b n w' (by omega))
  have J3 := Lib.hid (fun w' => join_ok ab c m w' (by omega))
  have J4 := Lib.hid (fun w' => join_ok b c m w' (by omega))
  have J5 : Hid (∀ w' : World, Calls Try.prog 16 #[.int .u32 (a.toNat : Int), .int .u32 (bc.toNat : Int), .int .i64 ((n : Int) + (m : Int))] w' fun e w'' => e = .returned (.tuple #[.int .u32 (l.toNat : Int), .int .i64 0]) ∧ w' = w'') := Lib.hid (fun w' => by
    have := join_ok a bc (n + m) w' (by omega)
    rw [hrv, Int.natCast_add] at this
    exact this)
  have J6 : Hid (∀ w' : World, Calls Try.prog 16 #[.int .u32 (a.toNat : Int), .int .u32 0, .int .i64 0] w' fun e w'' => e = .returned (.tuple #[.int .u32 (a.toNat : Int), .int .i64 0]) ∧ w' = w'') := Lib.hid (fun w' => by
    have := join_ok a 0#32 0 w' (by omega)
    rw [hov] at this
    exact this)
  have J7 : Hid (∀ w' : World, Calls Try.prog 16 #[.int .u32 0, .int .u32 (b.toNat : Int), .int .i64 (n : Int)] w' fun e w'' => e = .returned (.tuple #[.int .u32 (b.toNat : Int), .int .i64 0]) ∧ w' = w'') := Lib.hid (fun w' => by
    have := join_ok 0#32 b n w' (by omega)
    rw [htv] at this
    exact this)
  rw [← hB] at J1
  rw [← hab] at J2
  rw [← hlv] at J3
  rw [← hbc] at J4
  have HX := Lib.hid hX
  have HY := Lib.hid hY
  have HZ := Lib.hid hZ
  have HL := Lib.hid (And.intro hl0 hL)
  have HR0 := Lib.hid hr0
  have HR1 := Lib.hid hr1
  have i2 : w.heap.size ≤ w.heap.size := Nat.le_refl _
  have hsum : IntKind.i64.wrap ((n : Int) + (m : Int)) = (n : Int) + (m : Int) := IntWalk.i64_in _ (by omega)
  have HO : Hid (Own w w.heap.size (.slice none 0 0) []) := Lib.hid (Own.nil _ _)
  clear hX hY hZ hl0 hl1 hL hr0 hr1 hB hab hlv hbc hrv hov htv
  go_enter Try.func9, Try.ntmps9
  go_wp2_with (first
    | (at_builtin; refine wpList_append_rd rfl (.tmp 55) (.tmp 56) 22 rfl w.heap.size Try.infoB Try.underlying22 _ [] rfl HO.out _ _ _ _ rfl HR0.out i1 i2 ?_; intro v6 w6 ho6 hg6; rw [List.nil_append] at ho6; obtain ⟨a6, c6, hv6, hr6⟩ := ho6.rdz HL.out.1; subst hv6; have Ho6 := Lib.hid ho6; have Hb6 := Lib.hid ((Below.refl w.heap.size w).grown hg6 i2 (fun k hk => (HO.out.1.lt k hk).1)); have HR5 := Lib.hid (HR1.out.below Hb6.out (Nat.le_refl _)); have HR4 := Lib.hid (HR0.out.below Hb6.out (Nat.le_refl _)); have i4 := Hb6.out.size; clear ho6 hg6 hr6)
    | (at_builtin; refine wpList_append_rd rfl (.tmp 58) (.tmp 59) 22 rfl w.heap.size Try.infoB Try.underlying22 _ _ rfl Ho6.out _ _ _ _ rfl HR5.out i3 i4 ?_; intro v7 w7 ho7 hg7; obtain ⟨a7, c7, hv7, hr7⟩ := ho7.rdz HL.out.2; subst hv7; have Hr7 := Lib.hid hr7; have Hb7 := Lib.hid (Hb6.out.grown hg7 i4 (fun k hk => (Ho6.out.1.lt k hk).1)); clear ho7 hg7 hr7))
  have HRx := Lib.hid (HR0.out.below Hb7.out (Nat.le_refl _))
  have HRy := Lib.hid (HR1.out.below Hb7.out (Nat.le_refl _))
  clear HR0 HR1 HR4 HR5 Hb6 Ho6 HO i1 i2 i3 i4
  refine (crc_any _ _ _ xs0 w7 HRx.out).mono ?_
  rintro e w8 ⟨rfl, hb8⟩
  rw [← HX.out]
  have HRy8 := Lib.hid (HRy.out.below hb8 (Nat.le_refl _))
  have Hr8 := Lib.hid (Hr7.out.below hb8 (Nat.le_refl _))
  have Hb8 := Lib.hid (Hb7.out.trans (hb8.mono Hb7.out.size))
  clear hb8 HRx HRy Hr7 Hb7 HX
  go_wp2_with fail
  refine (crc_any _ _ _ xs1 w8 HRy8.out).mono ?_
  rintro e w9 ⟨rfl, hb9⟩
  rw [← HY.out]
  have Hr9 := Lib.hid (Hr8.out.below hb9 (Nat.le_refl _))
  have Hb9 := Lib.hid (Hb8.out.trans (hb9.mono Hb8.out.size))
  clear hb9 HRy8 Hr8 Hb8 HY
  go_wp2_with fail
  refine (J1.out _).mono ?_
  rintro e u ⟨rfl, rfl⟩
  go_wp2_with fail
  refine (crc_any _ _ _ _ w9 Hr9.out).mono ?_
  rintro e w10 ⟨rfl, hb10⟩
  rw [← HZ.out]
  have Hb10 := Lib.hid (Hb9.out.trans (hb10.mono Hb9.out.size))
  clear hb10 Hr9 Hb9 HZ J1
  go_wp2_with fail
  refine (J2.out _).mono ?_
  rintro e u ⟨rfl, rfl⟩
  go_wp2_with fail
  refine (J3.out _).mono ?_
  rintro e u ⟨rfl, rfl⟩
  go_wp2_with fail
  refine (J4.out _).mono ?_
  rintro e u ⟨rfl, rfl⟩
  go_wp2_with fail
  refine (J5.out _).mono ?_
  rintro e u ⟨rfl, rfl⟩
  go_wp2_with fail
  refine (J6.out _).mono ?_
  rintro e u ⟨rfl, rfl⟩
  go_wp2_with fail
  refine (J7.out _).mono ?_
  rintro e u ⟨rfl, rfl⟩
  go_wp2_with fail
  refine (sane_any w10).mono ?_
  rintro e w11 ⟨rfl, hb11⟩
  have Hb11 := Lib.hid (Hb10.out.trans (hb11.mono Hb10.out.size))
  clear hb11
  go_wp2_with fail
  refine (crc_any none 0 0 [] w11 (Rd.nil w11)).mono ?_
  rintro e w12 ⟨rfl, hb12⟩
  rw [crc_nil]
  have Hb12 := Lib.hid (Hb11.out.trans (hb12.mono Hb11.out.size))
  clear hb12
  go_wp2_with fail
  go_ret
  exact ⟨rfl, Hb12.out⟩
end Go.Proofs.Ytjkkjfigoanplaa.sumsJoined
