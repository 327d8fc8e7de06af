/- WireNumbers: the statement about layer 1 of that name, proved for every input. -/
import Derived.Test.YtlmknpljncpjiaaRows
import Derived.WalkKit
import Derived.ProofKit
import Derived.OpenShut
import Derived.ShutString
import Derived.ChangeOld
import Derived.Below
import Derived.Test.YtlmknpljncpjiaaRread
import Derived.Test.YtlmknpljncpjiaaRtotext
import Derived.Test.YtlmknpljncpjiaaWsanity
namespace Go.Proofs.Ytlmknpljncpjiaa.wireNumbers
open Go.ChangeShapes Go.WideShapes Go.ChangeAt Go.RowKit
open Go.ChangeMaps (open_string shut_string)
set_option linter.unusedVariables false

theorem own : ownKnob Try.prog.godebug = none := by kernel_rfl
theorem laidOut : laidOutB Try.prog = true := by kernel_rfl

/-- WHAT THE WALK IS TOLD OF A SLICE OF INTEGERS THAT CAME IN: it is nil; or it leads to a row of 'cap' cells, the numbers 'zs' (the first 'len' are its elements, the rest its spare room), each fitting its kind. -/
def IsRow (k : IntKind) (w : World) (a : Option Addr) (len cap : Nat) (zs : List Int) : Prop :=
  (a = none ∧ len = 0 ∧ cap = 0 ∧ zs = []) ∨
  ∃ x, a = some x ∧ len ≤ cap ∧ cap ≤ maxLen ∧ zs.length = cap ∧ (∀ i, i < zs.length → w.cell? (x.add i) = some (.int k (zs.getD i 0))) ∧ ∀ n ∈ zs, (Lit.int k n).wf = true

theorem rd_of_row {w : World} {a : Option Addr} {len cap : Nat} {z : List Int} (h : IsRow .u8 w a len cap z) : ∃ xs, Rd w a len cap xs := by
  rcases h with ⟨rfl, rfl, rfl, rfl⟩ | ⟨x, rfl, hl, hm, hz, hcell, hwz⟩
  · exact ⟨[], rfl, Nat.le_refl _, Nat.zero_le _, by simp, fun _ => rfl, by simp⟩
  · refine ⟨z.take len, by simp; omega, hl, hm, fun n hn => ?_, (by intro e; cases e), fun h0 => ?_⟩
    · have := hwz n (List.mem_of_mem_take hn)
      simp [Lit.wf, IntKind.min, IntKind.max, IntKind.signed, IntKind.bits] at this
      omega
    · obtain ⟨b, off, spot⟩ := x
      have hc := hcell 0 (by omega)
      have hspot : spot = none := by simpa [Addr.add] using World.cell?_spot hc
      subst hspot
      refine ⟨b, off, rfl, fun i hi => ?_⟩
      have hc := hcell i (by omega)
      have e : (⟨b, off, none⟩ : Addr).add i = ⟨b, off + i, none⟩ := by
        by_cases h0 : i = 0
        · subst h0; rfl
        · simp [Addr.add, h0]
      rw [e] at hc
      rw [hc]
      have hi2 : i < z.length := by omega
      simp [List.getD, List.getElem?_take, hi, hi2]
theorem cells3' {W : World} {g : Nat} {x y z : Value} {t : TypeId} (h : W.heap[g]? = some (.cells #[x, y, z] t (0, 0))) : (W.cell? ⟨g, 0, none⟩ = some x ∧ W.cell? ⟨g, 1, none⟩ = some y ∧ W.cell? ⟨g, 2, none⟩ = some z) ∧ True :=
  ⟨⟨cell_of_row W g 0 _ _ _ h, cell_of_row W g 1 _ _ _ h, cell_of_row W g 2 _ _ _ h⟩, trivial⟩
theorem keepRow {u : World} {g : Nat} {ds : Array Value} {t : TypeId} {ga : Nat} {c : Array Value} (hne : ga ≠ g) (h : u.heap[ga]? = some (.cells c t (0, 0))) : (u.setRow g ds).heap[ga]? = some (.cells c t (0, 0)) := (setRow_other u g ga ds hne).trans h
set_option maxRecDepth 100000 in
set_option maxHeartbeats 4000000 in
theorem walk (a0 : Int) (a1 : Int) (a2 : Option Addr) (len2 cap2 : Nat) (z2 : List Int) (a3 : Bool) (w : World) (w0 : (Lit.int .i64 a0).wf = true) (w1 : (Lit.int .i64 a1).wf = true) (w2 : IsRow .u8 w a2 len2 cap2 z2) :
    Calls Try.prog 3 #[.int .i64 a0, .int .i64 a1, .slice a2 len2 cap2, .bool a3] w fun e w' => e = .returned (.bool true) ∧ Below w.heap.size w w' := by
  obtain ⟨p1, p2⟩ := bounds_i64 w0
  obtain ⟨ys, hr1⟩ := rd_of_row w2
  clear w0 w1 w2
  have H0 := Lib.hid hr1
  clear hr1
  by_cases hbig : (70000 : Int) < (len2 : Int)
  · go_enter Try.func3, Try.ntmps3
    go_wp2_with fail
    refine (sanity_any _).mono ?_
    rintro e u1 ⟨rfl, hb⟩
    have Hb := Lib.hid hb
    clear hb
    go_wp2_with fail
    go_ret
    exact ⟨rfl, Hb.out⟩
  · obtain ⟨B1, hB1⟩ : ∃ B, fixedB a0 a1 false = B := ⟨_, rfl⟩
    obtain ⟨E1, hE1⟩ : ∃ B, fixedE a0 a1 false = B := ⟨_, rfl⟩
    obtain ⟨B2, hB2⟩ : ∃ B, fixedB a0 a1 true = B := ⟨_, rfl⟩
    obtain ⟨E2, hE2⟩ : ∃ B, fixedE a0 a1 true = B := ⟨_, rfl⟩
    obtain ⟨⟨k1, f1⟩, hK1⟩ : ∃ B, toUintV ys = B := ⟨_, rfl⟩
    obtain ⟨⟨k2, f2⟩, hK2⟩ : ∃ B, toIntV ys = B := ⟨_, rfl⟩
    obtain ⟨⟨k3, us3, f3⟩, hK3⟩ : ∃ B, toVarV ys = B := ⟨_, rfl⟩
    obtain ⟨L, hL⟩ : ∃ B, widthV a0 a3 = B := ⟨_, rfl⟩
    obtain ⟨B3, hB3⟩ : ∃ B, varV a0 = B := ⟨_, rfl⟩
    obtain ⟨E3, hE3⟩ : ∃ B, varE a0 = B := ⟨_, rfl⟩
    obtain ⟨⟨k4, f4⟩, hK4⟩ : ∃ B, foldV a0 = B := ⟨_, rfl⟩
    obtain ⟨⟨k5, f5⟩, hK5⟩ : ∃ B, unfoldV a0 = B := ⟨_, rfl⟩
    have HB1 := Lib.hid hB1
    have HE1 := Lib.hid hE1
    have HB2 := Lib.hid hB2
    have HE2 := Lib.hid hE2
    have HK1 := Lib.hid hK1
    have HK2 := Lib.hid hK2
    have HK3 := Lib.hid hK3
    have HL := Lib.hid hL
    have HB3 := Lib.hid hB3
    have HE3 := Lib.hid hE3
    have HK4 := Lib.hid hK4
    have HK5 := Lib.hid hK5
    have HN1 : Hid (numV false ys = (k1, f1)) := Lib.hid hK1
    have HN2 : Hid (numV true ys = (k2, f2)) := Lib.hid hK2
    clear hB1 hE1 hB2 hE2 hK1 hK2 hK3 hL hB3 hE3 hK4 hK5
    go_enter Try.func3, Try.ntmps3
    go_wp2_with fail
    refine (uint_any a0 a1 w p1 p2).mono ?_
    rintro e u1 ⟨v1, rfl, o1, b1⟩
    rw [HE1.out]
    rw [HB1.out] at o1
    obtain ⟨x1, c1, rfl, r1⟩ := o1.rd
    have Hr1 := Lib.hid r1
    have Hb1 := Lib.hid b1
    have H1 := Lib.hid (H0.out.below b1 (Nat.le_refl _))
    clear o1 r1 b1
    go_wp2_with fail
    refine (refFixed_any a0 a1 false u1 p1 p2).mono ?_
    rintro e u2 ⟨v2, rfl, o2, b2⟩
    rw [HE1.out]
    rw [HB1.out] at o2 ⊢
    obtain ⟨x2, c2, rfl, r2⟩ := o2.rd
    have Hr2 := Lib.hid r2
    have Hr1 := Lib.hid (Hr1.out.below b2 (Nat.le_refl _))
    have H2 := Lib.hid (H1.out.below b2 (Nat.le_refl _))
    have Hb2 := Lib.hid (Hb1.out.trans (b2.mono Hb1.out.size))
    clear o2 r2 b2 H1 Hb1
    go_wp2_with fail
    obtain ⟨W3, hW3⟩ : ∃ W, W = u2.alloc (.cells #[.slice x2 B1.length c2, .int .i64 B1.length, .int .i64 E1] 28) := ⟨_, rfl⟩
    have hg3 := heap_alloc_last u2 (.cells #[.slice x2 B1.length c2, .int .i64 B1.length, .int .i64 E1] 28)
    have b3 : Below u2.heap.size u2 W3 := by rw [hW3]; exact (Below.refl _ u2).alloc (Nat.le_refl _) _
    have hs3 : W3.heap.size = u2.heap.size + 1 := by rw [hW3]; simp
    rw [← hW3] at hg3 ⊢
    clear hW3
    refine (sameBytes_any _ _ _ B1 _ _ _ B1 W3 (Hr1.out.below b3 (Nat.le_refl _)) (Hr2.out.below b3 (Nat.le_refl _))).mono ?_
    rintro e u3 ⟨rfl, rfl⟩
    have hdT : decide (B1 = B1) = true := by simp
    rw [hdT]
    have H3 := Lib.hid (H2.out.below b3 (Nat.le_refl _))
    have Hb3 := Lib.hid (Hb2.out.trans (b3.mono Hb2.out.size))
    have hsw : w.heap.size ≤ u2.heap.size := Hb2.out.size
    have Hg3 := Lib.hid hg3
    clear hg3 b3 hdT Hr1 Hr2 H2 Hb2
    go_wp2_with fail
    refine (int_any a0 a1 W3 p1 p2).mono ?_
    rintro e u4 ⟨v4, rfl, o4, b4⟩
    rw [HE2.out]
    rw [HB2.out] at o4
    have hs4 := b4.size
    have H4 := Lib.hid (H3.out.below b4 (Nat.le_refl _))
    have Hb4 := Lib.hid (Hb3.out.trans (b4.mono Hb3.out.size))
    have Hg4 := Lib.hid ((b4.block u2.heap.size (by omega)).trans Hg3.out)
    have Ho4 := Lib.hid o4
    obtain ⟨x4, c4, rfl, _⟩ := o4.rd
    clear o4 b4 H3 Hb3 Hg3
    go_wp2_with fail
    refine (refFixed_any a0 a1 true u4 p1 p2).mono ?_
    rintro e u5 ⟨v5, rfl, o5, b5⟩
    rw [HE2.out]
    rw [HB2.out] at o5 ⊢
    have hs5 := b5.size
    obtain ⟨x5, c5, rfl, _⟩ := o5.rd
    have Ho4 := Lib.hid (Ho4.out.below b5 (Nat.le_refl _))
    have Hb5 := Lib.hid (Hb4.out.trans (b5.mono Hb4.out.size))
    have Hg5 := Lib.hid ((b5.block u2.heap.size (by omega)).trans Hg4.out)
    have H5 := Lib.hid (H4.out.below b5 (Nat.le_refl _))
    have Ho5 := Lib.hid o5
    clear o5 b5 H4 Hb4 Hg4
    go_wp2_with (refine wpList_store_row rfl 28 (.tmp 11) (.tmp 48) rfl u2.heap.size #[.slice x5 B2.length c5, .int .i64 B2.length, .int .i64 E2] rfl rfl 28 #[.slice x2 B1.length c2, .int .i64 B1.length, .int .i64 E1] Hg5.out (Try.sizeRaw _ _ _) rfl (oneRaw _ _ _ _ _) ?_; have Hg6 := Lib.hid (setRow_heap u5 u2.heap.size _ #[.slice x5 B2.length c5, .int .i64 B2.length, .int .i64 E2] _ _ Hg5.out); obtain ⟨⟨q0, q1, q2⟩, -⟩ := cells3' Hg6.out)
    have o4 := Ho4.out.setRow (g := u2.heap.size) (by omega) #[.slice x5 B2.length c5, .int .i64 B2.length, .int .i64 E2]
    have o5 := Ho5.out.setRow (g := u2.heap.size) (by omega) #[.slice x5 B2.length c5, .int .i64 B2.length, .int .i64 E2]
    have b6 : Below w.heap.size w (u5.setRow u2.heap.size #[.slice x5 B2.length c5, .int .i64 B2.length, .int .i64 E2]) := Hb5.out.trans (below_setRow' _ _ _ _ hsw)
    have hs6 : (u5.setRow u2.heap.size #[.slice x5 B2.length c5, .int .i64 B2.length, .int .i64 E2]).heap.size = u5.heap.size := by simp [World.setRow]
    generalize u5.setRow u2.heap.size #[.slice x5 B2.length c5, .int .i64 B2.length, .int .i64 E2] = u6 at *
    obtain ⟨_, _, e4, r4⟩ := o4.rd
    obtain ⟨_, _, e5, r5⟩ := o5.rd
    cases e4
    cases e5
    have Hb6 := Lib.hid b6
    refine (sameBytes_any _ _ _ B2 _ _ _ B2 u6 r4 r5).mono ?_
    rintro e u7 ⟨rfl, rfl⟩
    rw [show decide (B2 = B2) = true from by simp]
    clear o4 o5 r4 r5 b6 Ho4 Ho5 Hb5 Hg5 H5
    go_wp2_with fail
    refine (toUint_any _ _ _ ys u6 (H0.out.below Hb6.out (Nat.le_refl _))).mono ?_
    rintro e u7 ⟨rfl, rfl⟩
    rw [HK1.out]
    unfold two
    clear q0 q1 q2
    go_wp2_with fail
    refine (refRead_any _ _ _ ys false u6 (H0.out.below Hb6.out (Nat.le_refl _))).mono ?_
    rintro e u7 ⟨⟨n7, rfl⟩, b7⟩
    rw [HN1.out]
    have hs7 := b7.size
    have Hg7 := Lib.hid ((b7.block u2.heap.size (by omega)).trans Hg6.out)
    have Hb7 := Lib.hid (Hb6.out.trans (b7.mono Hb6.out.size))
    clear b7 Hg6 Hb6
    go_wp2_with fail
    obtain ⟨W8, hW8⟩ : ∃ W, W = u7.alloc (.cells #[.int .i64 k1, .int .i64 n7, .int .i64 f1] 34) := ⟨_, rfl⟩
    have hm8 := heap_alloc_last u7 (.cells #[.int .i64 k1, .int .i64 n7, .int .i64 f1] 34)
    have b8 : Below u7.heap.size u7 W8 := by rw [hW8]; exact (Below.refl _ u7).alloc (Nat.le_refl _) _
    have hs8 : W8.heap.size = u7.heap.size + 1 := by rw [hW8]; simp
    rw [← hW8] at hm8 ⊢
    clear hW8
    have Hm8 := Lib.hid hm8
    have Hg8 := Lib.hid ((b8.block u2.heap.size (by omega)).trans Hg7.out)
    have Hb8 := Lib.hid (Hb7.out.trans (b8.mono Hb7.out.size))
    have hsm : w.heap.size ≤ u7.heap.size := Hb7.out.size
    clear hm8 b8 Hg7 Hb7
    refine (toInt_any _ _ _ ys W8 (H0.out.below Hb8.out (Nat.le_refl _))).mono ?_
    rintro e u9 ⟨rfl, rfl⟩
    rw [HK2.out]
    unfold two
    go_wp2_with fail
    refine (refRead_any _ _ _ ys true W8 (H0.out.below Hb8.out (Nat.le_refl _))).mono ?_
    rintro e u9 ⟨⟨n9, rfl⟩, b9⟩
    rw [HN2.out]
    have hs9 := b9.size
    have Hg9 := Lib.hid ((b9.block u2.heap.size (by omega)).trans Hg8.out)
    have Hm9 := Lib.hid ((b9.block u7.heap.size (by omega)).trans Hm8.out)
    have Hb9 := Lib.hid (Hb8.out.trans (b9.mono Hb8.out.size))
    clear b9 Hg8 Hm8 Hb8
    go_wp2_with (refine wpList_store_row rfl 34 (.tmp 14) (.tmp 83) rfl u7.heap.size #[.int .i64 k2, .int .i64 n9, .int .i64 f2] rfl rfl 34 #[.int .i64 k1, .int .i64 n7, .int .i64 f1] Hm9.out (Try.sizeNum _ _ _) rfl (oneNum _ _ _) ?_; have Hm10 := Lib.hid (setRow_heap u9 u7.heap.size _ #[.int .i64 k2, .int .i64 n9, .int .i64 f2] _ _ Hm9.out); obtain ⟨⟨q0, q1, q2⟩, -⟩ := cells3' Hm10.out)
    have Hg10 := Lib.hid (keepRow (g := u7.heap.size) (ds := #[.int .i64 k2, .int .i64 n9, .int .i64 f2]) (by omega) Hg9.out)
    have Hb10 := Lib.hid (Hb9.out.trans (below_setRow' u9 w.heap.size u7.heap.size #[.int .i64 k2, .int .i64 n9, .int .i64 f2] hsm))
    have hs10 : (u9.setRow u7.heap.size #[.int .i64 k2, .int .i64 n9, .int .i64 f2]).heap.size = u9.heap.size := by simp [World.setRow]
    generalize u9.setRow u7.heap.size #[.int .i64 k2, .int .i64 n9, .int .i64 f2] = u10 at *
    clear Hg9 Hm9 Hb9
    refine (width_any a0 a3 _ p1 p2).mono ?_
    rintro e u11 ⟨rfl, rfl⟩
    rw [HL.out]
    go_wp2_with fail
    refine (refWidth_any a0 a3 _ p1 p2).mono ?_
    rintro e u11 ⟨rfl, rfl⟩
    rw [HL.out]
    clear q0 q1 q2
    go_wp2_with fail
    refine (var_any a0 u10 p2).mono ?_
    rintro e u11 ⟨v11, rfl, o11, b11⟩
    rw [HE3.out]
    rw [HB3.out] at o11
    have hs11 := b11.size
    have Hg11 := Lib.hid ((b11.block u2.heap.size (by omega)).trans Hg10.out)
    have Hm11 := Lib.hid ((b11.block u7.heap.size (by omega)).trans Hm10.out)
    have Hb11 := Lib.hid (Hb10.out.trans (b11.mono Hb10.out.size))
    have Ho11 := Lib.hid o11
    obtain ⟨x11, c11, rfl, _⟩ := o11.rd
    clear o11 b11 Hg10 Hm10 Hb10
    go_wp2_with fail
    refine (refVar_any a0 u11 p2).mono ?_
    rintro e u12 ⟨v12, rfl, o12, b12⟩
    rw [HE3.out]
    rw [HB3.out] at o12 ⊢
    have hs12 := b12.size
    have Hg12 := Lib.hid ((b12.block u2.heap.size (by omega)).trans Hg11.out)
    have Hm12 := Lib.hid ((b12.block u7.heap.size (by omega)).trans Hm11.out)
    have Hb12 := Lib.hid (Hb11.out.trans (b12.mono Hb11.out.size))
    have Ho11 := Lib.hid (Ho11.out.below b12 (Nat.le_refl _))
    have Ho12 := Lib.hid o12
    obtain ⟨x12, c12, rfl, _⟩ := o12.rd
    clear o12 b12 Hg11 Hm11 Hb11
    go_wp2_with (refine wpList_store_row rfl 28 (.tmp 11) (.tmp 109) rfl u2.heap.size #[.slice x12 B3.length c12, .int .i64 B3.length, .int .i64 E3] rfl rfl 28 #[.slice x5 B2.length c5, .int .i64 B2.length, .int .i64 E2] Hg12.out (Try.sizeRaw _ _ _) rfl (oneRaw _ _ _ _ _) ?_)
    have Hg13 := Lib.hid (setRow_heap u12 u2.heap.size _ #[.slice x12 B3.length c12, .int .i64 B3.length, .int .i64 E3] _ _ Hg12.out)
    have Hm13 := Lib.hid (keepRow (g := u2.heap.size) (ds := #[.slice x12 B3.length c12, .int .i64 B3.length, .int .i64 E3]) (by omega) Hm12.out)
    have Hb13 := Lib.hid (Hb12.out.trans (below_setRow' u12 w.heap.size u2.heap.size #[.slice x12 B3.length c12, .int .i64 B3.length, .int .i64 E3] hsw))
    have hs13 : (u12.setRow u2.heap.size #[.slice x12 B3.length c12, .int .i64 B3.length, .int .i64 E3]).heap.size = u12.heap.size := by simp [World.setRow]
    have Ho11 := Lib.hid (Ho11.out.setRow (g := u2.heap.size) (by omega) #[.slice x12 B3.length c12, .int .i64 B3.length, .int .i64 E3])
    have Ho12 := Lib.hid (Ho12.out.setRow (g := u2.heap.size) (by omega) #[.slice x12 B3.length c12, .int .i64 B3.length, .int .i64 E3])
    generalize u12.setRow u2.heap.size #[.slice x12 B3.length c12, .int .i64 B3.length, .int .i64 E3] = u13 at *
    clear Hg12 Hm12 Hb12
    refine (toVar_any _ _ _ ys u13 (H0.out.below Hb13.out (Nat.le_refl _))).mono ?_
    rintro e u14 ⟨rfl, rfl⟩
    rw [HK3.out]
    unfold three
    go_wp2_with fail
    refine (refToVar_any _ _ _ ys u13 (H0.out.below Hb13.out (Nat.le_refl _))).mono ?_
    rintro e u14 ⟨rfl, b14⟩
    rw [HK3.out]
    unfold num
    have hs14 := b14.size
    have Hg14 := Lib.hid ((b14.block u2.heap.size (by omega)).trans Hg13.out)
    have Hm14 := Lib.hid ((b14.block u7.heap.size (by omega)).trans Hm13.out)
    have Hb14 := Lib.hid (Hb13.out.trans (b14.mono Hb13.out.size))
    have Ho11 := Lib.hid (Ho11.out.below b14 (Nat.le_refl _))
    have Ho12 := Lib.hid (Ho12.out.below b14 (Nat.le_refl _))
    clear b14 Hg13 Hm13 Hb13
    have hneg : ¬ u2.heap.size = u7.heap.size := by omega
    go_wp2_with (refine wpList_store_row rfl 34 (.tmp 14) (.tmp 117) rfl u7.heap.size #[.int .i64 k3, .int .i64 us3, .int .i64 f3] rfl rfl 34 #[.int .i64 k2, .int .i64 n9, .int .i64 f2] Hm14.out (Try.sizeNum _ _ _) rfl (oneNum _ _ _) ?_; have Hm15 := Lib.hid (setRow_heap u14 u7.heap.size _ #[.int .i64 k3, .int .i64 us3, .int .i64 f3] _ _ Hm14.out); have Hg15 := Lib.hid (keepRow (g := u7.heap.size) (ds := #[.int .i64 k3, .int .i64 us3, .int .i64 f3]) hneg Hg14.out); obtain ⟨⟨q0, q1, q2⟩, -⟩ := cells3' Hm15.out; obtain ⟨⟨s0, s1, s2⟩, -⟩ := cells3' Hg15.out)
    have Hb15 := Lib.hid (Hb14.out.trans (below_setRow' u14 w.heap.size u7.heap.size #[.int .i64 k3, .int .i64 us3, .int .i64 f3] hsm))
    have hs15 : (u14.setRow u7.heap.size #[.int .i64 k3, .int .i64 us3, .int .i64 f3]).heap.size = u14.heap.size := by simp [World.setRow]
    have o11 := Ho11.out.setRow (g := u7.heap.size) (by omega) #[.int .i64 k3, .int .i64 us3, .int .i64 f3]
    have o12 := Ho12.out.setRow (g := u7.heap.size) (by omega) #[.int .i64 k3, .int .i64 us3, .int .i64 f3]
    generalize u14.setRow u7.heap.size #[.int .i64 k3, .int .i64 us3, .int .i64 f3] = u15 at *
    obtain ⟨_, _, e11, r11⟩ := o11.rd
    obtain ⟨_, _, e12, r12⟩ := o12.rd
    cases e11
    cases e12
    clear Hg14 Hm14 Hb14 Ho11 Ho12 o11 o12
    refine (sameBytes_any _ _ _ B3 _ _ _ B3 u15 r11 r12).mono ?_
    rintro e u16 ⟨rfl, rfl⟩
    rw [show decide (B3 = B3) = true from by simp]
    clear r11 r12
    go_wp2_with fail
    clear q0 q1 q2 s0 s1 s2
    refine (fold_any a0 _ p1 p2).mono ?_
    rintro e u16 ⟨rfl, rfl⟩
    rw [HK4.out]
    go_wp2_with fail
    refine (refFold_any a0 u15 p1 p2).mono ?_
    rintro e u16 ⟨rfl, b16⟩
    rw [HK4.out]
    unfold num
    have hs16 := b16.size
    have Hm16 := Lib.hid ((b16.block u7.heap.size (by omega)).trans Hm15.out)
    have Hb16 := Lib.hid (Hb15.out.trans (b16.mono Hb15.out.size))
    clear b16 Hg15 Hm15 Hb15
    go_wp2_with (refine wpList_store_row rfl 34 (.tmp 14) (.tmp 153) rfl u7.heap.size #[.int .i64 k4, .int .i64 0, .int .i64 f4] rfl rfl 34 #[.int .i64 k3, .int .i64 us3, .int .i64 f3] Hm16.out (Try.sizeNum _ _ _) rfl (oneNum _ _ _) ?_; have Hm17 := Lib.hid (setRow_heap u16 u7.heap.size _ #[.int .i64 k4, .int .i64 0, .int .i64 f4] _ _ Hm16.out); obtain ⟨⟨q0, q1, q2⟩, -⟩ := cells3' Hm17.out)
    have Hb17 := Lib.hid (Hb16.out.trans (below_setRow' u16 w.heap.size u7.heap.size #[.int .i64 k4, .int .i64 0, .int .i64 f4] hsm))
    have hs17 : (u16.setRow u7.heap.size #[.int .i64 k4, .int .i64 0, .int .i64 f4]).heap.size = u16.heap.size := by simp [World.setRow]
    generalize u16.setRow u7.heap.size #[.int .i64 k4, .int .i64 0, .int .i64 f4] = u17 at *
    clear Hm16 Hb16 q0 q1 q2
    refine (unfold_any a0 _ p1 p2).mono ?_
    rintro e u18 ⟨rfl, rfl⟩
    rw [HK5.out]
    go_wp2_with fail
    refine (refUnfold_any a0 u17 p1 p2).mono ?_
    rintro e u18 ⟨rfl, b18⟩
    rw [HK5.out]
    unfold num
    have hs18 := b18.size
    have Hm18 := Lib.hid ((b18.block u7.heap.size (by omega)).trans Hm17.out)
    have Hb18 := Lib.hid (Hb17.out.trans (b18.mono Hb17.out.size))
    clear b18 Hm17 Hb17
    go_wp2_with (refine wpList_store_row rfl 34 (.tmp 14) (.tmp 170) rfl u7.heap.size #[.int .i64 k5, .int .i64 0, .int .i64 f5] rfl rfl 34 #[.int .i64 k4, .int .i64 0, .int .i64 f4] Hm18.out (Try.sizeNum _ _ _) rfl (oneNum _ _ _) ?_)
    have Hm19 := Lib.hid (setRow_heap u18 u7.heap.size _ #[.int .i64 k5, .int .i64 0, .int .i64 f5] _ _ Hm18.out)
    have Hb19 := Lib.hid (Hb18.out.trans (below_setRow' u18 w.heap.size u7.heap.size #[.int .i64 k5, .int .i64 0, .int .i64 f5] hsm))
    have hs19 : (u18.setRow u7.heap.size #[.int .i64 k5, .int .i64 0, .int .i64 f5]).heap.size = u18.heap.size := by simp [World.setRow]
    generalize u18.setRow u7.heap.size #[.int .i64 k5, .int .i64 0, .int .i64 f5] = u19 at *
    clear Hm18 Hb18
    refine (sanity_any u19).mono ?_
    rintro e u20 ⟨rfl, b20⟩
    obtain ⟨⟨q0, q1, q2⟩, -⟩ := cells3' ((b20.block u7.heap.size (by omega)).trans Hm19.out)
    have Hb20 := Lib.hid (Hb19.out.trans (b20.mono Hb19.out.size))
    clear b20 Hm19 Hb19
    go_wp2_with fail
    go_ret
    exact ⟨by simp, Hb20.out⟩

/-! ### THE ROW's STEP: WRITTEN OUT: LEAVE IT -/
set_option maxRecDepth 100000 in
theorem lifted (os : Os) (started : os.Started) (H : Type) (enc : TypeId × Value → H) :
    ReturnsInHanded {} Try.checked os 3 .any (Rows.wireNumbersSpec.pre6 enc Try.prog Try.f3 Rows.wireNumbersRow.domain false) (Rows.wireNumbersSpec.post enc Try.prog Try.f3 false true false false) := by
  refine returnsInHanded_of_change (C := Try.checked) own started (by kernel_rfl) Try.func3
    (ChangeSpec.witness6 (enc := enc) (C := Try.checked) false ⟨#[], #[.int .i64 0, .int .i64 0, .slice none 0 0, .bool false], []⟩ 8 (by kernel_rfl) (by kernel_rfl) (by kernel_rfl) (by kernel_rfl)) ?_
  intro W base args ds gs before hval0 hW hcnd _
  have hval : ∀ (j : Nat) t v, Try.f3.params[j]? = some t → args[j]? = some v → Value.okWide Try.prog W .any base t v := hval0
  have hW' := hW
  obtain ⟨p, q, hA0, hV, rfl, hfz, hnd⟩ := hW
  have hA : DataW.TrodAll enc Try.prog W 0 (fun _ => true) true Try.f3.params.toList args.toList ds p := hA0
  rw [Try.params3] at hA hval
  obtain ⟨v0, vs0, d0, ds0, p0, q0, hargs, rfl, rfl, h0, r0⟩ := trodAll_cons hA
  obtain ⟨v1, vs1, d1, ds1, p1, q1, rfl, rfl, rfl, h1, r1⟩ := trodAll_cons r0
  obtain ⟨v2, vs2, d2, ds2, p2, q2, rfl, rfl, rfl, h2, r2⟩ := trodAll_cons r1
  obtain ⟨v3, vs3, d3, ds3, p3, q3, rfl, rfl, rfl, h3, r3⟩ := trodAll_cons r2
  obtain ⟨rfl, rfl, rfl⟩ := trodAll_nil r3
  obtain rfl : args = #[v0, v1, v2, v3] := by cases args; simp_all
  obtain ⟨rfl, rfl⟩ := trodVars_none hV
  obtain ⟨a0, rfl, rfl, rfl, w0⟩ := open_int Try.underlying3 (hval 0 3 v0 rfl rfl) h0
  obtain ⟨a1, rfl, rfl, rfl, w1⟩ := open_int Try.underlying3 (hval 1 3 v1 rfl rfl) h1
  obtain ⟨a2, len2, cap2, rfl⟩ := okWide_slice Try.underlying22 (hval 2 22 v2 rfl rfl)
  have k2 := h2
  have lt2 : ∀ x ∈ p2, x.block < W.heap.size := by obtain ⟨m, hm⟩ := k2; exact DataW.trod_lt m _ _ _ hm
  obtain ⟨z2, w2⟩ : ∃ zs, IsRow .u8 W a2 len2 cap2 zs := by
    obtain ⟨fuel, hf⟩ := h2
    rcases open_ints Try.underlying22 Try.underlying5 (by kernel_rfl) hf with ⟨hcs, _⟩ | ⟨x, l, c, zs, hcs, _, hl, hm, hz, _, hcell, hwz⟩
    · simp [Value.cells] at hcs
      obtain ⟨rfl, rfl, rfl⟩ := hcs
      exact ⟨[], .inl ⟨rfl, rfl, rfl, rfl⟩⟩
    · simp [Value.cells] at hcs
      obtain ⟨rfl, rfl, rfl⟩ := hcs
      exact ⟨zs, .inr ⟨_, rfl, hl, hm, by simpa using hz, hcell, hwz⟩⟩
  obtain ⟨a3, rfl, rfl, rfl⟩ := open_bool Try.underlying4 (hval 3 4 v3 rfl rfl) h3
  clear hA0 hval0
  refine (walk a0 a1 a2 len2 cap2 z2 a3 W w0 w1 w2).mono fun e W' ⟨he, bel⟩ => ?_
  subst he
  exact ⟨_, rfl, _, _, _, [], _, [], hW', trodAll_mk1 (shut_bool Try.underlying4 _), (trodAll_cons_mk (shut_int Try.underlying3 w0) (trodAll_cons_mk (shut_int Try.underlying3 w1) (trodAll_cons_mk (Below.trod laidOut (by kernel_rfl) (of_decide_eq_true (by kernel_rfl)) k2 bel lt2) (trodAll_cons_mk (shut_bool Try.underlying4 _) trodAll_mk0)))), rfl, bel.frame _, fun h => by cases h⟩

theorem over : Rows.wireNumbersRow.holds Try.pinned (OpenSpec.ofChange Rows.wireNumbersSpec) :=
  OpenClaim.holds_of_wide 3 Try.f3 rfl rfl rfl rfl rfl rfl rfl ⟨rfl, rfl, rfl, rfl, rfl⟩ rfl rfl rfl rfl rfl (by kernel_rfl) Try.func3 (by kernel_rfl)
    (of_decide_eq_true (by kernel_rfl)) (by unfold Func.isWrapper; first | (rw [if_pos (by decide +kernel)]; kernel_rfl) | (rw [if_neg (by decide +kernel)]; exact ⟨rfl, rfl⟩))
    (fun os started H enc _ => lifted os started H enc)

/-- ████ THE STATEMENT ████ -/
theorem proved : Rows.WireNumbersSaid := over
#print axioms proved
end Go.Proofs.Ytlmknpljncpjiaa.wireNumbers
