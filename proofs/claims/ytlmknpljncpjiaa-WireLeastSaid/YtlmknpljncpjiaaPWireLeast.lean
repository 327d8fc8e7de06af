/- WireLeast: the statement about layer 1 of that name, proved for every input. -/
import Derived.Test.YtlmknpljncpjiaaRows
import Derived.WalkKit
import Derived.ProofKit
import Derived.OpenShut
import Derived.ShutString
import Derived.ChangeOld
import Derived.Below
import Derived.Test.YtlmknpljncpjiaaWback
import Derived.Test.YtlmknpljncpjiaaWsanity
namespace Go.Proofs.Ytlmknpljncpjiaa.wireLeast
open Go.ChangeShapes Go.WideShapes Go.ChangeAt Go.RowKit
open Go.ChangeMaps (open_string shut_string)
set_option linter.unusedVariables false

theorem own : ownKnob Try.prog.godebug = none := by kernel_rfl
theorem laidOut : laidOutB Try.prog = true := by kernel_rfl

/-- WHAT THE WALK IS TOLD OF A SLICE OF INTEGERS THAT CAME IN: it is nil; or it leads to a row of 'cap' cells, the numbers 'zs' (the first 'len' are its elements, the rest its spare room), each fitting its kind. -/
def IsRow (k : IntKind) (w : World) (a : Option Addr) (len cap : Nat) (zs : List Int) : Prop :=
  (a = none ∧ len = 0 ∧ cap = 0 ∧ zs = []) ∨
  ∃ x, a = some x ∧ len ≤ cap ∧ cap ≤ maxLen ∧ zs.length = cap ∧ (∀ i, i < zs.length → w.cell? (x.add i) = some (.int k (zs.getD i 0))) ∧ ∀ n ∈ zs, (Lit.int k n).wf = true

theorem width_none (n : Int) (s : Bool) (h : widthV n s = 0) : n < 0 ∧ s = false := by
  cases s
  · refine ⟨?_, rfl⟩
    have : widthV n false = (if n < 0 then 0 else if n < 256 then 1 else if n < 65536 then 2 else if n < 16777216 then 3 else if n < 4294967296 then 4
      else if n < 1099511627776 then 5 else if n < 281474976710656 then 6 else if n < 72057594037927936 then 7 else 8) := by unfold widthV; simp
    rw [this] at h
    (repeat' split at h) <;> omega
  · have : widthV n true = (if mag n < 128 then 1 else if mag n < 32768 then 2 else if mag n < 8388608 then 3 else if mag n < 2147483648 then 4
      else if mag n < 549755813888 then 5 else if mag n < 140737488355328 then 6 else if mag n < 36028797018963968 then 7 else 8) := by unfold widthV; simp
    rw [this] at h
    (repeat' split at h) <;> omega
set_option maxRecDepth 100000 in
set_option maxHeartbeats 4000000 in
theorem walk (a0 : Int) (a1 : Bool) (w : World) (w0 : (Lit.int .i64 a0).wf = true) :
    Calls Try.prog 9 #[.int .i64 a0, .bool a1] w fun e w' => e = .returned (.bool true) ∧ Below w.heap.size w w' := by
  obtain ⟨p1, p2⟩ := bounds_i64 w0
  obtain ⟨L, hL⟩ : ∃ L, L = widthV a0 a1 := ⟨_, rfl⟩
  have hbd := widthV_bd a0 a1
  rw [← hL] at hbd
  by_cases hz : L = 0
  · obtain ⟨hn, hs⟩ := width_none a0 a1 (by rw [← hL]; exact hz)
    subst hs
    have HL := Lib.hid hL
    clear hL
    subst hz
    go_enter Try.func9, Try.ntmps9
    go_wp2_with fail
    refine (width_any a0 false w p1 p2).mono ?_
    rintro e u1 ⟨rfl, rfl⟩
    rw [← HL.out]
    go_wp2_with fail
    refine (sanity_any _).mono ?_
    rintro e u1 ⟨rfl, hb⟩
    have Hb := Lib.hid hb
    clear hb
    go_wp2_with fail
    go_ret
    exact ⟨by simp; try omega, Hb.out⟩
  · have HL := Lib.hid hL
    have hLn : ¬ L = 0 := hz
    clear hL
    cases a1
    · go_enter Try.func9, Try.ntmps9
      go_wp2_with fail
      refine (width_any a0 false w p1 p2).mono ?_
      rintro e u1 ⟨rfl, rfl⟩
      rw [← HL.out]
      go_wp2_with fail
      go_loopw [6, 7, 8, 9, 10] (fun i _ _ _ _ wr => ∃ k : Nat, 1 ≤ k ∧ k ≤ 9 ∧ i = .int .i64 k ∧ Below w.heap.size w wr) (fun i _ _ _ _ _ => 10 - (intOf i).toNat)
      case atStart => exact ⟨1, by decide, by decide, rfl, Below.refl _ _⟩
      case round =>
        obtain ⟨k, k1, k9, rfl, hb⟩ := hrel
        have Hb := Lib.hid hb
        clear hb
        by_cases h8 : k ≤ 8
        · have e1 : (k : Int) ≤ 8 := by omega
          have e2 : (1 : Int) ≤ (k : Int) := by omega
          go_wp2_with fail
          refine (uint_any a0 k wr p1 p2).mono ?_
          rintro e u1 ⟨v1, rfl, o1, b1⟩
          obtain ⟨a2, c2, rfl, r2⟩ := o1.rd
          have Hr2 := Lib.hid r2
          have Hb1 := Lib.hid (Hb.out.trans (b1.mono Hb.out.size))
          clear o1 b1 r2
          by_cases hlt : (k : Int) < L
          · rw [fixed_less a0 k false e2 (by rw [← HL.out]; exact hlt) e1]
            go_wp2_with fail
            refine (toUint_any _ _ _ _ _ Hr2.out).mono ?_
            rintro e u2 ⟨rfl, rfl⟩
            obtain ⟨x, hx⟩ : ∃ x, x = toUintV (fixedB a0 k false) := ⟨_, rfl⟩
            rw [← hx]
            clear hx
            obtain ⟨x, f⟩ := x
            unfold two
            go_wp2_with fail
            go_roundw
            case rel => exact ⟨k + 1, by omega, by omega, by go_num, Hb1.out⟩
            case measure => simp [intOf]; omega
          · have hle : L ≤ (k : Int) := by omega
            obtain ⟨f1, f2, f3⟩ := fixed_fit a0 k false p1 p2 (by rw [← HL.out]; exact hLn) (by rw [← HL.out]; exact hle) e1
            rw [f1]
            have HF := Lib.hid f2
            clear f1 f2 f3
            go_wp2_with fail
            refine (toUint_any _ _ _ _ _ Hr2.out).mono ?_
            rintro e u2 ⟨rfl, rfl⟩
            rw [show toUintV (fixedB a0 k false) = (a0, 0) from HF.out]
            unfold two
            go_wp2_with fail
            go_roundw
            case rel => exact ⟨k + 1, by omega, by omega, by go_num, Hb1.out⟩
            case measure => simp [intOf]; omega
        · obtain rfl : k = 9 := by omega
          go_wp2_with fail
          refine (sanity_any _).mono ?_
          rintro e u1 ⟨rfl, hb⟩
          have Hb1 := Lib.hid (Hb.out.trans (hb.mono Hb.out.size))
          clear hb
          go_wp2_with fail
          go_ret
          exact ⟨rfl, Hb1.out⟩
    · go_enter Try.func9, Try.ntmps9
      go_wp2_with fail
      refine (width_any a0 true w p1 p2).mono ?_
      rintro e u1 ⟨rfl, rfl⟩
      rw [← HL.out]
      go_wp2_with fail
      go_loopw [6, 7, 8, 9, 10] (fun i _ _ _ _ wr => ∃ k : Nat, 1 ≤ k ∧ k ≤ 9 ∧ i = .int .i64 k ∧ Below w.heap.size w wr) (fun i _ _ _ _ _ => 10 - (intOf i).toNat)
      case atStart => exact ⟨1, by decide, by decide, rfl, Below.refl _ _⟩
      case round =>
        obtain ⟨k, k1, k9, rfl, hb⟩ := hrel
        have Hb := Lib.hid hb
        clear hb
        by_cases h8 : k ≤ 8
        · have e1 : (k : Int) ≤ 8 := by omega
          have e2 : (1 : Int) ≤ (k : Int) := by omega
          go_wp2_with fail
          refine (int_any a0 k wr p1 p2).mono ?_
          rintro e u1 ⟨v1, rfl, o1, b1⟩
          obtain ⟨a2, c2, rfl, r2⟩ := o1.rd
          have Hr2 := Lib.hid r2
          have Hb1 := Lib.hid (Hb.out.trans (b1.mono Hb.out.size))
          clear o1 b1 r2
          by_cases hlt : (k : Int) < L
          · rw [fixed_less a0 k true e2 (by rw [← HL.out]; exact hlt) e1]
            go_wp2_with fail
            refine (toInt_any _ _ _ _ _ Hr2.out).mono ?_
            rintro e u2 ⟨rfl, rfl⟩
            obtain ⟨x, hx⟩ : ∃ x, x = toIntV (fixedB a0 k true) := ⟨_, rfl⟩
            rw [← hx]
            clear hx
            obtain ⟨x, f⟩ := x
            unfold two
            go_wp2_with fail
            go_roundw
            case rel => exact ⟨k + 1, by omega, by omega, by go_num, Hb1.out⟩
            case measure => simp [intOf]; omega
          · have hle : L ≤ (k : Int) := by omega
            obtain ⟨f1, f2, f3⟩ := fixed_fit a0 k true p1 p2 (by rw [← HL.out]; exact hLn) (by rw [← HL.out]; exact hle) e1
            rw [f1]
            have HF := Lib.hid f2
            clear f1 f2 f3
            go_wp2_with fail
            refine (toInt_any _ _ _ _ _ Hr2.out).mono ?_
            rintro e u2 ⟨rfl, rfl⟩
            rw [show toIntV (fixedB a0 k true) = (a0, 0) from HF.out]
            unfold two
            go_wp2_with fail
            go_roundw
            case rel => exact ⟨k + 1, by omega, by omega, by go_num, Hb1.out⟩
            case measure => simp [intOf]; omega
        · obtain rfl : k = 9 := by omega
          go_wp2_with fail
          refine (sanity_any _).mono ?_
          rintro e u1 ⟨rfl, hb⟩
          have Hb1 := Lib.hid (Hb.out.trans (hb.mono Hb.out.size))
          clear hb
          go_wp2_with fail
          go_ret
          exact ⟨rfl, Hb1.out⟩

/-! ### THE ROW's STEP: WRITTEN OUT: LEAVE IT -/
set_option maxRecDepth 100000 in
theorem lifted (os : Os) (started : os.Started) (H : Type) (enc : TypeId × Value → H) :
    ReturnsInHanded {} Try.checked os 9 .any (Rows.wireLeastSpec.pre6 enc Try.prog Try.f9 Rows.wireLeastRow.domain false) (Rows.wireLeastSpec.post enc Try.prog Try.f9 false true false false) := by
  refine returnsInHanded_of_change (C := Try.checked) own started (by kernel_rfl) Try.func9
    (ChangeSpec.witness6 (enc := enc) (C := Try.checked) false ⟨#[], #[.int .i64 0, .bool false], []⟩ 8 (by kernel_rfl) (by kernel_rfl) (by kernel_rfl) (by kernel_rfl)) ?_
  intro W base args ds gs before hval0 hW hcnd _
  have hval : ∀ (j : Nat) t v, Try.f9.params[j]? = some t → args[j]? = some v → Value.okWide Try.prog W .any base t v := hval0
  have hW' := hW
  obtain ⟨p, q, hA0, hV, rfl, hfz, hnd⟩ := hW
  have hA : DataW.TrodAll enc Try.prog W 0 (fun _ => true) true Try.f9.params.toList args.toList ds p := hA0
  rw [Try.params9] at hA hval
  obtain ⟨v0, vs0, d0, ds0, p0, q0, hargs, rfl, rfl, h0, r0⟩ := trodAll_cons hA
  obtain ⟨v1, vs1, d1, ds1, p1, q1, rfl, rfl, rfl, h1, r1⟩ := trodAll_cons r0
  obtain ⟨rfl, rfl, rfl⟩ := trodAll_nil r1
  obtain rfl : args = #[v0, v1] := by cases args; simp_all
  obtain ⟨rfl, rfl⟩ := trodVars_none hV
  obtain ⟨a0, rfl, rfl, rfl, w0⟩ := open_int Try.underlying3 (hval 0 3 v0 rfl rfl) h0
  obtain ⟨a1, rfl, rfl, rfl⟩ := open_bool Try.underlying4 (hval 1 4 v1 rfl rfl) h1
  clear hA0 hval0
  refine (walk a0 a1 W w0).mono fun e W' ⟨he, bel⟩ => ?_
  subst he
  exact ⟨_, rfl, _, _, _, [], _, [], hW', trodAll_mk1 (shut_bool Try.underlying4 _), (trodAll_cons_mk (shut_int Try.underlying3 w0) (trodAll_cons_mk (shut_bool Try.underlying4 _) trodAll_mk0)), rfl, bel.frame _, fun h => by cases h⟩

theorem over : Rows.wireLeastRow.holds Try.pinned (OpenSpec.ofChange Rows.wireLeastSpec) :=
  OpenClaim.holds_of_wide 9 Try.f9 rfl rfl rfl rfl rfl rfl rfl ⟨rfl, rfl, rfl, rfl, rfl⟩ rfl rfl rfl rfl rfl (by kernel_rfl) Try.func9 (by kernel_rfl)
    (of_decide_eq_true (by kernel_rfl)) (by unfold Func.isWrapper; first | (rw [if_pos (by decide +kernel)]; kernel_rfl) | (rw [if_neg (by decide +kernel)]; exact ⟨rfl, rfl⟩))
    (fun os started H enc _ => lifted os started H enc)

/-- ████ THE STATEMENT ████ -/
theorem proved : Rows.WireLeastSaid := over
#print axioms proved
end Go.Proofs.Ytlmknpljncpjiaa.wireLeast
