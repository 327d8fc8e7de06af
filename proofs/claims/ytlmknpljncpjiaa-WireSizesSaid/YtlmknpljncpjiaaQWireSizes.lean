/- What the statement WireSizes calls answers true, for every input that its walk is handed. -/
import Derived.Test.YtlmknpljncpjiaaRows
import Derived.WalkKit
import Derived.ProofKit
import Derived.OpenShut
import Derived.ShutString
import Derived.ChangeOld
import Derived.Below
import Derived.SizedLaws
import Derived.Test.YtlmknpljncpjiaaLopen
import Derived.Test.YtlmknpljncpjiaaLfew
import Derived.Test.YtlmknpljncpjiaaWsizeback
import Derived.Test.YtlmknpljncpjiaaWwhere
import Derived.Test.YtlmknpljncpjiaaWsanity
namespace Go.Proofs.Ytlmknpljncpjiaa.wireSizes
open Go.ChangeShapes Go.WideShapes Go.ChangeAt Go.RowKit
open Go.ChangeMaps (open_string shut_string)
set_option linter.unusedVariables false


set_option maxRecDepth 100000 in
set_option maxHeartbeats 8000000 in
theorem walk (a0 : Option Addr) (len0 cap0 : Nat) (xs0 : List Fld) (a1 : Option Addr) (len1 cap1 : Nat) (xs1 : List Itm) (w : World) (w0 : RdF w a0 len0 cap0 xs0) (w1 : RdI w a1 len1 cap1 xs1 ∧ ∀ x ∈ xs1, x.cap ≤ 140737488351232) :
    Calls Try.prog 11 #[.slice a0 len0 cap0, .slice a1 len1 cap1] w fun e w' => e = .returned (.bool true) ∧ Below w.heap.size w w' := by
  obtain ⟨w1, hcap⟩ := w1
  have m0 := w0.hm
  have c0 := w0.hc
  unfold maxLen at m0
  rcases hF : fewV len0 len1 0 xs1 with _ | _
  · have HF := Lib.hid hF
    have H1 := Lib.hid w1
    have Hc := Lib.hid hcap
    clear hF w0 w1 hcap
    go_enter Try.func11, Try.ntmps11
    go_wp2_with fail
    refine (few_any a0 len0 cap0 a1 len1 cap1 xs1 none 0 0 w H1.out Hc.out (by omega) (by omega)).mono ?_
    rintro e u1 ⟨rfl, rfl⟩
    rw [HF.out]
    go_wp2_with fail
    refine (sanity_any _).mono ?_
    rintro e u1 ⟨rfl, hb⟩
    have Hb := Lib.hid hb
    clear hb
    go_wp2_with fail
    go_ret
    exact ⟨rfl, Hb.out⟩
  · have HF := Lib.hid hF
    have H0 := Lib.hid w0
    have H1 := Lib.hid w1
    have Hc := Lib.hid hcap
    clear hF w0 w1 hcap
    go_enter Try.func11, Try.ntmps11
    go_wp2_with fail
    refine (few_any a0 len0 cap0 a1 len1 cap1 xs1 none 0 0 w H1.out Hc.out (by omega) (by omega)).mono ?_
    rintro e u1 ⟨rfl, rfl⟩
    rw [HF.out]
    clear HF Hc
    go_wp2_with fail
    refine (size_any a0 len0 cap0 xs0 w H0.out).mono ?_
    rintro e u1 ⟨rfl, b1⟩
    have Hb1 := Lib.hid b1
    have H01 := Lib.hid (H0.out.below b1 (Nat.le_refl _))
    have H11 := Lib.hid (H1.out.below b1 (Nat.le_refl _))
    obtain ⟨sz, hsz⟩ : ∃ s, s = sizeV xs0 := ⟨_, rfl⟩
    rw [← hsz]
    have HZ := Lib.hid hsz
    obtain ⟨lo, hi, es⟩ := sz
    clear hsz b1 H0 H1
    go_wp2_with fail
    refine (packAll_any a0 len0 cap0 xs0 u1 H01.out a1 len1 cap1 xs1 H11.out).mono ?_
    rintro e u2 ⟨v, rfl, o2, b2⟩
    have Hb2 := Lib.hid (Hb1.out.trans (b2.mono Hb1.out.size))
    have H02 := Lib.hid (H01.out.below b2 (Nat.le_refl _))
    have Hn : Hid (∀ x ∈ xs1, -9223372036854775808 ≤ x.n ∧ x.n ≤ 9223372036854775807) := Lib.hid (fun x hx => ⟨(H11.out.hb x hx).n1, (H11.out.hb x hx).n2⟩)
    have hlen1 := H11.out.hl
    obtain ⟨pk, hpk⟩ : ∃ s, s = packV xs0 xs1 := ⟨_, rfl⟩
    rw [← hpk] at o2 ⊢
    have HP := Lib.hid hpk
    obtain ⟨er, B⟩ := pk
    obtain ⟨a2, c2, rfl, r2⟩ := o2.rd
    have Hr2 := Lib.hid r2
    clear o2 b2 r2 hpk H01 H11 Hb1 hlen1
    by_cases her : er = 0
    · subst her
      have h0 : (packV xs0 xs1).1 = 0 := by rw [← HP.out]
      have hB : (packV xs0 xs1).2 = B := by rw [← HP.out]
      obtain ⟨k1, k2, k3, k4⟩ := packV_ok h0
      obtain ⟨l1, l2, l3⟩ := packV_len h0
      have hB2 : (packL xs0 xs1 []).2 = B := by rw [← k4]; exact hB
      rw [hB] at l1 l2 l3
      have hs := HZ.out
      unfold sizeV at hs
      rw [if_neg (by simp [k1])] at hs
      simp only [Prod.mk.injEq] at hs
      obtain ⟨rfl, rfl, rfl⟩ := hs
      have hwh := pack_whole xs0 xs1 [] k1 k2 Hn.out k3
      rw [hB2, List.append_nil] at hwh
      have hl0 := H02.out.hl
      have Hw : Hid (∀ k, k < len0 → (atV xs0 B k).1 = 0) := Lib.hid (fun k hk => by rw [(hwh k (by omega)).2 (by omega)])
      have Hm : Hid (∀ k, k < len0 → posV xs0 B k ≤ posV xs0 B (k + 1)) := Lib.hid (fun k hk => by rw [posV_succ]; omega)
      have Hp0 : Hid (posV xs0 B 0 = 0) := Lib.hid (by unfold posV; rfl)
      have Hpn : Hid (posV xs0 B len0 = B.length) := Lib.hid (by
        rw [(hwh len0 (by omega)).1, ← hB2]
        obtain ⟨-, e2⟩ := packL_ok xs0 xs1 [] k2 k3
        rw [e2, List.nil_append, hl0])
      have Hk1 := Lib.hid k1
      obtain ⟨lo, hlo⟩ : ∃ s, s = loL xs0 := ⟨_, rfl⟩
      obtain ⟨hi, hhi⟩ : ∃ s, s = hiL xs0 := ⟨_, rfl⟩
      rw [← hlo] at l1 ⊢
      rw [← hhi] at l2 ⊢
      have l1' : ¬ (B.length : Int) < lo := by omega
      have l2' : ¬ hi < (B.length : Int) := by omega
      clear h0 hB k1 k2 k3 k4 hB2 hwh hl0 hlo hhi HZ HP Hn l1 l2
      go_wp2_with fail
      go_loopw [10, 11] (fun p i wr => ∃ k : Nat, k ≤ len0 ∧ i = .int .i64 k ∧ p = .int .i64 (posV xs0 B k) ∧ Below u2.heap.size u2 wr) (fun _ i _ => len0 - (intOf i).toNat)
      case atStart => exact ⟨0, Nat.zero_le _, rfl, by rw [Hp0.out]; rfl, Below.refl _ _⟩
      case round =>
        obtain ⟨k, hk, rfl, rfl, hb⟩ := hrel
        have Hb := Lib.hid hb
        have H0r := Lib.hid (H02.out.below hb (Nat.le_refl _))
        have Hrr := Lib.hid (Hr2.out.below hb (Nat.le_refl _))
        clear hb
        by_cases hlt : k < len0
        · have hle := Hm.out k hlt
          obtain ⟨p, hp⟩ : ∃ p, p = posV xs0 B k := ⟨_, rfl⟩
          obtain ⟨q, hq⟩ : ∃ p, p = posV xs0 B (k + 1) := ⟨_, rfl⟩
          rw [← hp, ← hq] at hle
          rw [← hp]
          have Hp := Lib.hid hp
          have Hq := Lib.hid hq
          clear hp hq
          go_wp2_with fail
          refine (where_ok a0 len0 cap0 xs0 wr H0r.out a2 B.length c2 B Hrr.out (by omega) Hk1.out Hw.out k hlt).mono ?_
          rintro e w3 ⟨rfl, b3⟩
          rw [← Hp.out, ← Hq.out]
          have Hb3 := Lib.hid (Hb.out.trans (b3.mono Hb.out.size))
          clear b3
          go_wp2_with fail
          go_roundw
          case rel => exact ⟨k + 1, by omega, by go_num, by rw [Hq.out], Hb3.out⟩
          case measure => simp [intOf]; omega
        · obtain rfl : k = len0 := by omega
          rw [Hpn.out]
          go_wp2_with fail
          refine (sanity_any _).mono ?_
          rintro e w3 ⟨rfl, b3⟩
          have Hb3 := Lib.hid (Hb2.out.trans ((Hb.out.trans (b3.mono Hb.out.size)).mono Hb2.out.size))
          clear b3
          go_wp2_with fail
          go_ret
          exact ⟨rfl, Hb3.out⟩
    · have her' : (er != 0) = true := by simpa using her
      clear her
      go_wp2_with fail
      refine (sanity_any _).mono ?_
      rintro e w3 ⟨rfl, b3⟩
      have Hb3 := Lib.hid (Hb2.out.trans (b3.mono Hb2.out.size))
      clear b3
      go_wp2_with fail
      go_ret
      exact ⟨rfl, Hb3.out⟩
end Go.Proofs.Ytlmknpljncpjiaa.wireSizes
