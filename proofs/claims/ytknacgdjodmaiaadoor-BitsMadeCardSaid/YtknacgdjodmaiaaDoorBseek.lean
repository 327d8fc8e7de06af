/- seek: the next bit of a kind. -/
import Derived.Test.YtknacgdjodmaiaaDoorBcount
import Derived.Test.YtknacgdjodmaiaaDoorBruns
namespace Go.Proofs.YtknacgdjodmaiaaDoor
set_option linter.unusedVariables false
open Go.RowKit Go.Shelf

theorem xor_255 : ∀ n : Nat, n < 256 → 255 ^^^ n = 255 - n := by
  intro n hn
  have h : (List.range 256).all (fun n => decide (255 ^^^ n = 255 - n)) = true := by kernel_rfl
  simpa using List.all_eq_true.mp h n (List.mem_range.mpr hn)
theorem not_byte (x : Int) (hx : 0 ≤ x ∧ x ≤ 255) : bits .xor .u8 IntKind.u8.max x = 255 - x := by
  have h := u8_xor 255 x (by decide) (by decide) hx.1 (by omega)
  rw [show (255 : Int).toNat = 255 from rfl, xor_255 x.toNat (by omega)] at h
  have e : IntKind.u8.max = 255 := by kernel_rfl
  rw [e, h]
  omega
set_option maxRecDepth 100000 in
set_option maxHeartbeats 4000000 in
theorem seek_true (N : Int) (M : Nat) (a : Option Addr) (l c : Nat) (bs : List Int) (at_ : Nat) (w : World) (hr : Rd w a l c bs) (hv : validB N bs = true) (hM : N = (M : Int)) (ha : at_ ≤ M) :
    Calls Tryd.prog 93 #[.agg #[.int .i64 N, .slice a l c], .int .i64 at_, .bool true] w fun e w' => e = .returned (.int .i64 (seekV bs M true at_ : Int)) ∧ Below w.heap.size w w' := by
  obtain ⟨v1, v2, v3, v4⟩ := (validB_iff N bs).mp hv
  have hl := hr.hl
  have hN : N.toNat = M := by omega
  rw [hN] at v4
  have hM8 : M ≤ 8 * l := by omega
  have hMl : 8 * l < M + 8 := by omega
  have hM6 : M ≤ 65536 := by omega
  obtain ⟨W0, hW0⟩ : ∃ W0, w.alloc (.cells #[.int .i64 N, .slice a l c] 24) = W0 := ⟨_, rfl⟩
  have hb0 : Below w.heap.size w W0 := by rw [← hW0]; exact (Below.refl _ w).alloc (Nat.le_refl _) _
  have hB : Blk W0 w.heap.size 24 #[.int .i64 N, .slice a l c] := by rw [← hW0]; exact heap_new w _
  have hR0 := hr.below hb0 (Nat.le_refl _)
  have q0 : W0.cell? ⟨w.heap.size, 0, none⟩ = some (.int .i64 (M : Int)) := by rw [← hM]; exact hB.cell 0
  have q1 : W0.cell? ⟨w.heap.size, 1, none⟩ = some (.slice a l c) := hB.cell 1
  have HW := Lib.hid hW0
  have Hb := Lib.hid hb0
  have HR := Lib.hid hR0
  have Hv4 := Lib.hid v4
  have Hbs := Lib.hid hr.hb
  have hlb : bs.length = l := hl
  have Hl := Lib.hid hlb
  obtain ⟨res, hres⟩ : ∃ r, r = seekV bs M true at_ := ⟨_, rfl⟩
  rw [← hres]
  have Hres := Lib.hid hres
  clear hW0 hb0 hB hr hv v1 v2 v3 v4 hl hN hM hR0 hlb hres
  go_enter Tryd.func93, Tryd.ntmps93
  go_upto_region 1 with fail
  rw [HW.out]
  go_loopw [1] (fun p wr => ∃ k : Nat, p = .int .i64 (k : Int) ∧ wr = W0 ∧ at_ ≤ k ∧ k ≤ M + 7 ∧ ∀ t, at_ ≤ t → t < k → t < M → bitV bs t ≠ true) (fun p _ => M + 8 - (intOf p).toNat)
  case atStart => exact ⟨at_, rfl, rfl, Nat.le_refl _, by omega, fun t h1 h2 _ => absurd h2 (by omega)⟩
  case round =>
    obtain ⟨k, rfl, rfl, hk1, hk2, hmiss⟩ := hrel
    have Hmiss := Lib.hid hmiss
    clear hmiss
    by_cases hlt : k < M
    · obtain ⟨i, hi⟩ : ∃ i, i = k / 8 := ⟨_, rfl⟩
      obtain ⟨r, hrr⟩ : ∃ r, r = k % 8 := ⟨_, rfl⟩
      have hil : i < l := by omega
      have hr8 : r < 8 := by omega
      obtain ⟨b, off, rfl, hcl⟩ := HR.out.hr (by omega)
      have hcell := hcl i hil
      have hcp := HR.out.hc
      have hcm := HR.out.hm
      unfold maxLen at hcm
      have hXb := Hbs.out _ (getD_mem (bs := bs) (i := i) (by have := Hl.out; omega))
      have hz0 := fun h => seek_zero Hbs.out M true k hlt (by have := Hl.out; omega) h
      have hhit := fun h => seek_hit Hbs.out M true k hlt (by have := Hl.out; omega) (fun j h1 h2 => Hv4.out j h1 h2) (by have := Hl.out; omega) h
      rw [← hi, ← hrr] at hz0 hhit
      obtain ⟨X, hXv⟩ : ∃ X, X = bs.getD i 0 := ⟨_, rfl⟩
      rw [← hXv] at hXb hcell hz0 hhit
      have hlk := lookB_lt true X hXb r
      have hlook : lookB true X r = (X.toNat) / 2 ^ r * 2 ^ r := by unfold lookB; rfl
      obtain ⟨Z, hZ⟩ : ∃ Z, Z = lookB true X r := ⟨_, rfl⟩
      rw [← hZ] at hz0 hhit hlk hlook
      have e1 : (k : Int) / 8 = (i : Int) := by omega
      have e2 : (k : Int) % 8 = (r : Int) := by omega
      have e4 : k % 8 = r := by omega
      have hii : (i : Int) < (l : Int) := by omega
      have e5 : X / 2 ^ r * 2 ^ r % 256 = (Z : Int) := by
        obtain ⟨y, rfl⟩ := Int.eq_ofNat_of_zero_le hXb.1
        have : Z < 256 := hlk
        rw [hlook] at this ⊢
        rw [Int.toNat_natCast] at this ⊢
        skip
        generalize y = y' at *
        have e6 : (((y' / 2 ^ r * 2 ^ r : Nat) : Int)) % 256 = ((y' / 2 ^ r * 2 ^ r : Nat) : Int) := Int.emod_eq_of_lt (by omega) (by omega)
        rw [← e6]
        push_cast
        rfl
      skip
      have Hhit := Lib.hid hhit
      have Hz0 := Lib.hid hz0
      have Hi := Lib.hid (And.intro hi hrr)
      have Hlk := Lib.hid hlk
      clear hz0 hhit hlook hZ hXv hcl hcm hcp hi hrr
      by_cases hZ0 : Z = 0
      · have hz : ((Z : Int) != 0) = false := by simp [hZ0]
        have HZ0 := Lib.hid hZ0
        clear hZ0
        go_wp2_with fail
        go_roundw
        case rel =>
          refine ⟨(i + 1) * 8, by go_num, trivial, by have := Hi.out; omega, by have := Hi.out; omega, fun t h1 h2 h3 => ?_⟩
          by_cases htk : t < k
          · exact Hmiss.out t h1 htk h3
          · exact Hz0.out HZ0.out t (by omega) (by have := Hi.out; omega)
        case measure => simp [intOf]; have := Hi.out; omega
      · have hz : ((Z : Int) != 0) = true := by simpa using hZ0
        have hh := Hhit.out hZ0
        obtain ⟨tz, htz⟩ : ∃ t, t = Lib.trailingZeros8 Z := ⟨_, rfl⟩
        rw [← htz] at hh
        have hsk := seekV_skip bs M true at_ k hk1 (by omega) (fun t h1 h2 => Hmiss.out t h1 h2 (by omega))
        have Htz := Lib.hid htz
        have Hfin : Hid (res = 8 * i + tz) := Lib.hid (by rw [Hres.out, hsk, hh])
        have htz8 : tz ≤ 8 := by rw [htz]; exact (tz_facts Z Hlk.out).1
        clear hZ0 hh hsk htz
        go_wp2_with fail
        refine (Tryd.bits_TrailingZeros8 (Z : Int) wr (by omega) (by have := Hlk.out; omega)).mono ?_
        rintro e w2 ⟨rfl, rfl⟩
        rw [Int.toNat_natCast, ← Htz.out]
        go_wp2_with fail
        refine bodyPost_ret (results_tmp rfl _ _ _) rfl ⟨?_, Hb.out⟩
        show Ending.returned (.int .i64 ((i : Int) * 8 + (tz : Int))) = _
        rw [Hfin.out]
        congr 2
        push_cast
        omega
    · have hsk : res = M := by
        rw [Hres.out]
        exact seekV_eq bs M true at_ M ha (Nat.le_refl _) (fun t h1 h2 => Hmiss.out t h1 (by omega) h2) (fun h => absurd h (Nat.lt_irrefl _))
      have Hsk := Lib.hid hsk
      clear hsk Hmiss
      go_wp2_with fail
      go_ret
      exact ⟨by rw [Hsk.out]; rfl, Hb.out⟩
set_option maxRecDepth 100000 in
set_option maxHeartbeats 4000000 in
theorem seek_false (N : Int) (M : Nat) (a : Option Addr) (l c : Nat) (bs : List Int) (at_ : Nat) (w : World) (hr : Rd w a l c bs) (hv : validB N bs = true) (hM : N = (M : Int)) (ha : at_ ≤ M) :
    Calls Tryd.prog 93 #[.agg #[.int .i64 N, .slice a l c], .int .i64 at_, .bool false] w fun e w' => e = .returned (.int .i64 (seekV bs M false at_ : Int)) ∧ Below w.heap.size w w' := by
  obtain ⟨v1, v2, v3, v4⟩ := (validB_iff N bs).mp hv
  have hl := hr.hl
  have hN : N.toNat = M := by omega
  rw [hN] at v4
  have hM8 : M ≤ 8 * l := by omega
  have hMl : 8 * l < M + 8 := by omega
  have hM6 : M ≤ 65536 := by omega
  obtain ⟨W0, hW0⟩ : ∃ W0, w.alloc (.cells #[.int .i64 N, .slice a l c] 24) = W0 := ⟨_, rfl⟩
  have hb0 : Below w.heap.size w W0 := by rw [← hW0]; exact (Below.refl _ w).alloc (Nat.le_refl _) _
  have hB : Blk W0 w.heap.size 24 #[.int .i64 N, .slice a l c] := by rw [← hW0]; exact heap_new w _
  have hR0 := hr.below hb0 (Nat.le_refl _)
  have q0 : W0.cell? ⟨w.heap.size, 0, none⟩ = some (.int .i64 (M : Int)) := by rw [← hM]; exact hB.cell 0
  have q1 : W0.cell? ⟨w.heap.size, 1, none⟩ = some (.slice a l c) := hB.cell 1
  have HW := Lib.hid hW0
  have Hb := Lib.hid hb0
  have HR := Lib.hid hR0
  have Hv4 := Lib.hid v4
  have Hbs := Lib.hid hr.hb
  have hlb : bs.length = l := hl
  have Hl := Lib.hid hlb
  obtain ⟨res, hres⟩ : ∃ r, r = seekV bs M false at_ := ⟨_, rfl⟩
  rw [← hres]
  have Hres := Lib.hid hres
  clear hW0 hb0 hB hr hv v1 v2 v3 v4 hl hN hM hR0 hlb hres
  go_enter Tryd.func93, Tryd.ntmps93
  go_upto_region 1 with fail
  rw [HW.out]
  go_loopw [1] (fun p wr => ∃ k : Nat, p = .int .i64 (k : Int) ∧ wr = W0 ∧ at_ ≤ k ∧ k ≤ M + 7 ∧ ∀ t, at_ ≤ t → t < k → t < M → bitV bs t ≠ false) (fun p _ => M + 8 - (intOf p).toNat)
  case atStart => exact ⟨at_, rfl, rfl, Nat.le_refl _, by omega, fun t h1 h2 _ => absurd h2 (by omega)⟩
  case round =>
    obtain ⟨k, rfl, rfl, hk1, hk2, hmiss⟩ := hrel
    have Hmiss := Lib.hid hmiss
    clear hmiss
    by_cases hlt : k < M
    · obtain ⟨i, hi⟩ : ∃ i, i = k / 8 := ⟨_, rfl⟩
      obtain ⟨r, hrr⟩ : ∃ r, r = k % 8 := ⟨_, rfl⟩
      have hil : i < l := by omega
      have hr8 : r < 8 := by omega
      obtain ⟨b, off, rfl, hcl⟩ := HR.out.hr (by omega)
      have hcell := hcl i hil
      have hcp := HR.out.hc
      have hcm := HR.out.hm
      unfold maxLen at hcm
      have hXb := Hbs.out _ (getD_mem (bs := bs) (i := i) (by have := Hl.out; omega))
      have hz0 := fun h => seek_zero Hbs.out M false k hlt (by have := Hl.out; omega) h
      have hhit := fun h => seek_hit Hbs.out M false k hlt (by have := Hl.out; omega) (fun j h1 h2 => Hv4.out j h1 h2) (by have := Hl.out; omega) h
      rw [← hi, ← hrr] at hz0 hhit
      obtain ⟨X, hXv⟩ : ∃ X, X = bs.getD i 0 := ⟨_, rfl⟩
      rw [← hXv] at hXb hcell hz0 hhit
      have hlk := lookB_lt false X hXb r
      have hlook : lookB false X r = ((255 - X.toNat)) / 2 ^ r * 2 ^ r := by unfold lookB; rfl
      obtain ⟨Z, hZ⟩ : ∃ Z, Z = lookB false X r := ⟨_, rfl⟩
      rw [← hZ] at hz0 hhit hlk hlook
      have e1 : (k : Int) / 8 = (i : Int) := by omega
      have e2 : (k : Int) % 8 = (r : Int) := by omega
      have e4 : k % 8 = r := by omega
      have hii : (i : Int) < (l : Int) := by omega
      have e5 : (255 - X) / 2 ^ r * 2 ^ r % 256 = (Z : Int) := by
        obtain ⟨y, rfl⟩ := Int.eq_ofNat_of_zero_le hXb.1
        have : Z < 256 := hlk
        rw [hlook] at this ⊢
        rw [Int.toNat_natCast] at this ⊢
        rw [show (255 : Int) - (y : Int) = ((255 - y : Nat) : Int) by omega]
        generalize (255 - y) = y' at *
        have e6 : (((y' / 2 ^ r * 2 ^ r : Nat) : Int)) % 256 = ((y' / 2 ^ r * 2 ^ r : Nat) : Int) := Int.emod_eq_of_lt (by omega) (by omega)
        rw [← e6]
        push_cast
        rfl
      have e7 := not_byte X hXb; have e8 : bits .xor .u8 (if IntKind.u8.signed = true then -1 else IntKind.u8.max) X = 255 - X := e7; have hz9 : ((bits .xor .u8 (if IntKind.u8.signed = true then -1 else IntKind.u8.max) X / 2 ^ r * 2 ^ r % 256) != 0) = ((Z : Int) != 0) := (by rw [e8, e5])
      have Hhit := Lib.hid hhit
      have Hz0 := Lib.hid hz0
      have Hi := Lib.hid (And.intro hi hrr)
      have Hlk := Lib.hid hlk
      clear hz0 hhit hlook hZ hXv hcl hcm hcp hi hrr
      by_cases hZ0 : Z = 0
      · have hz : ((Z : Int) != 0) = false := by simp [hZ0]
        have HZ0 := Lib.hid hZ0
        clear hZ0
        go_wp2_with fail
        go_roundw
        case rel =>
          refine ⟨(i + 1) * 8, by go_num, trivial, by have := Hi.out; omega, by have := Hi.out; omega, fun t h1 h2 h3 => ?_⟩
          by_cases htk : t < k
          · exact Hmiss.out t h1 htk h3
          · exact Hz0.out HZ0.out t (by omega) (by have := Hi.out; omega)
        case measure => simp [intOf]; have := Hi.out; omega
      · have hz : ((Z : Int) != 0) = true := by simpa using hZ0
        have hh := Hhit.out hZ0
        obtain ⟨tz, htz⟩ : ∃ t, t = Lib.trailingZeros8 Z := ⟨_, rfl⟩
        rw [← htz] at hh
        have hsk := seekV_skip bs M false at_ k hk1 (by omega) (fun t h1 h2 => Hmiss.out t h1 h2 (by omega))
        have Htz := Lib.hid htz
        have Hfin : Hid (res = 8 * i + tz) := Lib.hid (by rw [Hres.out, hsk, hh])
        have htz8 : tz ≤ 8 := by rw [htz]; exact (tz_facts Z Hlk.out).1
        clear hZ0 hh hsk htz
        go_wp2_with fail
        refine (Tryd.bits_TrailingZeros8 (Z : Int) wr (by omega) (by have := Hlk.out; omega)).mono ?_
        rintro e w2 ⟨rfl, rfl⟩
        rw [Int.toNat_natCast, ← Htz.out]
        go_wp2_with fail
        refine bodyPost_ret (results_tmp rfl _ _ _) rfl ⟨?_, Hb.out⟩
        show Ending.returned (.int .i64 ((i : Int) * 8 + (tz : Int))) = _
        rw [Hfin.out]
        congr 2
        push_cast
        omega
    · have hsk : res = M := by
        rw [Hres.out]
        exact seekV_eq bs M false at_ M ha (Nat.le_refl _) (fun t h1 h2 => Hmiss.out t h1 (by omega) h2) (fun h => absurd h (Nat.lt_irrefl _))
      have Hsk := Lib.hid hsk
      clear hsk Hmiss
      go_wp2_with fail
      go_ret
      exact ⟨by rw [Hsk.out]; rfl, Hb.out⟩
theorem seek_any (on : Bool) (N : Int) (M : Nat) (a : Option Addr) (l c : Nat) (bs : List Int) (at_ : Nat) (w : World) (hr : Rd w a l c bs) (hv : validB N bs = true) (hM : N = (M : Int)) (ha : at_ ≤ M) :
    Calls Tryd.prog 93 #[.agg #[.int .i64 N, .slice a l c], .int .i64 at_, .bool on] w fun e w' => e = .returned (.int .i64 (seekV bs M on at_ : Int)) ∧ Below w.heap.size w w' := by
  cases on with
  | true => exact seek_true N M a l c bs at_ w hr hv hM ha
  | false => exact seek_false N M a l c bs at_ w hr hv hM ha
end Go.Proofs.YtknacgdjodmaiaaDoor
