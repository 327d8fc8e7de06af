/- Unpack and Where answer as the chapter says, whatever the bytes. -/
import Derived.Test.YtmfijcniaehooaaWreadbad
import Derived.Test.YtmfijcniaehooaaWunpack
import Derived.Test.YtmfijcniaehooaaWoneway2
namespace Go.Proofs.Ytmfijcniaehooaa
set_option linter.unusedVariables false
open Go.RowKit

/-- The first error among the first fields. -/
def readE (fs : List Fld) (bs : List Int) : Nat → Int
  | 0 => 0
  | k + 1 => if readE fs bs k ≠ 0 then readE fs bs k else (atV fs bs k).1
/-- The error of reading bytes by a layout. -/
def errV (fs : List Fld) (bs : List Int) : Int := if checkV fs ≠ 0 then checkV fs else readE fs bs fs.length
theorem readE_zero (fs : List Fld) (bs : List Int) : ∀ n, readE fs bs n = 0 → ∀ k, k < n → (atV fs bs k).1 = 0 := by
  intro n
  induction n with
  | zero => intro _ k hk; omega
  | succ n ih =>
    intro h k hk
    rw [readE] at h
    split at h
    · rename_i h1; exact absurd h h1
    · rename_i h1
      by_cases hkn : k = n
      · subst hkn; exact h
      · exact ih (by omega) k (by omega)
theorem readE_first (fs : List Fld) (bs : List Int) : ∀ n, readE fs bs n ≠ 0 → ∃ k, k < n ∧ (∀ j, j < k → (atV fs bs j).1 = 0) ∧ (atV fs bs k).1 = readE fs bs n := by
  intro n
  induction n with
  | zero => intro h; simp [readE] at h
  | succ n ih =>
    intro h
    by_cases h1 : readE fs bs n ≠ 0
    · obtain ⟨k, a, b, c⟩ := ih h1
      refine ⟨k, by omega, b, ?_⟩
      rw [readE, if_pos h1]; exact c
    · refine ⟨n, by omega, readE_zero fs bs n (by omega), ?_⟩
      rw [readE, if_neg h1]
theorem errV_ok {fs : List Fld} {bs : List Int} (h : errV fs bs = 0) : checkV fs = 0 ∧ ∀ k, k < fs.length → (atV fs bs k).1 = 0 := by
  unfold errV at h
  split at h
  · rename_i h1; exact absurd h h1
  · exact ⟨by omega, readE_zero fs bs _ h⟩
set_option maxRecDepth 100000 in
set_option maxHeartbeats 2000000 in
theorem readAll_chk (a : Option Addr) (len cap : Nat) (fs : List Fld) (w : World) (h : RdF w a len cap fs) (a2 : Option Addr) (len2 cap2 : Nat) (hch : checkV fs = 1) :
    Calls Try.prog 76 #[.slice a len cap, .slice a2 len2 cap2] w fun e w' => e = .returned (.tuple #[.slice none 0 0, .slice none 0 0, .int .i64 1]) ∧ Below w.heap.size w w' := by
  have H := Lib.hid h
  have Hch := Lib.hid hch
  clear h hch
  have hx := heap3 w (.cells #[.slice none 0 0] 50) (.cells #[.slice none 0 0] 63) (.cells #[.int .i64 0] 24)
  have hb0 : Below w.heap.size w (((w.alloc (.cells #[.slice none 0 0] 50)).alloc (.cells #[.slice none 0 0] 63)).alloc (.cells #[.int .i64 0] 24)) := (((Below.refl w.heap.size w).alloc (Nat.le_refl _) _).alloc (by simp) _).alloc (by simp; omega) _
  obtain ⟨W0, hW0⟩ : ∃ W0, W0 = (((w.alloc (.cells #[.slice none 0 0] 50)).alloc (.cells #[.slice none 0 0] 63)).alloc (.cells #[.int .i64 0] 24)) := ⟨_, rfl⟩
  have hs0 : W0.heap.size = w.heap.size + 3 := by rw [hW0]; simp
  rw [← hW0] at hx hb0
  have HW0 := Lib.hid hW0
  have HX := Lib.hid hx
  have HB := Lib.hid hb0
  have HS := Lib.hid hs0
  clear hW0 hx hb0 hs0
  go_enter_defers Try.func76, Try.ntmps76
  go_wp2_with fail
  rw [← HW0.out]
  refine (check_any _ _ _ fs W0 (H.out.below HB.out (Nat.le_refl _))).mono ?_
  rintro e w1 ⟨rfl, hb1⟩
  rw [Hch.out]
  have bx0 : Boxed w1 w.heap.size 50 (.slice none 0 0) := (hb1.block _ (by rw [HS.out]; omega)).trans HX.out.1
  have bx1 : Boxed w1 (w.heap.size + 1) 63 (.slice none 0 0) := (hb1.block _ (by rw [HS.out]; omega)).trans HX.out.2.1
  have bx2 : Boxed w1 (w.heap.size + 1 + 1) 24 (.int .i64 0) := (hb1.block _ (by rw [HS.out]; omega)).trans HX.out.2.2
  have c0 := bx0.cell
  have c1 := bx1.cell
  have c2 := bx2.cell
  have d0 := bx0.frozen
  have d1 := bx1.frozen
  have d2 := bx2.frozen
  have l0 := bx0.lt
  have l1 := bx1.lt
  have l2 := bx2.lt
  have Hb4 := Lib.hid (HB.out.trans (hb1.mono (by rw [HS.out]; omega)))
  have HX := Lib.hid (And.intro bx0 (And.intro bx1 bx2))
  clear hb1 bx0 bx1 bx2 HW0 HB HS
  go_wp2_with fail
  have B0 := HX.out.1.set (.slice none 0 0)
  have B1 : Boxed _ _ _ _ := (heap_setCell_other w1 ⟨w.heap.size, 0, none⟩ (w.heap.size + 1) (.slice none 0 0) (by simp)).trans HX.out.2.1
  have B2 : Boxed _ _ _ _ := (heap_setCell_other w1 ⟨w.heap.size, 0, none⟩ (w.heap.size + 1 + 1) (.slice none 0 0) (by simp; omega)).trans HX.out.2.2
  have hz1 := Hb4.out.setCell (p := ⟨w.heap.size, 0, none⟩) (by simp) (.slice none 0 0)
  clear c0 c1 c2 d0 d1 d2
  generalize w1.setCell ⟨w.heap.size, 0, none⟩ (.slice none 0 0) = w3 at *
  have C0 : Boxed _ _ _ _ := (heap_setCell_other w3 ⟨w.heap.size + 1, 0, none⟩ w.heap.size (.slice none 0 0) (by simp)).trans B0
  have C1 := Boxed.set (.slice none 0 0) B1
  have C2 : Boxed _ _ _ _ := (heap_setCell_other w3 ⟨w.heap.size + 1, 0, none⟩ (w.heap.size + 1 + 1) (.slice none 0 0) (by simp)).trans B2
  have hz2 := hz1.setCell (p := ⟨w.heap.size + 1, 0, none⟩) (by simp) (.slice none 0 0)
  generalize w3.setCell ⟨w.heap.size + 1, 0, none⟩ (.slice none 0 0) = w4 at *
  have D0 : Boxed _ _ _ _ := (heap_setCell_other w4 ⟨w.heap.size + 1 + 1, 0, none⟩ w.heap.size (.int .i64 1) (by simp; omega)).trans C0
  have D1 : Boxed _ _ _ _ := (heap_setCell_other w4 ⟨w.heap.size + 1 + 1, 0, none⟩ (w.heap.size + 1) (.int .i64 1) (by simp)).trans C1
  have D2 := Boxed.set (.int .i64 1) C2
  have hz3 := hz2.setCell (p := ⟨w.heap.size + 1 + 1, 0, none⟩) (by simp; omega) (.int .i64 1)
  generalize w4.setCell ⟨w.heap.size + 1 + 1, 0, none⟩ (.int .i64 1) = w5 at *
  have z0 := D0.cell
  have z1 := D1.cell
  have z2 := D2.cell
  have HZ := Lib.hid hz3
  clear D0 D1 D2 C0 C1 C2 B0 B1 B2 hz1 hz2 hz3
  simp [bodyPostD, Leaves, results, Try.results76, go_sem, z0, z1, z2]
  exact HZ.out
theorem readAll_err (a : Option Addr) (len cap : Nat) (fs : List Fld) (w : World) (h : RdF w a len cap fs) (a2 : Option Addr) (len2 cap2 : Nat) (bs : List Int) (h2 : Rd w a2 len2 cap2 bs) (hbig : len2 ≤ 140737488355328) (hE : errV fs bs ≠ 0) :
    Calls Try.prog 76 #[.slice a len cap, .slice a2 len2 cap2] w fun e w' => e = .returned (.tuple #[.slice none 0 0, .slice none 0 0, .int .i64 (errV fs bs)]) ∧ Below w.heap.size w w' := by
  rcases checkV_01 fs with hch | hch
  · have he : errV fs bs = readE fs bs fs.length := by unfold errV; rw [if_neg (by simp [hch])]
    rw [he] at hE ⊢
    obtain ⟨k, hk, h3, h4⟩ := readE_first fs bs _ hE
    rw [← h4] at hE ⊢
    exact readAll_bad a len cap fs w h a2 len2 cap2 bs h2 hbig hch k (by have := h.hl; omega) h3 _ rfl hE
  · have he : errV fs bs = 1 := by unfold errV; rw [if_pos (by simp [hch]), hch]
    rw [he]
    exact readAll_chk a len cap fs w h a2 len2 cap2 hch
set_option maxRecDepth 100000 in
set_option maxHeartbeats 1000000 in
theorem unpack_err (a : Option Addr) (len cap : Nat) (fs : List Fld) (w : World) (h : RdF w a len cap fs) (a2 : Option Addr) (len2 cap2 : Nat) (bs : List Int) (h2 : Rd w a2 len2 cap2 bs) (hbig : len2 ≤ 140737488355328) (hE : errV fs bs ≠ 0) :
    Calls Try.prog 44 #[.slice a len cap, .slice a2 len2 cap2] w fun e w' => e = .returned (.tuple #[.slice none 0 0, .int .i64 0, .int .i64 (errV fs bs)]) ∧ Below w.heap.size w w' := by
  have C := Lib.hid (readAll_err a len cap fs w h a2 len2 cap2 bs h2 hbig hE)
  obtain ⟨er, her⟩ : ∃ er, er = errV fs bs := ⟨_, rfl⟩
  rw [← her] at C hE ⊢
  have hne : (er != 0) = true := by simpa using hE
  clear h h2 her hE
  go_enter Try.func44, Try.ntmps44
  go_wp2_with fail
  refine C.out.mono ?_
  rintro e w1 ⟨rfl, hb⟩
  have Hb := Lib.hid hb
  clear hb
  go_wp2
  go_ret3
  exact ⟨rfl, Hb.out⟩
set_option maxRecDepth 100000 in
set_option maxHeartbeats 1000000 in
theorem where_err (a : Option Addr) (len cap : Nat) (fs : List Fld) (w : World) (h : RdF w a len cap fs) (a2 : Option Addr) (len2 cap2 : Nat) (bs : List Int) (h2 : Rd w a2 len2 cap2 bs) (hbig : len2 ≤ 140737488355328) (hE : errV fs bs ≠ 0) (i : Int) :
    Calls Try.prog 47 #[.slice a len cap, .slice a2 len2 cap2, .int .i64 i] w fun e w' => e = .returned (.tuple #[.int .i64 0, .int .i64 0, .int .i64 (errV fs bs)]) ∧ Below w.heap.size w w' := by
  have C := Lib.hid (readAll_err a len cap fs w h a2 len2 cap2 bs h2 hbig hE)
  obtain ⟨er, her⟩ : ∃ er, er = errV fs bs := ⟨_, rfl⟩
  rw [← her] at C hE ⊢
  have hne : (er != 0) = true := by simpa using hE
  clear h h2 her hE
  go_enter Try.func47, Try.ntmps47
  go_wp2_with fail
  refine C.out.mono ?_
  rintro e w1 ⟨rfl, hb⟩
  have Hb := Lib.hid hb
  clear hb
  go_wp2
  go_ret3
  exact ⟨rfl, Hb.out⟩
end Go.Proofs.Ytmfijcniaehooaa
