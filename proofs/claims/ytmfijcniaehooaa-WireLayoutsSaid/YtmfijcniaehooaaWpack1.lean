/- A field is packed by its kind. -/
import Derived.Test.YtmfijcniaehooaaWwrite
namespace Go.Proofs.Ytmfijcniaehooaa
set_option linter.unusedVariables false
open Go.RowKit

/-- The error and the bytes of an item (n, xs) of a field. -/
def packE (k n width : Int) (xs : List Int) : Int :=
  if (4 ≤ k ∧ n ≠ 0) ∨ (k < 4 ∧ 0 < xs.length) then 24
  else if k = 1 then fixedE n width false else if k = 2 then fixedE n width true else if k = 3 then varE n else if k = 4 then wr4E width xs else wr5E width xs
def packB (k n width : Int) (xs : List Int) : List Int :=
  if (4 ≤ k ∧ n ≠ 0) ∨ (k < 4 ∧ 0 < xs.length) then []
  else if k = 1 then fixedB n width false else if k = 2 then fixedB n width true else if k = 3 then varV n else if k = 4 then wr4B width xs else wr5B width xs

theorem Gives.later {w w1 : World} {err : Int} {bs : List Int} {e : Ending} {w' : World} (h : Gives w1 err bs e w') (hb : Below w.heap.size w w1) : Gives w err bs e w' := by
  obtain ⟨a, l, c, he, hr, hb'⟩ := h
  exact ⟨a, l, c, he, hr, hb.trans (hb'.mono hb.size)⟩


theorem kindVal_1 : kindVal 1 = .agg #[.int .i64 1, .int .i64 8, .bool false, .func (.func 86) #[] #[], .func (.func 87) #[] #[], .func (.func 88) #[] #[]] := by
  unfold kindVal narrow wide hasB fSize fWrite fRead; rfl

theorem kindVal_2 : kindVal 2 = .agg #[.int .i64 1, .int .i64 8, .bool false, .func (.func 86) #[] #[], .func (.func 90) #[] #[], .func (.func 91) #[] #[]] := by
  unfold kindVal narrow wide hasB fSize fWrite fRead; rfl

theorem kindVal_3 : kindVal 3 = .agg #[.int .i64 0, .int .i64 0, .bool false, .func (.func 92) #[] #[], .func (.func 93) #[] #[], .func (.func 94) #[] #[]] := by
  unfold kindVal narrow wide hasB fSize fWrite fRead; rfl

theorem kindVal_4 : kindVal 4 = .agg #[.int .i64 0, .int .i64 4096, .bool true, .func (.func 86) #[] #[], .func (.func 95) #[] #[], .func (.func 96) #[] #[]] := by
  unfold kindVal narrow wide hasB fSize fWrite fRead; rfl

theorem kindVal_5 : kindVal 5 = .agg #[.int .i64 0, .int .i64 4096, .bool true, .func (.func 98) #[] #[], .func (.func 99) #[] #[], .func (.func 100) #[] #[]] := by
  unfold kindVal narrow wide hasB fSize fWrite fRead; rfl
section
variable (n width : Int) (a : Option Addr) (len cap : Nat) (xs : List Int) (w : World) (h : Rd w a len cap xs) (h1 : -9223372036854775808 ≤ n) (h2 : n ≤ 9223372036854775807)
include h h1 h2

set_option maxRecDepth 100000 in
set_option maxHeartbeats 400000 in
theorem pack_1 : Calls Try.prog 73 #[kindVal 1, .agg #[.int .i64 n, .slice a len cap], .int .i64 width] w (Gives w (packE 1 n width xs) (packB 1 n width xs)) := by
  rw [kindVal_1]
  have hl := h.hl
  by_cases hbad : 0 < len
  · have e1 : packE 1 n width xs = 24 := by unfold packE; rw [if_pos (by omega)]
    have e2 : packB 1 n width xs = [] := by unfold packB; rw [if_pos (by omega)]
    rw [e1, e2]
    clear e1 e2 hl h
    go_enter Try.func73, Try.ntmps73
    go_wp2
    go_ret2
    exact ⟨_, _, _, rfl, Rd.nil _, ((Below.refl _ w).alloc (Nat.le_refl _) _).alloc (by simp) _⟩
  · have e1 : packE 1 n width xs = fixedE n width false := by unfold packE; rw [if_neg (by omega)]; simp
    have e2 : packB 1 n width xs = fixedB n width false := by unfold packB; rw [if_neg (by omega)]; simp
    rw [e1, e2]
    have hz : ¬ 0 < (len : Int) := by omega
    have H := Lib.hid h
    clear e1 e2 hl h
    go_enter Try.func73, Try.ntmps73
    go_wp2_with fail
    have hb0 := ((Below.refl w.heap.size w).alloc (Nat.le_refl _) (.cells #[.int .i64 1, .int .i64 8, .bool false, .func (.func 86) #[] #[], .func (.func 87) #[] #[], .func (.func 88) #[] #[]] 120)).alloc (by simp) (.cells #[.int .i64 n, .slice a len cap] 52)
    refine (wr1_any n width a len cap _ h1 h2).mono ?_
    rintro e w1 hg
    replace hg := hg.later hb0
    obtain ⟨a1, l1, c1, rfl, hr1, hb1⟩ := hg
    clear hb0
    go_wp2
    go_ret2
    exact ⟨_, _, _, rfl, by assumption, by assumption⟩

set_option maxRecDepth 100000 in
set_option maxHeartbeats 400000 in
theorem pack_2 : Calls Try.prog 73 #[kindVal 2, .agg #[.int .i64 n, .slice a len cap], .int .i64 width] w (Gives w (packE 2 n width xs) (packB 2 n width xs)) := by
  rw [kindVal_2]
  have hl := h.hl
  by_cases hbad : 0 < len
  · have e1 : packE 2 n width xs = 24 := by unfold packE; rw [if_pos (by omega)]
    have e2 : packB 2 n width xs = [] := by unfold packB; rw [if_pos (by omega)]
    rw [e1, e2]
    clear e1 e2 hl h
    go_enter Try.func73, Try.ntmps73
    go_wp2
    go_ret2
    exact ⟨_, _, _, rfl, Rd.nil _, ((Below.refl _ w).alloc (Nat.le_refl _) _).alloc (by simp) _⟩
  · have e1 : packE 2 n width xs = fixedE n width true := by unfold packE; rw [if_neg (by omega)]; simp
    have e2 : packB 2 n width xs = fixedB n width true := by unfold packB; rw [if_neg (by omega)]; simp
    rw [e1, e2]
    have hz : ¬ 0 < (len : Int) := by omega
    have H := Lib.hid h
    clear e1 e2 hl h
    go_enter Try.func73, Try.ntmps73
    go_wp2_with fail
    have hb0 := ((Below.refl w.heap.size w).alloc (Nat.le_refl _) (.cells #[.int .i64 1, .int .i64 8, .bool false, .func (.func 86) #[] #[], .func (.func 90) #[] #[], .func (.func 91) #[] #[]] 120)).alloc (by simp) (.cells #[.int .i64 n, .slice a len cap] 52)
    refine (wr2_any n width a len cap _ h1 h2).mono ?_
    rintro e w1 hg
    replace hg := hg.later hb0
    obtain ⟨a1, l1, c1, rfl, hr1, hb1⟩ := hg
    clear hb0
    go_wp2
    go_ret2
    exact ⟨_, _, _, rfl, by assumption, by assumption⟩

omit h1 in
set_option maxRecDepth 100000 in
set_option maxHeartbeats 400000 in
theorem pack_3 : Calls Try.prog 73 #[kindVal 3, .agg #[.int .i64 n, .slice a len cap], .int .i64 width] w (Gives w (packE 3 n width xs) (packB 3 n width xs)) := by
  rw [kindVal_3]
  have hl := h.hl
  by_cases hbad : 0 < len
  · have e1 : packE 3 n width xs = 24 := by unfold packE; rw [if_pos (by omega)]
    have e2 : packB 3 n width xs = [] := by unfold packB; rw [if_pos (by omega)]
    rw [e1, e2]
    clear e1 e2 hl h
    go_enter Try.func73, Try.ntmps73
    go_wp2
    go_ret2
    exact ⟨_, _, _, rfl, Rd.nil _, ((Below.refl _ w).alloc (Nat.le_refl _) _).alloc (by simp) _⟩
  · have e1 : packE 3 n width xs = varE n := by unfold packE; rw [if_neg (by omega)]; simp
    have e2 : packB 3 n width xs = varV n := by unfold packB; rw [if_neg (by omega)]; simp
    rw [e1, e2]
    have hz : ¬ 0 < (len : Int) := by omega
    have H := Lib.hid h
    clear e1 e2 hl h
    go_enter Try.func73, Try.ntmps73
    go_wp2_with fail
    have hb0 := ((Below.refl w.heap.size w).alloc (Nat.le_refl _) (.cells #[.int .i64 0, .int .i64 0, .bool false, .func (.func 92) #[] #[], .func (.func 93) #[] #[], .func (.func 94) #[] #[]] 120)).alloc (by simp) (.cells #[.int .i64 n, .slice a len cap] 52)
    refine (wr3_any n width a len cap _ h2).mono ?_
    rintro e w1 hg
    replace hg := hg.later hb0
    obtain ⟨a1, l1, c1, rfl, hr1, hb1⟩ := hg
    clear hb0
    go_wp2
    go_ret2
    exact ⟨_, _, _, rfl, by assumption, by assumption⟩

omit h1 h2 in
set_option maxRecDepth 100000 in
set_option maxHeartbeats 400000 in
theorem pack_4 : Calls Try.prog 73 #[kindVal 4, .agg #[.int .i64 n, .slice a len cap], .int .i64 width] w (Gives w (packE 4 n width xs) (packB 4 n width xs)) := by
  rw [kindVal_4]
  have hl := h.hl
  by_cases hbad : n ≠ 0
  · have e1 : packE 4 n width xs = 24 := by unfold packE; rw [if_pos (by omega)]
    have e2 : packB 4 n width xs = [] := by unfold packB; rw [if_pos (by omega)]
    rw [e1, e2]
    have hne : (n != 0) = true := by simpa using hbad
    clear e1 e2 hl h
    go_enter Try.func73, Try.ntmps73
    go_wp2
    go_ret2
    exact ⟨_, _, _, rfl, Rd.nil _, ((Below.refl _ w).alloc (Nat.le_refl _) _).alloc (by simp) _⟩
  · have e1 : packE 4 n width xs = wr4E width xs := by unfold packE; rw [if_neg (by omega)]; simp
    have e2 : packB 4 n width xs = wr4B width xs := by unfold packB; rw [if_neg (by omega)]; simp
    rw [e1, e2]
    have hne : (n != 0) = false := by simpa using hbad
    have H := Lib.hid h
    clear e1 e2 hl h
    go_enter Try.func73, Try.ntmps73
    go_wp2_with fail
    have hb0 := ((Below.refl w.heap.size w).alloc (Nat.le_refl _) (.cells #[.int .i64 0, .int .i64 4096, .bool true, .func (.func 86) #[] #[], .func (.func 95) #[] #[], .func (.func 96) #[] #[]] 120)).alloc (by simp) (.cells #[.int .i64 n, .slice a len cap] 52)
    refine (wr4_any n width a len cap xs _ (H.out.below hb0 (Nat.le_refl _))).mono ?_
    rintro e w1 hg
    replace hg := hg.later hb0
    obtain ⟨a1, l1, c1, rfl, hr1, hb1⟩ := hg
    clear hb0
    go_wp2
    go_ret2
    exact ⟨_, _, _, rfl, by assumption, by assumption⟩

omit h1 h2 in
set_option maxRecDepth 100000 in
set_option maxHeartbeats 400000 in
theorem pack_5 : Calls Try.prog 73 #[kindVal 5, .agg #[.int .i64 n, .slice a len cap], .int .i64 width] w (Gives w (packE 5 n width xs) (packB 5 n width xs)) := by
  rw [kindVal_5]
  have hl := h.hl
  by_cases hbad : n ≠ 0
  · have e1 : packE 5 n width xs = 24 := by unfold packE; rw [if_pos (by omega)]
    have e2 : packB 5 n width xs = [] := by unfold packB; rw [if_pos (by omega)]
    rw [e1, e2]
    have hne : (n != 0) = true := by simpa using hbad
    clear e1 e2 hl h
    go_enter Try.func73, Try.ntmps73
    go_wp2
    go_ret2
    exact ⟨_, _, _, rfl, Rd.nil _, ((Below.refl _ w).alloc (Nat.le_refl _) _).alloc (by simp) _⟩
  · have e1 : packE 5 n width xs = wr5E width xs := by unfold packE; rw [if_neg (by omega)]; simp
    have e2 : packB 5 n width xs = wr5B width xs := by unfold packB; rw [if_neg (by omega)]; simp
    rw [e1, e2]
    have hne : (n != 0) = false := by simpa using hbad
    have H := Lib.hid h
    clear e1 e2 hl h
    go_enter Try.func73, Try.ntmps73
    go_wp2_with fail
    have hb0 := ((Below.refl w.heap.size w).alloc (Nat.le_refl _) (.cells #[.int .i64 0, .int .i64 4096, .bool true, .func (.func 98) #[] #[], .func (.func 99) #[] #[], .func (.func 100) #[] #[]] 120)).alloc (by simp) (.cells #[.int .i64 n, .slice a len cap] 52)
    refine (wr5_any n width a len cap xs _ (H.out.below hb0 (Nat.le_refl _))).mono ?_
    rintro e w1 hg
    replace hg := hg.later hb0
    obtain ⟨a1, l1, c1, rfl, hr1, hb1⟩ := hg
    clear hb0
    go_wp2
    go_ret2
    exact ⟨_, _, _, rfl, by assumption, by assumption⟩

theorem pack_any (k : Int) (k1 : 1 ≤ k) (k5 : k ≤ 5) : Calls Try.prog 73 #[kindVal k, .agg #[.int .i64 n, .slice a len cap], .int .i64 width] w (Gives w (packE k n width xs) (packB k n width xs)) := by
  have : k = 1 ∨ k = 2 ∨ k = 3 ∨ k = 4 ∨ k = 5 := by omega
  rcases this with rfl | rfl | rfl | rfl | rfl
  · exact pack_1 n width a len cap xs w h h1 h2
  · exact pack_2 n width a len cap xs w h h1 h2
  · exact pack_3 n width a len cap xs w h h2
  · exact pack_4 n width a len cap xs w h
  · exact pack_5 n width a len cap xs w h
end
end Go.Proofs.Ytmfijcniaehooaa
