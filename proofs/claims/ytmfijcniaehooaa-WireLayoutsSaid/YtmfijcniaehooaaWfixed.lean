/- Uint and Int answer as the chapter says. -/
import Derived.Test.YtmfijcniaehooaaWwidth
namespace Go.Proofs.Ytmfijcniaehooaa
set_option linter.unusedVariables false
open Go.RowKit
/-- The low bytes of a number, the lowest first. -/
def bytesOf : Nat → Int → List Int
  | 0, _ => []
  | k + 1, n => n % 256 :: bytesOf k (n / 256)
def part (n : Int) (j k : Nat) : List Int := bytesOf j n ++ List.replicate (k - j) 0
theorem bytesOf_length (k : Nat) : ∀ n, (bytesOf k n).length = k := by
  induction k with
  | zero => intro n; rfl
  | succ k ih => intro n; simp [bytesOf, ih]
theorem bytesOf_snoc (k : Nat) : ∀ n, bytesOf (k + 1) n = bytesOf k n ++ [n / 256 ^ k % 256] := by
  induction k with
  | zero => intro n; simp [bytesOf]
  | succ k ih =>
    intro n
    rw [bytesOf, ih (n / 256), bytesOf]
    simp only [List.cons_append, List.cons.injEq, true_and, List.append_cancel_left_eq, and_true]
    rw [Int.ediv_ediv_of_nonneg (by omega), ← Int.pow_succ']
theorem part_step (n : Int) (j k : Nat) (h : j < k) : (part n j k).set j (n / 256 ^ j % 256) = part n (j + 1) k := by
  unfold part
  rw [bytesOf_snoc, List.set_append_right _ _ (by rw [bytesOf_length]; omega), bytesOf_length, Nat.sub_self,
    show k - j = (k - (j + 1)) + 1 from by omega, List.replicate_succ]
  simp
theorem part_end (n : Int) (k : Nat) : part n k k = bytesOf k n := by simp [part]
theorem part_start (n : Int) (k : Nat) : part n 0 k = List.replicate k 0 := by simp [part, bytesOf]
theorem madeCells_one (v : Value) (n : Nat) : (madeCells #[v] n).toList = List.replicate n v := by
  apply List.ext_getElem
  · simp [madeCells]
  · intro i h1 h2
    simp [madeCells, Nat.mod_one]
theorem part_length (n : Int) (j k : Nat) (h : j ≤ k) : (part n j k).length = k := by simp [part, bytesOf_length]; omega
theorem Try.infoB : (Try.prog.info? 5).map (fun i => (i.zero, i.size, i.bytes)) = some (some (.int .u8 0), 1, 1) := by kernel_rfl
set_option maxRecDepth 100000 in
set_option maxHeartbeats 400000 in
theorem fixed_ok (n : Int) (k : Nat) (s : Bool) (w : World) (h1 : -9223372036854775808 ≤ n) (h2 : n ≤ 9223372036854775807)
    (hk1 : 1 ≤ k) (hk8 : k ≤ 8) (hl0 : 1 ≤ widthV n s) (hl : widthV n s ≤ k) :
    Calls Try.prog 64 #[.int .i64 n, .int .i64 k, .bool s] w fun e w' =>
      ∃ v, e = .returned (.tuple #[v, .int .i64 0]) ∧ w'.ownsRow w.heap.size 5 1 v k ((bytesOf k n).map (Value.int .u8)) ∧ Below w.heap.size w w' := by
  have HI := Lib.hid (info_parts Try.infoB)
  have e0 : (widthV n s == 0) = false := beq_eq_false_iff_ne.2 (by omega)
  have e1 : decide ((k : Int) < widthV n s) = false := by simpa using hl
  go_enter Try.func64, Try.ntmps64
  go_wp2_with (first
    | (go_at_call 23; refine (width_any _ _ _ h1 h2).mono ?_; rintro e w' ⟨rfl, rfl⟩)
    | (obtain ⟨i0, hi, hz0, hz1, hz2⟩ := HI.out; refine wpList_make_full _ rfl (.tmp 27) (.tmp 27) 22 rfl w.heap.size 5 i0 (.int .u8 0) 1 Try.underlying22 hi hz0 hz1 .i64 .i64 _ _ k rfl rfl rfl rfl (by rw [hz2]; omega) (by unfold maxLen; omega) (Nat.le_refl _) ?_; clear hi hz0 hz1 hz2 i0; intro w1 hown hgrow))
  have hown0 : w1.ownsRow w.heap.size 5 1 (.slice (some ⟨w.heap.size, 0, none⟩) k k) k ((part n 0 k).map (Value.int .u8)) := by
    have e := madeCells_one (.int .u8 0) k
    rw [part_start, List.map_replicate, ← e]; simpa [Value.cells] using hown
  have hb0 : Below w.heap.size w w1 := by simpa using (Below.refl w.heap.size w).grown hgrow (Nat.le_refl _) (by simp)
  clear hown hgrow
  go_loopw [10, 31] (fun _ i wr => ∃ j : Nat, j ≤ k ∧ i = .int .i64 j ∧ wr.ownsRow w.heap.size 5 1 (.slice (some ⟨w.heap.size, 0, none⟩) k k) k ((part n j k).map (Value.int .u8)) ∧ Below w.heap.size w wr)
      (fun _ i _ => k - (intOf i).toNat)
  case atStart => exact ⟨0, Nat.zero_le _, rfl, hown0, hb0⟩
  case round =>
    obtain ⟨j, hj, rfl, hown, hb⟩ := hrel
    by_cases hlt : j < k
    · have hc : wr.cell? ⟨w.heap.size, j, none⟩ = some ((part n j k).map (Value.int .u8))[j]! := by
        rw [hown.cellAt j (by omega)]; simp [part_length n j k hj, hlt]
      have hf := hown.frozenAt j
      have hst := hown.stored j (.int .u8 (n / 256 ^ j % 256))
      rw [← List.map_set, part_step n j k hlt] at hst
      have Hst := Lib.hid hst
      have Hb := Lib.hid hb
      clear hst hown hb
      generalize ((part n j k).map (Value.int .u8))[j]! = old at hc
      go_wp2
      go_roundw
      case rel => exact ⟨j + 1, by omega, by go_num, by rw [two_256]; exact Hst.out.1, by rw [two_256]; exact Hb.out.setCell (Nat.le_refl _) _⟩
      case measure => simp [intOf]; omega
    · obtain rfl : j = k := by omega
      rw [part_end] at hown
      have Hown := Lib.hid hown
      have Hb := Lib.hid hb
      clear hown hb
      go_wp2
      go_ret2
      exact ⟨_, rfl, Hown.out, Hb.out⟩
/-- In w the slice value v, of blocks from B on, is the bytes xs. -/
def Own (w : World) (B : Nat) (v : Value) (xs : List Int) : Prop := w.ownsRow B 5 1 v xs.length (xs.map (Value.int .u8)) ∧ ∀ n ∈ xs, 0 ≤ n ∧ n ≤ 255
theorem Own.nil (w : World) (B : Nat) : Own w B (.slice none 0 0) [] := ⟨World.ownsRow_nil _ _ _ _, by simp⟩
theorem bytesOf_bd (k : Nat) : ∀ n x, x ∈ bytesOf k n → 0 ≤ x ∧ x ≤ 255 := by
  induction k with
  | zero => intro n x h; simp [bytesOf] at h
  | succ k ih =>
    intro n x h
    simp only [bytesOf, List.mem_cons] at h
    rcases h with rfl | h
    · omega
    · exact ih _ _ h
/-- The error of Uint (s: of Int). -/
def fixedE (n width : Int) (s : Bool) : Int :=
  if width < 1 ∨ 8 < width then 1 else if widthV n s = 0 ∨ width < widthV n s then 24 else 0
/-- The bytes of Uint (s: of Int). -/
def fixedB (n width : Int) (s : Bool) : List Int := if fixedE n width s = 0 then bytesOf width.toNat n else []

set_option maxRecDepth 100000 in
set_option maxHeartbeats 400000 in
theorem fixed_any (n width : Int) (s : Bool) (w : World) (h1 : -9223372036854775808 ≤ n) (h2 : n ≤ 9223372036854775807) :
    Calls Try.prog 64 #[.int .i64 n, .int .i64 width, .bool s] w fun e w' =>
      ∃ v, e = .returned (.tuple #[v, .int .i64 (fixedE n width s)]) ∧ Own w' w.heap.size v (fixedB n width s) ∧ Below w.heap.size w w' := by
  by_cases hw : width < 1 ∨ 8 < width
  · have hE : fixedE n width s = 1 := by unfold fixedE; rw [if_pos hw]
    have hB : fixedB n width s = [] := by unfold fixedB; rw [hE]; rfl
    rw [hE, hB]
    clear hE hB
    rcases hw with hw | hw
    all_goals
      go_enter Try.func64, Try.ntmps64
      go_wp2
      go_ret2
      exact ⟨_, rfl, Own.nil _ _, Below.refl _ _⟩
  · have hv := widthV_bd n s
    by_cases hz : widthV n s = 0 ∨ width < widthV n s
    · have hE : fixedE n width s = 24 := by unfold fixedE; rw [if_neg hw, if_pos hz]
      have hB : fixedB n width s = [] := by unfold fixedB; rw [hE]; rfl
      rw [hE, hB]
      clear hE hB
      have g1 : 1 ≤ width := by omega
      have g2 : width ≤ 8 := by omega
      clear hw
      by_cases h0 : widthV n s = 0
      · have e0 : (widthV n s == 0) = true := beq_iff_eq.2 h0
        clear h0 hz hv
        go_enter Try.func64, Try.ntmps64
        go_wp2_with (go_at_call 23; refine (width_any _ _ _ h1 h2).mono ?_; rintro e w' ⟨rfl, rfl⟩)
        go_ret2
        exact ⟨_, rfl, Own.nil _ _, Below.refl _ _⟩
      · have e0 : (widthV n s == 0) = false := beq_eq_false_iff_ne.2 h0
        have e1 : width < widthV n s := by omega
        clear h0 hz hv
        go_enter Try.func64, Try.ntmps64
        go_wp2_with (go_at_call 23; refine (width_any _ _ _ h1 h2).mono ?_; rintro e w' ⟨rfl, rfl⟩)
        go_ret2
        exact ⟨_, rfl, Own.nil _ _, Below.refl _ _⟩
    · have hE : fixedE n width s = 0 := by unfold fixedE; rw [if_neg hw, if_neg hz]
      have hB : fixedB n width s = bytesOf width.toNat n := by unfold fixedB; rw [hE]; rfl
      rw [hE, hB]
      obtain ⟨k, rfl⟩ := Int.eq_ofNat_of_zero_le (show 0 ≤ width by omega)
      refine (fixed_ok n k s w h1 h2 (by omega) (by omega) (by omega) (by omega)).mono ?_
      rintro e w' ⟨v, rfl, ho, hb⟩
      exact ⟨v, rfl, ⟨by rw [Int.toNat_natCast, bytesOf_length]; exact ho, bytesOf_bd _ _⟩, hb⟩

attribute [irreducible] fixedE fixedB
set_option maxHeartbeats 400000 in
theorem uint_any (n width : Int) (w : World) (h1 : -9223372036854775808 ≤ n) (h2 : n ≤ 9223372036854775807) :
    Calls Try.prog 16 #[.int .i64 n, .int .i64 width] w fun e w' =>
      ∃ v, e = .returned (.tuple #[v, .int .i64 (fixedE n width false)]) ∧ Own w' w.heap.size v (fixedB n width false) ∧ Below w.heap.size w w' := by
  go_enter Try.func16, Try.ntmps16
  go_wp2_with (go_at_call 64; refine (fixed_any _ _ _ _ h1 h2).mono ?_; rintro e w' ⟨v, rfl, ho, hb⟩)
  go_ret2
  exact ⟨_, rfl, by assumption, by assumption⟩
set_option maxHeartbeats 400000 in
theorem int_any (n width : Int) (w : World) (h1 : -9223372036854775808 ≤ n) (h2 : n ≤ 9223372036854775807) :
    Calls Try.prog 19 #[.int .i64 n, .int .i64 width] w fun e w' =>
      ∃ v, e = .returned (.tuple #[v, .int .i64 (fixedE n width true)]) ∧ Own w' w.heap.size v (fixedB n width true) ∧ Below w.heap.size w w' := by
  go_enter Try.func19, Try.ntmps19
  go_wp2_with (go_at_call 64; refine (fixed_any _ _ _ _ h1 h2).mono ?_; rintro e w' ⟨v, rfl, ho, hb⟩)
  go_ret2
  exact ⟨_, rfl, by assumption, by assumption⟩
end Go.Proofs.Ytmfijcniaehooaa
