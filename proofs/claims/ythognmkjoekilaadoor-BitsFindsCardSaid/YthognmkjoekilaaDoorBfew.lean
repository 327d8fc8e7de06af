/- Whether bitmaps are short enough to be looked at; counting all bits; the test of a zero bitmap. -/
import Derived.Test.YthognmkjoekilaaDoorBtold
import Derived.Test.YthognmkjoekilaaDoorBands
namespace Go.Proofs.YthognmkjoekilaaDoor
set_option linter.unusedVariables false
open Go.RowKit Go.Shelf

/-- A bitmap that is short enough. -/
def fewV (N : Int) (l : Nat) : Bool := decide (l ≤ 300) && (decide (N ≤ 2000) || decide (65536 < N))
theorem all_no {n k : Nat} {p : Nat → Bool} (hk : k < n) (h : p k = false) : (List.range n).all p = false := by
  rw [List.all_eq_false]
  exact ⟨k, List.mem_range.mpr hk, by simp [h]⟩
set_option maxRecDepth 100000 in
set_option maxHeartbeats 1000000 in
theorem few_any (g n : Nat) (Ns : Nat → Int) (ad : Nat → Option Addr) (ls cs : Nat → Nat) (w : World) (hn : n ≤ 2)
    (h : ∀ k, k < n → w.cell? ⟨g, k * 2, none⟩ = some (.int .i64 (Ns k)) ∧ w.cell? ⟨g, k * 2 + 1, none⟩ = some (.slice (ad k) (ls k) (cs k))) :
    Calls Tryd.prog 12 #[.slice (some ⟨g, 0, none⟩) n n] w fun e w' => e = .returned (.bool ((List.range n).all fun k => fewV (Ns k) (ls k))) ∧ w = w' := by
  obtain ⟨R, hR⟩ : ∃ R, R = (List.range n).all fun k => fewV (Ns k) (ls k) := ⟨_, rfl⟩
  have Hh := Lib.hid h
  have HR := Lib.hid hR
  rw [← hR]
  clear h hR
  go_enter Tryd.func12, Tryd.ntmps12
  go_wp2_with fail
  go_loop [3] (fun i => ∃ k : Nat, k ≤ n ∧ i = .int .i64 k ∧ ∀ j, j < k → fewV (Ns j) (ls j) = true) (fun i => n - (intOf i).toNat)
  case atStart => exact ⟨0, Nat.zero_le _, rfl, fun j hj => absurd hj (by omega)⟩
  case round =>
    obtain ⟨k, hk, rfl, hall⟩ := hrel
    have Hall := Lib.hid hall
    clear hall
    by_cases hlt : k < n
    · obtain ⟨c0, c1⟩ := Hh.out k hlt
      have hno := fun h => all_no (p := fun k => fewV (Ns k) (ls k)) hlt h
      rw [← HR.out] at hno
      have hyes : fewV (Ns k) (ls k) = true → ∀ j, j < k + 1 → fewV (Ns j) (ls j) = true := fun h j hj => by
        by_cases e : j = k
        · subst e; exact h
        · exact Hall.out j (by omega)
      obtain ⟨N, hN⟩ : ∃ N, N = Ns k := ⟨_, rfl⟩
      obtain ⟨L, hL⟩ : ∃ L, L = ls k := ⟨_, rfl⟩
      rw [← hN] at c0 hno hyes
      rw [← hL] at c1 hno hyes
      have Hno := Lib.hid hno
      have Hyes := Lib.hid hyes
      have hki : (k : Int) < (n : Int) := by omega
      clear hN hL hno hyes Hh Hall
      by_cases d1 : 300 < L
      · have d1i : (300 : Int) < (L : Int) := by omega
        have hf : R = false := Hno.out (by unfold fewV; simp; omega)
        have Hf := Lib.hid hf
        clear Hno Hyes HR hf
        go_wp2
        go_ret
        exact ⟨by rw [Hf.out]; rfl, rfl⟩
      · have d1i : (L : Int) ≤ 300 := by omega
        by_cases d2 : 2000 < N
        · by_cases d3 : N ≤ 65536
          · have hf : R = false := Hno.out (by unfold fewV; simp; omega)
            have Hf := Lib.hid hf
            clear Hno Hyes HR hf
            go_wp2
            go_ret
            exact ⟨by rw [Hf.out]; rfl, rfl⟩
          · have d3i : 65536 < N := by omega
            have hy := Hyes.out (by unfold fewV; simp; omega)
            have Hy := Lib.hid hy
            clear Hno Hyes hy d3
            go_wp2
            go_round
            case rel => exact ⟨k + 1, by omega, by go_num, Hy.out⟩
            case measure => simp [intOf]; omega
        · have d2i : N ≤ 2000 := by omega
          have hy := Hyes.out (by unfold fewV; simp; omega)
          have Hy := Lib.hid hy
          clear Hno Hyes hy d2
          go_wp2
          go_round
          case rel => exact ⟨k + 1, by omega, by go_num, Hy.out⟩
          case measure => simp [intOf]; omega
    · obtain rfl : k = n := by omega
      have hf : R = true := by rw [HR.out, List.all_eq_true]; exact fun j hj => Hall.out j (List.mem_range.mp hj)
      have Hf := Lib.hid hf
      clear HR Hall hf Hh
      go_wp2
      go_ret
      exact ⟨by rw [Hf.out]; rfl, rfl⟩
theorem few1_any (g : Nat) (N : Int) (a : Option Addr) (l c : Nat) (w : World) (h : Blk w g 24 #[.int .i64 N, .slice a l c]) :
    Calls Tryd.prog 12 #[.slice (some ⟨g, 0, none⟩) 1 1] w fun e w' => e = .returned (.bool (fewV N l)) ∧ w = w' := by
  have := few_any g 1 (fun _ => N) (fun _ => a) (fun _ => l) (fun _ => c) w (by omega) (fun k hk => by
    obtain rfl : k = 0 := by omega
    exact ⟨h.cell 0, h.cell 1⟩)
  simpa using this
theorem few2_any (g : Nat) (N : Int) (a : Option Addr) (l c : Nat) (N2 : Int) (a2 : Option Addr) (l2 c2 : Nat) (w : World) (h : Blk w g 24 #[.int .i64 N, .slice a l c, .int .i64 N2, .slice a2 l2 c2]) :
    Calls Tryd.prog 12 #[.slice (some ⟨g, 0, none⟩) 2 2] w fun e w' => e = .returned (.bool (fewV N l && fewV N2 l2)) ∧ w = w' := by
  have := few_any g 2 (fun k => if k = 0 then N else N2) (fun k => if k = 0 then a else a2) (fun k => if k = 0 then l else l2) (fun k => if k = 0 then c else c2) w (by omega) (fun k hk => by
    have : k = 0 ∨ k = 1 := by omega
    rcases this with rfl | rfl
    · exact ⟨h.cell 0, h.cell 1⟩
    · exact ⟨h.cell 2, h.cell 3⟩)
  simpa [List.range_succ] using this
end Go.Proofs.YthognmkjoekilaaDoor
