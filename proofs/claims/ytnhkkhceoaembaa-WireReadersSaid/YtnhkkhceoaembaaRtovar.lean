/- The reference's ToVar, told in plain values. -/
import Derived.Test.YtnhkkhceoaembaaRvar
namespace Go.Proofs.Ytnhkkhceoaembaa
set_option linter.unusedVariables false
open Go.RowKit

theorem Try.sizeNum (u v x : Value) : (Try.prog.info? 34).map (·.size) = some (#[u, v, x] : Array Value).size := by kernel_rfl
theorem oneNum (n m k : Int) : (#[.int .i64 n, .int .i64 m, .int .i64 k] : Array Value).all (fun x => x.oneCell') = true := by kernel_rfl
/-- A number of the reference. -/
def num (p : Int × Int × Int) : Ending := .returned (.agg #[.int .i64 p.1, .int .i64 p.2.1, .int .i64 p.2.2])
theorem num_eq {a b c : Int} {p : Int × Int × Int} (h : p = (a, b, c)) : Ending.returned (.agg #[.int .i64 a, .int .i64 b, .int .i64 c]) = num p := by rw [h]; rfl
theorem add_step7 (a c : Int) (k : Nat) (hk : k ≤ 8) (ha : 0 ≤ a) (ha' : a < 128 ^ k) (hx : 0 ≤ c) (hx' : c ≤ 127) :
    wrap64 (a + wrap64 (c * 2 ^ (7 * k))) = a + c * 128 ^ k ∧ 0 ≤ a + c * 128 ^ k ∧ a + c * 128 ^ k < 128 ^ (k + 1) := by
  have hp := pow7_bd k hk
  have h1 : (0 : Int) ≤ c * 128 ^ k := Int.mul_nonneg hx (by omega)
  have h2 : c * 128 ^ k ≤ 127 * 128 ^ k := Int.mul_le_mul_of_nonneg_right hx' (by omega)
  have e2 : wrap64 (c * 128 ^ k) = c * 128 ^ k := by unfold wrap64; omega
  rw [Int.pow_succ, two_128, e2]
  refine ⟨?_, by omega, by omega⟩
  unfold wrap64; omega
set_option maxRecDepth 100000 in
set_option maxHeartbeats 1000000 in
theorem refToVar_any (a : Option Addr) (len cap : Nat) (xs : List Int) (w : World) (h : Rd w a len cap xs) :
    Calls Try.prog 28 #[.slice a len cap] w fun e w' => e = num (toVarV xs) ∧ Below w.heap.size w w' := by
  obtain ⟨hl, hc, hm, hb, hn, hr⟩ := h
  unfold maxLen at hm
  have hg0 := heap_alloc_last w (.cells #[.int .i64 0, .int .i64 0, .int .i64 0] 34)
  obtain ⟨W0, hW0⟩ : ∃ W0, W0 = w.alloc (.cells #[.int .i64 0, .int .i64 0, .int .i64 0] 34) := ⟨_, rfl⟩
  have hs0 : W0.heap.size = w.heap.size + 1 := by rw [hW0]; simp
  have hb0 : Below w.heap.size w W0 := by rw [hW0]; exact (Below.refl _ w).alloc (Nat.le_refl _) _
  rw [← hW0] at hg0
  have Hb0 := Lib.hid hb0
  have HW0 := Lib.hid hW0
  have Hg := Lib.hid hg0
  have Hr := Lib.hid hr
  have Hb := Lib.hid hb
  clear hg0 hW0 hb0 hr hn hb
  go_enter Try.func28, Try.ntmps28
  go_wp2_with fail
  rw [← HW0.out]
  clear HW0
  go_loopw [3, 4] (fun t i wr => ∃ (k : Nat) (acc : Int), k ≤ 9 ∧ k ≤ len ∧ i = .int .i64 k ∧ t = .int .i64 acc ∧ 0 ≤ acc ∧ acc < 128 ^ k ∧ toVarV xs = tvL k acc ((xs.take 9).drop k) ∧ wr = W0) (fun _ i _ => 9 - (intOf i).toNat)
  case atStart => exact ⟨0, 0, by decide, Nat.zero_le _, rfl, rfl, by omega, by decide, rfl, rfl⟩
  case round =>
    obtain ⟨k, acc, hk9, hkl, rfl, rfl, ha0, ha1, hv, rfl⟩ := hrel
    by_cases h9 : k = 9
    · have Hf : Hid (toVarV xs = (0, 0, 4)) := Lib.hid (by rw [hv, List.drop_of_length_le (by simp; omega), tvL])
      clear hv
      subst h9
      go_wp2_with (refine wpList_store_row rfl 34 (.tmp 2) (.tmp 44) rfl w.heap.size #[.int .i64 0, .int .i64 0, .int .i64 4] rfl rfl 34 #[.int .i64 0, .int .i64 0, .int .i64 0] Hg.out (Try.sizeNum _ _ _) rfl (oneNum _ _ _) ?_)
      refine bodyPost_ret (v := .agg #[.int .i64 0, .int .i64 0, .int .i64 4]) ?_ rfl ?_
      · exact results_cell_row rfl _ _ w.heap.size 34 #[.int .i64 0, .int .i64 0, .int .i64 4] (0, 0) _ rfl (setRow_heap _ _ _ _ _ _ Hg.out) Try.underlying34 rfl (Try.sizeNum _ _ _)
      · exact ⟨num_eq Hf.out, Hb0.out.trans (below_setRow' _ _ _ _ (Nat.le_refl _))⟩
    · by_cases hlt : k < len
      · obtain ⟨b, off, rfl, hcell⟩ := Hr.out (by omega)
        have hcw := World.block_lt_of_cell? w _ (hcell 0 (by omega))
        have hc' : wr.cell? ⟨b, off + k, none⟩ = some (.int .u8 (xs.getD k 0)) := by rw [Hb0.out.cell (by exact hcw)]; exact hcell k hlt
        have hxb := Hb.out (xs.getD k 0) (by rw [getD_at _ _ (by omega)]; exact List.getElem_mem _)
        obtain ⟨x, hx⟩ : ∃ x, x = xs.getD k 0 := ⟨_, rfl⟩
        rw [← hx] at hc' hxb
        have hd : (xs.take 9).drop k = x :: (xs.take 9).drop (k + 1) := by
          rw [List.drop_eq_getElem_cons (by simp; omega)]
          simp only [List.getElem_take, List.cons.injEq, and_true]
          rw [hx, getD_at _ _ (by omega)]
        rw [hd] at hv
        have Hv := Lib.hid hv
        have hor := add_step7 acc (x % 128) k (by omega) ha0 ha1 (by omega) (by omega)
        clear hv hd hx hcell hl
        by_cases hB : x < 128
        · by_cases hA : x = 0 ∧ 0 < k
          · have Hf : Hid (toVarV xs = (0, 0, 4)) := Lib.hid (by rw [Hv.out, tvL, if_pos hA])
            obtain ⟨hA1, hA2⟩ := hA
            subst hA1
            clear hor
            go_wp2_with (refine wpList_store_row rfl 34 (.tmp 2) (.tmp 39) rfl w.heap.size #[.int .i64 0, .int .i64 0, .int .i64 4] rfl rfl 34 #[.int .i64 0, .int .i64 0, .int .i64 0] Hg.out (Try.sizeNum _ _ _) rfl (oneNum _ _ _) ?_)
            refine bodyPost_ret (v := .agg #[.int .i64 0, .int .i64 0, .int .i64 4]) ?_ rfl ?_
            · exact results_cell_row rfl _ _ w.heap.size 34 #[.int .i64 0, .int .i64 0, .int .i64 4] (0, 0) _ rfl (setRow_heap _ _ _ _ _ _ Hg.out) Try.underlying34 rfl (Try.sizeNum _ _ _)
            · exact ⟨num_eq Hf.out, Hb0.out.trans (below_setRow' _ _ _ _ (Nat.le_refl _))⟩
          · have Hf : Hid (toVarV xs = (acc + x % 128 * 128 ^ k, (k : Int) + 1, 0)) := Lib.hid (by rw [Hv.out, tvL, if_neg hA, if_pos hB])
            have Ho := Lib.hid hor.1
            clear hor
            by_cases hx0 : x = 0
            · have hk0 : k ≤ 0 := by omega
              have e0 : (x == 0) = true := by simp [hx0]
              clear hx0 hA
              go_wp2_with (refine wpList_store_row rfl 34 (.tmp 2) (.tmp 43) rfl w.heap.size #[.int .i64 (wrap64 (acc + wrap64 (x % 128 * 2 ^ (7 * k)))), .int .i64 ((k : Int) + 1), .int .i64 0] rfl rfl 34 #[.int .i64 0, .int .i64 0, .int .i64 0] Hg.out (Try.sizeNum _ _ _) rfl (oneNum _ _ _) ?_)
              refine bodyPost_ret (v := .agg #[.int .i64 (wrap64 (acc + wrap64 (x % 128 * 2 ^ (7 * k)))), .int .i64 ((k : Int) + 1), .int .i64 0]) ?_ rfl ?_
              · exact results_cell_row rfl _ _ w.heap.size 34 #[.int .i64 (wrap64 (acc + wrap64 (x % 128 * 2 ^ (7 * k)))), .int .i64 ((k : Int) + 1), .int .i64 0] (0, 0) _ rfl (setRow_heap _ _ _ _ _ _ Hg.out) Try.underlying34 rfl (Try.sizeNum _ _ _)
              · exact ⟨num_eq (by rw [Hf.out, Ho.out]), Hb0.out.trans (below_setRow' _ _ _ _ (Nat.le_refl _))⟩
            · clear hA
              go_wp2_with (refine wpList_store_row rfl 34 (.tmp 2) (.tmp 43) rfl w.heap.size #[.int .i64 (wrap64 (acc + wrap64 (x % 128 * 2 ^ (7 * k)))), .int .i64 ((k : Int) + 1), .int .i64 0] rfl rfl 34 #[.int .i64 0, .int .i64 0, .int .i64 0] Hg.out (Try.sizeNum _ _ _) rfl (oneNum _ _ _) ?_)
              refine bodyPost_ret (v := .agg #[.int .i64 (wrap64 (acc + wrap64 (x % 128 * 2 ^ (7 * k)))), .int .i64 ((k : Int) + 1), .int .i64 0]) ?_ rfl ?_
              · exact results_cell_row rfl _ _ w.heap.size 34 #[.int .i64 (wrap64 (acc + wrap64 (x % 128 * 2 ^ (7 * k)))), .int .i64 ((k : Int) + 1), .int .i64 0] (0, 0) _ rfl (setRow_heap _ _ _ _ _ _ Hg.out) Try.underlying34 rfl (Try.sizeNum _ _ _)
              · exact ⟨num_eq (by rw [Hf.out, Ho.out]), Hb0.out.trans (below_setRow' _ _ _ _ (Nat.le_refl _))⟩
        · have Hf : Hid (toVarV xs = tvL (k + 1) (acc + x % 128 * 128 ^ k) ((xs.take 9).drop (k + 1))) := Lib.hid (by rw [Hv.out, tvL, if_neg (by omega), if_neg hB])
          have Ho := Lib.hid hor
          clear hor
          go_wp2
          go_roundw
          case rel => exact ⟨k + 1, acc + x % 128 * 128 ^ k, by omega, by omega, by go_num, by rw [Ho.out.1], Ho.out.2.1, Ho.out.2.2, Hf.out, by first | trivial | rfl⟩
          case measure => simp [intOf]; omega
      · have Hf : Hid (toVarV xs = (0, 0, 4)) := Lib.hid (by rw [hv, List.drop_of_length_le (by simp; omega), tvL])
        clear hv
        go_wp2_with (refine wpList_store_row rfl 34 (.tmp 2) (.tmp 13) rfl w.heap.size #[.int .i64 0, .int .i64 0, .int .i64 4] rfl rfl 34 #[.int .i64 0, .int .i64 0, .int .i64 0] Hg.out (Try.sizeNum _ _ _) rfl (oneNum _ _ _) ?_)
        refine bodyPost_ret (v := .agg #[.int .i64 0, .int .i64 0, .int .i64 4]) ?_ rfl ?_
        · exact results_cell_row rfl _ _ w.heap.size 34 #[.int .i64 0, .int .i64 0, .int .i64 4] (0, 0) _ rfl (setRow_heap _ _ _ _ _ _ Hg.out) Try.underlying34 rfl (Try.sizeNum _ _ _)
        · exact ⟨num_eq Hf.out, Hb0.out.trans (below_setRow' _ _ _ _ (Nat.le_refl _))⟩
end Go.Proofs.Ytnhkkhceoaembaa
