/- What the laws on streams and proofs call besides the program: small, SameSponge, and comparisons of states and digests. -/
import Derived.Test.YtnlblmghhkmbbaaSopen
import Derived.Test.YtnlblmghhkmbbaaSsane
import Derived.Test.YtnlblmghhkmbbaaSequal
import Derived.Test.YtnlblmghhkmbbaaSabe
import Derived.Test.YtnlblmghhkmbbaaShand
import Derived.IntWalk
import Derived.Outline
import Derived.Deep.MidRow
namespace Go.Proofs.Ytnlblmghhkmbbaa
set_option linter.unusedVariables false
open Go.RowKit Go.Shelf Go.Deep

theorem items_same (w : World) (s : St) : ∀ (is : List Nat), (∀ i ∈ is, i < 8) →
    (Op.eqItems 9999 23 1 (vals s) (vals s) is).run Try.prog w = .ok true w := by
  intro is
  induction is with
  | nil => intro _; simp [Op.eqItems]
  | cons i is ih =>
    intro h
    have hi := h i (by simp)
    have p1 : (part 23 (vals s) (i * 1)).run Try.prog w = .ok (wv (s i)) w := by
      rw [Nat.mul_one, run_part_plain w (by kernel_rfl) (vals_get s i hi)]
    have e1 : (Op.equalIn 9999 23 (wv (s i)) (wv (s i))).run Try.prog w = .ok true w := by
      have := run_equalIn_int w 9998 23 .u32 .u32 ((s i).toNat : Int) ((s i).toNat : Int) Try.underlying23
      rw [show ((((s i).toNat : Int)) == (((s i).toNat : Int))) = true from by simp] at this
      exact this
    simp only [Op.eqItems, Sem.run_bind, p1, Result.andThen_ok, e1]
    simp [ih (fun j hj => h j (by simp [hj]))]
theorem eql_vals (w : World) (s : St) : (binOp .eql 41 (.agg (vals s)) (.agg (vals s))).run Try.prog w = .ok (.bool true) w := by
  obtain ⟨i, hi⟩ : ∃ i, Try.prog.info? 23 = some i := Option.isSome_iff_exists.1 (by kernel_rfl)
  rw [run_eql_struct, run_equalIn_array w 9999 (vals s) (vals s) Try.underlying41 hi]
  rw [show Try.prog.cellsOf 23 = 1 from by kernel_rfl, items_same w s (List.range 8) (by simp)]
  rfl
theorem eqIn_vals (w : World) (s : St) : (Op.equalIn 10000 41 (.agg (vals s)) (.agg (vals s))).run Try.prog w = .ok true w := by
  obtain ⟨i, hi⟩ : ∃ i, Try.prog.info? 23 = some i := Option.isSome_iff_exists.1 (by kernel_rfl)
  rw [run_equalIn_array w 9999 (vals s) (vals s) Try.underlying41 hi]
  rw [show Try.prog.cellsOf 23 = 1 from by kernel_rfl, items_same w s (List.range 8) (by simp)]
theorem eqIn_dig (w : World) (a b : List Int) (ha : a.length = 16) (hb : b.length = 16) :
    (Op.equalIn 10000 47 (.agg (digC a)) (.agg (digC b))).run Try.prog w = .ok (a == b) w := by
  obtain ⟨i, hi⟩ : ∃ i, Try.prog.info? 5 = some i := Option.isSome_iff_exists.1 (by kernel_rfl)
  rw [run_equalIn_array w 9999 (digC a) (digC b) Try.underlying47 hi]
  rw [show Try.prog.cellsOf 5 = 1 from by kernel_rfl, items_eq w a b ha hb (List.range 16) (by simp), all_eq a b ha hb]
theorem sizeState (s : St) : (Try.prog.info? 41).map (·.size) = some (vals s).size := by kernel_rfl
theorem sizeStateL (s : St) : (Try.prog.info? 41).map (·.size) = some (vals s).toList.length := by kernel_rfl

theorem run_eql_dig (w : World) (a b : List Int) (ha : a.length = 16) (hb : b.length = 16) :
    (binOp .eql 47 (.agg (digC a)) (.agg (digC b))).run Try.prog w = .ok (.bool (a == b)) w := by
  obtain ⟨i, hi⟩ : ∃ i, Try.prog.info? 5 = some i := Option.isSome_iff_exists.1 (by kernel_rfl)
  rw [run_eql_struct, run_equalIn_array w 9999 (digC a) (digC b) Try.underlying47 hi]
  rw [show Try.prog.cellsOf 5 = 1 from by kernel_rfl, items_eq w a b ha hb (List.range 16) (by simp), all_eq a b ha hb]
  rfl
/-- How much lists of bytes count. -/
def sizeN (ps : List Pc) : Nat → Nat
  | 0 => 0
  | k + 1 => sizeN ps k + (20 + (ps.getD k ⟨none, 0, 0, []⟩).len)
theorem sizeN_mono (ps : List Pc) (k j : Nat) : sizeN ps k ≤ sizeN ps (k + j) := by
  induction j with
  | zero => exact Nat.le_refl _
  | succ j ih => rw [← Nat.add_assoc, sizeN]; omega
theorem cat_size (ps : List Pc) (h : ∀ p ∈ ps, p.xs.length = p.len) (k : Nat) (hk : k ≤ ps.length) : (catV (ps.take k)).length ≤ sizeN ps k := by
  induction k with
  | zero => simp [catV, sizeN]
  | succ k ih =>
    rw [cat_snoc ps k (by omega), List.length_append, sizeN]
    have := ih (by omega)
    have h1 := h _ (List.getElem_mem (by omega : k < ps.length))
    rw [List.getD_eq_getElem?_getD, List.getElem?_eq_getElem (by omega), Option.getD_some]
    omega
def SmallPost (ps : List Pc) (len : Nat) (w : World) (e : Ending) (w' : World) : Prop := ∃ b : Bool, e = .returned (.bool b) ∧ (b = true → len ≤ 4096 → sizeN ps len ≤ 4000) ∧ w = w'
set_option maxRecDepth 100000 in
set_option maxHeartbeats 4000000 in
theorem small_any (a : Option Addr) (len cap : Nat) (ps : List Pc) (w : World) (h : RdP w a len cap ps) (hs : ∀ p ∈ ps, p.cap ≤ 140737488351232) :
    Calls Try.prog 42 #[.slice a len cap] w (SmallPost ps len w) := by
  have hl := h.hl
  have hm := h.hm
  have hc := h.hc
  unfold maxLen at hm
  have H := Lib.hid h
  have Hl := Lib.hid hl
  have Hs := Lib.hid hs
  clear h hl hs
  go_enter Try.func42, Try.ntmps42
  go_wp2_with fail
  go_loop [3, 4] (fun n i => ∃ k : Nat, k ≤ len ∧ i = .int .i64 k ∧ n = .int .i64 ((sizeN ps k : Nat) : Int) ∧ sizeN ps k ≤ 140737488355328) (fun _ i => len - (intOf i).toNat)
  case atStart => exact ⟨0, Nat.zero_le _, rfl, rfl, by simp [sizeN]⟩
  case round =>
    obtain ⟨k, hk, rfl, rfl, hN⟩ := hrel
    obtain ⟨N, hn⟩ : ∃ N, N = sizeN ps k := ⟨_, rfl⟩
    have Hn := Lib.hid hn
    rw [← hn] at hN ⊢
    by_cases hlt : k < len
    · have hli : (k : Int) < (len : Int) := by omega
      by_cases hN4 : N ≤ 4000
      · have hNi : (N : Int) ≤ 4000 := by omega
        obtain ⟨b, off, rfl, hcell⟩ := H.out.hr (by omega)
        have hl := Hl.out
        have hc' := hcell k (by omega)
        have hp := H.out.hb ps[k] (List.getElem_mem _)
        have hpc := Hs.out ps[k] (List.getElem_mem _)
        have hsn : sizeN ps (k + 1) = N + (20 + ps[k].len) := by
          rw [sizeN, ← hn, List.getD_eq_getElem?_getD, List.getElem?_eq_getElem (by omega)]; rfl
        obtain ⟨p, hpk⟩ : ∃ p, p = ps[k] := ⟨_, rfl⟩
        rw [← hpk] at hc' hp hpc hsn
        obtain ⟨pa, pl, pc, px⟩ := p
        have hpl := hp.hc
        simp only at hc' hp hpc hsn hpl
        have hk0 : (0 : Int) ≤ (k : Int) := by omega
        have hpl2 : (pl : Int) ≤ 140737488351232 := by omega
        have hpl3 : (0 : Int) ≤ (pl : Int) := by omega
        have Hsn := Lib.hid hsn
        have hbd : N + (20 + pl) ≤ 140737488355328 := by omega
        have Hbd := Lib.hid hbd
        clear hcell hpk hp hn hsn hl hbd
        go_wp2_with fail
        go_round
        case rel => exact ⟨k + 1, by omega, by go_num, by rw [Hsn.out]; go_num, by rw [Hsn.out]; exact Hbd.out⟩
        case measure => simp [intOf]; omega
      · have hNi : ¬ (N : Int) ≤ 4000 := by omega
        have hge : 4000 < sizeN ps len := by
          have := sizeN_mono ps k (len - k)
          rw [show k + (len - k) = len by omega] at this
          omega
        have Hge := Lib.hid hge
        clear hn hge
        by_cases h4 : (4096 : Int) < (len : Int)
        all_goals
          go_wp2_with fail
          go_ret
          first
            | exact ⟨_, rfl, (fun _ h => by omega), rfl⟩
            | exact ⟨_, rfl, (fun h => by cases h), rfl⟩
    · obtain rfl : k = len := by omega
      by_cases hN4 : N ≤ 4000
      · have hNi : (N : Int) ≤ 4000 := by omega
        clear hn
        go_wp2_with fail
        go_ret
        exact ⟨_, rfl, (fun _ _ => by rw [← Hn.out]; exact hN4), rfl⟩
      · have hNi : ¬ (N : Int) ≤ 4000 := by omega
        clear hn
        by_cases h4 : (4096 : Int) < (k : Int)
        all_goals
          go_wp2_with fail
          go_ret
          first
            | exact ⟨_, rfl, (fun _ h => by omega), rfl⟩
            | exact ⟨_, rfl, (fun h => by cases h), rfl⟩
theorem blk_state {w : World} {g : Nat} {t : TypeId} {s : St} {v : Value} (h : Blk w g t (spongeC s v)) : w.rangeAt g 0 (vals s).toList := by
  intro j u hu
  rw [Nat.zero_add, h.cell j]
  have hj : j < 8 := by
    have := (List.getElem?_eq_some_iff.1 hu).1
    have e : (vals s).toList.length = 8 := by rfl
    omega
  rw [← hu, Array.getElem?_toList]
  have : j = 0 ∨ j = 1 ∨ j = 2 ∨ j = 3 ∨ j = 4 ∨ j = 5 ∨ j = 6 ∨ j = 7 := by omega
  rcases this with rfl | rfl | rfl | rfl | rfl | rfl | rfl | rfl <;> rfl
attribute [local irreducible] vals spongeC
set_option maxRecDepth 100000 in
set_option maxHeartbeats 4000000 in
theorem sameS_any (s : St) (ra : Option Addr) (rl rc : Nat) (ta : Option Addr) (tl tc : Nat) (xs : List Int) (w : World) (h1 : Rd w ra rl rc xs) (h2 : Rd w ta tl tc xs) :
    Calls Try.prog 33 #[.agg (spongeC s (.slice ra rl rc)), .agg (spongeC s (.slice ta tl tc))] w fun e w' => e = .returned (.bool true) ∧ Below w.heap.size w w' := by
  obtain ⟨W2, hW2⟩ : ∃ W2, W2 = (w.alloc (.cells (spongeC s (.slice ra rl rc)) 43)).alloc (.cells (spongeC s (.slice ta tl tc)) 43) := ⟨_, rfl⟩
  have hb2 : Below w.heap.size w W2 := by rw [hW2]; exact ((Below.refl _ w).alloc (Nat.le_refl _) _).alloc (by simp) _
  have hg1 : Blk W2 w.heap.size 43 (spongeC s (.slice ra rl rc)) := by rw [hW2]; exact (Below.heap_alloc _ _ _ (by simp)).trans (heap_new w _)
  have hg2 : Blk W2 (w.heap.size + 1) 43 (spongeC s (.slice ta tl tc)) := by rw [hW2]; exact heap_alloc2_new w _ _
  have k1 := (h1.below hb2 (Nat.le_refl _)).convAny
  have k2 := (h2.below hb2 (Nat.le_refl _)).convAny
  obtain ⟨S, hS⟩ : ∃ S, S = strOfNums xs := ⟨_, rfl⟩
  rw [← hS] at k1 k2
  have q1 : W2.cell? ⟨w.heap.size, 8, none⟩ = some (.slice ra rl rc) := by rw [hg1.cell 8]; unfold spongeC; rfl
  have q2 : W2.cell? ⟨w.heap.size + 1, 8, none⟩ = some (.slice ta tl tc) := by rw [hg2.cell 8]; unfold spongeC; rfl
  have R1 := Lib.hid (blk_state hg1)
  have R2 := Lib.hid (blk_state hg2)
  have HW2 := Lib.hid hW2
  have Hb2 := Lib.hid hb2
  have hE := eqIn_vals W2 s
  have L := Lib.hid (sizeStateL s)
  clear hW2 hb2 hg1 hg2 hS h1 h2
  go_enter Try.func33, Try.ntmps33
  go_upto_region 1 with fail
  rw [← HW2.out]
  go_wp2_with (first
    | (refine wpList_load_mid rfl 41 (.tmp 5) rfl w.heap.size 0 rfl (vals s).toList _ R1.out Try.underlying41 rfl L.out ?_; rw [Array.toArray_toList])
    | (refine wpList_load_mid rfl 41 (.tmp 7) rfl (w.heap.size + 1) 0 rfl (vals s).toList _ R2.out Try.underlying41 rfl L.out ?_; rw [Array.toArray_toList]))
  go_ret
  exact ⟨rfl, Hb2.out⟩
end Go.Proofs.Ytnlblmghhkmbbaa
