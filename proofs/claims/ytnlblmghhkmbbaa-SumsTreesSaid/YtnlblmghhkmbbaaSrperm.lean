/- The reference's permutation and its inverse. -/
import Derived.Test.YtnlblmghhkmbbaaSperm
import Derived.Test.YtnlblmghhkmbbaaSundo
import Derived.IntWalk
namespace Go.Proofs.Ytnlblmghhkmbbaa
set_option linter.unusedVariables false
open Go.RowKit

set_option maxRecDepth 100000 in
theorem rotR_of (n : Int) (x : B32) (hx : n = (x.toNat : Int)) (k : Int) (s : Nat) (h : (k = 7 ∧ s = 7) ∨ (k = 16 ∧ s = 16) ∨ (k = 25 ∧ s = 25)) (w : World) :
    Calls Try.prog 66 #[.int .u32 n, .int .i64 k] w fun e w' => e = .returned (.int .u32 ((rotL x s).toNat : Int)) ∧ ∃ m, w' = w.drewN m := by
  subst hx
  have hb := b_bd x
  rcases h with ⟨rfl, rfl⟩ | ⟨rfl, rfl⟩ | ⟨rfl, rfl⟩
  · have H := Lib.hid (rot_or x 7)
    go_enter Try.func66, Try.ntmps66
    go_wp2_with fail
    go_quiet (fail)
    go_wp2_with fail
    go_ret
    exact ⟨ret_int_ (by rw [← H.out]; rfl), _, rfl⟩
  · have H := Lib.hid (rot_or x 16)
    go_enter Try.func66, Try.ntmps66
    go_wp2_with fail
    go_quiet (fail)
    go_wp2_with fail
    go_ret
    exact ⟨ret_int_ (by rw [← H.out]; rfl), _, rfl⟩
  · have H := Lib.hid (rot_or x 25)
    go_enter Try.func66, Try.ntmps66
    go_wp2_with fail
    go_quiet (fail)
    go_wp2_with fail
    go_ret
    exact ⟨ret_int_ (by rw [← H.out]; rfl), _, rfl⟩
attribute [local irreducible] rotL
set_option maxRecDepth 100000 in
set_option maxHeartbeats 4000000 in
theorem rpermute_any (s : St) (w : World) : Calls Try.prog 37 #[.agg (vals s)] w fun e w' => e = .returned (.agg (vals (permV s))) ∧ Below w.heap.size w w' := by
  obtain ⟨W0, hW0⟩ : ∃ W0, W0 = (w.alloc (.cells (vals s) 41)).alloc (.cells (vals (fun _ => 0#32)) 41) := ⟨_, rfl⟩
  have hg1 : Blk W0 w.heap.size 41 (vals s) := by rw [hW0]; exact (Below.heap_alloc _ _ _ (by simp)).trans (heap_new w _)
  have hg2 : Blk W0 (w.heap.size + 1) 41 (vals (fun _ => 0#32)) := by rw [hW0]; exact heap_alloc2_new w _ _
  have hb0 : Below w.heap.size w W0 := by rw [hW0]; exact ((Below.refl _ w).alloc (Nat.le_refl _) _).alloc (by simp) _
  have Hg1 := Lib.hid hg1
  have Hg2 := Lib.hid hg2
  have Hb0 := Lib.hid hb0
  rw [vals_lit s, vals_lit (fun _ => 0#32)] at hW0
  have HW0 := Lib.hid hW0
  clear hW0 hg1 hg2 hb0
  rw [vals_lit s]
  go_enter Try.func37, Try.ntmps37
  go_wp2_with fail
  have hz : ((0#32 : B32).toNat : Int) = 0 := rfl
  rw [hz] at HW0
  rw [← HW0.out]
  clear HW0 hz
  go_loopw [3] (fun r wr => ∃ k : Nat, k ≤ 12 ∧ r = .int .i64 k ∧ Blk wr w.heap.size 41 (vals (perms k s)) ∧ Blk wr (w.heap.size + 1) 41 (vals (fun _ => 0#32)) ∧ Below w.heap.size w wr) (fun r _ => 12 - (intOf r).toNat)
  case atStart => exact ⟨0, Nat.zero_le _, rfl, Hg1.out, Hg2.out, Hb0.out⟩
  case round =>
    obtain ⟨k, hk, rfl, hblk, hzero, hb⟩ := hrel
    by_cases hlt : k < 12
    · obtain ⟨σ, hσ⟩ : ∃ σ, σ = perms k s := ⟨_, rfl⟩
      rw [← hσ] at hblk
      have q0 : wr.cell? ⟨w.heap.size, 0, none⟩ = some (.int .u32 ((σ 0).toNat : Int)) := hblk.cell 0
      have f0 := hblk.frozen 0
      have hsz := hblk.lt
      obtain ⟨K, hm, hx⟩ := b_round2 k hlt (σ 0)
      obtain ⟨y0, hy0⟩ : ∃ y, y = σ 0 ^^^ BitVec.ofNat 32 (k + 1) * roundK := ⟨_, rfl⟩
      rw [← hy0] at hx
      have Hy0 := Lib.hid hy0
      clear hy0
      have HBlk := Lib.hid hblk
      have HZ := Lib.hid hzero
      have Hb := Lib.hid hb
      have Hσ := Lib.hid hσ
      have hkd : decide ((k : Int) < 12) = true := decide_eq_true (by omega)
      clear hblk hzero hb hσ
      go_wp2_with fail
      rw [hm]
      have hb1 : Blk (wr.setCell ⟨w.heap.size, 0, none⟩ (.int .u32 (y0.toNat : Int))) w.heap.size 41 (vals (upd σ 0 y0)) := by
        have := HBlk.out.set_ 0 (.int .u32 (y0.toNat : Int))
        rwa [vals_set σ 0 y0 (by omega)] at this
      have hz1 := HZ.out.other (g := w.heap.size) (by omega) 0 (.int .u32 (y0.toNat : Int))
      have hbb : Below w.heap.size w (wr.setCell ⟨w.heap.size, 0, none⟩ (.int .u32 (y0.toNat : Int))) := Hb.out.setCell (Nat.le_refl _) _
      obtain ⟨W1, hW1⟩ : ∃ W1, W1 = wr.setCell ⟨w.heap.size, 0, none⟩ (.int .u32 (y0.toNat : Int)) := ⟨_, rfl⟩
      rw [← hW1] at hb1 hz1 hbb ⊢
      obtain ⟨σ1, hσ1⟩ : ∃ z, z = upd σ 0 y0 := ⟨_, rfl⟩
      rw [← hσ1] at hb1
      have Hσ1 := Lib.hid hσ1
      have HB1 := Lib.hid hb1
      have HZ1 := Lib.hid hz1
      have Hbb := Lib.hid hbb
      clear hW1 hb1 hz1 hbb hσ1 q0 f0 hx HBlk HZ Hb hsz
      go_loopw [4] (fun i wi => ∃ j : Nat, j ≤ 4 ∧ i = .int .i64 j ∧ Blk wi w.heap.size 41 (vals (mixes j σ1)) ∧ Blk wi (w.heap.size + 1) 41 (vals (fun _ => 0#32)) ∧ Below w.heap.size w wi) (fun i _ => 4 - (intOf i).toNat)
      case atStart => exact ⟨0, Nat.zero_le _, rfl, HB1.out, HZ1.out, Hbb.out⟩
      case round =>
        obtain ⟨j, hj, rfl, hblk, hzero, hb⟩ := hrel
        by_cases hjl : j < 4
        · obtain ⟨τ, hτ⟩ : ∃ τ, τ = mixes j σ1 := ⟨_, rfl⟩
          rw [← hτ] at hblk
          have Hτ := Lib.hid hτ
          clear hτ
          have q0 : wr.cell? ⟨w.heap.size, j, none⟩ = some (.int .u32 ((τ j).toNat : Int)) := by rw [hblk.cell j, vals_get τ j (by omega)]; rfl
          have q4 : wr.cell? ⟨w.heap.size, j + 4, none⟩ = some (.int .u32 ((τ (j + 4)).toNat : Int)) := by rw [hblk.cell (j + 4), vals_get τ (j + 4) (by omega)]; rfl
          have f0 := hblk.frozen j
          have f4 := hblk.frozen (j + 4)
          have hsz := hblk.lt
          obtain ⟨t0, ht0⟩ : ∃ x, x = τ j := ⟨_, rfl⟩
          obtain ⟨t4, ht4⟩ : ∃ x, x = τ (j + 4) := ⟨_, rfl⟩
          rw [← ht0] at q0
          rw [← ht4] at q4
          have hadd := b_add t0 t4
          obtain ⟨sm, hsm⟩ : ∃ x, x = t0 + t4 := ⟨_, rfl⟩
          rw [← hsm] at hadd
          obtain ⟨r7, hr7⟩ : ∃ x, x = rotL t4 7 := ⟨_, rfl⟩
          obtain ⟨r16, hr16⟩ : ∃ x, x = rotL sm 16 := ⟨_, rfl⟩
          have hxo := b_xor r7 sm
          obtain ⟨y4, hy4⟩ : ∃ x, x = r7 ^^^ sm := ⟨_, rfl⟩
          rw [← hy4] at hxo
          have hj0 : (0 : Int) ≤ (j : Int) := by omega
          have hj3 : (j : Int) < 4 := by omega
          have hj8 : (j : Int) < 8 := by omega
          have hj9 : (0 : Int) ≤ (j : Int) + 4 := by omega
          have hj10 : (j : Int) + 4 < 8 := by omega
          have hjw : IntKind.i64.wrap ((j : Int) + 4) = (j : Int) + 4 := IntWalk.i64_in _ (by omega)
          have hjn : ((j : Int) + 4).toNat = j + 4 := by omega
          have HS := Lib.hid (show sm = τ j + τ (j + 4) ∧ r7 = rotL (τ (j + 4)) 7 ∧ r16 = rotL sm 16 ∧ y4 = r7 ^^^ sm from by rw [← ht0, ← ht4]; exact And.intro hsm (And.intro hr7 (And.intro hr16 hy4)))
          have R7 := Lib.hid hr7
          have R16 := Lib.hid hr16
          have HBlk := Lib.hid hblk
          have HZ := Lib.hid hzero
          have Hb := Lib.hid hb
          have Hjl := Lib.hid hjl
          clear hblk hzero hb hsm hr7 hr16 hy4 hj ht0 ht4 hjl
          go_wp2_with fail
          go_quiet (fail)
          go_wp2_with fail
          refine (rotR_of _ t4 rfl 7 7 (by simp) _).mono ?_
          rintro e u ⟨rfl, n1, rfl⟩
          rw [← R7.out]
          go_wp2_with fail
          refine (rotR_of _ sm rfl 16 16 (by simp) _).mono ?_
          rintro e u ⟨rfl, n2, rfl⟩
          rw [← R16.out]
          go_wp2_with fail
          go_roundw
          case rel => exact ⟨j + 1, by have := Hjl.out; omega, by go_num, (mix_rel (w := wr.drewN (nq + n1)) τ σ1 j Hτ.out Hjl.out HS.out (HBlk.out.same rfl)).same rfl, (((HZ.out.same (w' := wr.drewN (nq + n1)) rfl).other (by omega) _ _).other (by omega) _ _).same rfl, (below_drewN ((below_drewN Hb.out (nq + n1)).setCell (Nat.le_refl _) _) n2).setCell (Nat.le_refl _) _⟩
          case measure => simp [intOf]; have := Hjl.out; omega
        · obtain rfl : j = 4 := by omega
          have p4 : wr.cell? ⟨w.heap.size, 4, none⟩ = some (.int .u32 ((mixes 4 σ1 4).toNat : Int)) := hblk.cell 4
          have p5 : wr.cell? ⟨w.heap.size, 5, none⟩ = some (.int .u32 ((mixes 4 σ1 5).toNat : Int)) := hblk.cell 5
          have p6 : wr.cell? ⟨w.heap.size, 6, none⟩ = some (.int .u32 ((mixes 4 σ1 6).toNat : Int)) := hblk.cell 6
          have p7 : wr.cell? ⟨w.heap.size, 7, none⟩ = some (.int .u32 ((mixes 4 σ1 7).toNat : Int)) := hblk.cell 7
          have f4 := hblk.frozen 4
          have f5 := hblk.frozen 5
          have f6 := hblk.frozen 6
          have f7 := hblk.frozen 7
          have hsz := hblk.lt
          obtain ⟨τ, hτ⟩ : ∃ τ, τ = mixes 4 σ1 := ⟨_, rfl⟩
          rw [← hτ] at p4 p5 p6 p7 hblk
          have Hτ := Lib.hid hτ
          have HBlk := Lib.hid hblk
          have HZ := Lib.hid hzero
          have Hb := Lib.hid hb
          clear hblk hzero hb hτ
          go_wp2_with fail
          go_roundw
          case rel =>
            refine ⟨k + 1, by omega, by go_num, ?_, (((HZ.out.other (by omega) _ _).other (by omega) _ _).other (by omega) _ _).other (by omega) _ _, (((Hb.out.setCell (Nat.le_refl _) _).setCell (Nat.le_refl _) _).setCell (Nat.le_refl _) _).setCell (Nat.le_refl _) _⟩
            have e : perms (k + 1) s = turnV τ := by
              rw [perms, ← Hσ.out, Hτ.out, Hσ1.out, Hy0.out]
              rfl
            rw [e]
            exact turn_rel τ HBlk.out
          case measure => simp [intOf]; omega
    · obtain rfl : k = 12 := by omega
      have p0 : wr.cell? ⟨w.heap.size, 0, none⟩ = some (.int .u32 ((perms 12 s 0).toNat : Int)) := hblk.cell 0
      have p1 : wr.cell? ⟨w.heap.size, 1, none⟩ = some (.int .u32 ((perms 12 s 1).toNat : Int)) := hblk.cell 1
      have p2 : wr.cell? ⟨w.heap.size, 2, none⟩ = some (.int .u32 ((perms 12 s 2).toNat : Int)) := hblk.cell 2
      have p3 : wr.cell? ⟨w.heap.size, 3, none⟩ = some (.int .u32 ((perms 12 s 3).toNat : Int)) := hblk.cell 3
      have p4 : wr.cell? ⟨w.heap.size, 4, none⟩ = some (.int .u32 ((perms 12 s 4).toNat : Int)) := hblk.cell 4
      have p5 : wr.cell? ⟨w.heap.size, 5, none⟩ = some (.int .u32 ((perms 12 s 5).toNat : Int)) := hblk.cell 5
      have p6 : wr.cell? ⟨w.heap.size, 6, none⟩ = some (.int .u32 ((perms 12 s 6).toNat : Int)) := hblk.cell 6
      have p7 : wr.cell? ⟨w.heap.size, 7, none⟩ = some (.int .u32 ((perms 12 s 7).toNat : Int)) := hblk.cell 7
      have hsz := hblk.lt
      have hsz2 := hzero.lt
      obtain ⟨τ, hτ⟩ : ∃ τ, τ = perms 12 s := ⟨_, rfl⟩
      rw [← hτ] at p0 p1 p2 p3 p4 p5 p6 p7 hblk
      have Hτ := Lib.hid hτ
      have HZ := Lib.hid hzero
      have Hb := Lib.hid hb
      clear hblk hzero hb hτ
      have z1 := sizeSt τ
      have z3 := oneSt τ
      go_wp2_with (refine wpList_store_row rfl 41 (.tmp 2) (.tmp 58) rfl (w.heap.size + 1) (vals τ) rfl rfl 41 (vals (fun _ => 0#32)) HZ.out z1 rfl z3 ?_)
      refine bodyPost_ret (v := .agg (vals τ)) ?_ rfl ⟨?_, ?_⟩
      · exact results_cell_row rfl _ _ (w.heap.size + 1) 41 (vals τ) (0, 0) _ rfl (setRow_heap _ _ _ _ _ _ HZ.out) Try.underlying41 rfl z1
      · rw [Hτ.out]; rfl
      · exact Hb.out.trans (below_setRow _ _ _ _ (by have := Hb.out.size; omega))
theorem runturn_rel {w : World} {g : Nat} {t : TypeId} (τ : St) (hB : Blk w g t (vals τ)) :
    Blk ((((w.setCell ⟨g, 7, none⟩ (.int .u32 ((τ 6).toNat : Int))).setCell ⟨g, 6, none⟩ (.int .u32 ((τ 5).toNat : Int))).setCell ⟨g, 5, none⟩ (.int .u32 ((τ 4).toNat : Int))).setCell ⟨g, 4, none⟩ (.int .u32 ((τ 7).toNat : Int))) g t (vals (turnU τ)) := by
  have := (((hB.set_ 7 (.int .u32 ((τ 6).toNat : Int))).set_ 6 (.int .u32 ((τ 5).toNat : Int))).set_ 5 (.int .u32 ((τ 4).toNat : Int))).set_ 4 (.int .u32 ((τ 7).toNat : Int))
  rw [vals_set τ 7 _ (by omega), vals_set _ 6 _ (by omega), vals_set _ 5 _ (by omega), vals_set _ 4 _ (by omega)] at this
  exact this
set_option maxRecDepth 100000 in
set_option maxHeartbeats 4000000 in
theorem rundo_any (s : St) (w : World) : Calls Try.prog 39 #[.agg (vals s)] w fun e w' => e = .returned (.agg (vals (undos 12 s))) ∧ Below w.heap.size w w' := by
  obtain ⟨W0, hW0⟩ : ∃ W0, W0 = (w.alloc (.cells (vals s) 41)).alloc (.cells (vals (fun _ => 0#32)) 41) := ⟨_, rfl⟩
  have hg1 : Blk W0 w.heap.size 41 (vals s) := by rw [hW0]; exact (Below.heap_alloc _ _ _ (by simp)).trans (heap_new w _)
  have hg2 : Blk W0 (w.heap.size + 1) 41 (vals (fun _ => 0#32)) := by rw [hW0]; exact heap_alloc2_new w _ _
  have hb0 : Below w.heap.size w W0 := by rw [hW0]; exact ((Below.refl _ w).alloc (Nat.le_refl _) _).alloc (by simp) _
  have Hg1 := Lib.hid hg1
  have Hg2 := Lib.hid hg2
  have Hb0 := Lib.hid hb0
  rw [vals_lit s, vals_lit (fun _ => 0#32)] at hW0
  have HW0 := Lib.hid hW0
  clear hW0 hg1 hg2 hb0
  rw [vals_lit s]
  go_enter Try.func39, Try.ntmps39
  go_wp2_with fail
  have hz : ((0#32 : B32).toNat : Int) = 0 := rfl
  rw [hz] at HW0
  rw [← HW0.out]
  clear HW0 hz
  go_loopw [3] (fun r wr => ∃ (k : Nat) (rr : Int), rr = 11 - (k : Int) ∧ k ≤ 12 ∧ r = .int .i64 rr ∧ Blk wr w.heap.size 41 (vals (undos k s)) ∧ Blk wr (w.heap.size + 1) 41 (vals (fun _ => 0#32)) ∧ Below w.heap.size w wr) (fun r _ => (intOf r + 1).toNat)
  case atStart => exact ⟨0, 11, rfl, Nat.zero_le _, rfl, Hg1.out, Hg2.out, Hb0.out⟩
  case round =>
    obtain ⟨k, rr, hrr, hk, rfl, hblk, hzero, hb⟩ := hrel
    by_cases hlt : k < 12
    · obtain ⟨σ, hσ⟩ : ∃ σ, σ = undos k s := ⟨_, rfl⟩
      rw [← hσ] at hblk
      have p4 : wr.cell? ⟨w.heap.size, 4, none⟩ = some (.int .u32 ((σ 4).toNat : Int)) := hblk.cell 4
      have p5 : wr.cell? ⟨w.heap.size, 5, none⟩ = some (.int .u32 ((σ 5).toNat : Int)) := hblk.cell 5
      have p6 : wr.cell? ⟨w.heap.size, 6, none⟩ = some (.int .u32 ((σ 6).toNat : Int)) := hblk.cell 6
      have p7 : wr.cell? ⟨w.heap.size, 7, none⟩ = some (.int .u32 ((σ 7).toNat : Int)) := hblk.cell 7
      have f4 := hblk.frozen 4
      have f5 := hblk.frozen 5
      have f6 := hblk.frozen 6
      have f7 := hblk.frozen 7
      have hsz := hblk.lt
      have HBlk := Lib.hid hblk
      have HZ := Lib.hid hzero
      have Hb := Lib.hid hb
      have Hσ := Lib.hid hσ
      have hr0 : (0 : Int) ≤ rr := by omega
      have hr1 : rr ≤ 11 := by omega
      have Hrr := Lib.hid hrr
      clear hblk hzero hb hσ hrr
      go_wp2_with fail
      have hb1 := runturn_rel σ HBlk.out
      have hz1 := (((HZ.out.other (g := w.heap.size) (by omega) 7 (.int .u32 ((σ 6).toNat : Int))).other (g := w.heap.size) (by omega) 6 (.int .u32 ((σ 5).toNat : Int))).other (g := w.heap.size) (by omega) 5 (.int .u32 ((σ 4).toNat : Int))).other (g := w.heap.size) (by omega) 4 (.int .u32 ((σ 7).toNat : Int))
      have hbb : Below w.heap.size w ((((wr.setCell ⟨w.heap.size, 7, none⟩ (.int .u32 ((σ 6).toNat : Int))).setCell ⟨w.heap.size, 6, none⟩ (.int .u32 ((σ 5).toNat : Int))).setCell ⟨w.heap.size, 5, none⟩ (.int .u32 ((σ 4).toNat : Int))).setCell ⟨w.heap.size, 4, none⟩ (.int .u32 ((σ 7).toNat : Int))) := (((Hb.out.setCell (Nat.le_refl _) _).setCell (Nat.le_refl _) _).setCell (Nat.le_refl _) _).setCell (Nat.le_refl _) _
      obtain ⟨W1, hW1⟩ : ∃ W1, W1 = ((((wr.setCell ⟨w.heap.size, 7, none⟩ (.int .u32 ((σ 6).toNat : Int))).setCell ⟨w.heap.size, 6, none⟩ (.int .u32 ((σ 5).toNat : Int))).setCell ⟨w.heap.size, 5, none⟩ (.int .u32 ((σ 4).toNat : Int))).setCell ⟨w.heap.size, 4, none⟩ (.int .u32 ((σ 7).toNat : Int))) := ⟨_, rfl⟩
      rw [← hW1] at hb1 hz1 hbb ⊢
      obtain ⟨σ1, hσ1⟩ : ∃ z, z = turnU σ := ⟨_, rfl⟩
      rw [← hσ1] at hb1
      have Hσ1 := Lib.hid hσ1
      have HB1 := Lib.hid hb1
      have HZ1 := Lib.hid hz1
      have Hbb := Lib.hid hbb
      clear hW1 hb1 hz1 hbb hσ1 p4 p5 p6 p7 f4 f5 f6 f7 HBlk HZ Hb hsz
      go_loopw [5] (fun i wi => ∃ j : Nat, j ≤ 4 ∧ i = .int .i64 j ∧ Blk wi w.heap.size 41 (vals (unmixes j σ1)) ∧ Blk wi (w.heap.size + 1) 41 (vals (fun _ => 0#32)) ∧ Below w.heap.size w wi) (fun i _ => 4 - (intOf i).toNat)
      case atStart => exact ⟨0, Nat.zero_le _, rfl, HB1.out, HZ1.out, Hbb.out⟩
      case round =>
        obtain ⟨j, hj, rfl, hblk, hzero, hb⟩ := hrel
        by_cases hjl : j < 4
        · obtain ⟨τ, hτ⟩ : ∃ τ, τ = unmixes j σ1 := ⟨_, rfl⟩
          rw [← hτ] at hblk
          have Hτ := Lib.hid hτ
          clear hτ
          have q0 : wr.cell? ⟨w.heap.size, j, none⟩ = some (.int .u32 ((τ j).toNat : Int)) := by rw [hblk.cell j, vals_get τ j (by omega)]; rfl
          have q4 : wr.cell? ⟨w.heap.size, j + 4, none⟩ = some (.int .u32 ((τ (j + 4)).toNat : Int)) := by rw [hblk.cell (j + 4), vals_get τ (j + 4) (by omega)]; rfl
          have f0 := hblk.frozen j
          have f4 := hblk.frozen (j + 4)
          have hsz := hblk.lt
          obtain ⟨t0, ht0⟩ : ∃ x, x = τ j := ⟨_, rfl⟩
          obtain ⟨t4, ht4⟩ : ∃ x, x = τ (j + 4) := ⟨_, rfl⟩
          rw [← ht0] at q0
          rw [← ht4] at q4
          obtain ⟨a, ha⟩ : ∃ x, x = rotL t0 16 := ⟨_, rfl⟩
          have hxo := b_xor t4 a
          obtain ⟨x, hx⟩ : ∃ x, x = t4 ^^^ a := ⟨_, rfl⟩
          rw [← hx] at hxo
          obtain ⟨b, hbv⟩ : ∃ y, y = rotL x 25 := ⟨_, rfl⟩
          have hsub := b_sub a b
          obtain ⟨d, hd⟩ : ∃ y, y = a - b := ⟨_, rfl⟩
          rw [← hd] at hsub
          have hj0 : (0 : Int) ≤ (j : Int) := by omega
          have hj3 : (j : Int) < 4 := by omega
          have hj8 : (j : Int) < 8 := by omega
          have hj9 : (0 : Int) ≤ (j : Int) + 4 := by omega
          have hj10 : (j : Int) + 4 < 8 := by omega
          have hjn : ((j : Int) + 4).toNat = j + 4 := by omega
          have HS := Lib.hid (show a = rotL (τ j) 16 ∧ x = τ (j + 4) ^^^ a ∧ b = rotL x 25 ∧ d = a - b from by rw [← ht0, ← ht4]; exact And.intro ha (And.intro hx (And.intro hbv hd)))
          have R16 := Lib.hid ha
          have R25 := Lib.hid hbv
          have HBlk := Lib.hid hblk
          have HZ := Lib.hid hzero
          have Hb := Lib.hid hb
          have Hjl := Lib.hid hjl
          clear hblk hzero hb ha hx hbv hd hj ht0 ht4 hjl
          go_wp2_with fail
          refine (rotR_of _ t0 rfl 16 16 (by simp) _).mono ?_
          rintro e u ⟨rfl, n1, rfl⟩
          rw [← R16.out]
          go_wp2_with fail
          refine (rotR_of _ x rfl 25 25 (by simp) _).mono ?_
          rintro e u ⟨rfl, n2, rfl⟩
          rw [← R25.out]
          go_wp2_with fail
          go_roundw
          case rel => exact ⟨j + 1, by have := Hjl.out; omega, by go_num, (unmix_rel (w := wr.drewN (n1 + n2)) τ σ1 j Hτ.out Hjl.out HS.out (HBlk.out.same rfl)).same rfl, (((HZ.out.same (w' := wr.drewN (n1 + n2)) rfl).other (by omega) _ _).other (by omega) _ _).same rfl, ((below_drewN Hb.out _).setCell (Nat.le_refl _) _).setCell (Nat.le_refl _) _⟩
          case measure => simp [intOf]; have := Hjl.out; omega
        · obtain rfl : j = 4 := by omega
          have p0 : wr.cell? ⟨w.heap.size, 0, none⟩ = some (.int .u32 ((unmixes 4 σ1 0).toNat : Int)) := hblk.cell 0
          have f0 := hblk.frozen 0
          have hsz := hblk.lt
          obtain ⟨τ, hτ⟩ : ∃ τ, τ = unmixes 4 σ1 := ⟨_, rfl⟩
          rw [← hτ] at p0 hblk
          obtain ⟨K, hm, hx⟩ := b_unround k hlt (τ 0)
          rw [show (12 : Int) - (k : Int) = rr + 1 by rw [Hrr.out]; omega] at hm
          obtain ⟨y0, hy0⟩ : ∃ y, y = τ 0 ^^^ BitVec.ofNat 32 (12 - k) * roundK := ⟨_, rfl⟩
          rw [← hy0] at hx
          have Hy0 := Lib.hid hy0
          have Hτ := Lib.hid hτ
          have HBlk := Lib.hid hblk
          have HZ := Lib.hid hzero
          have Hb := Lib.hid hb
          clear hblk hzero hb hτ hy0
          go_wp2_with fail
          go_roundw
          case rel =>
            refine ⟨k + 1, rr - 1, by rw [Hrr.out]; omega, by omega, rfl, ?_, HZ.out.other (by omega) _ _, Hb.out.setCell (Nat.le_refl _) _⟩
            have := HBlk.out.set_ 0 (.int .u32 (y0.toNat : Int))
            rw [vals_set τ 0 _ (by omega)] at this
            have e : undos (k + 1) s = upd τ 0 y0 := by
              rw [undos, ← Hσ.out, Hy0.out, Hτ.out, Hσ1.out]
              rfl
            rw [e]
            exact this
          case measure => simp [intOf]; omega
    · obtain rfl : k = 12 := by omega
      obtain rfl : rr = -1 := by omega
      have p0 : wr.cell? ⟨w.heap.size, 0, none⟩ = some (.int .u32 ((undos 12 s 0).toNat : Int)) := hblk.cell 0
      have p1 : wr.cell? ⟨w.heap.size, 1, none⟩ = some (.int .u32 ((undos 12 s 1).toNat : Int)) := hblk.cell 1
      have p2 : wr.cell? ⟨w.heap.size, 2, none⟩ = some (.int .u32 ((undos 12 s 2).toNat : Int)) := hblk.cell 2
      have p3 : wr.cell? ⟨w.heap.size, 3, none⟩ = some (.int .u32 ((undos 12 s 3).toNat : Int)) := hblk.cell 3
      have p4 : wr.cell? ⟨w.heap.size, 4, none⟩ = some (.int .u32 ((undos 12 s 4).toNat : Int)) := hblk.cell 4
      have p5 : wr.cell? ⟨w.heap.size, 5, none⟩ = some (.int .u32 ((undos 12 s 5).toNat : Int)) := hblk.cell 5
      have p6 : wr.cell? ⟨w.heap.size, 6, none⟩ = some (.int .u32 ((undos 12 s 6).toNat : Int)) := hblk.cell 6
      have p7 : wr.cell? ⟨w.heap.size, 7, none⟩ = some (.int .u32 ((undos 12 s 7).toNat : Int)) := hblk.cell 7
      have hsz := hblk.lt
      have hsz2 := hzero.lt
      obtain ⟨τ, hτ⟩ : ∃ τ, τ = undos 12 s := ⟨_, rfl⟩
      rw [← hτ] at p0 p1 p2 p3 p4 p5 p6 p7 hblk
      have Hτ := Lib.hid hτ
      have HZ := Lib.hid hzero
      have Hb := Lib.hid hb
      clear hblk hzero hb hτ
      have z1 := sizeSt τ
      have z3 := oneSt τ
      go_wp2_with (refine wpList_store_row rfl 41 (.tmp 2) (.tmp 58) rfl (w.heap.size + 1) (vals τ) rfl rfl 41 (vals (fun _ => 0#32)) HZ.out z1 rfl z3 ?_)
      refine bodyPost_ret (v := .agg (vals τ)) ?_ rfl ⟨?_, ?_⟩
      · exact results_cell_row rfl _ _ (w.heap.size + 1) 41 (vals τ) (0, 0) _ rfl (setRow_heap _ _ _ _ _ _ HZ.out) Try.underlying41 rfl z1
      · rw [Hτ.out]
      · exact Hb.out.trans (below_setRow _ _ _ _ (by have := Hb.out.size; omega))
end Go.Proofs.Ytnlblmghhkmbbaa
