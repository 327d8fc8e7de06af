/- Permute answers as the chapter says. -/
import Derived.Test.YtnlblmghhkmbbaaSrot
import Derived.Test.YtnlblmghhkmbbaaSroll
import Derived.Deep.QuietTactic
import Derived.BigQuiet
namespace Go.Proofs.Ytnlblmghhkmbbaa
set_option linter.unusedVariables false
open Go.RowKit

/-- A state: its words by their indices, of which eight count. -/
abbrev St := Nat → B32
def upd (s : St) (i : Nat) (x : B32) : St := fun j => if j = i then x else s j
def wv (x : B32) : Value := .int .u32 (x.toNat : Int)
def vals (s : St) : Array Value := #[wv (s 0), wv (s 1), wv (s 2), wv (s 3), wv (s 4), wv (s 5), wv (s 6), wv (s 7)]
theorem vals_lit (s : St) : vals s = #[.int .u32 ((s 0).toNat : Int), .int .u32 ((s 1).toNat : Int), .int .u32 ((s 2).toNat : Int), .int .u32 ((s 3).toNat : Int), .int .u32 ((s 4).toNat : Int), .int .u32 ((s 5).toNat : Int), .int .u32 ((s 6).toNat : Int), .int .u32 ((s 7).toNat : Int)] := by rfl
theorem vals_get (s : St) (i : Nat) (h : i < 8) : (vals s)[i]? = some (wv (s i)) := by
  have : i = 0 ∨ i = 1 ∨ i = 2 ∨ i = 3 ∨ i = 4 ∨ i = 5 ∨ i = 6 ∨ i = 7 := by omega
  rcases this with rfl | rfl | rfl | rfl | rfl | rfl | rfl | rfl <;> rfl
theorem vals_size (s : St) : (vals s).size = 8 := rfl
theorem vals_set (s : St) (i : Nat) (x : B32) (h : i < 8) : (vals s).setIfInBounds i (.int .u32 (x.toNat : Int)) = vals (upd s i x) := by
  apply Array.ext_getElem?
  intro j
  by_cases hj : j < 8
  · rw [vals_get _ j hj, Array.getElem?_setIfInBounds]
    by_cases hij : i = j
    · subst hij
      rw [if_pos rfl, if_pos (by rw [vals_size]; exact h)]
      unfold upd wv; rw [if_pos rfl]
    · rw [if_neg hij, vals_get _ j hj]
      unfold upd; rw [if_neg (Ne.symm hij)]
  · rw [Array.getElem?_eq_none (by simp [vals_size]; omega), Array.getElem?_eq_none (by rw [vals_size]; omega)]
def roundK : B32 := 0x9E3779B9#32
def mixV (s : St) (i : Nat) : St := upd (upd s (i + 4) (rotL (s (i + 4)) 7 ^^^ (s i + s (i + 4)))) i (rotL (s i + s (i + 4)) 16)
def mixes : Nat → St → St
  | 0, s => s
  | k + 1, s => mixV (mixes k s) k
def turnV (s : St) : St := upd (upd (upd (upd s 4 (s 5)) 5 (s 6)) 6 (s 7)) 7 (s 4)
def roundV (r : Nat) (s : St) : St := turnV (mixes 4 (upd s 0 (s 0 ^^^ BitVec.ofNat 32 (r + 1) * roundK)))
/-- The first rounds of the permutation. -/
def perms : Nat → St → St
  | 0, s => s
  | k + 1, s => roundV k (perms k s)
def permV (s : St) : St := perms 12 s
theorem b_add (x y : B32) : ((x.toNat : Int) + (y.toNat : Int)) % 4294967296 = ((x + y).toNat : Int) := by
  rw [BitVec.toNat_add]; simp
theorem b_round (r : Nat) (h : r < 12) (x : B32) : bits .xor .u32 (x.toNat : Int) (((r : Int) + 1) * 2654435769 % 4294967296) = ((x ^^^ BitVec.ofNat 32 (r + 1) * roundK).toNat : Int) := by
  rw [← b_xor]
  refine congrArg (fun z => bits .xor .u32 (x.toNat : Int) z) ?_
  rw [BitVec.toNat_mul, BitVec.toNat_ofNat]
  have : roundK.toNat = 2654435769 := rfl
  rw [this, Nat.mod_eq_of_lt (show r + 1 < 2 ^ 32 by omega)]
  simp
theorem Blk.other {w : World} {g g' : Nat} {t : TypeId} {cs : Array Value} (h : Blk w g' t cs) (hne : g ≠ g') (i : Nat) (u : Value) : Blk (w.setCell ⟨g, i, none⟩ u) g' t cs := by
  unfold Blk at h ⊢
  simp [World.setCell, Array.getElem?_modify, h, hne]
theorem rot_of (n : Int) (x : B32) (hx : n = (x.toNat : Int)) (k : Int) (s : Nat) (h : (k = 7 ∧ s = 7) ∨ (k = 16 ∧ s = 16) ∨ (k = -16 ∧ s = 16) ∨ (k = -7 ∧ s = 25)) (w : World) :
    Calls Try.prog 65 #[.int .u32 n, .int .i64 k] w fun e w' => e = .returned (.int .u32 ((rotL x s).toNat : Int)) ∧ w = w' := by
  subst hx; exact rot_at x k s h w
theorem b_round2 (r : Nat) (h : r < 12) (x : B32) : ∃ K : Int, ((r : Int) + 1) * 2654435769 % 4294967296 = K ∧ bits .xor .u32 (x.toNat : Int) K = ((x ^^^ BitVec.ofNat 32 (r + 1) * roundK).toNat : Int) := ⟨_, rfl, b_round r h x⟩
theorem Blk.same {w w' : World} {g : Nat} {t : TypeId} {cs : Array Value} (h : Blk w g t cs) (hw : w'.heap = w.heap) : Blk w' g t cs := by unfold Blk at h ⊢; rw [hw]; exact h
theorem below_drewN {B : Nat} {a w : World} (h : Below B a w) (n : Nat) : Below B a (w.drewN n) := ⟨h.os, h.tape, h.output, h.size, h.block⟩
theorem mix_rel {w : World} {g : Nat} {t : TypeId} (τ σ1 : St) (j : Nat) (hτ : τ = mixes j σ1) (hj : j < 4) {sm r7 r16 y4 : B32} (h : sm = τ j + τ (j + 4) ∧ r7 = rotL (τ (j + 4)) 7 ∧ r16 = rotL sm 16 ∧ y4 = r7 ^^^ sm) (hB : Blk w g t (vals τ)) :
    Blk ((w.setCell ⟨g, j + 4, none⟩ (.int .u32 (y4.toNat : Int))).setCell ⟨g, j, none⟩ (.int .u32 (r16.toNat : Int))) g t (vals (mixes (j + 1) σ1)) := by
  have := (hB.set_ (j + 4) (.int .u32 (y4.toNat : Int))).set_ j (.int .u32 (r16.toNat : Int))
  rw [vals_set τ (j + 4) _ (by omega), vals_set _ j _ (by omega)] at this
  rw [mixes, ← hτ]
  unfold mixV
  obtain ⟨rfl, rfl, rfl, rfl⟩ := h
  exact this
theorem sizeSt (s : St) : (Try.prog.info? 41).map (·.size) = some (vals s).size := by rw [vals_size]; kernel_rfl
theorem oneSt (s : St) : (vals s).all (fun x => x.oneCell') = true := by kernel_rfl
theorem turn_rel {w : World} {g : Nat} {t : TypeId} (τ : St) (hB : Blk w g t (vals τ)) :
    Blk ((((w.setCell ⟨g, 4, none⟩ (.int .u32 ((τ 5).toNat : Int))).setCell ⟨g, 5, none⟩ (.int .u32 ((τ 6).toNat : Int))).setCell ⟨g, 6, none⟩ (.int .u32 ((τ 7).toNat : Int))).setCell ⟨g, 7, none⟩ (.int .u32 ((τ 4).toNat : Int))) g t (vals (turnV τ)) := by
  have := (((hB.set_ 4 (.int .u32 ((τ 5).toNat : Int))).set_ 5 (.int .u32 ((τ 6).toNat : Int))).set_ 6 (.int .u32 ((τ 7).toNat : Int))).set_ 7 (.int .u32 ((τ 4).toNat : Int))
  rw [vals_set τ 4 _ (by omega), vals_set _ 5 _ (by omega), vals_set _ 6 _ (by omega), vals_set _ 7 _ (by omega)] at this
  exact this
attribute [local irreducible] rotL
set_option maxRecDepth 100000 in
set_option maxHeartbeats 4000000 in
theorem permute_any (s : St) (w : World) : Calls Try.prog 36 #[.agg (vals s)] w fun e w' => e = .returned (.agg (vals (permV s))) ∧ Below w.heap.size w w' := by
  obtain ⟨W0, hW0⟩ : ∃ W0, W0 = (w.alloc (.cells (vals s) 41)).alloc (.cells (vals (fun _ => 0#32)) 41) := ⟨_, rfl⟩
  have hg1 : Blk W0 w.heap.size 41 (vals s) := by rw [hW0]; exact (Below.heap_alloc _ _ _ (by simp)).trans (heap_new w _)
  have hg2 : Blk W0 (w.heap.size + 1) 41 (vals (fun _ => 0#32)) := by rw [hW0]; exact heap_alloc2_new w _ _
  have hb0 : Below w.heap.size w W0 := by rw [hW0]; exact ((Below.refl _ w).alloc (Nat.le_refl _) _).alloc (by simp) _
  have Hg1 := Lib.hid hg1
  have Hg2 := Lib.hid hg2
  have Hb0 := Lib.hid hb0
  rw [vals_lit s, vals_lit (fun _ => 0#32)] at hW0
  have HW0 := Lib.hid hW0
  clear hW0 hg1 hg2 hb0
  rw [vals_lit s]
  go_enter Try.func36, Try.ntmps36
  go_wp2_with fail
  have hz : ((0#32 : B32).toNat : Int) = 0 := rfl
  rw [hz] at HW0
  rw [← HW0.out]
  clear HW0 hz
  go_loopw [6] (fun r wr => ∃ k : Nat, k ≤ 12 ∧ r = .int .u32 k ∧ Blk wr w.heap.size 41 (vals (perms k s)) ∧ Blk wr (w.heap.size + 1) 41 (vals (fun _ => 0#32)) ∧ Below w.heap.size w wr) (fun r _ => 12 - (intOf r).toNat)
  case atStart => exact ⟨0, Nat.zero_le _, rfl, Hg1.out, Hg2.out, Hb0.out⟩
  case round =>
    obtain ⟨k, hk, rfl, hblk, hzero, hb⟩ := hrel
    by_cases hlt : k < 12
    · obtain ⟨σ, hσ⟩ : ∃ σ, σ = perms k s := ⟨_, rfl⟩
      rw [← hσ] at hblk
      have q0 : wr.cell? ⟨w.heap.size, 0, none⟩ = some (.int .u32 ((σ 0).toNat : Int)) := hblk.cell 0
      have f0 := hblk.frozen 0
      have hsz := hblk.lt
      obtain ⟨K, hm, hx⟩ := b_round2 k hlt (σ 0)
      obtain ⟨y0, hy0⟩ : ∃ y, y = σ 0 ^^^ BitVec.ofNat 32 (k + 1) * roundK := ⟨_, rfl⟩
      rw [← hy0] at hx
      have Hy0 := Lib.hid hy0
      clear hy0
      have HBlk := Lib.hid hblk
      have HZ := Lib.hid hzero
      have Hb := Lib.hid hb
      have Hσ := Lib.hid hσ
      have hkd : decide ((k : Int) < 12) = true := decide_eq_true (by omega)
      clear hblk hzero hb hσ
      go_wp2_with fail
      rw [hm]
      have hb1 : Blk (wr.setCell ⟨w.heap.size, 0, none⟩ (.int .u32 (y0.toNat : Int))) w.heap.size 41 (vals (upd σ 0 y0)) := by
        have := HBlk.out.set_ 0 (.int .u32 (y0.toNat : Int))
        rwa [vals_set σ 0 y0 (by omega)] at this
      have hz1 := HZ.out.other (g := w.heap.size) (by omega) 0 (.int .u32 (y0.toNat : Int))
      have hbb : Below w.heap.size w (wr.setCell ⟨w.heap.size, 0, none⟩ (.int .u32 (y0.toNat : Int))) := Hb.out.setCell (Nat.le_refl _) _
      obtain ⟨W1, hW1⟩ : ∃ W1, W1 = wr.setCell ⟨w.heap.size, 0, none⟩ (.int .u32 (y0.toNat : Int)) := ⟨_, rfl⟩
      rw [← hW1] at hb1 hz1 hbb ⊢
      obtain ⟨σ1, hσ1⟩ : ∃ z, z = upd σ 0 y0 := ⟨_, rfl⟩
      rw [← hσ1] at hb1
      have Hσ1 := Lib.hid hσ1
      have HB1 := Lib.hid hb1
      have HZ1 := Lib.hid hz1
      have Hbb := Lib.hid hbb
      clear hW1 hb1 hz1 hbb hσ1 q0 f0 hx HBlk HZ Hb hsz
      go_loopw [16] (fun i wi => ∃ j : Nat, j ≤ 4 ∧ i = .int .i64 j ∧ Blk wi w.heap.size 41 (vals (mixes j σ1)) ∧ Blk wi (w.heap.size + 1) 41 (vals (fun _ => 0#32)) ∧ Below w.heap.size w wi) (fun i _ => 4 - (intOf i).toNat)
      case atStart => exact ⟨0, Nat.zero_le _, rfl, HB1.out, HZ1.out, Hbb.out⟩
      case round =>
        obtain ⟨j, hj, rfl, hblk, hzero, hb⟩ := hrel
        by_cases hjl : j < 4
        · obtain ⟨τ, hτ⟩ : ∃ τ, τ = mixes j σ1 := ⟨_, rfl⟩
          rw [← hτ] at hblk
          have Hτ := Lib.hid hτ
          clear hτ
          have hj4 : j = 0 ∨ j = 1 ∨ j = 2 ∨ j = 3 := by omega
          clear hj
          rcases hj4 with rfl | rfl | rfl | rfl
          · have q0 : wr.cell? ⟨w.heap.size, 0, none⟩ = some (.int .u32 ((τ 0).toNat : Int)) := hblk.cell 0
            have q4 : wr.cell? ⟨w.heap.size, 4, none⟩ = some (.int .u32 ((τ 4).toNat : Int)) := hblk.cell 4
            have f0 := hblk.frozen 0
            have f4 := hblk.frozen 4
            have hsz := hblk.lt
            have hadd := b_add (τ 0) (τ 4)
            obtain ⟨sm, hsm⟩ : ∃ x, x = τ 0 + τ 4 := ⟨_, rfl⟩
            rw [← hsm] at hadd
            obtain ⟨r7, hr7⟩ : ∃ x, x = rotL (τ 4) 7 := ⟨_, rfl⟩
            obtain ⟨r16, hr16⟩ : ∃ x, x = rotL sm 16 := ⟨_, rfl⟩
            have hxo := b_xor r7 sm
            obtain ⟨y4, hy4⟩ : ∃ x, x = r7 ^^^ sm := ⟨_, rfl⟩
            rw [← hy4] at hxo
            have HS := Lib.hid (And.intro hsm (And.intro hr7 (And.intro hr16 hy4)))
            have HBlk := Lib.hid hblk
            have HZ := Lib.hid hzero
            have Hb := Lib.hid hb
            clear hblk hzero hb hsm hr7 hr16 hy4
            go_wp2_with fail
            go_quiet (fail)
            go_wp2_with fail
            refine (rot_of _ (τ 4) rfl 7 7 (by simp) _).mono ?_
            rintro e u ⟨rfl, rfl⟩
            rw [← HS.out.2.1]
            go_wp2_with fail
            refine (rot_of _ sm rfl 16 16 (by simp) _).mono ?_
            rintro e u ⟨rfl, rfl⟩
            rw [← HS.out.2.2.1]
            go_wp2_with fail
            go_roundw
            case rel => exact ⟨1, by omega, rfl, mix_rel τ σ1 0 Hτ.out (by omega) HS.out (HBlk.out.same rfl), ((HZ.out.same rfl).other (by omega) _ _).other (by omega) _ _, ((below_drewN Hb.out _).setCell (Nat.le_refl _) _).setCell (Nat.le_refl _) _⟩
            case measure => exact (by decide : 4 - (intOf (Value.int .i64 1)).toNat < 4 - (intOf (Value.int .i64 0)).toNat)
          · have q0 : wr.cell? ⟨w.heap.size, 1, none⟩ = some (.int .u32 ((τ 1).toNat : Int)) := hblk.cell 1
            have q4 : wr.cell? ⟨w.heap.size, 5, none⟩ = some (.int .u32 ((τ 5).toNat : Int)) := hblk.cell 5
            have f0 := hblk.frozen 1
            have f4 := hblk.frozen 5
            have hsz := hblk.lt
            have hadd := b_add (τ 1) (τ 5)
            obtain ⟨sm, hsm⟩ : ∃ x, x = τ 1 + τ 5 := ⟨_, rfl⟩
            rw [← hsm] at hadd
            obtain ⟨r7, hr7⟩ : ∃ x, x = rotL (τ 5) 7 := ⟨_, rfl⟩
            obtain ⟨r16, hr16⟩ : ∃ x, x = rotL sm 16 := ⟨_, rfl⟩
            have hxo := b_xor r7 sm
            obtain ⟨y4, hy4⟩ : ∃ x, x = r7 ^^^ sm := ⟨_, rfl⟩
            rw [← hy4] at hxo
            have HS := Lib.hid (And.intro hsm (And.intro hr7 (And.intro hr16 hy4)))
            have HBlk := Lib.hid hblk
            have HZ := Lib.hid hzero
            have Hb := Lib.hid hb
            clear hblk hzero hb hsm hr7 hr16 hy4
            go_wp2_with fail
            go_quiet (fail)
            go_wp2_with fail
            refine (rot_of _ (τ 5) rfl 7 7 (by simp) _).mono ?_
            rintro e u ⟨rfl, rfl⟩
            rw [← HS.out.2.1]
            go_wp2_with fail
            refine (rot_of _ sm rfl 16 16 (by simp) _).mono ?_
            rintro e u ⟨rfl, rfl⟩
            rw [← HS.out.2.2.1]
            go_wp2_with fail
            go_roundw
            case rel => exact ⟨2, by omega, rfl, mix_rel τ σ1 1 Hτ.out (by omega) HS.out (HBlk.out.same rfl), ((HZ.out.same rfl).other (by omega) _ _).other (by omega) _ _, ((below_drewN Hb.out _).setCell (Nat.le_refl _) _).setCell (Nat.le_refl _) _⟩
            case measure => exact (by decide : 4 - (intOf (Value.int .i64 2)).toNat < 4 - (intOf (Value.int .i64 1)).toNat)
          · have q0 : wr.cell? ⟨w.heap.size, 2, none⟩ = some (.int .u32 ((τ 2).toNat : Int)) := hblk.cell 2
            have q4 : wr.cell? ⟨w.heap.size, 6, none⟩ = some (.int .u32 ((τ 6).toNat : Int)) := hblk.cell 6
            have f0 := hblk.frozen 2
            have f4 := hblk.frozen 6
            have hsz := hblk.lt
            have hadd := b_add (τ 2) (τ 6)
            obtain ⟨sm, hsm⟩ : ∃ x, x = τ 2 + τ 6 := ⟨_, rfl⟩
            rw [← hsm] at hadd
            obtain ⟨r7, hr7⟩ : ∃ x, x = rotL (τ 6) 7 := ⟨_, rfl⟩
            obtain ⟨r16, hr16⟩ : ∃ x, x = rotL sm 16 := ⟨_, rfl⟩
            have hxo := b_xor r7 sm
            obtain ⟨y4, hy4⟩ : ∃ x, x = r7 ^^^ sm := ⟨_, rfl⟩
            rw [← hy4] at hxo
            have HS := Lib.hid (And.intro hsm (And.intro hr7 (And.intro hr16 hy4)))
            have HBlk := Lib.hid hblk
            have HZ := Lib.hid hzero
            have Hb := Lib.hid hb
            clear hblk hzero hb hsm hr7 hr16 hy4
            go_wp2_with fail
            go_quiet (fail)
            go_wp2_with fail
            refine (rot_of _ (τ 6) rfl 7 7 (by simp) _).mono ?_
            rintro e u ⟨rfl, rfl⟩
            rw [← HS.out.2.1]
            go_wp2_with fail
            refine (rot_of _ sm rfl 16 16 (by simp) _).mono ?_
            rintro e u ⟨rfl, rfl⟩
            rw [← HS.out.2.2.1]
            go_wp2_with fail
            go_roundw
            case rel => exact ⟨3, by omega, rfl, mix_rel τ σ1 2 Hτ.out (by omega) HS.out (HBlk.out.same rfl), ((HZ.out.same rfl).other (by omega) _ _).other (by omega) _ _, ((below_drewN Hb.out _).setCell (Nat.le_refl _) _).setCell (Nat.le_refl _) _⟩
            case measure => exact (by decide : 4 - (intOf (Value.int .i64 3)).toNat < 4 - (intOf (Value.int .i64 2)).toNat)
          · have q0 : wr.cell? ⟨w.heap.size, 3, none⟩ = some (.int .u32 ((τ 3).toNat : Int)) := hblk.cell 3
            have q4 : wr.cell? ⟨w.heap.size, 7, none⟩ = some (.int .u32 ((τ 7).toNat : Int)) := hblk.cell 7
            have f0 := hblk.frozen 3
            have f4 := hblk.frozen 7
            have hsz := hblk.lt
            have hadd := b_add (τ 3) (τ 7)
            obtain ⟨sm, hsm⟩ : ∃ x, x = τ 3 + τ 7 := ⟨_, rfl⟩
            rw [← hsm] at hadd
            obtain ⟨r7, hr7⟩ : ∃ x, x = rotL (τ 7) 7 := ⟨_, rfl⟩
            obtain ⟨r16, hr16⟩ : ∃ x, x = rotL sm 16 := ⟨_, rfl⟩
            have hxo := b_xor r7 sm
            obtain ⟨y4, hy4⟩ : ∃ x, x = r7 ^^^ sm := ⟨_, rfl⟩
            rw [← hy4] at hxo
            have HS := Lib.hid (And.intro hsm (And.intro hr7 (And.intro hr16 hy4)))
            have HBlk := Lib.hid hblk
            have HZ := Lib.hid hzero
            have Hb := Lib.hid hb
            clear hblk hzero hb hsm hr7 hr16 hy4
            go_wp2_with fail
            go_quiet (fail)
            go_wp2_with fail
            refine (rot_of _ (τ 7) rfl 7 7 (by simp) _).mono ?_
            rintro e u ⟨rfl, rfl⟩
            rw [← HS.out.2.1]
            go_wp2_with fail
            refine (rot_of _ sm rfl 16 16 (by simp) _).mono ?_
            rintro e u ⟨rfl, rfl⟩
            rw [← HS.out.2.2.1]
            go_wp2_with fail
            go_roundw
            case rel => exact ⟨4, by omega, rfl, mix_rel τ σ1 3 Hτ.out (by omega) HS.out (HBlk.out.same rfl), ((HZ.out.same rfl).other (by omega) _ _).other (by omega) _ _, ((below_drewN Hb.out _).setCell (Nat.le_refl _) _).setCell (Nat.le_refl _) _⟩
            case measure => exact (by decide : 4 - (intOf (Value.int .i64 4)).toNat < 4 - (intOf (Value.int .i64 3)).toNat)
        · obtain rfl : j = 4 := by omega
          have p4 : wr.cell? ⟨w.heap.size, 4, none⟩ = some (.int .u32 ((mixes 4 σ1 4).toNat : Int)) := hblk.cell 4
          have p5 : wr.cell? ⟨w.heap.size, 5, none⟩ = some (.int .u32 ((mixes 4 σ1 5).toNat : Int)) := hblk.cell 5
          have p6 : wr.cell? ⟨w.heap.size, 6, none⟩ = some (.int .u32 ((mixes 4 σ1 6).toNat : Int)) := hblk.cell 6
          have p7 : wr.cell? ⟨w.heap.size, 7, none⟩ = some (.int .u32 ((mixes 4 σ1 7).toNat : Int)) := hblk.cell 7
          have f4 := hblk.frozen 4
          have f5 := hblk.frozen 5
          have f6 := hblk.frozen 6
          have f7 := hblk.frozen 7
          have hsz := hblk.lt
          obtain ⟨τ, hτ⟩ : ∃ τ, τ = mixes 4 σ1 := ⟨_, rfl⟩
          rw [← hτ] at p4 p5 p6 p7 hblk
          have Hτ := Lib.hid hτ
          have HBlk := Lib.hid hblk
          have HZ := Lib.hid hzero
          have Hb := Lib.hid hb
          clear hblk hzero hb hτ
          go_wp2_with fail
          go_roundw
          case rel =>
            refine ⟨k + 1, by omega, by go_num, ?_, (((HZ.out.other (by omega) _ _).other (by omega) _ _).other (by omega) _ _).other (by omega) _ _, (((Hb.out.setCell (Nat.le_refl _) _).setCell (Nat.le_refl _) _).setCell (Nat.le_refl _) _).setCell (Nat.le_refl _) _⟩
            have e : perms (k + 1) s = turnV τ := by
              rw [perms, ← Hσ.out, Hτ.out, Hσ1.out, Hy0.out]
              rfl
            rw [e]
            exact turn_rel τ HBlk.out
          case measure => simp [intOf]; omega
    · obtain rfl : k = 12 := by omega
      have p0 : wr.cell? ⟨w.heap.size, 0, none⟩ = some (.int .u32 ((perms 12 s 0).toNat : Int)) := hblk.cell 0
      have p1 : wr.cell? ⟨w.heap.size, 1, none⟩ = some (.int .u32 ((perms 12 s 1).toNat : Int)) := hblk.cell 1
      have p2 : wr.cell? ⟨w.heap.size, 2, none⟩ = some (.int .u32 ((perms 12 s 2).toNat : Int)) := hblk.cell 2
      have p3 : wr.cell? ⟨w.heap.size, 3, none⟩ = some (.int .u32 ((perms 12 s 3).toNat : Int)) := hblk.cell 3
      have p4 : wr.cell? ⟨w.heap.size, 4, none⟩ = some (.int .u32 ((perms 12 s 4).toNat : Int)) := hblk.cell 4
      have p5 : wr.cell? ⟨w.heap.size, 5, none⟩ = some (.int .u32 ((perms 12 s 5).toNat : Int)) := hblk.cell 5
      have p6 : wr.cell? ⟨w.heap.size, 6, none⟩ = some (.int .u32 ((perms 12 s 6).toNat : Int)) := hblk.cell 6
      have p7 : wr.cell? ⟨w.heap.size, 7, none⟩ = some (.int .u32 ((perms 12 s 7).toNat : Int)) := hblk.cell 7
      have hsz := hblk.lt
      have hsz2 := hzero.lt
      obtain ⟨τ, hτ⟩ : ∃ τ, τ = perms 12 s := ⟨_, rfl⟩
      rw [← hτ] at p0 p1 p2 p3 p4 p5 p6 p7 hblk
      have Hτ := Lib.hid hτ
      have HZ := Lib.hid hzero
      have Hb := Lib.hid hb
      clear hblk hzero hb hτ
      have z1 := sizeSt τ
      have z3 := oneSt τ
      go_wp2_with (refine wpList_store_row rfl 41 (.tmp 2) (.tmp 55) rfl (w.heap.size + 1) (vals τ) rfl rfl 41 (vals (fun _ => 0#32)) HZ.out z1 rfl z3 ?_)
      refine bodyPost_ret (v := .agg (vals τ)) ?_ rfl ⟨?_, ?_⟩
      · exact results_cell_row rfl _ _ (w.heap.size + 1) 41 (vals τ) (0, 0) _ rfl (setRow_heap _ _ _ _ _ _ HZ.out) Try.underlying41 rfl z1
      · rw [Hτ.out]; rfl
      · exact Hb.out.trans (below_setRow _ _ _ _ (by have := Hb.out.size; omega))
end Go.Proofs.Ytnlblmghhkmbbaa
