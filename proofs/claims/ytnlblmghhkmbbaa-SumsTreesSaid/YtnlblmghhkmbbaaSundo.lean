/- Undo answers as the chapter says. -/
import Derived.Test.YtnlblmghhkmbbaaSperm
namespace Go.Proofs.Ytnlblmghhkmbbaa
set_option linter.unusedVariables false
open Go.RowKit

def unmixV (s : St) (i : Nat) : St := upd (upd s (i + 4) (rotL (s (i + 4) ^^^ rotL (s i) 16) 25)) i (rotL (s i) 16 - rotL (s (i + 4) ^^^ rotL (s i) 16) 25)
def unmixes : Nat → St → St
  | 0, s => s
  | k + 1, s => unmixV (unmixes k s) k
def turnU (s : St) : St := upd (upd (upd (upd s 5 (s 4)) 6 (s 5)) 7 (s 6)) 4 (s 7)
def unroundV (r : Nat) (s : St) : St := upd (unmixes 4 (turnU s)) 0 (unmixes 4 (turnU s) 0 ^^^ BitVec.ofNat 32 (12 - r) * roundK)
/-- The first rounds of the inverse. -/
def undos : Nat → St → St
  | 0, s => s
  | k + 1, s => unroundV k (undos k s)
theorem b_sub (x y : B32) : ((x.toNat : Int) - (y.toNat : Int)) % 4294967296 = ((x - y).toNat : Int) := by
  have hx := x.isLt
  have hy := y.isLt
  rw [BitVec.toNat_sub]
  simp only [Int.natCast_emod, Int.natCast_add]
  omega
theorem b_unround (r : Nat) (h : r < 12) (x : B32) : ∃ K : Int, (12 - (r : Int)) * 2654435769 % 4294967296 = K ∧ bits .xor .u32 (x.toNat : Int) K = ((x ^^^ BitVec.ofNat 32 (12 - r) * roundK).toNat : Int) := by
  refine ⟨_, rfl, ?_⟩
  rw [← b_xor]
  refine congrArg (fun z => bits .xor .u32 (x.toNat : Int) z) ?_
  rw [BitVec.toNat_mul, BitVec.toNat_ofNat]
  have : roundK.toNat = 2654435769 := rfl
  rw [this, Nat.mod_eq_of_lt (show 12 - r < 2 ^ 32 by omega)]
  simp only [Int.natCast_emod, Int.natCast_mul]
  rw [show ((12 - r : Nat) : Int) = 12 - (r : Int) by omega]
  rfl
theorem unturn_rel {w : World} {g : Nat} {t : TypeId} (τ : St) (hB : Blk w g t (vals τ)) :
    Blk ((((w.setCell ⟨g, 5, none⟩ (.int .u32 ((τ 4).toNat : Int))).setCell ⟨g, 6, none⟩ (.int .u32 ((τ 5).toNat : Int))).setCell ⟨g, 7, none⟩ (.int .u32 ((τ 6).toNat : Int))).setCell ⟨g, 4, none⟩ (.int .u32 ((τ 7).toNat : Int))) g t (vals (turnU τ)) := by
  have := (((hB.set_ 5 (.int .u32 ((τ 4).toNat : Int))).set_ 6 (.int .u32 ((τ 5).toNat : Int))).set_ 7 (.int .u32 ((τ 6).toNat : Int))).set_ 4 (.int .u32 ((τ 7).toNat : Int))
  rw [vals_set τ 5 _ (by omega), vals_set _ 6 _ (by omega), vals_set _ 7 _ (by omega), vals_set _ 4 _ (by omega)] at this
  exact this
theorem unmix_rel {w : World} {g : Nat} {t : TypeId} (τ σ1 : St) (j : Nat) (hτ : τ = unmixes j σ1) (hj : j < 4) {a x b d : B32} (h : a = rotL (τ j) 16 ∧ x = τ (j + 4) ^^^ a ∧ b = rotL x 25 ∧ d = a - b) (hB : Blk w g t (vals τ)) :
    Blk ((w.setCell ⟨g, j + 4, none⟩ (.int .u32 (b.toNat : Int))).setCell ⟨g, j, none⟩ (.int .u32 (d.toNat : Int))) g t (vals (unmixes (j + 1) σ1)) := by
  have := (hB.set_ (j + 4) (.int .u32 (b.toNat : Int))).set_ j (.int .u32 (d.toNat : Int))
  rw [vals_set τ (j + 4) _ (by omega), vals_set _ j _ (by omega)] at this
  rw [unmixes, ← hτ]
  unfold unmixV
  obtain ⟨rfl, rfl, rfl, rfl⟩ := h
  exact this
attribute [local irreducible] rotL
set_option maxRecDepth 100000 in
set_option maxHeartbeats 4000000 in
theorem undo_any (s : St) (w : World) : Calls Try.prog 38 #[.agg (vals s)] w fun e w' => e = .returned (.agg (vals (undos 12 s))) ∧ Below w.heap.size w w' := by
  obtain ⟨W0, hW0⟩ : ∃ W0, W0 = (w.alloc (.cells (vals s) 41)).alloc (.cells (vals (fun _ => 0#32)) 41) := ⟨_, rfl⟩
  have hg1 : Blk W0 w.heap.size 41 (vals s) := by rw [hW0]; exact (Below.heap_alloc _ _ _ (by simp)).trans (heap_new w _)
  have hg2 : Blk W0 (w.heap.size + 1) 41 (vals (fun _ => 0#32)) := by rw [hW0]; exact heap_alloc2_new w _ _
  have hb0 : Below w.heap.size w W0 := by rw [hW0]; exact ((Below.refl _ w).alloc (Nat.le_refl _) _).alloc (by simp) _
  have Hg1 := Lib.hid hg1
  have Hg2 := Lib.hid hg2
  have Hb0 := Lib.hid hb0
  rw [vals_lit s, vals_lit (fun _ => 0#32)] at hW0
  have HW0 := Lib.hid hW0
  clear hW0 hg1 hg2 hb0
  rw [vals_lit s]
  go_enter Try.func38, Try.ntmps38
  go_wp2_with fail
  have hz : ((0#32 : B32).toNat : Int) = 0 := rfl
  rw [hz] at HW0
  rw [← HW0.out]
  clear HW0 hz
  go_loopw [6] (fun r wr => ∃ k : Nat, k ≤ 12 ∧ r = .int .u32 k ∧ Blk wr w.heap.size 41 (vals (undos k s)) ∧ Blk wr (w.heap.size + 1) 41 (vals (fun _ => 0#32)) ∧ Below w.heap.size w wr) (fun r _ => 12 - (intOf r).toNat)
  case atStart => exact ⟨0, Nat.zero_le _, rfl, Hg1.out, Hg2.out, Hb0.out⟩
  case round =>
    obtain ⟨k, hk, rfl, hblk, hzero, hb⟩ := hrel
    by_cases hlt : k < 12
    · obtain ⟨σ, hσ⟩ : ∃ σ, σ = undos k s := ⟨_, rfl⟩
      rw [← hσ] at hblk
      have p4 : wr.cell? ⟨w.heap.size, 4, none⟩ = some (.int .u32 ((σ 4).toNat : Int)) := hblk.cell 4
      have p5 : wr.cell? ⟨w.heap.size, 5, none⟩ = some (.int .u32 ((σ 5).toNat : Int)) := hblk.cell 5
      have p6 : wr.cell? ⟨w.heap.size, 6, none⟩ = some (.int .u32 ((σ 6).toNat : Int)) := hblk.cell 6
      have p7 : wr.cell? ⟨w.heap.size, 7, none⟩ = some (.int .u32 ((σ 7).toNat : Int)) := hblk.cell 7
      have f4 := hblk.frozen 4
      have f5 := hblk.frozen 5
      have f6 := hblk.frozen 6
      have f7 := hblk.frozen 7
      have hsz := hblk.lt
      have HBlk := Lib.hid hblk
      have HZ := Lib.hid hzero
      have Hb := Lib.hid hb
      have Hσ := Lib.hid hσ
      have hkd : decide ((k : Int) < 12) = true := decide_eq_true (by omega)
      clear hblk hzero hb hσ
      go_wp2_with fail
      have hb1 := unturn_rel σ HBlk.out
      have hz1 := (((HZ.out.other (g := w.heap.size) (by omega) 5 (.int .u32 ((σ 4).toNat : Int))).other (g := w.heap.size) (by omega) 6 (.int .u32 ((σ 5).toNat : Int))).other (g := w.heap.size) (by omega) 7 (.int .u32 ((σ 6).toNat : Int))).other (g := w.heap.size) (by omega) 4 (.int .u32 ((σ 7).toNat : Int))
      have hbb : Below w.heap.size w ((((wr.setCell ⟨w.heap.size, 5, none⟩ (.int .u32 ((σ 4).toNat : Int))).setCell ⟨w.heap.size, 6, none⟩ (.int .u32 ((σ 5).toNat : Int))).setCell ⟨w.heap.size, 7, none⟩ (.int .u32 ((σ 6).toNat : Int))).setCell ⟨w.heap.size, 4, none⟩ (.int .u32 ((σ 7).toNat : Int))) := (((Hb.out.setCell (Nat.le_refl _) _).setCell (Nat.le_refl _) _).setCell (Nat.le_refl _) _).setCell (Nat.le_refl _) _
      obtain ⟨W1, hW1⟩ : ∃ W1, W1 = ((((wr.setCell ⟨w.heap.size, 5, none⟩ (.int .u32 ((σ 4).toNat : Int))).setCell ⟨w.heap.size, 6, none⟩ (.int .u32 ((σ 5).toNat : Int))).setCell ⟨w.heap.size, 7, none⟩ (.int .u32 ((σ 6).toNat : Int))).setCell ⟨w.heap.size, 4, none⟩ (.int .u32 ((σ 7).toNat : Int))) := ⟨_, rfl⟩
      rw [← hW1] at hb1 hz1 hbb ⊢
      obtain ⟨σ1, hσ1⟩ : ∃ z, z = turnU σ := ⟨_, rfl⟩
      rw [← hσ1] at hb1
      have Hσ1 := Lib.hid hσ1
      have HB1 := Lib.hid hb1
      have HZ1 := Lib.hid hz1
      have Hbb := Lib.hid hbb
      clear hW1 hb1 hz1 hbb hσ1 p4 p5 p6 p7 f4 f5 f6 f7 HBlk HZ Hb hsz
      go_loopw [21] (fun i wi => ∃ j : Nat, j ≤ 4 ∧ i = .int .i64 j ∧ Blk wi w.heap.size 41 (vals (unmixes j σ1)) ∧ Blk wi (w.heap.size + 1) 41 (vals (fun _ => 0#32)) ∧ Below w.heap.size w wi) (fun i _ => 4 - (intOf i).toNat)
      case atStart => exact ⟨0, Nat.zero_le _, rfl, HB1.out, HZ1.out, Hbb.out⟩
      case round =>
        obtain ⟨j, hj, rfl, hblk, hzero, hb⟩ := hrel
        by_cases hjl : j < 4
        · obtain ⟨τ, hτ⟩ : ∃ τ, τ = unmixes j σ1 := ⟨_, rfl⟩
          rw [← hτ] at hblk
          have Hτ := Lib.hid hτ
          clear hτ
          have hj4 : j = 0 ∨ j = 1 ∨ j = 2 ∨ j = 3 := by omega
          clear hj
          rcases hj4 with rfl | rfl | rfl | rfl
          · have q0 : wr.cell? ⟨w.heap.size, 0, none⟩ = some (.int .u32 ((τ 0).toNat : Int)) := hblk.cell 0
            have q4 : wr.cell? ⟨w.heap.size, 4, none⟩ = some (.int .u32 ((τ 4).toNat : Int)) := hblk.cell 4
            have f0 := hblk.frozen 0
            have f4 := hblk.frozen 4
            have hsz := hblk.lt
            obtain ⟨a, ha⟩ : ∃ x, x = rotL (τ 0) 16 := ⟨_, rfl⟩
            have hxo := b_xor (τ 4) a
            obtain ⟨x, hx⟩ : ∃ x, x = τ 4 ^^^ a := ⟨_, rfl⟩
            rw [← hx] at hxo
            obtain ⟨b, hbv⟩ : ∃ y, y = rotL x 25 := ⟨_, rfl⟩
            have hsb := b_sub a b
            obtain ⟨d, hd⟩ : ∃ y, y = a - b := ⟨_, rfl⟩
            rw [← hd] at hsb
            have HS := Lib.hid (And.intro ha (And.intro hx (And.intro hbv hd)))
            have HBlk := Lib.hid hblk
            have HZ := Lib.hid hzero
            have Hb := Lib.hid hb
            clear hblk hzero hb ha hx hbv hd
            go_wp2_with fail
            refine (rot_of _ (τ 0) rfl (-16) 16 (by simp) _).mono ?_
            rintro e u ⟨rfl, rfl⟩
            rw [← HS.out.1]
            go_wp2_with fail
            refine (rot_of _ x rfl (-7) 25 (by simp) _).mono ?_
            rintro e u ⟨rfl, rfl⟩
            rw [← HS.out.2.2.1]
            go_wp2_with fail
            go_roundw
            case rel => exact ⟨1, by omega, rfl, unmix_rel τ σ1 0 Hτ.out (by omega) HS.out HBlk.out, ((HZ.out).other (by omega) _ _).other (by omega) _ _, ((Hb.out).setCell (Nat.le_refl _) _).setCell (Nat.le_refl _) _⟩
            case measure => exact (by decide : 4 - (intOf (Value.int .i64 1)).toNat < 4 - (intOf (Value.int .i64 0)).toNat)
          · have q0 : wr.cell? ⟨w.heap.size, 1, none⟩ = some (.int .u32 ((τ 1).toNat : Int)) := hblk.cell 1
            have q4 : wr.cell? ⟨w.heap.size, 5, none⟩ = some (.int .u32 ((τ 5).toNat : Int)) := hblk.cell 5
            have f0 := hblk.frozen 1
            have f4 := hblk.frozen 5
            have hsz := hblk.lt
            obtain ⟨a, ha⟩ : ∃ x, x = rotL (τ 1) 16 := ⟨_, rfl⟩
            have hxo := b_xor (τ 5) a
            obtain ⟨x, hx⟩ : ∃ x, x = τ 5 ^^^ a := ⟨_, rfl⟩
            rw [← hx] at hxo
            obtain ⟨b, hbv⟩ : ∃ y, y = rotL x 25 := ⟨_, rfl⟩
            have hsb := b_sub a b
            obtain ⟨d, hd⟩ : ∃ y, y = a - b := ⟨_, rfl⟩
            rw [← hd] at hsb
            have HS := Lib.hid (And.intro ha (And.intro hx (And.intro hbv hd)))
            have HBlk := Lib.hid hblk
            have HZ := Lib.hid hzero
            have Hb := Lib.hid hb
            clear hblk hzero hb ha hx hbv hd
            go_wp2_with fail
            refine (rot_of _ (τ 1) rfl (-16) 16 (by simp) _).mono ?_
            rintro e u ⟨rfl, rfl⟩
            rw [← HS.out.1]
            go_wp2_with fail
            refine (rot_of _ x rfl (-7) 25 (by simp) _).mono ?_
            rintro e u ⟨rfl, rfl⟩
            rw [← HS.out.2.2.1]
            go_wp2_with fail
            go_roundw
            case rel => exact ⟨2, by omega, rfl, unmix_rel τ σ1 1 Hτ.out (by omega) HS.out HBlk.out, ((HZ.out).other (by omega) _ _).other (by omega) _ _, ((Hb.out).setCell (Nat.le_refl _) _).setCell (Nat.le_refl _) _⟩
            case measure => exact (by decide : 4 - (intOf (Value.int .i64 2)).toNat < 4 - (intOf (Value.int .i64 1)).toNat)
          · have q0 : wr.cell? ⟨w.heap.size, 2, none⟩ = some (.int .u32 ((τ 2).toNat : Int)) := hblk.cell 2
            have q4 : wr.cell? ⟨w.heap.size, 6, none⟩ = some (.int .u32 ((τ 6).toNat : Int)) := hblk.cell 6
            have f0 := hblk.frozen 2
            have f4 := hblk.frozen 6
            have hsz := hblk.lt
            obtain ⟨a, ha⟩ : ∃ x, x = rotL (τ 2) 16 := ⟨_, rfl⟩
            have hxo := b_xor (τ 6) a
            obtain ⟨x, hx⟩ : ∃ x, x = τ 6 ^^^ a := ⟨_, rfl⟩
            rw [← hx] at hxo
            obtain ⟨b, hbv⟩ : ∃ y, y = rotL x 25 := ⟨_, rfl⟩
            have hsb := b_sub a b
            obtain ⟨d, hd⟩ : ∃ y, y = a - b := ⟨_, rfl⟩
            rw [← hd] at hsb
            have HS := Lib.hid (And.intro ha (And.intro hx (And.intro hbv hd)))
            have HBlk := Lib.hid hblk
            have HZ := Lib.hid hzero
            have Hb := Lib.hid hb
            clear hblk hzero hb ha hx hbv hd
            go_wp2_with fail
            refine (rot_of _ (τ 2) rfl (-16) 16 (by simp) _).mono ?_
            rintro e u ⟨rfl, rfl⟩
            rw [← HS.out.1]
            go_wp2_with fail
            refine (rot_of _ x rfl (-7) 25 (by simp) _).mono ?_
            rintro e u ⟨rfl, rfl⟩
            rw [← HS.out.2.2.1]
            go_wp2_with fail
            go_roundw
            case rel => exact ⟨3, by omega, rfl, unmix_rel τ σ1 2 Hτ.out (by omega) HS.out HBlk.out, ((HZ.out).other (by omega) _ _).other (by omega) _ _, ((Hb.out).setCell (Nat.le_refl _) _).setCell (Nat.le_refl _) _⟩
            case measure => exact (by decide : 4 - (intOf (Value.int .i64 3)).toNat < 4 - (intOf (Value.int .i64 2)).toNat)
          · have q0 : wr.cell? ⟨w.heap.size, 3, none⟩ = some (.int .u32 ((τ 3).toNat : Int)) := hblk.cell 3
            have q4 : wr.cell? ⟨w.heap.size, 7, none⟩ = some (.int .u32 ((τ 7).toNat : Int)) := hblk.cell 7
            have f0 := hblk.frozen 3
            have f4 := hblk.frozen 7
            have hsz := hblk.lt
            obtain ⟨a, ha⟩ : ∃ x, x = rotL (τ 3) 16 := ⟨_, rfl⟩
            have hxo := b_xor (τ 7) a
            obtain ⟨x, hx⟩ : ∃ x, x = τ 7 ^^^ a := ⟨_, rfl⟩
            rw [← hx] at hxo
            obtain ⟨b, hbv⟩ : ∃ y, y = rotL x 25 := ⟨_, rfl⟩
            have hsb := b_sub a b
            obtain ⟨d, hd⟩ : ∃ y, y = a - b := ⟨_, rfl⟩
            rw [← hd] at hsb
            have HS := Lib.hid (And.intro ha (And.intro hx (And.intro hbv hd)))
            have HBlk := Lib.hid hblk
            have HZ := Lib.hid hzero
            have Hb := Lib.hid hb
            clear hblk hzero hb ha hx hbv hd
            go_wp2_with fail
            refine (rot_of _ (τ 3) rfl (-16) 16 (by simp) _).mono ?_
            rintro e u ⟨rfl, rfl⟩
            rw [← HS.out.1]
            go_wp2_with fail
            refine (rot_of _ x rfl (-7) 25 (by simp) _).mono ?_
            rintro e u ⟨rfl, rfl⟩
            rw [← HS.out.2.2.1]
            go_wp2_with fail
            go_roundw
            case rel => exact ⟨4, by omega, rfl, unmix_rel τ σ1 3 Hτ.out (by omega) HS.out HBlk.out, ((HZ.out).other (by omega) _ _).other (by omega) _ _, ((Hb.out).setCell (Nat.le_refl _) _).setCell (Nat.le_refl _) _⟩
            case measure => exact (by decide : 4 - (intOf (Value.int .i64 4)).toNat < 4 - (intOf (Value.int .i64 3)).toNat)
        · obtain rfl : j = 4 := by omega
          have p0 : wr.cell? ⟨w.heap.size, 0, none⟩ = some (.int .u32 ((unmixes 4 σ1 0).toNat : Int)) := hblk.cell 0
          have f0 := hblk.frozen 0
          have hsz := hblk.lt
          obtain ⟨τ, hτ⟩ : ∃ τ, τ = unmixes 4 σ1 := ⟨_, rfl⟩
          rw [← hτ] at p0 hblk
          obtain ⟨K, hm, hx⟩ := b_unround k hlt (τ 0)
          obtain ⟨y0, hy0⟩ : ∃ y, y = τ 0 ^^^ BitVec.ofNat 32 (12 - k) * roundK := ⟨_, rfl⟩
          rw [← hy0] at hx
          have Hy0 := Lib.hid hy0
          have Hτ := Lib.hid hτ
          have HBlk := Lib.hid hblk
          have HZ := Lib.hid hzero
          have Hb := Lib.hid hb
          clear hblk hzero hb hτ hy0
          go_wp2_with fail
          go_roundw
          case rel =>
            refine ⟨k + 1, by omega, by go_num, ?_, HZ.out.other (by omega) _ _, Hb.out.setCell (Nat.le_refl _) _⟩
            have := HBlk.out.set_ 0 (.int .u32 (y0.toNat : Int))
            rw [vals_set τ 0 _ (by omega)] at this
            have e : undos (k + 1) s = upd τ 0 y0 := by
              rw [undos, ← Hσ.out, Hy0.out, Hτ.out, Hσ1.out]
              rfl
            rw [e]
            exact this
          case measure => simp [intOf]; omega
    · obtain rfl : k = 12 := by omega
      have p0 : wr.cell? ⟨w.heap.size, 0, none⟩ = some (.int .u32 ((undos 12 s 0).toNat : Int)) := hblk.cell 0
      have p1 : wr.cell? ⟨w.heap.size, 1, none⟩ = some (.int .u32 ((undos 12 s 1).toNat : Int)) := hblk.cell 1
      have p2 : wr.cell? ⟨w.heap.size, 2, none⟩ = some (.int .u32 ((undos 12 s 2).toNat : Int)) := hblk.cell 2
      have p3 : wr.cell? ⟨w.heap.size, 3, none⟩ = some (.int .u32 ((undos 12 s 3).toNat : Int)) := hblk.cell 3
      have p4 : wr.cell? ⟨w.heap.size, 4, none⟩ = some (.int .u32 ((undos 12 s 4).toNat : Int)) := hblk.cell 4
      have p5 : wr.cell? ⟨w.heap.size, 5, none⟩ = some (.int .u32 ((undos 12 s 5).toNat : Int)) := hblk.cell 5
      have p6 : wr.cell? ⟨w.heap.size, 6, none⟩ = some (.int .u32 ((undos 12 s 6).toNat : Int)) := hblk.cell 6
      have p7 : wr.cell? ⟨w.heap.size, 7, none⟩ = some (.int .u32 ((undos 12 s 7).toNat : Int)) := hblk.cell 7
      have hsz := hblk.lt
      have hsz2 := hzero.lt
      obtain ⟨τ, hτ⟩ : ∃ τ, τ = undos 12 s := ⟨_, rfl⟩
      rw [← hτ] at p0 p1 p2 p3 p4 p5 p6 p7 hblk
      have Hτ := Lib.hid hτ
      have HZ := Lib.hid hzero
      have Hb := Lib.hid hb
      clear hblk hzero hb hτ
      have z1 := sizeSt τ
      have z3 := oneSt τ
      go_wp2_with (refine wpList_store_row rfl 41 (.tmp 2) (.tmp 55) rfl (w.heap.size + 1) (vals τ) rfl rfl 41 (vals (fun _ => 0#32)) HZ.out z1 rfl z3 ?_)
      refine bodyPost_ret (v := .agg (vals τ)) ?_ rfl ⟨?_, ?_⟩
      · exact results_cell_row rfl _ _ (w.heap.size + 1) 41 (vals τ) (0, 0) _ rfl (setRow_heap _ _ _ _ _ _ HZ.out) Try.underlying41 rfl z1
      · rw [Hτ.out]
      · exact Hb.out.trans (below_setRow _ _ _ _ (by have := Hb.out.size; omega))
end Go.Proofs.Ytnlblmghhkmbbaa
