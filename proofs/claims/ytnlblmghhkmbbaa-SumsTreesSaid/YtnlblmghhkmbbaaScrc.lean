/- Crc answers as the chapter says. -/
import Derived.Test.YtnlblmghhkmbbaaSlin
import Derived.Laws.Rows
import Derived.Deep.Draws
namespace Go.Proofs.Ytnlblmghhkmbbaa
set_option linter.unusedVariables false
open Go.RowKit

/-- Block g is just these cells. -/
def Blk (w : World) (g : Nat) (t : TypeId) (cs : Array Value) : Prop := w.heap[g]? = some (.cells cs t (0, 0))
section
variable {w w' : World} {g : Nat} {t : TypeId} {cs : Array Value}
theorem Blk.lt (h : Blk w g t cs) : g < w.heap.size := by
  rcases Nat.lt_or_ge g w.heap.size with hlt | hge
  · exact hlt
  · unfold Blk at h; rw [Array.getElem?_eq_none hge] at h; cases h
theorem Blk.cell (h : Blk w g t cs) (i : Nat) : w.cell? ⟨g, i, none⟩ = cs[i]? := cell_of_row w g i cs t (0, 0) h
theorem Blk.frozen (h : Blk w g t cs) (i : Nat) : w.frozen? ⟨g, i, none⟩ = false := by
  unfold Blk at h
  simp [World.frozen?, h]
theorem Blk.set_ (h : Blk w g t cs) (i : Nat) (u : Value) : Blk (w.setCell ⟨g, i, none⟩ u) g t (cs.setIfInBounds i u) := by
  unfold Blk at h ⊢
  simp [World.setCell, Array.getElem?_modify, h]
theorem Blk.below {B : Nat} (h : Blk w g t cs) (hb : Below B w w') (hg : g < B) : Blk w' g t cs := (hb.block g hg).trans h
end
/-- What half a byte comes to. -/
def hv (i : Nat) : Value := .int .u32 ((shifts 4 (BitVec.ofNat 32 i)).toNat : Int)
def tabP (k : Nat) : Array Value := (Array.range 16).map fun i => if i < k then hv i else .int .u32 0
theorem tab_get (k i : Nat) (h : i < 16) : (tabP k)[i]? = some (if i < k then hv i else .int .u32 0) := by
  unfold tabP; simp [h]
theorem tab_set (k : Nat) (h : k < 16) : (tabP k).setIfInBounds k (hv k) = tabP (k + 1) := by
  apply Array.ext_getElem?
  intro i
  have hs : (tabP k).size = 16 := by unfold tabP; simp
  have hs1 : (tabP (k + 1)).size = 16 := by unfold tabP; simp
  by_cases hi : i < 16
  · rw [tab_get (k + 1) i hi, Array.getElem?_setIfInBounds]
    by_cases hk : k = i
    · subst hk
      rw [if_pos rfl, if_pos (by omega), if_pos (by omega)]
    · rw [if_neg hk, tab_get k i hi]
      by_cases hlt : i < k
      · rw [if_pos hlt, if_pos (by omega)]
      · rw [if_neg hlt, if_neg (by omega)]
  · rw [Array.getElem?_eq_none (by simp; omega), Array.getElem?_eq_none (by omega)]
theorem tab0 : tabP 0 = #[.int .u32 0, .int .u32 0, .int .u32 0, .int .u32 0, .int .u32 0, .int .u32 0, .int .u32 0, .int .u32 0, .int .u32 0, .int .u32 0, .int .u32 0, .int .u32 0, .int .u32 0, .int .u32 0, .int .u32 0, .int .u32 0] := by kernel_rfl
theorem heap_new (w : World) (o : Obj) : (w.alloc o).heap[w.heap.size]? = some o := heap_alloc_new w o
theorem shift_at (n : Int) (c : B32) (h : n = (c.toNat : Int)) (w : World) : Calls Try.prog 75 #[.int .u32 n] w fun e w' => e = .returned (.int .u32 ((shiftV c).toNat : Int)) ∧ w = w' := by
  subst h; exact shift_any c w
set_option maxRecDepth 100000 in
set_option maxHeartbeats 1000000 in
theorem register_any (w : World) : Calls Try.prog 57 #[] w fun e w' => e = .returned (.func (.func 76) #[] #[.pointer (some ⟨w.heap.size, 0, none⟩)]) ∧ Blk w' w.heap.size 105 (tabP 16) ∧ Below w.heap.size w w' := by
  have hmf : ∀ (fn : Fn) (first cap : Array Value) (w : World), (Instr.makeFunc fn first cap).run Try.prog w = .ok (.func fn first cap) w := fun _ _ _ _ => rfl
  obtain ⟨W0, hW0⟩ : ∃ W0, W0 = w.alloc (.cells (tabP 0) 105) := ⟨_, rfl⟩
  have hblk : Blk W0 w.heap.size 105 (tabP 0) := by rw [hW0]; exact heap_new w _
  have hb0 : Below w.heap.size w W0 := by rw [hW0]; exact (Below.refl _ w).alloc (Nat.le_refl _) _
  have HW0 := Lib.hid hW0
  have HB := Lib.hid hblk
  have Hb0 := Lib.hid hb0
  clear hW0 hblk hb0
  go_enter Try.func57, Try.ntmps57
  go_wp2_with fail
  have hz : (w.alloc (.cells (#[.int .u32 0, .int .u32 0, .int .u32 0, .int .u32 0, .int .u32 0, .int .u32 0, .int .u32 0, .int .u32 0, .int .u32 0, .int .u32 0, .int .u32 0, .int .u32 0, .int .u32 0, .int .u32 0, .int .u32 0, .int .u32 0] : Array Value) 105)) = W0 := by rw [HW0.out, tab0]
  rw [hz]
  clear hz HW0
  go_loopw [3] (fun i wr => ∃ k : Nat, k ≤ 16 ∧ i = .int .i64 k ∧ Blk wr w.heap.size 105 (tabP k) ∧ Below w.heap.size w wr) (fun i _ => 16 - (intOf i).toNat)
  case atStart => exact ⟨0, by omega, rfl, HB.out, Hb0.out⟩
  case round =>
    obtain ⟨k, hk, rfl, hblk, hb⟩ := hrel
    by_cases hlt : k < 16
    · have hc := hblk.cell k
      rw [tab_get k k hlt, if_neg (by omega)] at hc
      have hf := hblk.frozen k
      have HB := Lib.hid hblk
      have Hb := Lib.hid hb
      have hn : (k : Int) = ((BitVec.ofNat 32 k).toNat : Int) := by rw [BitVec.toNat_ofNat, Nat.mod_eq_of_lt (by omega)]
      have HN := Lib.hid hn
      have hk16 : (k : Int) < 16 := by omega
      clear hblk hb hn
      go_wp2_with fail
      refine (shift_at _ (BitVec.ofNat 32 k) HN.out wr).mono ?_
      rintro e u ⟨rfl, rfl⟩
      go_wp2_with fail
      refine (shift_any _ wr).mono ?_
      rintro e u ⟨rfl, rfl⟩
      go_wp2_with fail
      refine (shift_any _ wr).mono ?_
      rintro e u ⟨rfl, rfl⟩
      go_wp2_with fail
      refine (shift_any _ wr).mono ?_
      rintro e u ⟨rfl, rfl⟩
      have hv1 : Value.int .u32 ((shiftV (shiftV (shiftV (shiftV (BitVec.ofNat 32 k))))).toNat : Int) = hv k := rfl
      have HV := Lib.hid hv1
      clear hv1
      go_wp2_with fail
      go_roundw
      case rel => exact ⟨k + 1, by omega, by go_num, by rw [← tab_set k hlt, ← HV.out]; exact HB.out.set_ k _, Hb.out.setCell (by simp) _⟩
      case measure => simp [intOf]; omega
    · obtain rfl : k = 16 := by omega
      have HB := Lib.hid hblk
      have Hb := Lib.hid hb
      clear hblk hb
      go_wp2_with fail
      go_ret
      exact ⟨rfl, HB.out, Hb.out⟩
/-- A value of the table, told by where it is asked. -/
theorem tab_at {w : World} {T : Nat} (h : Blk w T 105 (tabP 16)) (j : Nat) (hj : j < 16) : w.cell? ⟨T, j, none⟩ = some (.int .u32 ((shifts 4 (BitVec.ofNat 32 j)).toNat : Int)) := by
  rw [h.cell j, tab_get 16 j hj, if_pos hj]; rfl
theorem b_ofInt {x : Int} (h0 : 0 ≤ x) (h1 : x ≤ 255) : x = ((BitVec.ofInt 32 x).toNat : Int) := by
  rw [BitVec.toNat_ofInt]
  omega
set_option maxRecDepth 100000 in
set_option maxHeartbeats 1000000 in
theorem step_any (c : B32) (x : Int) (hx0 : 0 ≤ x) (hx1 : x ≤ 255) (T : Nat) (w : World) (h : Blk w T 105 (tabP 16)) :
    Calls Try.prog 76 #[.int .u32 (c.toNat : Int), .int .u8 x, .pointer (some ⟨T, 0, none⟩)] w fun e w' => e = .returned (.int .u32 ((stepV c x).toNat : Int)) ∧ w = w' := by
  obtain ⟨c1, hc1⟩ : ∃ c1, c1 = c ^^^ BitVec.ofInt 32 x := ⟨_, rfl⟩
  have e1 : bits .xor .u32 (c.toNat : Int) x = (c1.toNat : Int) := by
    rw [hc1, ← b_xor, ← b_ofInt hx0 hx1]
  have hj1 : c1.toNat % 16 < 16 := Nat.mod_lt _ (by omega)
  have t1 := tab_at h _ hj1
  obtain ⟨j1, hj⟩ : ∃ j, j = c1.toNat % 16 := ⟨_, rfl⟩
  rw [← hj] at t1 hj1
  have r1 : (c1.toNat : Int) % 16 = (j1 : Int) := by rw [hj]; omega
  obtain ⟨c2, hc2⟩ : ∃ c2, c2 = (c1 >>> 4) ^^^ shifts 4 (BitVec.ofNat 32 j1) := ⟨_, rfl⟩
  have e2 : bits .xor .u32 ((c1.toNat : Int) / 16) ((shifts 4 (BitVec.ofNat 32 j1)).toNat : Int) = (c2.toNat : Int) := by
    rw [hc2, ← b_xor, ← b_shr]; rfl
  have hj2 : c2.toNat % 16 < 16 := Nat.mod_lt _ (by omega)
  have t2 := tab_at h _ hj2
  obtain ⟨j2, hjj⟩ : ∃ j, j = c2.toNat % 16 := ⟨_, rfl⟩
  rw [← hjj] at t2 hj2
  have r2 : (c2.toNat : Int) % 16 = (j2 : Int) := by rw [hjj]; omega
  have e3 : bits .xor .u32 ((c2.toNat : Int) / 16) ((shifts 4 (BitVec.ofNat 32 j2)).toNat : Int) = ((stepV c x).toNat : Int) := by
    rw [step_halves, ← hc1, ← hj, ← hc2, ← hjj, ← b_xor, ← b_shr]; rfl
  have b0 := b_bd c
  have b1 := b_bd c1
  have b2 := b_bd c2
  have hT := h.lt
  clear hc1 hj hc2 hjj h
  go_enter Try.func76, Try.ntmps76
  go_wp2
  go_ret
  exact ⟨rfl, rfl⟩
end Go.Proofs.Ytnlblmghhkmbbaa
