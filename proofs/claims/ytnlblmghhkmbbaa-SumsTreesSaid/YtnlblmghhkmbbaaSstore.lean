/- Words into bytes. -/
import Derived.Test.YtnlblmghhkmbbaaSload
import Derived.Test.YtnlblmghhkmbbaaSperm
namespace Go.Proofs.Ytnlblmghhkmbbaa
set_option linter.unusedVariables false
open Go.RowKit

/-- The cells with the first k bytes of a word laid from off on. -/
def put4 (cs : Array Value) (off : Nat) (x : B32) : Nat → Array Value
  | 0 => cs
  | k + 1 => (put4 cs off x k).setIfInBounds (off + k) (.int .u8 (((x.toNat : Int) / 2 ^ (8 * k)) % 256))
theorem put4_size (cs : Array Value) (off : Nat) (x : B32) (k : Nat) : (put4 cs off x k).size = cs.size := by
  induction k with
  | zero => rfl
  | succ k ih => rw [put4, Array.size_setIfInBounds, ih]
theorem put_rel {cs : Array Value} {off : Nat} {x : B32} {w : World} {g : Nat} {t : TypeId} (k : Nat) (v : Int) (hv : v = (x.toNat : Int) / 2 ^ (8 * k) % 256) (hB : Blk w g t (put4 cs off x k)) : Blk (w.setCell ⟨g, off + k, none⟩ (.int .u8 v)) g t (put4 cs off x (k + 1)) := by
  subst hv
  exact hB.set_ (off + k) _
set_option maxRecDepth 100000 in
set_option maxHeartbeats 1000000 in
theorem store_any (g off len cap : Nat) (t : TypeId) (cs : Array Value) (x : B32) (w : World) (h : Blk w g t cs) (h4 : 4 ≤ len) (hlc : len ≤ cap) (hm : cap ≤ 9223372036854775807) (hfit : off + 4 ≤ cs.size) :
    Calls Try.prog 81 #[.slice (some ⟨g, off, none⟩) len cap, .int .u32 (x.toNat : Int)] w fun e w' => e = .returned (.tuple #[]) ∧ Blk w' g t (put4 cs off x 4) ∧ Below g w w' ∧ w'.heap.size = w.heap.size := by
  have hx := b_bd x
  have H := Lib.hid h
  clear h
  go_enter Try.func81, Try.ntmps81
  go_wp2_with fail
  refine (sizeOf32 w).mono ?_
  rintro e w1 ⟨rfl, rfl⟩
  go_wp2_with fail
  go_loopw [6] (fun i wr => ∃ k : Nat, k ≤ 4 ∧ i = .int .i64 k ∧ Blk wr g t (put4 cs off x k) ∧ Below g w1 wr ∧ wr.heap.size = w1.heap.size) (fun i _ => 4 - (intOf i).toNat)
  case atStart => exact ⟨0, Nat.zero_le _, rfl, H.out, Below.refl _ _, rfl⟩
  case round =>
    obtain ⟨k, hk, rfl, hblk, hb, hs⟩ := hrel
    by_cases hlt : k < 4
    · have hsz := put4_size cs off x k
      have hcell := hblk.cell (off + k)
      rw [Array.getElem?_eq_getElem (by omega)] at hcell
      obtain ⟨u, hu⟩ : ∃ u, u = (put4 cs off x k)[off + k]'(by omega) := ⟨_, rfl⟩
      rw [← hu] at hcell
      have hfr := hblk.frozen (off + k)
      have HBlk := Lib.hid hblk
      have Hb := Lib.hid hb
      have Hs := Lib.hid hs
      clear hblk hb hs hu hsz
      have hk4 : k = 0 ∨ k = 1 ∨ k = 2 ∨ k = 3 := by omega
      clear hk
      rcases hk4 with rfl | rfl | rfl | rfl
      · simp only [Nat.add_zero] at hcell hfr
        go_wp2_with fail
        go_roundw
        case rel => exact ⟨1, by omega, rfl, put_rel 0 _ (by rw [show (2 : Int) ^ (8 * 0) = 1 from rfl] <;> omega) HBlk.out, Hb.out.setCell (Nat.le_refl _) _, by simp [World.setCell, Hs.out]⟩
        case measure => simp [intOf]
      · go_wp2_with fail
        go_roundw
        case rel => exact ⟨2, by omega, rfl, put_rel 1 _ (by rw [show (2 : Int) ^ (8 * 1) = 256 from rfl] <;> omega) HBlk.out, Hb.out.setCell (Nat.le_refl _) _, by simp [World.setCell, Hs.out]⟩
        case measure => simp [intOf]
      · go_wp2_with fail
        go_roundw
        case rel => exact ⟨3, by omega, rfl, put_rel 2 _ (by rw [show (2 : Int) ^ (8 * 2) = 65536 from rfl] <;> omega) HBlk.out, Hb.out.setCell (Nat.le_refl _) _, by simp [World.setCell, Hs.out]⟩
        case measure => simp [intOf]
      · go_wp2_with fail
        go_roundw
        case rel => exact ⟨4, by omega, rfl, put_rel 3 _ (by rw [show (2 : Int) ^ (8 * 3) = 16777216 from rfl] <;> omega) HBlk.out, Hb.out.setCell (Nat.le_refl _) _, by simp [World.setCell, Hs.out]⟩
        case measure => simp [intOf]
    · obtain rfl : k = 4 := by omega
      have HBlk := Lib.hid hblk
      have Hb := Lib.hid hb
      have Hs := Lib.hid hs
      clear hblk hb hs
      go_wp2_with fail
      go_end0
      exact ⟨rfl, HBlk.out, Hb.out, Hs.out⟩
end Go.Proofs.Ytnlblmghhkmbbaa
