/- absorb: whole blocks are taken in, the rest is kept. -/
import Derived.Test.YtnlblmghhkmbbaaSabs1
import Derived.Stop.RegionWithIn
import Derived.Deep.RegionWith
import Derived.IntWalk
import Derived.Deep.RegionHeld3
import Derived.Sort.QuietIn
namespace Go.Proofs.Ytnlblmghhkmbbaa
set_option linter.unusedVariables false
open Go.RowKit Go.Shelf
attribute [local go_sem] Oper.semAt_some

attribute [local irreducible] permV
set_option maxRecDepth 100000 in
set_option maxHeartbeats 4000000 in
theorem absorb_any (g : Nat) (s : St) (ra : Option Addr) (rl rc : Nat) (rest : List Int) (ba : Option Addr) (bl bc : Nat) (bs : List Int) (w : World)
    (hB : Blk w g 84 (spongeC s (.slice ra rl rc))) (hr : Rd w ra rl rc rest) (hb : Rd w ba bl bc bs) (hbig : rl + bl ≤ 140737488355000) :
    Calls Try.prog 60 #[.pointer (some ⟨g, 0, none⟩), .slice ba bl bc] w fun e w' => e = .returned (.tuple #[]) ∧ But g w w' ∧
      ∃ v, Blk w' g 84 (spongeC (absS s (rest ++ bs)) v) ∧ Own w' w.heap.size v (absR (rest ++ bs)) := by
  have hgl := hB.lt
  have hrest : w.cell? ⟨g, 8, none⟩ = some (.slice ra rl rc) := hB.cell 8
  have hmm := hr.hm
  have hmm2 := hb.hm
  have hcc := hr.hc
  have hcc2 := hb.hc
  have hrl := hr.hl
  have hbl := hb.hl
  unfold maxLen at hmm hmm2
  obtain ⟨W0, hW0⟩ : ∃ W0, W0 = w.alloc (.cells #[.pointer (some ⟨g, 0, none⟩)] 82) := ⟨_, rfl⟩
  obtain ⟨W1, hW1⟩ : ∃ W1, W1 = W0.alloc (.cells #[.slice ra rl rc, .slice ba bl bc] 22) := ⟨_, rfl⟩
  have hs0 : W0.heap.size = w.heap.size + 1 := by rw [hW0]; simp
  have hs1 : W1.heap.size = w.heap.size + 2 := by rw [hW1]; simp [hs0]
  have hbx0 : Boxed W0 w.heap.size 82 (.pointer (some ⟨g, 0, none⟩)) := by rw [hW0]; exact Boxed.new _ _ _
  have hbx1 : Boxed W1 w.heap.size 82 (.pointer (some ⟨g, 0, none⟩)) := by rw [hW1]; exact hbx0.alloc _
  have hb1 : Below w.heap.size w W1 := by rw [hW1, hW0]; exact ((Below.refl _ w).alloc (Nat.le_refl _) _).alloc (by simp) _
  have hP : RdP W1 (some ⟨w.heap.size + 1, 0, none⟩) 2 2 [⟨ra, rl, rc, rest⟩, ⟨ba, bl, bc, bs⟩] := by
    refine ⟨rfl, Nat.le_refl _, by unfold maxLen; omega, ?_, fun _ => ⟨w.heap.size + 1, 0, rfl, ?_⟩⟩
    · intro p hp
      simp only [List.mem_cons, List.not_mem_nil, or_false] at hp
      rcases hp with rfl | rfl
      · exact hr.below hb1 (Nat.le_refl _)
      · exact hb.below hb1 (Nat.le_refl _)
    · have hblk : Blk W1 (w.heap.size + 1) 22 #[.slice ra rl rc, .slice ba bl bc] := by rw [hW1, ← hs0]; exact heap_new W0 _
      intro i hi
      rw [hblk.cell]
      have hi2 : i < 2 := hi
      have : i = 0 ∨ i = 1 := by omega
      rcases this with rfl | rfl <;> rfl
  have hcat : catV [⟨ra, rl, rc, rest⟩, ⟨ba, bl, bc, bs⟩] = rest ++ bs := by unfold catV; simp
  have hB1 : Blk W1 g 84 (spongeC s (.slice ra rl rc)) := hB.below hb1 hgl
  have HP := Lib.hid hP
  have HB1 := Lib.hid hB1
  have Hb1 := Lib.hid hb1
  have Hbx1 := Lib.hid hbx1
  have Hcat := Lib.hid hcat
  have HW0 := Lib.hid hW0
  have HW1 := Lib.hid hW1
  have Hs1 := Lib.hid hs1
  have Hlen : Hid ((rest ++ bs).length = rl + bl) := Lib.hid (by rw [List.length_append, hrl, hbl])
  clear hP hB1 hb1 hbx1 hbx0 hcat hW0 hW1 hs0 hs1 hr hb hB hrl hbl
  refine (callsIn_wide (n := 9)).1 ?_
  refine callsIn_of_wp_marks Try.func60 rfl trivial ?_ rfl
  simp only [Try.ntmps60, List.size_toArray, List.length_cons, List.length_nil, Nat.reduceAdd, Nat.reduceSub, Array.replicate_succ, Array.replicate_zero, List.push_toArray, List.append_toArray, List.nil_append, List.cons_append]
  gi_wp2_with fail
  rw [← HW0.out, ← HW1.out]
  refine ⟨trivial, ?_⟩
  refine (callsIn_wide.2 (concat_any (some ⟨w.heap.size + 1, 0, none⟩) 2 2 _ W1 HP.out (by rw [Hcat.out, Hlen.out]; omega))).mono ?_
  rintro e w2 ⟨v0, rfl, ho, hb⟩
  rw [Hcat.out] at ho
  rw [Hs1.out] at ho
  have hB2 := HB1.out.below hb (by rw [Hs1.out]; omega)
  have hbx2 : Boxed w2 w.heap.size 82 (.pointer (some ⟨g, 0, none⟩)) := (hb.block _ (by rw [Hs1.out]; omega)).trans Hbx1.out
  have hbut2 : But g w w2 := (But.of_below Hb1.out (by omega)).trans (But.of_below hb (by rw [Hs1.out]; omega))
  obtain ⟨aa, ac, rfl, hra, hblo⟩ := ho.rdb Hlen.out
  obtain ⟨L, hL⟩ : ∃ L, L = rl + bl := ⟨_, rfl⟩
  rw [← hL] at hra ⊢
  rw [← hL] at hbig
  have HL := Lib.hid hL
  obtain ⟨all, hall⟩ : ∃ all, all = rest ++ bs := ⟨_, rfl⟩
  rw [← hall] at hra
  have hlen : all.length = L := hra.hl
  have hs2 : w.heap.size + 2 ≤ w2.heap.size := by rw [← Hs1.out]; exact hb.size
  have HB2 := Lib.hid hB2
  have Hbx2 := Lib.hid hbx2
  have Hbut2 := Lib.hid hbut2
  have Hra := Lib.hid hra
  have Hblo := Lib.hid hblo
  have Hall := Lib.hid hall
  have Hlen2 := Lib.hid hlen
  clear hb ho hB2 hbx2 hbut2 hra hblo hL hall hlen HP HB1 Hb1 Hbx1 Hcat HW0 HW1 Hlen hrest
  gi_wp2_with fail
  refine ⟨trivial, ?_⟩
  refine (callsIn_wide.2 (blocks_any aa L ac w2)).mono ?_
  rintro e w3 ⟨rfl, hw3⟩
  have hbx3 : Boxed w3 w2.heap.size 22 (.slice aa L ac) := by rw [hw3]; exact Boxed.new _ _ _
  have hB3 : Blk w3 g 84 (spongeC s (.slice ra rl rc)) := by rw [hw3]; exact HB2.out.below ((Below.refl _ w2).alloc (Nat.le_refl _) _) (by omega)
  have hbb3 : Boxed w3 w.heap.size 82 (.pointer (some ⟨g, 0, none⟩)) := by rw [hw3]; exact Hbx2.out.alloc _
  have hbut3 : But g w w3 := by rw [hw3]; exact Hbut2.out.alloc (by omega) _
  have hra3 : Rd w3 aa L ac all := by rw [hw3]; exact Hra.out.below ((Below.refl _ w2).alloc (Nat.le_refl _) _) (Nat.le_refl _)
  have hs3 : w3.heap.size = w2.heap.size + 1 := by rw [hw3]; simp
  have Hbx3 := Lib.hid hbx3
  have HB3 := Lib.hid hB3
  have Hbb3 := Lib.hid hbb3
  have Hbut3 := Lib.hid hbut3
  have Hra3 := Lib.hid hra3
  have Hs3 := Lib.hid hs3
  clear hw3 hbx3 hB3 hbb3 hbut3 hra3 hs3 HB2 Hbx2 Hbut2 Hra
  obtain ⟨b, hba⟩ : ∃ b, 16 ≤ L → aa = some ⟨b, 0, none⟩ := by
    cases aa with
    | none => exact ⟨0, fun h => by have := Hra3.out.hn rfl; have := Hra3.out.hc; omega⟩
    | some x =>
      obtain ⟨b, rfl, _⟩ := Hblo.out x rfl
      exact ⟨b, fun _ => rfl⟩
  have Hba := Lib.hid hba
  clear hba
  gi_wp2_with fail
  refine wpIn_rangeFunc_ownF rfl (by omega) (gf := 93) (lb := #[.pointer (some ⟨w2.heap.size, 0, none⟩)]) rfl trivial (enters_of Try.func93 (by kernel_rfl) rfl)
    (blocks1_stops Fence.wide _ trivial rfl (by omega) w2.heap.size b 0 L ac aa _ Hbx3.out Hba.out Hra3.out.hc Hra3.out.hm (by omega))
    (fun h k hx => k (h hx)) ?kb (Below.refl _ _) (fun _ => rfl)
    (fun pre W => ((Blk W g 84 (spongeC (absL s all (pre.map (·.1))) (.slice ra rl rc)) ∧ Boxed W w.heap.size 82 (.pointer (some ⟨g, 0, none⟩))) ∧ Rd W aa L ac all) ∧ But g w3 W)
    (fun _ _ _ => False)
    ?own (fun _ _ _ _ _ hs _ _ => hs) ?start
    (fun x => { tmps := #[.pointer (some ⟨g, 0, none⟩), .slice ba bl bc, .pointer (some ⟨w.heap.size, 0, none⟩), undef, .slice aa L ac, .slice (some ⟨b, 16 * x.1, none⟩) 16 (ac - 16 * x.1), undef, .pointer (some ⟨g, 0, none⟩), .pointer (some ⟨g, 0, none⟩), .pointer (some ⟨g, 0, none⟩), .pointer (some ⟨g, 8, none⟩), .slice ra rl rc, .slice ba bl bc, .slice (some ⟨w.heap.size + 1, 0, none⟩) 2 2, .slice aa L ac, .slice aa L ac, .func (.func 93) #[] #[.pointer (some ⟨w2.heap.size, 0, none⟩)], .slice (some ⟨b, 16 * x.1, none⟩) 16 (ac - 16 * x.1), undef, undef, undef, undef, undef, undef, undef, undef, undef, undef, undef, undef, undef, undef, undef, undef, undef, undef, undef, undef, undef, undef, undef, undef, undef, undef, undef, undef, undef, undef, undef, undef, undef, undef, undef, undef, undef, undef, undef, undef, undef, undef, undef, undef], defers := [] }) ?assign ?body ?done ?stop
  case kb =>
    intro W l o o' hl ho hc _ hx
    exact (World.putObj_heap_other (by intro e; subst e; have := ho.symm.trans hx; cases this; cases hc)).trans hx
  case own =>
    refine OwnFrom.and (OwnFrom.and (OwnFrom.and ((blk_own g _ _).from _) ((boxed_own _ _ _).from _)) ((rd_own _ _ _ _).from _)) (ownFrom_but ?_ (Nat.le_refl _))
    rw [Hs3.out]; omega
  case start => exact ⟨⟨⟨HB3.out, Hbb3.out⟩, Hra3.out⟩, But.refl _ _⟩
  case assign =>
    intro l x W K hK
    dsimp only [blkEnc]
    gi_wp2
    exact hK
  case body =>
    rintro l pre ⟨k, hk⟩ W ⟨⟨⟨hB, hbx⟩, hra⟩, hbut⟩ _
    obtain rfl := Hba.out (by omega)
    have hbg : b ≠ g := by have := Hblo.out _ rfl; simp at this; omega
    have hac := hra.hc
    have hP : Rd W (some ⟨b, 16 * k, none⟩) 16 (ac - 16 * k) (cutK all k) := hra.cut (16 * k) 16 (by omega) (by intro; simp) (by omega) (by have := hra.hm; omega)
    have hPl : (cutK all k).length = 16 := hP.hl
    obtain ⟨P, hPe⟩ : ∃ P, P = cutK all k := ⟨_, rfl⟩
    obtain ⟨C, hC⟩ : ∃ C, C = ac - 16 * k := ⟨_, rfl⟩
    have hC16 : 16 ≤ C := by omega
    have hCm : C ≤ maxLen := by have := hra.hm; omega
    obtain ⟨σ, hσ⟩ : ∃ σ, σ = absL s all (pre.map (·.1)) := ⟨_, rfl⟩
    rw [← hPe, ← hC] at hP
    rw [← hPe] at hPl
    rw [← hσ] at hB
    have hkp := hbut.size
    dsimp only
    rw [← hC]
    have HP := Lib.hid hP
    have HPe := Lib.hid hPe
    have HPl := Lib.hid hPl
    have Hσ := Lib.hid hσ
    have HB := Lib.hid hB
    have Hbx := Lib.hid hbx
    have Hra := Lib.hid hra
    have Hbut := Lib.hid hbut
    have hWs : w2.heap.size + 1 ≤ W.heap.size := by rw [← Hs3.out]; exact hkp
    clear hP hPe hPl hσ hB hbx hra hbut hC hkp hac Hbx3 HB3 Hbb3 Hbut3 Hra3 Hs3 Hba
    gi_wp2_with fail
    gi_loopw [18] (fun i wr => ∃ j : Nat, j ≤ 4 ∧ i = .int .i64 j ∧ Blk wr g 84 (spongeC (xorW σ P j) (.slice ra rl rc)) ∧ But g W wr) (fun i _ => 4 - (intOf i).toNat)
    case atStart => exact ⟨0, Nat.zero_le _, rfl, HB.out, But.refl _ _⟩
    case round =>
      obtain ⟨j, hj, rfl, hBj, hbj⟩ := hrel
      by_cases hjl : j < 4
      · obtain ⟨τ, hτ⟩ : ∃ τ, τ = xorW σ P j := ⟨_, rfl⟩
        rw [← hτ] at hBj
        have hbx := hbj.boxed Hbx.out (by omega)
        have hc0 := hbx.cell
        have hPj := hbj.rd HP.out (by intro x e; cases e; exact hbg)
        obtain ⟨w9, hw9⟩ : ∃ w9, w9 = wr.drew := ⟨_, rfl⟩
        replace hBj : Blk w9 g 84 (spongeC τ (.slice ra rl rc)) := by rw [hw9]; exact hBj
        replace hbj : But g W w9 := by rw [hw9]; exact hbj.drew
        replace hc0 : w9.cell? ⟨w.heap.size, 0, none⟩ = some (.pointer (some ⟨g, 0, none⟩)) := by rw [hw9]; exact hc0
        replace hPj : Rd w9 (some ⟨b, 16 * k, none⟩) 16 C P := by rw [hw9]; exact hPj.drew
        have Hw9 := Lib.hid hw9
        clear hw9
        have HPj := Lib.hid hPj
        have Hτ := Lib.hid hτ
        have Hbj := Lib.hid hbj
        clear hτ hbx hPj hbj
        have hj4 : j = 0 ∨ j = 1 ∨ j = 2 ∨ j = 3 := by omega
        clear hj
        rcases hj4 with rfl | rfl | rfl | rfl
        · have q0 : w9.cell? ⟨g, 0, none⟩ = some (.int .u32 ((τ 0).toNat : Int)) := hBj.cell 0
          have f0 := hBj.frozen 0
          have hL : Rd w9 (some ⟨b, 16 * k + 0, none⟩) 16 (C - 0) ((P.drop 0).take 16) := HPj.out.cut 0 16 (by omega) (by intro; simp) (by omega) (by omega)
          rw [List.take_of_length_le (by rw [List.length_drop, HPl.out]; omega)] at hL
          obtain ⟨y, hy⟩ : ∃ y, y = loadK (P.drop 0) 4 := ⟨_, rfl⟩
          have hxo := b_xor (τ 0) y
          obtain ⟨z, hz⟩ : ∃ z, z = τ 0 ^^^ y := ⟨_, rfl⟩
          rw [← hz] at hxo
          have Hz := Lib.hid hz
          have Hy := Lib.hid hy
          have HL := Lib.hid hL
          have HBj := Lib.hid hBj
          have hcc : (C = 0) = False := eq_false (by omega)
          have hwp : IntKind.i64.wrap 0 = 0 := by kernel_rfl
          clear hz hy hL hBj
          gi_wp2_with fail
          refine round_still_tail 17 (by kernel_rfl) (by kernel_rfl) (by kernel_rfl) ?_
          rw [show (({ wr with drawn := wr.drawn + 1 } : World)) = w9 from Hw9.out.symm]
          simp only [List.take_succ_cons, List.take_zero, List.drop_succ_cons, List.drop_zero]
          repeat still_step
          still_call (load_at _ _ _ _ y _ HL.out (by omega) Hy.out)
          repeat still_step
          refine wpStill_nil ?_
          gi_wp2_with fail
          go_roundw
          case rel => exact ⟨1, by omega, rfl, xor_rel τ σ P 0 Hτ.out (by omega) Hz.out Hy.out HBj.out, Hbj.out.setCell _ _⟩
          case measure => exact (by decide : 4 - (intOf (Value.int .i64 1)).toNat < 4 - (intOf (Value.int .i64 0)).toNat)
        · have q0 : w9.cell? ⟨g, 1, none⟩ = some (.int .u32 ((τ 1).toNat : Int)) := hBj.cell 1
          have f0 := hBj.frozen 1
          have hL : Rd w9 (some ⟨b, 16 * k + 4, none⟩) 12 (C - 4) ((P.drop 4).take 12) := HPj.out.cut 4 12 (by omega) (by intro; simp) (by omega) (by omega)
          rw [List.take_of_length_le (by rw [List.length_drop, HPl.out]; omega)] at hL
          obtain ⟨y, hy⟩ : ∃ y, y = loadK (P.drop 4) 4 := ⟨_, rfl⟩
          have hxo := b_xor (τ 1) y
          obtain ⟨z, hz⟩ : ∃ z, z = τ 1 ^^^ y := ⟨_, rfl⟩
          rw [← hz] at hxo
          have Hz := Lib.hid hz
          have Hy := Lib.hid hy
          have HL := Lib.hid hL
          have HBj := Lib.hid hBj
          have hcc : (C = 4) = False := eq_false (by omega)
          have hwp : IntKind.i64.wrap 4 = 4 := by kernel_rfl
          clear hz hy hL hBj
          gi_wp2_with fail
          refine round_still_tail 17 (by kernel_rfl) (by kernel_rfl) (by kernel_rfl) ?_
          rw [show (({ wr with drawn := wr.drawn + 1 } : World)) = w9 from Hw9.out.symm]
          simp only [List.take_succ_cons, List.take_zero, List.drop_succ_cons, List.drop_zero]
          repeat still_step
          still_call (load_at _ _ _ _ y _ HL.out (by omega) Hy.out)
          repeat still_step
          refine wpStill_nil ?_
          gi_wp2_with fail
          go_roundw
          case rel => exact ⟨2, by omega, rfl, xor_rel τ σ P 1 Hτ.out (by omega) Hz.out Hy.out HBj.out, Hbj.out.setCell _ _⟩
          case measure => exact (by decide : 4 - (intOf (Value.int .i64 2)).toNat < 4 - (intOf (Value.int .i64 1)).toNat)
        · have q0 : w9.cell? ⟨g, 2, none⟩ = some (.int .u32 ((τ 2).toNat : Int)) := hBj.cell 2
          have f0 := hBj.frozen 2
          have hL : Rd w9 (some ⟨b, 16 * k + 8, none⟩) 8 (C - 8) ((P.drop 8).take 8) := HPj.out.cut 8 8 (by omega) (by intro; simp) (by omega) (by omega)
          rw [List.take_of_length_le (by rw [List.length_drop, HPl.out]; omega)] at hL
          obtain ⟨y, hy⟩ : ∃ y, y = loadK (P.drop 8) 4 := ⟨_, rfl⟩
          have hxo := b_xor (τ 2) y
          obtain ⟨z, hz⟩ : ∃ z, z = τ 2 ^^^ y := ⟨_, rfl⟩
          rw [← hz] at hxo
          have Hz := Lib.hid hz
          have Hy := Lib.hid hy
          have HL := Lib.hid hL
          have HBj := Lib.hid hBj
          have hcc : (C = 8) = False := eq_false (by omega)
          have hwp : IntKind.i64.wrap 8 = 8 := by kernel_rfl
          clear hz hy hL hBj
          gi_wp2_with fail
          refine round_still_tail 17 (by kernel_rfl) (by kernel_rfl) (by kernel_rfl) ?_
          rw [show (({ wr with drawn := wr.drawn + 1 } : World)) = w9 from Hw9.out.symm]
          simp only [List.take_succ_cons, List.take_zero, List.drop_succ_cons, List.drop_zero]
          repeat still_step
          still_call (load_at _ _ _ _ y _ HL.out (by omega) Hy.out)
          repeat still_step
          refine wpStill_nil ?_
          gi_wp2_with fail
          go_roundw
          case rel => exact ⟨3, by omega, rfl, xor_rel τ σ P 2 Hτ.out (by omega) Hz.out Hy.out HBj.out, Hbj.out.setCell _ _⟩
          case measure => exact (by decide : 4 - (intOf (Value.int .i64 3)).toNat < 4 - (intOf (Value.int .i64 2)).toNat)
        · have q0 : w9.cell? ⟨g, 3, none⟩ = some (.int .u32 ((τ 3).toNat : Int)) := hBj.cell 3
          have f0 := hBj.frozen 3
          have hL : Rd w9 (some ⟨b, 16 * k + 12, none⟩) 4 (C - 12) ((P.drop 12).take 4) := HPj.out.cut 12 4 (by omega) (by intro; simp) (by omega) (by omega)
          rw [List.take_of_length_le (by rw [List.length_drop, HPl.out]; omega)] at hL
          obtain ⟨y, hy⟩ : ∃ y, y = loadK (P.drop 12) 4 := ⟨_, rfl⟩
          have hxo := b_xor (τ 3) y
          obtain ⟨z, hz⟩ : ∃ z, z = τ 3 ^^^ y := ⟨_, rfl⟩
          rw [← hz] at hxo
          have Hz := Lib.hid hz
          have Hy := Lib.hid hy
          have HL := Lib.hid hL
          have HBj := Lib.hid hBj
          have hcc : (C = 12) = False := eq_false (by omega)
          have hwp : IntKind.i64.wrap 12 = 12 := by kernel_rfl
          clear hz hy hL hBj
          gi_wp2_with fail
          refine round_still_tail 17 (by kernel_rfl) (by kernel_rfl) (by kernel_rfl) ?_
          rw [show (({ wr with drawn := wr.drawn + 1 } : World)) = w9 from Hw9.out.symm]
          simp only [List.take_succ_cons, List.take_zero, List.drop_succ_cons, List.drop_zero]
          repeat still_step
          still_call (load_at _ _ _ _ y _ HL.out (by omega) Hy.out)
          repeat still_step
          refine wpStill_nil ?_
          gi_wp2_with fail
          go_roundw
          case rel => exact ⟨4, by omega, rfl, xor_rel τ σ P 3 Hτ.out (by omega) Hz.out Hy.out HBj.out, Hbj.out.setCell _ _⟩
          case measure => exact (by decide : 4 - (intOf (Value.int .i64 4)).toNat < 4 - (intOf (Value.int .i64 3)).toNat)
      · obtain rfl : j = 4 := by omega
        obtain ⟨τ, hτ⟩ : ∃ τ, τ = xorW σ P 4 := ⟨_, rfl⟩
        rw [← hτ] at hBj
        have hbx := hbj.boxed Hbx.out (by omega)
        have hc0 := hbx.cell
        have p0 : wr.cell? ⟨g, 0, none⟩ = some (.int .u32 ((τ 0).toNat : Int)) := hBj.cell 0
        have p1 : wr.cell? ⟨g, 1, none⟩ = some (.int .u32 ((τ 1).toNat : Int)) := hBj.cell 1
        have p2 : wr.cell? ⟨g, 2, none⟩ = some (.int .u32 ((τ 2).toNat : Int)) := hBj.cell 2
        have p3 : wr.cell? ⟨g, 3, none⟩ = some (.int .u32 ((τ 3).toNat : Int)) := hBj.cell 3
        have p4 : wr.cell? ⟨g, 4, none⟩ = some (.int .u32 ((τ 4).toNat : Int)) := hBj.cell 4
        have p5 : wr.cell? ⟨g, 5, none⟩ = some (.int .u32 ((τ 5).toNat : Int)) := hBj.cell 5
        have p6 : wr.cell? ⟨g, 6, none⟩ = some (.int .u32 ((τ 6).toNat : Int)) := hBj.cell 6
        have p7 : wr.cell? ⟨g, 7, none⟩ = some (.int .u32 ((τ 7).toNat : Int)) := hBj.cell 7
        have hgl2 : g < wr.heap.size := hBj.lt
        have Hbd : Hid (Boxed wr.drew w.heap.size 82 (.pointer (some ⟨g, 0, none⟩))) := Lib.hid hbx
        have HBd : Hid (Blk wr.drew g 84 (spongeC τ (.slice ra rl rc))) := Lib.hid hBj
        have Hτ := Lib.hid hτ
        have Hbj := Lib.hid hbj
        clear hτ hBj hbj hbx
        have hfn : Fence.wide.fn 36 := trivial
        have hmx : Try.prog.follows .mixedOrders = true := by kernel_rfl
        gi_wp2_with fail
        gi_region_with_o (gi_at_call 36; refine (CallsIn.inRound l (callsIn_wide.2 (permute_at τ _))).mono ?_; rintro e w' ⟨rfl, hbp⟩; have hB9 := HBd.out.below hbp (by exact hgl2); have hc9 := (show Boxed w' w.heap.size 82 (.pointer (some ⟨g, 0, none⟩)) from (hbp.block _ Hbd.out.lt).trans Hbd.out).cell; have e0 : w'.cell? ⟨g, 0, none⟩ = some (.int .u32 ((τ 0).toNat : Int)) := hB9.cell 0; have e1 : w'.cell? ⟨g, 1, none⟩ = some (.int .u32 ((τ 1).toNat : Int)) := hB9.cell 1; have e2 : w'.cell? ⟨g, 2, none⟩ = some (.int .u32 ((τ 2).toNat : Int)) := hB9.cell 2; have e3 : w'.cell? ⟨g, 3, none⟩ = some (.int .u32 ((τ 3).toNat : Int)) := hB9.cell 3; have e4 : w'.cell? ⟨g, 4, none⟩ = some (.int .u32 ((τ 4).toNat : Int)) := hB9.cell 4; have e5 : w'.cell? ⟨g, 5, none⟩ = some (.int .u32 ((τ 5).toNat : Int)) := hB9.cell 5; have e6 : w'.cell? ⟨g, 6, none⟩ = some (.int .u32 ((τ 6).toNat : Int)) := hB9.cell 6; have e7 : w'.cell? ⟨g, 7, none⟩ = some (.int .u32 ((τ 7).toNat : Int)) := hB9.cell 7; have hz9 := hB9.lt; have f0 := hB9.frozen 0; have f1 := hB9.frozen 1; have f2 := hB9.frozen 2; have f3 := hB9.frozen 3; have f4 := hB9.frozen 4; have f5 := hB9.frozen 5; have f6 := hB9.frozen 6; have f7 := hB9.frozen 7; have HB9 := Lib.hid hB9; have Hbp := Lib.hid hbp; clear hB9 hbp)
        all_goals gi_wp2
        all_goals exact body_end hgl2 hWs hgl hs2 HB.out Hbx.out Hra.out Hbut.out Hσ.out HPe.out Hτ.out Hbj.out Hbp.out HB9.out hbg
  case done =>
    rintro D xs W hD hS ⟨⟨⟨hB, hbx⟩, hra⟩, hbut⟩ hK
    rw [hS] at hB
    obtain ⟨q, hq⟩ : ∃ q, q = 16 * (L / 16) := ⟨_, rfl⟩
    have hqL : q ≤ L := by omega
    have hac := hra.hc
    have hacm := hra.hm
    have hDg : g ≠ D := by intro e; subst e; have := hK.symm.trans hB; cases this
    have hDs : D < W.heap.size := (Array.getElem?_eq_some_iff.1 hK).1
    have hqi : IntKind.i64.wrap ((L : Int) - (L : Int).tmod 16) = (q : Int) := by
      rw [Int.tmod_eq_emod_of_nonneg (by omega), show (L : Int) - (L : Int) % 16 = (q : Int) by omega]
      exact IntWalk.i64_in _ (by omega)
    have hql : (q : Int) ≤ (L : Int) := by omega
    have hq0 : (0 : Int) ≤ (q : Int) := by omega
    have hqt : ((q : Int)).toNat = q := by omega
    have habs : (all.drop q).take (L - q) = absR all := by
      rw [List.take_of_length_le (by rw [List.length_drop, Hlen2.out]; omega)]
      unfold absR
      rw [Hlen2.out, hq]
    have hc0 := hbx.cell
    have hbl := hbx.lt
    have hWs := hbut.size
    rw [Hs3.out] at hWs
    have hgW : g < W.heap.size := by omega
    have e8 : W.cell? ⟨g, 8, none⟩ = some (.slice ra rl rc) := hB.cell 8
    have f8 := hB.frozen 8
    have HB := Lib.hid hB
    have Hra := Lib.hid hra
    have Hbut := Lib.hid hbut
    have HK := Lib.hid hK
    have Habs := Lib.hid habs
    have hD' : w.heap.size ≤ D := by have := Hs3.out; omega
    clear hB hbx hra hbut hK hS hq Hbx3 HB3 Hbb3 Hra3 Hs3 habs
    cases aa with
    | none =>
      have h0 := Hra.out.hn rfl
      obtain rfl : L = 0 := by omega
      obtain rfl : q = 0 := by omega
      have HR : Hid (Rd W none 0 ac (absR all)) := Lib.hid (by rw [← Habs.out]; have := Hra.out; have hl : all = [] := List.eq_nil_of_length_eq_zero Hlen2.out; rw [hl] at this ⊢; exact this)
      obtain rfl : ac = 0 := h0
      clear hqi hq0 hqt hac hacm hqL
      · gi_wp2_with fail
        refine wpIn_wide.2 ?_
        refine wp_region_noPanic ?_
        go_region_with (go_at_call 80; refine (clone_any _ _ _ (absR all) _ HR.out.drew (by omega)).mono ?_; rintro e w' ⟨v, rfl, ho, hb⟩; obtain ⟨ca, cc, hv, -⟩ := ho.rdb (m := (absR all).length) rfl; subst hv; have e8' : w'.cell? ⟨g, 8, none⟩ = some (.slice ra rl rc) := (hb.cell (p := ⟨g, 8, none⟩) (by exact hgW)).trans e8; have f8' : w'.frozen? ⟨g, 8, none⟩ = false := (hb.frozen (p := ⟨g, 8, none⟩) (by exact hgW)).trans f8; have c0' : w'.cell? ⟨w.heap.size, 0, none⟩ = some (.pointer (some ⟨g, 0, none⟩)) := (hb.cell (p := ⟨w.heap.size, 0, none⟩) (by exact hbl)).trans hc0; have hgw' : g < w'.heap.size := Nat.lt_of_lt_of_le hgW hb.size; have Ho := Lib.hid ho; have Hb := Lib.hid hb; clear ho hb)
        all_goals (refine NoPanic.normal ?_; refine ⟨by simp, .inl ⟨_, _, rfl, run_takeDeferred (absorb_kept hgW Hb.out HK.out hDg), ?_⟩⟩; exact ⟨_, results_none rfl _ _ _, rfl, absorb_end hgl (Hbut3.out.trans Hbut.out) HB.out HK.out (by omega) Hb.out Ho.out Hall.out Hlen2.out⟩)
    | some x =>
      obtain ⟨b', rfl, hbb⟩ := Hblo.out x rfl
      by_cases hcap : ac = q
      · have hcc : (ac = q) = True := eq_true hcap
        have HR : Hid (Rd W (some ⟨b', 0, none⟩) (L - q) (ac - q) (absR all)) := Lib.hid (by rw [← Habs.out]; exact Hra.out.cut q (L - q) (by omega) (by intro; omega) (by omega) (by omega))
        clear hcap
        gi_wp2_with fail
        refine wpIn_wide.2 ?_
        refine wp_region_noPanic ?_
        go_region_with (go_at_call 80; refine (clone_any _ _ _ (absR all) _ HR.out.drew (by omega)).mono ?_; rintro e w' ⟨v, rfl, ho, hb⟩; obtain ⟨ca, cc, hv, -⟩ := ho.rdb (m := (absR all).length) rfl; subst hv; have e8' : w'.cell? ⟨g, 8, none⟩ = some (.slice ra rl rc) := (hb.cell (p := ⟨g, 8, none⟩) (by exact hgW)).trans e8; have f8' : w'.frozen? ⟨g, 8, none⟩ = false := (hb.frozen (p := ⟨g, 8, none⟩) (by exact hgW)).trans f8; have c0' : w'.cell? ⟨w.heap.size, 0, none⟩ = some (.pointer (some ⟨g, 0, none⟩)) := (hb.cell (p := ⟨w.heap.size, 0, none⟩) (by exact hbl)).trans hc0; have hgw' : g < w'.heap.size := Nat.lt_of_lt_of_le hgW hb.size; have Ho := Lib.hid ho; have Hb := Lib.hid hb; clear ho hb)
        all_goals (refine NoPanic.normal ?_; refine ⟨by simp, .inl ⟨_, _, rfl, run_takeDeferred (absorb_kept hgW Hb.out HK.out hDg), ?_⟩⟩; exact ⟨_, results_none rfl _ _ _, rfl, absorb_end hgl (Hbut3.out.trans Hbut.out) HB.out HK.out (by omega) Hb.out Ho.out Hall.out Hlen2.out⟩)
      · have hcc : (ac = q) = False := eq_false hcap
        have HR : Hid (Rd W (some ⟨b', q, none⟩) (L - q) (ac - q) (absR all)) := Lib.hid (by rw [← Habs.out]; exact Hra.out.cut q (L - q) (by omega) (by intro; simp) (by omega) (by omega))
        gi_wp2_with fail
        refine wpIn_wide.2 ?_
        refine wp_region_noPanic ?_
        go_region_with (go_at_call 80; refine (clone_any _ _ _ (absR all) _ HR.out.drew (by omega)).mono ?_; rintro e w' ⟨v, rfl, ho, hb⟩; obtain ⟨ca, cc, hv, -⟩ := ho.rdb (m := (absR all).length) rfl; subst hv; have e8' : w'.cell? ⟨g, 8, none⟩ = some (.slice ra rl rc) := (hb.cell (p := ⟨g, 8, none⟩) (by exact hgW)).trans e8; have f8' : w'.frozen? ⟨g, 8, none⟩ = false := (hb.frozen (p := ⟨g, 8, none⟩) (by exact hgW)).trans f8; have c0' : w'.cell? ⟨w.heap.size, 0, none⟩ = some (.pointer (some ⟨g, 0, none⟩)) := (hb.cell (p := ⟨w.heap.size, 0, none⟩) (by exact hbl)).trans hc0; have hgw' : g < w'.heap.size := Nat.lt_of_lt_of_le hgW hb.size; have Ho := Lib.hid ho; have Hb := Lib.hid hb; clear ho hb)
        all_goals (refine NoPanic.normal ?_; refine ⟨by simp, .inl ⟨_, _, rfl, run_takeDeferred (absorb_kept hgW Hb.out HK.out hDg), ?_⟩⟩; exact ⟨_, results_none rfl _ _ _, rfl, absorb_end hgl (Hbut3.out.trans Hbut.out) HB.out HK.out (by omega) Hb.out Ho.out Hall.out Hlen2.out⟩)
  case stop =>
    rintro D c pre W _ _ h _
    exact h.elim
end Go.Proofs.Ytnlblmghhkmbbaa
