import Derived.Test.YtnlblmghhkmbbaaSopen
import Derived.Test.YtnlblmghhkmbbaaSrblock
import Derived.Test.YtnlblmghhkmbbaaSstr
import Derived.Test.YtnlblmghhkmbbaaSrev
import Derived.Test.YtnlblmghhkmbbaaSrootE
import Derived.Great.BuildSlice
import Derived.Laws.CopyOwn
import Derived.Test.YtnlblmghhkmbbaaScheck
import Derived.BigQuiet
import Derived.Test.YtnlblmghhkmbbaaSclimb0
import Derived.Test.YtnlblmghhkmbbaaShalf
import Derived.Test.YtnlblmghhkmbbaaSrow
import Derived.Test.YtnlblmghhkmbbaaSprove
import Derived.Test.YtnlblmghhkmbbaaSabove
/- What a state and a sponge read as, out of the form in which a statement hands them in. -/
namespace Go.Proofs.Ytnlblmghhkmbbaa
set_option linter.unusedVariables false
open Go.RowKit Go.Deep Go.WideShapes Go.ChangeShapes
section
variable {H : Type} {enc : TypeId × Value → H} {W : World} {held : Bool}
/-- A word out of a number. -/
theorem word_wv {n : Int} (h : (Lit.int .u32 n).wf = true) : wv (BitVec.ofNat 32 n.toNat) = .int .u32 n := by
  have := wf_u32 h
  unfold wv
  rw [BitVec.toNat_ofNat, Nat.mod_eq_of_lt (by omega)]
  congr 1
  omega
theorem open_state {fuel : Nat} {cs : List Value} {x : DataW H × List MemPlace} (h : DataW.trod enc Try.prog W 0 (fun _ => true) held fuel 41 cs = some x) : ∃ s : St, cs = (vals s).toList := by
  obtain ⟨xs, k, hk, hxy, hlen, hxl, hf⟩ := DataW.trod_array Try.underlying41 h
  rw [Try.cellsS] at hlen
  rw [Try.cellsU] at hf
  match cs, hlen with
  | [v0, v1, v2, v3, v4, v5, v6, v7], _ =>
    have g : ∀ i (hi : i < 8) v, [v0, v1, v2, v3, v4, v5, v6, v7][i]? = some v → ∃ n : Int, v = .int .u32 n ∧ (Lit.int .u32 n).wf = true := by
      intro i hi v hv
      have h1 := hf i hi
      have h2 : (([v0, v1, v2, v3, v4, v5, v6, v7].drop (i * 1)).take 1) = [v] := by
        rw [Nat.mul_one]
        obtain ⟨hl, hq⟩ := List.getElem?_eq_some_iff.1 hv
        rw [List.drop_eq_getElem_cons hl, hq]
        rfl
      rw [h2, List.getElem?_eq_getElem (by omega)] at h1
      obtain ⟨z, hz, -, hw⟩ := DataW.trod_int Try.underlying23 h1
      simp at hz
      exact ⟨z, hz, hw⟩
    obtain ⟨n0, rfl, w0⟩ := g 0 (by omega) v0 rfl
    obtain ⟨n1, rfl, w1⟩ := g 1 (by omega) v1 rfl
    obtain ⟨n2, rfl, w2⟩ := g 2 (by omega) v2 rfl
    obtain ⟨n3, rfl, w3⟩ := g 3 (by omega) v3 rfl
    obtain ⟨n4, rfl, w4⟩ := g 4 (by omega) v4 rfl
    obtain ⟨n5, rfl, w5⟩ := g 5 (by omega) v5 rfl
    obtain ⟨n6, rfl, w6⟩ := g 6 (by omega) v6 rfl
    obtain ⟨n7, rfl, w7⟩ := g 7 (by omega) v7 rfl
    refine ⟨fun i => BitVec.ofNat 32 ([n0, n1, n2, n3, n4, n5, n6, n7].getD i 0).toNat, ?_⟩
    show _ = [wv (BitVec.ofNat 32 n0.toNat), wv (BitVec.ofNat 32 n1.toNat), wv (BitVec.ofNat 32 n2.toNat), wv (BitVec.ofNat 32 n3.toNat), wv (BitVec.ofNat 32 n4.toNat), wv (BitVec.ofNat 32 n5.toNat), wv (BitVec.ofNat 32 n6.toNat), wv (BitVec.ofNat 32 n7.toNat)]
    rw [word_wv w0, word_wv w1, word_wv w2, word_wv w3, word_wv w4, word_wv w5, word_wv w6, word_wv w7]
set_option maxRecDepth 100000 in
theorem open_sponge {fuel : Nat} {cs : List Value} {x : DataW H × List MemPlace} (h : DataW.trod enc Try.prog W 0 (fun _ => true) held fuel 43 cs = some x) (hg : Light Try.prog 43 x.1) :
    ∃ (s : St) (a : Option Addr) (l c : Nat) (xs : List Int), (Rd W a l c xs ∧ c ≤ 140737488351232) ∧ cs = (spongeC s (.slice a l c)).toList := by
  obtain ⟨xs, k, hk, hxy, hlen, hxl, hf⟩ := DataW.trod_struct Try.underlying43 h
  rw [Try.cellsP] at hlen
  match xs, hxl, cs, hlen with
  | [y0, y1], _, [v0, v1, v2, v3, v4, v5, v6, v7, v8], _ =>
    have g0 := hf 0 _ rfl
    have g1 := hf 1 _ rfl
    simp [Try.cellsS, Try.cellsL] at g0 g1
    obtain ⟨s, hs⟩ := open_state g0
    have hv : ∃ a l c, v8 = .slice a l c := by
      rcases open_slice Try.underlying22 g1 with ⟨hcs, _⟩ | ⟨ad, l, c, m, n, D, Pl, hcs, _⟩
      · simp at hcs; exact ⟨_, _, _, hcs⟩
      · simp at hcs; exact ⟨_, _, _, hcs⟩
    obtain ⟨a, l, c, rfl⟩ := hv
    have hg1 : Light Try.prog 22 y1.1 := fun n hn => hg n (by rw [hxy]; simp only [DataW.weights, Try.underlying43]; simp [DataW.weightsEach]; right; exact hn)
    obtain ⟨bs, hbs⟩ := open_rd g1 hg1
    refine ⟨s, a, l, c, bs, hbs, ?_⟩
    have e : (spongeC s (.slice a l c)).toList = (vals s).toList ++ [.slice a l c] := rfl
    rw [e, ← hs]
    rfl
end
end Go.Proofs.Ytnlblmghhkmbbaa

/- The reference's Absorb. -/
namespace Go.Proofs.Ytnlblmghhkmbbaa
set_option linter.unusedVariables false
open Go.RowKit Go.Shelf

theorem spongeZ : (#[.int .u32 0, .int .u32 0, .int .u32 0, .int .u32 0, .int .u32 0, .int .u32 0, .int .u32 0, .int .u32 0, .slice none 0 0] : Array Value) = spongeC (fun _ => 0#32) (.slice none 0 0) := rfl
theorem sizeZ9 : (Try.prog.info? 43).map (·.size) = some (#[.int .u32 0, .int .u32 0, .int .u32 0, .int .u32 0, .int .u32 0, .int .u32 0, .int .u32 0, .int .u32 0, .slice none 0 0] : Array Value).size := by kernel_rfl
theorem sizeZE (s : St) (v : Value) : (#[.int .u32 0, .int .u32 0, .int .u32 0, .int .u32 0, .int .u32 0, .int .u32 0, .int .u32 0, .int .u32 0, .slice none 0 0] : Array Value).size = (spongeC s v).size := by rfl
theorem sizeEE (s t : St) (v v' : Value) : (spongeC s v).size = (spongeC t v').size := by rfl
theorem sp_rest (s : St) (v v' : Value) : (spongeC s v).setIfInBounds 8 v' = spongeC s v' := rfl
theorem sp_cell8 (s : St) (v : Value) : (spongeC s v)[8]? = some v := rfl
theorem sp_built (s : St) : Try.prog.built 43 [(0, .agg (vals s))] = some (spongeC s (.slice none 0 0)) := by kernel_rfl
theorem blk_setState {w : World} {g : Nat} {t : TypeId} {s : St} {v : Value} (τ : St) (h : Blk w g t (spongeC s v)) : Blk (w.setCells g 0 (vals τ).toList) g t (spongeC τ v) := state_rel s τ h
theorem but_setState (w : World) (g : Nat) (τ : St) : But g w (w.setCells g 0 (vals τ).toList) := but_setCells _ _ _
theorem state_there {w : World} {g : Nat} {t : TypeId} {s : St} {v : Value} (h : Blk w g t (spongeC s v)) (τ : St) : w.there g 0 (vals τ).size := by
  intro j hj
  rw [vals_size] at hj
  rw [Nat.zero_add, h.cell j]
  refine ⟨?_, h.frozen j⟩
  have : j = 0 ∨ j = 1 ∨ j = 2 ∨ j = 3 ∨ j = 4 ∨ j = 5 ∨ j = 6 ∨ j = 7 := by omega
  rcases this with rfl | rfl | rfl | rfl | rfl | rfl | rfl | rfl <;> rfl
theorem freshZ {w w1 : World} (h : Below w.heap.size w w1) (s : St) (v : Value) :
    ∃ W3, w1.alloc (.cells #[.int .u32 0, .int .u32 0, .int .u32 0, .int .u32 0, .int .u32 0, .int .u32 0, .int .u32 0, .int .u32 0, .slice none 0 0] 43) = W3 ∧ Blk W3 w1.heap.size 43 #[.int .u32 0, .int .u32 0, .int .u32 0, .int .u32 0, .int .u32 0, .int .u32 0, .int .u32 0, .int .u32 0, .slice none 0 0] ∧
      ∃ g W, w1.heap.size = g ∧ W3.setRow w1.heap.size (spongeC s v) = W ∧ Blk W g 43 (spongeC s v) ∧ Below w.heap.size w W ∧ Below g w1 W ∧ g < W.heap.size := by
  refine ⟨_, rfl, heap_new w1 _, ?_⟩
  obtain ⟨g, W, e1, e2, r⟩ := fresh h (spongeC s v) 43
  exact ⟨g, W, e1, by rw [World.setRow_alloc_new]; exact e2, r⟩
attribute [local irreducible] spongeC
set_option maxRecDepth 100000 in
set_option maxHeartbeats 1000000 in
theorem validS_yes (s : St) (ra : Option Addr) (rl rc : Nat) (w : World) (h : rl < 16) :
    Calls Try.prog 61 #[.agg (spongeC s (.slice ra rl rc))] w fun e w' => e = .returned (.bool true) ∧ Below w.heap.size w w' := by
  obtain ⟨W0, hW0⟩ : ∃ W0, W0 = w.alloc (.cells (spongeC s (.slice ra rl rc)) 43) := ⟨_, rfl⟩
  have hg : Blk W0 w.heap.size 43 (spongeC s (.slice ra rl rc)) := by rw [hW0]; exact heap_new w _
  have hb : Below w.heap.size w W0 := by rw [hW0]; exact (Below.refl _ w).alloc (Nat.le_refl _) _
  have p8 : W0.cell? ⟨w.heap.size, 8, none⟩ = some (.slice ra rl rc) := by rw [hg.cell 8, sp_cell8]
  have HW0 := Lib.hid hW0
  have Hb := Lib.hid hb
  have h15 : (rl : Int) ≤ 15 := by omega
  clear hW0 hg hb
  go_enter Try.func61, Try.ntmps61
  go_upto_region 1 with fail
  rw [← HW0.out]
  go_wp2_with fail
  go_ret
  exact ⟨rfl, Hb.out⟩
set_option maxRecDepth 100000 in
set_option maxHeartbeats 1000000 in
theorem validS_no (s : St) (ra : Option Addr) (rl rc : Nat) (w : World) (h : 16 ≤ rl) :
    Calls Try.prog 61 #[.agg (spongeC s (.slice ra rl rc))] w fun e w' => e = .returned (.bool false) ∧ Below w.heap.size w w' := by
  obtain ⟨W0, hW0⟩ : ∃ W0, W0 = w.alloc (.cells (spongeC s (.slice ra rl rc)) 43) := ⟨_, rfl⟩
  have hg : Blk W0 w.heap.size 43 (spongeC s (.slice ra rl rc)) := by rw [hW0]; exact heap_new w _
  have hb : Below w.heap.size w W0 := by rw [hW0]; exact (Below.refl _ w).alloc (Nat.le_refl _) _
  have p8 : W0.cell? ⟨w.heap.size, 8, none⟩ = some (.slice ra rl rc) := by rw [hg.cell 8, sp_cell8]
  have HW0 := Lib.hid hW0
  have Hb := Lib.hid hb
  have h15 : ¬ (rl : Int) ≤ 15 := by omega
  clear hW0 hg hb
  go_enter Try.func61, Try.ntmps61
  go_upto_region 1 with fail
  rw [← HW0.out]
  go_wp2_with fail
  go_ret
  exact ⟨rfl, Hb.out⟩
def lenOf : Value → Nat
  | .slice _ n _ => n
  | _ => 0
theorem absL_zero (s : St) (l : List Int) : absL s l (List.range 0) = s := rfl
theorem cutK_def (l : List Int) (k : Nat) : (l.drop (16 * k)).take 16 = cutK l k := rfl
theorem absS_def (s : St) (l : List Int) : absS s l = absL s l (List.range (l.length / 16)) := rfl
theorem absR_def (l : List Int) : absR l = l.drop (16 * (l.length / 16)) := rfl
theorem absL_next (s : St) (l : List Int) (k : Nat) : absL s l (List.range (k + 1)) = blkV (absL s l (List.range k)) (cutK l k) := by rw [List.range_succ]; exact absL_snoc s l (List.range k) k
attribute [local irreducible] absL absS absR blkV vals cutK
set_option maxRecDepth 100000 in
set_option maxHeartbeats 8000000 in
theorem rabsorb_ok (s : St) (ra : Option Addr) (rl rc : Nat) (rest : List Int) (ba : Option Addr) (bl bc : Nat) (bs : List Int) (w : World)
    (hr : Rd w ra rl rc rest) (hb : Rd w ba bl bc bs) (h16 : rl < 16) (hbig : rl + bl ≤ 140737488355000) :
    Calls Try.prog 30 #[.agg (spongeC s (.slice ra rl rc)), .slice ba bl bc] w fun e w' => ∃ v, e = .returned (.tuple #[.agg (spongeC (absS s (rest ++ bs)) v), .int .i64 0]) ∧ Own w' w.heap.size v (absR (rest ++ bs)) ∧ Below w.heap.size w w' := by
  obtain ⟨W0, hW0⟩ : ∃ W0, W0 = (w.alloc (.cells (spongeC s (.slice ra rl rc)) 43)).alloc (.cells #[.int .u32 0, .int .u32 0, .int .u32 0, .int .u32 0, .int .u32 0, .int .u32 0, .int .u32 0, .int .u32 0, .slice none 0 0] 43) := ⟨_, rfl⟩
  have hg1 : Blk W0 w.heap.size 43 (spongeC s (.slice ra rl rc)) := by rw [hW0]; exact (Below.heap_alloc _ _ _ (by simp)).trans (heap_new w _)
  have hg2 : Blk W0 (w.heap.size + 1) 43 #[.int .u32 0, .int .u32 0, .int .u32 0, .int .u32 0, .int .u32 0, .int .u32 0, .int .u32 0, .int .u32 0, .slice none 0 0] := by rw [hW0]; exact heap_alloc2_new w _ _
  have hb0 : Below w.heap.size w W0 := by rw [hW0]; exact ((Below.refl _ w).alloc (Nat.le_refl _) _).alloc (by simp) _
  have hs0 : W0.heap.size = w.heap.size + 2 := by rw [hW0]; simp
  have hrl := hr.hl
  have hbl := hb.hl
  have HW0 := Lib.hid hW0
  have Hg1 := Lib.hid hg1
  have Hg2 := Lib.hid hg2
  have Hb0 := Lib.hid hb0
  have Hr := Lib.hid hr
  have Hbb := Lib.hid hb
  obtain ⟨L, hL⟩ : ∃ L, L = rest ++ bs := ⟨_, rfl⟩
  obtain ⟨n0, hn0⟩ : ∃ n, n = L.length := ⟨_, rfl⟩
  have hn0b : n0 ≤ 140737488355000 := by rw [hn0, hL, List.length_append]; omega
  rw [← hL]
  have HL := Lib.hid hL
  have Hn0 := Lib.hid hn0
  clear hW0 hg1 hg2 hb0 hr hb hL hn0
  go_enter Try.func30, Try.ntmps30
  go_upto_region 1 with fail
  rw [← HW0.out]
  clear HW0
  go_wp2_with (refine list_load rfl 43 (.tmp 2) rfl w.heap.size rfl 43 (spongeC s (.slice ra rl rc)) (0, 0) _ Hg1.out Try.underlying43 rfl (sizeSponge _ _) ?_)
  refine (validS_yes s ra rl rc W0 h16).mono ?_
  rintro e w1 ⟨rfl, hb1⟩
  have Hg11 := Lib.hid (Hg1.out.below hb1 Hg1.out.lt)
  have Hg21 := Lib.hid (Hg2.out.below hb1 Hg2.out.lt)
  have Hb1 : Hid (Below w.heap.size w w1) := Lib.hid (Hb0.out.trans (hb1.mono Hb0.out.size))
  have hws : w.heap.size + 2 ≤ w1.heap.size := by have := hb1.size; omega
  have HR1 := Lib.hid (Hr.out.below Hb1.out (Nat.le_refl _))
  have HB1 := Lib.hid (Hbb.out.below Hb1.out (Nat.le_refl _))
  have p8 : w1.cell? ⟨w.heap.size, 8, none⟩ = some (.slice ra rl rc) := by rw [Hg11.out.cell 8, sp_cell8]
  have HO : Hid (Own w1 w1.heap.size (.slice none 0 0) []) := Lib.hid (Own.nil _ _)
  have i1 : ([] : List Int).length + rl ≤ 140737488355328 := by simp; omega
  have i2 : w1.heap.size ≤ w1.heap.size := Nat.le_refl _
  have i3 : rest.length + bl ≤ 140737488355328 := by omega
  have HR8 := Lib.hid (blk_state Hg11.out)
  have L8 := Lib.hid (sizeStateL s)
  clear hb1 Hg1 Hg2 Hb0 Hr Hbb
  go_upto_region 6 with (first
    | (at_builtin; refine wpList_append_rd rfl (.tmp 12) (.tmp 14) 22 rfl w1.heap.size Try.infoB Try.underlying22 _ [] rfl HO.out _ _ _ _ rfl HR1.out i1 i2 ?_; intro v2 w2 ho2 hg2; rw [List.nil_append] at ho2; have Ho2 := Lib.hid ho2; have Hb2 := Lib.hid ((Below.refl w1.heap.size w1).grown hg2 i2 (fun k hk => (HO.out.1.lt k hk).1)); have HB2 := Lib.hid (HB1.out.below Hb2.out (Nat.le_refl _)); have i4 := Hb2.out.size; clear ho2 hg2)
    | (at_builtin; refine wpList_append_rd rfl (.tmp 16) (.tmp 17) 22 rfl w1.heap.size Try.infoB Try.underlying22 _ _ rfl Ho2.out _ _ _ _ rfl HB2.out i3 i4 ?_; intro v3 w3 ho3 hg3; rw [← HL.out] at ho3; have Ho3 := Lib.hid ho3; have Hb3 := Lib.hid (Hb2.out.grown hg3 i4 (fun k hk => (Ho2.out.1.lt k hk).1)); clear ho3 hg3))
  obtain ⟨a3, c3, rfl, hR3⟩ := Ho3.out.rdz Hn0.out.symm
  have HG3 := Lib.hid (Hg11.out.below Hb3.out Hg11.out.lt)
  have HG23 := Lib.hid (Hg21.out.below Hb3.out Hg21.out.lt)
  have HR3 := Lib.hid hR3
  have HS3 := Lib.hid (blk_state HG3.out)
  have Hbw3 : Hid (Below w.heap.size w w3) := Lib.hid (Hb1.out.trans (Hb3.out.mono (by omega)))
  obtain ⟨W4, e1, hz4, g7, W5, e2, e3, hg7, hb5, hq5, -⟩ := freshZ Hbw3.out s (.slice none 0 0)
  have He1 := Lib.hid e1
  have He2 := Lib.hid e2
  have He3 := Lib.hid e3
  have Hz4 := Lib.hid hz4
  have HG7 := Lib.hid hg7
  have Hb5 := Lib.hid hb5
  have Hq5 := Lib.hid hq5
  have hg7s : w3.heap.size ≤ g7 := by omega
  have hw3s : w.heap.size + 2 ≤ w3.heap.size := by have := Hb3.out.size; omega
  clear hR3 e1 hz4 e2 e3 hg7 hb5 hq5 Ho2 Hb2 HB2 HO i1 i2 i3 i4 HR1 HB1 p8 Hg11 Hg21 HR8 Hb1
  go_wp2_with (first
    | (refine wpList_load_mid rfl 41 (.tmp 19) rfl w.heap.size 0 rfl (vals s).toList _ HS3.out Try.underlying41 rfl L8.out ?_; rw [Array.toArray_toList])
    | (refine wpList_buildTo rfl 43 _ rfl _ rfl (spongeC s (.slice none 0 0)) (by kernel_rfl) ?_)
    | (rw [He1.out]; refine wpList_store_rowTo rfl 43 (.tmp 7) (.tmp 21) rfl rfl w3.heap.size (spongeC s (.slice none 0 0)) rfl rfl 43 #[.int .u32 0, .int .u32 0, .int .u32 0, .int .u32 0, .int .u32 0, .int .u32 0, .int .u32 0, .int .u32 0, .slice none 0 0] Hz4.out (sizeSponge _ _) (sizeZE _ _) (oneSponge _ _ _ _) ?_))
  rw [He3.out, He2.out]
  clear He1 He2 He3 Hz4 HS3
  go_wp2_with fail
  go_loopw [6] (fun v wr => ∃ (k : Nat) (a : Option Addr) (n c : Nat), v = .slice a n c ∧ 16 * k + n = n0 ∧ Rd w3 a n c (L.drop (16 * k)) ∧ Blk wr g7 43 (spongeC (absL s L (List.range k)) (.slice none 0 0)) ∧ Below g7 w3 wr) (fun v _ => lenOf v)
  case atStart => exact ⟨0, a3, n0, c3, rfl, by omega, by rw [Nat.mul_zero, List.drop_zero]; exact HR3.out, by rw [absL_zero]; exact HG7.out, Hq5.out⟩
  case round =>
    obtain ⟨k, a, n, c, rfl, hkn, hR, hblk, hbw⟩ := hrel
    have hnc := hR.hc
    have hcm := hR.hm
    unfold maxLen at hcm
    by_cases h16n : 16 ≤ n
    · have hni : (16 : Int) ≤ (n : Int) := by omega
      have hnc16 : (16 : Int) ≤ (c : Int) := by omega
      obtain ⟨b, off, rfl, -⟩ := hR.hr (by omega)
      have hcut := hR.cut 0 16 (x := ⟨b, off, none⟩) (c := c) (by omega) (by intro; simp) (by omega) (by unfold maxLen; omega)
      rw [List.drop_zero, cutK_def] at hcut
      have hnx := absL_next s L k
      obtain ⟨σ, hσ⟩ : ∃ z, z = absL s L (List.range k) := ⟨_, rfl⟩
      rw [← hσ] at hnx hblk
      obtain ⟨w9, hw9⟩ : ∃ w9, w9 = wr.drew := ⟨_, rfl⟩
      have hg9 : Blk w9 g7 43 (spongeC σ (.slice none 0 0)) := by rw [hw9]; exact hblk
      have hb9 : Below g7 w3 w9 := by rw [hw9]; exact hbw.drew
      have hc9 := hcut.below hb9 hg7s
      have RS := Lib.hid (blk_state hg9)
      have LS := Lib.hid (sizeStateL σ)
      have HG9 := Lib.hid hg9
      have HB9 := Lib.hid hb9
      have HC9 := Lib.hid hc9
      have HNX := Lib.hid hnx
      have HR := Lib.hid hR
      have Hkn := Lib.hid hkn
      have Hw9 := Lib.hid hw9
      clear hcut hnx hσ hw9 hg9 hb9 hc9 hR hkn hblk hbw HG7 Hq5
      by_cases hc16 : c = 16
      all_goals
        first
          | (subst hc16
             have hcc : True := trivial
             have hrest : Rd w3 (some ⟨b, off, none⟩) (n - 16) (16 - 16) (L.drop (16 * (k + 1))) := ⟨by rw [List.length_drop]; have := HR.out.hl; rw [List.length_drop] at this; omega, by omega, by unfold maxLen; omega, fun m hm => HR.out.hb m (by rw [show 16 * (k + 1) = 16 * k + 16 by omega, ← List.drop_drop] at hm; exact List.mem_of_mem_drop hm), (by intro e; cases e), (fun h => by omega)⟩
             have Hrest := Lib.hid hrest
             clear hrest)
          | (have hcc : (c = 16) = False := eq_false hc16
             have hrest : Rd w3 (some ⟨b, off + 16, none⟩) (n - 16) (c - 16) (L.drop (16 * (k + 1))) := by
               have h := HR.out.cut 16 (n - 16) (x := ⟨b, off + 16, none⟩) (c := c - 16) (by omega) (fun _ => rfl) (by omega) (by unfold maxLen; omega)
               rw [List.drop_drop, List.take_of_length_le (by rw [List.length_drop]; have := HR.out.hl; rw [List.length_drop] at this; omega)] at h
               exact h
             have Hrest := Lib.hid hrest
             clear hrest)
        go_wp2_with fail
        refine wp_region_still_tail 4 (by kernel_rfl) (by kernel_rfl) ?_
        rw [show (({ wr with drawn := wr.drawn + 1 } : World)) = w9 from Hw9.out.symm]
        simp only [List.take_succ_cons, List.take_zero, List.drop_succ_cons, List.drop_zero]
        still_step
        refine still_load rfl 41 (.tmp 25) rfl g7 0 rfl (vals σ) _ RS.out Try.underlying41 rfl LS.out ?_
        repeat still_step
        refine wpStill_nil ?_
        go_wp2_with fail
        refine (rblock_any σ (some ⟨b, off, none⟩) _ (cutK L k) w9 HC9.out).mono ?_
        rintro e w10 ⟨rfl, hb10⟩
        rw [← HNX.out]
        obtain ⟨τ, hτ⟩ : ∃ z, z = absL s L (List.range (k + 1)) := ⟨_, rfl⟩
        rw [← hτ]
        have Hτ := Lib.hid hτ
        have HG10 := Lib.hid (HG9.out.below hb10 HG9.out.lt)
        have HB10 : Hid (Below g7 w3 w10) := Lib.hid (HB9.out.trans (hb10.mono (Nat.le_of_lt HG9.out.lt)))
        clear hb10 hτ
        go_wp2_with (refine wpList_store_mid rfl 41 (.tmp 30) (.tmp 29) rfl g7 0 (vals τ) rfl rfl (state_there HG10.out τ) (sizeSt τ) (oneSt τ) ?_)
        go_roundw
        case rel => first | exact ⟨k + 1, _, n - 16, _, rfl, by have := Hkn.out; omega, Hrest.out, by rw [← Hτ.out]; exact blk_setState τ HG10.out, HB10.out.trans (but_setState w10 g7 τ).below⟩ | exact ⟨k + 1, _, 0, 0, rfl, by have := Hkn.out; omega, (by have h := Hrest.out; rw [show n - 16 = 0 by omega] at h; exact h), by rw [← Hτ.out]; exact blk_setState τ HG10.out, HB10.out.trans (but_setState w10 g7 τ).below⟩
        case measure => simp [lenOf]; omega
    · have hni : ¬ (16 : Int) ≤ (n : Int) := by omega
      have hk : k = n0 / 16 := by omega
      have hLl : L.length / 16 = k := by rw [← Hn0.out, hk]
      have hRL : L.drop (16 * k) = absR L := by rw [absR_def, hLl]
      have hSL : absL s L (List.range k) = absS s L := by rw [absS_def, hLl]
      rw [hRL] at hR
      rw [hSL] at hblk
      obtain ⟨σ, hσ⟩ : ∃ z, z = absS s L := ⟨_, rfl⟩
      obtain ⟨R, hRv⟩ : ∃ z, z = absR L := ⟨_, rfl⟩
      rw [← hσ] at hblk
      rw [← hRv] at hR
      have hRl := hR.hl
      have hwr : wr.heap.size ≤ wr.heap.size := Nat.le_refl _
      have hgl := hblk.lt
      have p8 : wr.cell? ⟨g7, 8, none⟩ = some (.slice none 0 0) := by rw [hblk.cell 8, sp_cell8]
      have Q8 : ∀ w12 : World, Blk w12 g7 43 (spongeC σ (.slice none 0 0)) → w12.cell? ⟨g7, 8, none⟩ = some (.slice none 0 0) := fun _ h => by rw [h.cell 8, sp_cell8]
      have HO : Hid (Own wr wr.heap.size (.slice none 0 0) []) := Lib.hid (Own.nil _ _)
      have j1 : ([] : List Int).length + n ≤ 140737488355328 := by simp; omega
      have HRw := Lib.hid (hR.below hbw hg7s)
      have Hblk := Lib.hid hblk
      have Hbw := Lib.hid hbw
      have HG2 := Lib.hid (HG23.out.below hbw (by omega))
      have HF := Lib.hid (And.intro hσ hRv)
      have HRl := Lib.hid hRl
      clear hk hLl hRL hSL hR hblk hbw hσ hRv hRl hkn HG7 Hq5 HG23
      go_upto_region 11 with (at_builtin; refine wpList_append_rd rfl (.tmp 34) (.tmp 35) 22 rfl wr.heap.size Try.infoB Try.underlying22 _ [] rfl HO.out _ _ _ _ rfl HRw.out j1 hwr ?_; intro v12 w12 ho12 hg12; rw [List.nil_append] at ho12; obtain ⟨a12, c12, hv12, -⟩ := ho12.rdz HRl.out; subst hv12; have Hblk12 := Lib.hid (show Blk w12 g7 43 (spongeC σ (.slice none 0 0)) from (hg12.block g7 hgl (fun e => by have := (HO.out.1.lt g7 e.symm).1; omega)).trans Hblk.out); have Hb12 := Lib.hid ((Below.refl wr.heap.size wr).grown hg12 hwr (fun k hk => (HO.out.1.lt k hk).1)); have q8 := Q8 _ Hblk12.out; have f8 := Hblk12.out.frozen 8; have Ho12 := Lib.hid ho12; clear ho12 hg12)
      have HGf := Lib.hid (show Blk (w12.setCell ⟨g7, 8, none⟩ (.slice a12 n c12)) g7 43 (spongeC σ (.slice a12 n c12)) from by rw [← sp_rest σ (.slice none 0 0)]; exact Hblk12.out.set_ 8 _)
      have HG2f := Lib.hid (show Blk (w12.setCell ⟨g7, 8, none⟩ (.slice a12 n c12)) (w.heap.size + 1) 43 #[.int .u32 0, .int .u32 0, .int .u32 0, .int .u32 0, .int .u32 0, .int .u32 0, .int .u32 0, .int .u32 0, .slice none 0 0] from (HG2.out.below Hb12.out HG2.out.lt).other (by omega) 8 _)
      have hOw : Own ((w12.setCell ⟨g7, 8, none⟩ (.slice a12 n c12)).setRow (w.heap.size + 1) (spongeC σ (.slice a12 n c12))) w.heap.size (.slice a12 n c12) R :=
        ((Ho12.out.but ((But.refl g7 w12).setCell 8 _) hgl).but ((But.refl (w.heap.size + 1) _).setRow _) (by omega)).mono (by omega)
      have hBe : Below w.heap.size w ((w12.setCell ⟨g7, 8, none⟩ (.slice a12 n c12)).setRow (w.heap.size + 1) (spongeC σ (.slice a12 n c12))) :=
        (((Hbw3.out.trans (Hbw.out.mono (by omega))).trans (Hb12.out.mono (by omega))).setCell (p := ⟨g7, 8, none⟩) (by show w.heap.size ≤ g7; omega) _).trans (below_setRow _ _ _ _ (by omega))
      have HOw := Lib.hid hOw
      have HBe := Lib.hid hBe
      clear hOw hBe
      go_wp2_with (first
        | (refine list_load rfl 43 (.tmp 7) rfl g7 rfl 43 (spongeC σ (.slice a12 n c12)) (0, 0) _ HGf.out Try.underlying43 rfl (sizeSponge _ _) ?_)
        | (refine wpList_store_row rfl 43 (.tmp 4) (.tmp 38) rfl (w.heap.size + 1) (spongeC σ (.slice a12 n c12)) rfl rfl 43 #[.int .u32 0, .int .u32 0, .int .u32 0, .int .u32 0, .int .u32 0, .int .u32 0, .int .u32 0, .int .u32 0, .slice none 0 0] HG2f.out (sizeSponge _ _) (sizeZE _ _) (oneSponge _ _ _ _) ?_))
      refine bodyPost_ret (v := .tuple #[.agg (spongeC σ (.slice a12 n c12)), .int .i64 0]) ?_ rfl ⟨.slice a12 n c12, by rw [← HF.out.1], by rw [← HF.out.2]; exact HOw.out, HBe.out⟩
      exact results_cell_tmp (p := 4) (q := 5) rfl _ _ (w.heap.size + 1) 43 _ (0, 0) _ rfl (setRow_heap _ _ _ _ _ _ HG2f.out) Try.underlying43 rfl (sizeSponge _ _) _ rfl
end Go.Proofs.Ytnlblmghhkmbbaa

/- The reference's End. -/
namespace Go.Proofs.Ytnlblmghhkmbbaa
set_option linter.unusedVariables false
open Go.RowKit Go.Shelf

theorem zl16 : (#[.int .u8 0, .int .u8 0, .int .u8 0, .int .u8 0, .int .u8 0, .int .u8 0, .int .u8 0, .int .u8 0, .int .u8 0, .int .u8 0, .int .u8 0, .int .u8 0, .int .u8 0, .int .u8 0, .int .u8 0, .int .u8 0] : Array Value) = digC (List.replicate 16 0) := rfl
theorem abs16 (s : St) (l : List Int) (h : l.length = 16) : absS s l = blkV s l := by
  unfold absS
  rw [h]
  show blkV s (cutK l 0) = _
  have : cutK l 0 = l := by unfold cutK; rw [Nat.mul_zero, List.drop_zero, List.take_of_length_le (by omega)]
  rw [this]
theorem pad16 (rest : List Int) (h : rest.length < 16) : (rest ++ padV rest.length).length = 16 := by
  rw [List.length_append, padV_len _ h]; omega
theorem splice_pad (rest : List Int) (h : rest.length ≤ 16) : (splice ((List.replicate 16 (0 : Int)).map (Value.int .u8)) 0 (rest.map (Value.int .u8))).toArray = digC (rest ++ List.replicate (16 - rest.length) 0) := by
  unfold splice digC
  rw [List.map_replicate]
  simp only [List.take_zero, List.nil_append, Nat.zero_add, List.length_map, List.drop_replicate, List.map_append, List.map_replicate]
theorem set_pad (rest : List Int) (h : rest.length < 16) : (digC (rest ++ List.replicate (16 - rest.length) 0)).setIfInBounds rest.length (.int .u8 128) = digC (rest ++ padV rest.length) := by
  unfold digC padV
  rw [show 16 - rest.length = (15 - rest.length) + 1 by omega, List.replicate_succ]
  simp
def dby (σ : St) (k : Nat) : List Int := (bytesV σ).take k ++ List.replicate (16 - k) 0
theorem dby_len (σ : St) (k : Nat) (h : k ≤ 16) : (dby σ k).length = 16 := by unfold dby; rw [List.length_append, List.length_take, bytesV_len, List.length_replicate]; omega
theorem dby_all (σ : St) : dby σ 16 = bytesV σ := by unfold dby; rw [List.take_of_length_le (by rw [bytesV_len]; omega)]; simp
theorem dby_none (σ : St) : dby σ 0 = List.replicate 16 0 := by unfold dby; simp
theorem bytesV_at (σ : St) (k : Nat) (h : k < 16) : (bytesV σ)[k]'(by rw [bytesV_len]; exact h) = ((σ (k / 4)).toNat : Int) / 2 ^ (8 * (k % 4)) % 256 := by
  unfold bytesV; simp
theorem dby_set (σ : St) (k : Nat) (h : k < 16) (v : Int) (hv : v = ((σ (k / 4)).toNat : Int) / 2 ^ (8 * (k % 4)) % 256) : (digC (dby σ k)).setIfInBounds k (.int .u8 v) = digC (dby σ (k + 1)) := by
  have e : (dby σ k).set k v = dby σ (k + 1) := by
    unfold dby
    have hl : ((bytesV σ).take k).length = k := by rw [List.length_take, bytesV_len]; omega
    rw [List.set_append_right _ _ (by omega), hl, Nat.sub_self, show 16 - k = (16 - (k + 1)) + 1 by omega, List.replicate_succ, List.set_cons_zero, List.take_succ_eq_append_getElem (by rw [bytesV_len]; exact h), bytesV_at σ k h, ← hv]
    simp
  unfold digC
  rw [← e, List.map_set]
  simp
theorem fresh8 {w w1 : World} (h : Below w.heap.size w w1) (σ : St) :
    ∃ W3, w1.alloc (.cells #[.int .u32 0, .int .u32 0, .int .u32 0, .int .u32 0, .int .u32 0, .int .u32 0, .int .u32 0, .int .u32 0] 41) = W3 ∧ Blk W3 w1.heap.size 41 (vals (fun _ => 0#32)) ∧
      ∃ g W, w1.heap.size = g ∧ W3.setRow w1.heap.size (vals σ) = W ∧ Blk W g 41 (vals σ) ∧ Below w.heap.size w W ∧ Below g w1 W ∧ g < W.heap.size := by
  refine ⟨_, rfl, heap_new w1 _, ?_⟩
  obtain ⟨g, W, e1, e2, r⟩ := fresh h (vals σ) 41
  exact ⟨g, W, e1, by rw [World.setRow_alloc_new]; exact e2, r⟩
attribute [local irreducible] spongeC absS blkV vals bytesV dby endV
set_option maxRecDepth 100000 in
set_option maxHeartbeats 8000000 in
theorem rend_ok (s : St) (ra : Option Addr) (rl rc : Nat) (rest : List Int) (w : World) (hr : Rd w ra rl rc rest) (h16 : rl < 16) :
    Calls Try.prog 32 #[.agg (spongeC s (.slice ra rl rc))] w fun e w' => e = .returned (.tuple #[.agg (digC (endV s rest)), .int .i64 0]) ∧ Below w.heap.size w w' := by
  obtain ⟨W0, hW0⟩ : ∃ W0, W0 = (w.alloc (.cells (spongeC s (.slice ra rl rc)) 43)).alloc (.cells #[.int .u8 0, .int .u8 0, .int .u8 0, .int .u8 0, .int .u8 0, .int .u8 0, .int .u8 0, .int .u8 0, .int .u8 0, .int .u8 0, .int .u8 0, .int .u8 0, .int .u8 0, .int .u8 0, .int .u8 0, .int .u8 0] 47) := ⟨_, rfl⟩
  have hg1 : Blk W0 w.heap.size 43 (spongeC s (.slice ra rl rc)) := by rw [hW0]; exact (Below.heap_alloc _ _ _ (by simp)).trans (heap_new w _)
  have hg2 : Blk W0 (w.heap.size + 1) 47 (digC (List.replicate 16 0)) := by rw [hW0]; exact heap_alloc2_new w _ _
  have hb0 : Below w.heap.size w W0 := by rw [hW0]; exact ((Below.refl _ w).alloc (Nat.le_refl _) _).alloc (by simp) _
  have hs0 : W0.heap.size = w.heap.size + 2 := by rw [hW0]; simp
  have hrl := hr.hl
  have hend : endV s rest = bytesV (blkV s (rest ++ padV rl)) := by unfold endV; rw [hrl, abs16 s _ (by rw [← hrl]; exact pad16 rest (by omega))]
  have hpb : ∀ n ∈ rest ++ padV rl, 0 ≤ n ∧ n ≤ 255 := fun n hn => by
    rcases List.mem_append.1 hn with h | h
    · exact hr.hb n h
    · exact padV_bd rl n h
  have hpl : (rest ++ padV rl).length = 16 := by rw [← hrl]; exact pad16 rest (by omega)
  have HW0 := Lib.hid hW0
  have Hg1 := Lib.hid hg1
  have Hg2 := Lib.hid hg2
  have Hb0 := Lib.hid hb0
  have Hr := Lib.hid hr
  have HE := Lib.hid hend
  have HP := Lib.hid (And.intro hpb hpl)
  clear hW0 hg1 hg2 hb0 hr hend hpb hpl
  go_enter Try.func32, Try.ntmps32
  go_upto_region 1 with fail
  rw [← HW0.out]
  clear HW0
  go_wp2_with (refine list_load rfl 43 (.tmp 1) rfl w.heap.size rfl 43 (spongeC s (.slice ra rl rc)) (0, 0) _ Hg1.out Try.underlying43 rfl (sizeSponge _ _) ?_)
  refine (validS_yes s ra rl rc W0 h16).mono ?_
  rintro e w1 ⟨rfl, hb1⟩
  have Hb1 : Hid (Below w.heap.size w w1) := Lib.hid (Hb0.out.trans (hb1.mono Hb0.out.size))
  have hws : w.heap.size + 2 ≤ w1.heap.size := by have := hb1.size; omega
  obtain ⟨gl, W2, e1, e2, hgl2, hb2, hq2, hs2⟩ := fresh Hb1.out (digC (List.replicate 16 0)) 5
  have hG12 := (Hg1.out.below hb1 Hg1.out.lt).below hq2 (by have := Hg1.out.lt; omega)
  have hG22 := (Hg2.out.below hb1 Hg2.out.lt).below hq2 (by have := Hg2.out.lt; omega)
  have hR2 := Hr.out.below hb2 (Nat.le_refl _)
  have hmk : (Instr.makeSlice 22 (.int .i64 16) (.int .i64 16)).run Try.prog w1 = .ok (.slice (some ⟨gl, 0, none⟩) 16 16) W2 := by rw [run_make8 16 16 rfl (Nat.le_refl _) w1, e1, e2]
  have HGl := Lib.hid hgl2
  have Hb2 := Lib.hid hb2
  have HG1 := Lib.hid hG12
  have HG2 := Lib.hid hG22
  have HR2 := Lib.hid hR2
  have hglw : w.heap.size + 2 ≤ gl := by omega
  clear hb1 e1 e2 hgl2 hb2 hq2 hG12 hG22 hR2 Hg1 Hg2 Hb0
  go_upto_region 4 with fail
  clear hmk
  have p8 : W2.cell? ⟨w.heap.size, 8, none⟩ = some (.slice ra rl rc) := by rw [HG1.out.cell 8, sp_cell8]
  have hsz1 : (Try.prog.info? 5).map (·.size) = some 1 := by kernel_rfl
  have HZ1 := Lib.hid hsz1
  clear hsz1
  go_upto_region 5 with (refine wpList_copy_splice rfl (.tmp 13) (.tmp 15) 22 22 rfl 5 Try.underlying22 HZ1.out (some ⟨gl, 0, none⟩) ra 16 16 rl rc rfl rfl gl 0 ((List.replicate 16 (0 : Int)).map (Value.int .u8)) 5 HGl.out (rest.map (Value.int .u8)) (by rw [List.length_map, Hr.out.hl]; exact (Nat.min_eq_left (by omega)).symm) (fun h => by
      rw [List.length_map, Hr.out.hl] at h
      obtain ⟨b, off, rfl, -⟩ := HR2.out.hr h
      exact ⟨rfl, _, rfl, HR2.out.cells⟩) (by rw [List.length_map, Hr.out.hl, List.length_map, List.length_replicate]; omega) (oneCells rest) (w.heap.size + 2) W2 (Below.refl _ _) (by omega) ?_; intro w3 hg3 hb3)
  have hgl3 : Blk w3 gl 5 (digC (rest ++ List.replicate (16 - rl) 0)) := by
    have h := hg3.out
    have h2 := splice_pad rest (by rw [Hr.out.hl]; omega)
    rw [Hr.out.hl] at h2
    rw [h2] at h
    exact h
  have hG13 := HG1.out.below hb3 (by omega)
  have hG23 := HG2.out.below hb3 (by omega)
  have hbw3 : Below w.heap.size w w3 := Hb2.out.trans (hb3.mono (by omega))
  have hfz := hgl3.frozen rl
  have hcz : w3.cell? ⟨gl, rl, none⟩ = some (.int .u8 0) := by
    rw [hgl3.cell rl, digC_get _ rl (by rw [List.length_append, Hr.out.hl, List.length_replicate]; omega)]
    congr 2
    rw [List.getD_eq_getElem?_getD, List.getElem?_append_right (by rw [Hr.out.hl]; exact Nat.le_refl _), ← List.getD_eq_getElem?_getD, rep0]
  have p83 : w3.cell? ⟨w.heap.size, 8, none⟩ = some (.slice ra rl rc) := by rw [hG13.cell 8, sp_cell8]
  obtain ⟨W4, hW4⟩ : ∃ W, W = w3.setCell ⟨gl, rl, none⟩ (.int .u8 128) := ⟨_, rfl⟩
  have hgl4 : Blk W4 gl 5 (digC (rest ++ padV rl)) := by
    rw [hW4]
    have h := hgl3.set_ rl (.int .u8 128)
    have h2 := set_pad rest (by rw [Hr.out.hl]; exact h16)
    rw [Hr.out.hl] at h2
    rw [h2] at h
    exact h
  have hG14 : Blk W4 w.heap.size 43 (spongeC s (.slice ra rl rc)) := by rw [hW4]; exact hG13.other (by omega) _ _
  have hG24 : Blk W4 (w.heap.size + 1) 47 (digC (List.replicate 16 0)) := by rw [hW4]; exact hG23.other (by omega) _ _
  have hbw4 : Below w.heap.size w W4 := by rw [hW4]; exact hbw3.setCell (by simp; omega) _
  have hrd4 := hgl4.rd HP.out.1 (by rw [HP.out.2]; unfold maxLen; omega)
  rw [HP.out.2] at hrd4
  have hs4 : gl < W4.heap.size := hgl4.lt
  have HW4 := Lib.hid hW4
  have HRd4 := Lib.hid hrd4
  have HG24 := Lib.hid hG24
  have HG14 := Lib.hid hG14
  have Hbw4 := Lib.hid hbw4
  have HS4 := Lib.hid (blk_state hG14)
  have L8 := Lib.hid (sizeStateL s)
  have hr15 : (rl : Int) < 16 := by omega
  have hgls := hgl3.lt
  obtain ⟨σ, hσ⟩ : ∃ σ, σ = blkV s (rest ++ padV rl) := ⟨_, rfl⟩
  have Hσ := Lib.hid hσ
  clear hgl3 hG13 hG23 hbw3 hW4 hgl4 hG14 hG24 hbw4 hrd4 hσ hg3 hb3 p8 HGl Hb2 HG1 HG2 HR2 HZ1
  go_upto_region 6 with fail
  rw [← HW4.out]
  clear HW4 hfz hcz p83
  go_wp2_with (refine wpList_load_mid rfl 41 (.tmp 22) rfl w.heap.size 0 rfl (vals s).toList _ HS4.out Try.underlying41 rfl L8.out ?_; rw [Array.toArray_toList])
  refine (rblock_any s (some ⟨gl, 0, none⟩) 16 (rest ++ padV rl) W4 HRd4.out).mono ?_
  rintro e w5 ⟨rfl, hb5⟩
  rw [← Hσ.out]
  have hG25 := HG24.out.below hb5 HG24.out.lt
  have hbw5 : Below w.heap.size w w5 := Hbw4.out.trans (hb5.mono Hbw4.out.size)
  obtain ⟨w6, e1, hz6, g5, W7, e2, e3, hg57, hb7, hq7, hs7⟩ := fresh8 hbw5 σ
  have hG27 := hG25.below hq7 (by have := hG25.lt; omega)
  obtain ⟨w8, d1, hz8, g6, W9, d2, d3, hg69, hb9, hq9, hs9⟩ := freshD hb7 (List.replicate 16 0) (by simp)
  have HG29 := Lib.hid (hG27.below hq9 (by have := hG27.lt; omega))
  have HG59 := Lib.hid (hg57.below hq9 (by omega))
  have He1 := Lib.hid e1
  have He2 := Lib.hid e2
  have He3 := Lib.hid e3
  have Hz6 := Lib.hid hz6
  have Hd1 := Lib.hid d1
  have Hd2 := Lib.hid d2
  have Hd3 := Lib.hid d3
  have Hz8 := Lib.hid hz8
  have HG69 := Lib.hid hg69
  have Hb9 := Lib.hid hb9
  have h56 : g5 < g6 := by omega
  have hg5w : w.heap.size + 2 ≤ g5 := by have := hb5.size; omega
  have z1 := Try.sizeDig (List.replicate 16 0) (by simp)
  clear hb5 hG25 hbw5 e1 hz6 e2 e3 hg57 hb7 hq7 hs7 hG27 d1 hz8 d2 d3 hg69 hb9 hq9 hs9 HG24 HG14 Hbw4 HS4 L8 HRd4
  go_upto_region 7 with (rw [He1.out]; refine wpList_store_row rfl 41 (.tmp 5) (.tmp 25) rfl w5.heap.size (vals σ) rfl rfl 41 (vals (fun _ => 0#32)) Hz6.out (sizeSt σ) (by rw [vals_size, vals_size]) (oneSt σ) ?_)
  rw [He3.out, He2.out]
  clear He1 He2 He3 Hz6
  go_wp2_with (rw [Hd1.out]; refine wpList_store_row rfl 47 (.tmp 6) (.tmp 26) rfl W7.heap.size (digC (List.replicate 16 0)) rfl rfl 47 (digC (List.replicate 16 0)) Hz8.out z1 rfl (digC_one _) ?_; rw [Hd3.out])
  rw [Hd2.out]
  clear Hd1 Hd2 Hd3 Hz8 z1
  go_loopw [7] (fun i wr => ∃ k : Nat, k ≤ 16 ∧ i = .int .i64 k ∧ Blk wr g6 47 (digC (dby σ k)) ∧ Below g6 W9 wr) (fun i _ => 16 - (intOf i).toNat)
  case atStart => exact ⟨0, by omega, rfl, by rw [dby_none]; exact HG69.out, Below.refl _ _⟩
  case round =>
    obtain ⟨k, hk, rfl, hblk, hbw⟩ := hrel
    by_cases hlt : k < 16
    · have hg5r := HG59.out.below hbw h56
      obtain ⟨t0, ht0⟩ : ∃ t, t = σ (k / 4) := ⟨_, rfl⟩
      have q0 : wr.cell? ⟨g5, k / 4, none⟩ = some (.int .u32 (t0.toNat : Int)) := by rw [hg5r.cell (k / 4), vals_get σ (k / 4) (by omega), ht0]; rfl
      obtain ⟨y, d0⟩ : ∃ y, wr.cell? ⟨g6, k, none⟩ = some (.int .u8 y) := ⟨_, by rw [hblk.cell k, digC_get _ k (by rw [dby_len σ k hk]; exact hlt)]⟩
      have f0 := hblk.frozen k
      obtain ⟨v, hv⟩ : ∃ v : Int, v = (t0.toNat : Int) / 2 ^ (8 * (k % 4)) % 256 := ⟨_, rfl⟩
      have hset := dby_set σ k hlt v (by rw [hv, ht0])
      have hbt := b_bd t0
      have HSet := Lib.hid hset
      have HB := Lib.hid hblk
      have Hb := Lib.hid hbw
      clear ht0 hset hblk hbw hg5r
      have hk16 : k = 0 ∨ k = 1 ∨ k = 2 ∨ k = 3 ∨ k = 4 ∨ k = 5 ∨ k = 6 ∨ k = 7 ∨ k = 8 ∨ k = 9 ∨ k = 10 ∨ k = 11 ∨ k = 12 ∨ k = 13 ∨ k = 14 ∨ k = 15 := by omega
      clear hk hlt
      rcases hk16 with rfl | rfl | rfl | rfl | rfl | rfl | rfl | rfl | rfl | rfl | rfl | rfl | rfl | rfl | rfl | rfl
      · simp only [Nat.reduceDiv, Nat.reduceMod, Nat.reduceMul, Nat.reduceAdd, Nat.add_zero, Nat.zero_div, Nat.zero_mod, Nat.mul_zero, Int.reducePow, Int.pow_zero, Int.ediv_one] at q0 f0 d0 hv HSet
        have hv' := hv.symm
        clear hv
        go_wp2_with fail
        go_roundw
        case rel => exact ⟨1, by omega, rfl, by rw [← HSet.out]; exact HB.out.set_ 0 _, Hb.out.setCell (Nat.le_refl _) _⟩
        case measure => simp [intOf]
      · simp only [Nat.reduceDiv, Nat.reduceMod, Nat.reduceMul, Nat.reduceAdd, Nat.add_zero, Nat.zero_div, Nat.zero_mod, Nat.mul_zero, Int.reducePow, Int.pow_zero, Int.ediv_one] at q0 f0 d0 hv HSet
        have hv' := hv.symm
        clear hv
        go_wp2_with fail
        go_roundw
        case rel => exact ⟨2, by omega, rfl, by rw [← HSet.out]; exact HB.out.set_ 1 _, Hb.out.setCell (Nat.le_refl _) _⟩
        case measure => simp [intOf]
      · simp only [Nat.reduceDiv, Nat.reduceMod, Nat.reduceMul, Nat.reduceAdd, Nat.add_zero, Nat.zero_div, Nat.zero_mod, Nat.mul_zero, Int.reducePow, Int.pow_zero, Int.ediv_one] at q0 f0 d0 hv HSet
        have hv' := hv.symm
        clear hv
        go_wp2_with fail
        go_roundw
        case rel => exact ⟨3, by omega, rfl, by rw [← HSet.out]; exact HB.out.set_ 2 _, Hb.out.setCell (Nat.le_refl _) _⟩
        case measure => simp [intOf]
      · simp only [Nat.reduceDiv, Nat.reduceMod, Nat.reduceMul, Nat.reduceAdd, Nat.add_zero, Nat.zero_div, Nat.zero_mod, Nat.mul_zero, Int.reducePow, Int.pow_zero, Int.ediv_one] at q0 f0 d0 hv HSet
        have hv' : (t0.toNat : Int) / 16777216 = v := by have := t0.isLt; omega
        clear hv
        go_wp2_with fail
        go_roundw
        case rel => exact ⟨4, by omega, rfl, by rw [← HSet.out]; exact HB.out.set_ 3 _, Hb.out.setCell (Nat.le_refl _) _⟩
        case measure => simp [intOf]
      · simp only [Nat.reduceDiv, Nat.reduceMod, Nat.reduceMul, Nat.reduceAdd, Nat.add_zero, Nat.zero_div, Nat.zero_mod, Nat.mul_zero, Int.reducePow, Int.pow_zero, Int.ediv_one] at q0 f0 d0 hv HSet
        have hv' := hv.symm
        clear hv
        go_wp2_with fail
        go_roundw
        case rel => exact ⟨5, by omega, rfl, by rw [← HSet.out]; exact HB.out.set_ 4 _, Hb.out.setCell (Nat.le_refl _) _⟩
        case measure => simp [intOf]
      · simp only [Nat.reduceDiv, Nat.reduceMod, Nat.reduceMul, Nat.reduceAdd, Nat.add_zero, Nat.zero_div, Nat.zero_mod, Nat.mul_zero, Int.reducePow, Int.pow_zero, Int.ediv_one] at q0 f0 d0 hv HSet
        have hv' := hv.symm
        clear hv
        go_wp2_with fail
        go_roundw
        case rel => exact ⟨6, by omega, rfl, by rw [← HSet.out]; exact HB.out.set_ 5 _, Hb.out.setCell (Nat.le_refl _) _⟩
        case measure => simp [intOf]
      · simp only [Nat.reduceDiv, Nat.reduceMod, Nat.reduceMul, Nat.reduceAdd, Nat.add_zero, Nat.zero_div, Nat.zero_mod, Nat.mul_zero, Int.reducePow, Int.pow_zero, Int.ediv_one] at q0 f0 d0 hv HSet
        have hv' := hv.symm
        clear hv
        go_wp2_with fail
        go_roundw
        case rel => exact ⟨7, by omega, rfl, by rw [← HSet.out]; exact HB.out.set_ 6 _, Hb.out.setCell (Nat.le_refl _) _⟩
        case measure => simp [intOf]
      · simp only [Nat.reduceDiv, Nat.reduceMod, Nat.reduceMul, Nat.reduceAdd, Nat.add_zero, Nat.zero_div, Nat.zero_mod, Nat.mul_zero, Int.reducePow, Int.pow_zero, Int.ediv_one] at q0 f0 d0 hv HSet
        have hv' : (t0.toNat : Int) / 16777216 = v := by have := t0.isLt; omega
        clear hv
        go_wp2_with fail
        go_roundw
        case rel => exact ⟨8, by omega, rfl, by rw [← HSet.out]; exact HB.out.set_ 7 _, Hb.out.setCell (Nat.le_refl _) _⟩
        case measure => simp [intOf]
      · simp only [Nat.reduceDiv, Nat.reduceMod, Nat.reduceMul, Nat.reduceAdd, Nat.add_zero, Nat.zero_div, Nat.zero_mod, Nat.mul_zero, Int.reducePow, Int.pow_zero, Int.ediv_one] at q0 f0 d0 hv HSet
        have hv' := hv.symm
        clear hv
        go_wp2_with fail
        go_roundw
        case rel => exact ⟨9, by omega, rfl, by rw [← HSet.out]; exact HB.out.set_ 8 _, Hb.out.setCell (Nat.le_refl _) _⟩
        case measure => simp [intOf]
      · simp only [Nat.reduceDiv, Nat.reduceMod, Nat.reduceMul, Nat.reduceAdd, Nat.add_zero, Nat.zero_div, Nat.zero_mod, Nat.mul_zero, Int.reducePow, Int.pow_zero, Int.ediv_one] at q0 f0 d0 hv HSet
        have hv' := hv.symm
        clear hv
        go_wp2_with fail
        go_roundw
        case rel => exact ⟨10, by omega, rfl, by rw [← HSet.out]; exact HB.out.set_ 9 _, Hb.out.setCell (Nat.le_refl _) _⟩
        case measure => simp [intOf]
      · simp only [Nat.reduceDiv, Nat.reduceMod, Nat.reduceMul, Nat.reduceAdd, Nat.add_zero, Nat.zero_div, Nat.zero_mod, Nat.mul_zero, Int.reducePow, Int.pow_zero, Int.ediv_one] at q0 f0 d0 hv HSet
        have hv' := hv.symm
        clear hv
        go_wp2_with fail
        go_roundw
        case rel => exact ⟨11, by omega, rfl, by rw [← HSet.out]; exact HB.out.set_ 10 _, Hb.out.setCell (Nat.le_refl _) _⟩
        case measure => simp [intOf]
      · simp only [Nat.reduceDiv, Nat.reduceMod, Nat.reduceMul, Nat.reduceAdd, Nat.add_zero, Nat.zero_div, Nat.zero_mod, Nat.mul_zero, Int.reducePow, Int.pow_zero, Int.ediv_one] at q0 f0 d0 hv HSet
        have hv' : (t0.toNat : Int) / 16777216 = v := by have := t0.isLt; omega
        clear hv
        go_wp2_with fail
        go_roundw
        case rel => exact ⟨12, by omega, rfl, by rw [← HSet.out]; exact HB.out.set_ 11 _, Hb.out.setCell (Nat.le_refl _) _⟩
        case measure => simp [intOf]
      · simp only [Nat.reduceDiv, Nat.reduceMod, Nat.reduceMul, Nat.reduceAdd, Nat.add_zero, Nat.zero_div, Nat.zero_mod, Nat.mul_zero, Int.reducePow, Int.pow_zero, Int.ediv_one] at q0 f0 d0 hv HSet
        have hv' := hv.symm
        clear hv
        go_wp2_with fail
        go_roundw
        case rel => exact ⟨13, by omega, rfl, by rw [← HSet.out]; exact HB.out.set_ 12 _, Hb.out.setCell (Nat.le_refl _) _⟩
        case measure => simp [intOf]
      · simp only [Nat.reduceDiv, Nat.reduceMod, Nat.reduceMul, Nat.reduceAdd, Nat.add_zero, Nat.zero_div, Nat.zero_mod, Nat.mul_zero, Int.reducePow, Int.pow_zero, Int.ediv_one] at q0 f0 d0 hv HSet
        have hv' := hv.symm
        clear hv
        go_wp2_with fail
        go_roundw
        case rel => exact ⟨14, by omega, rfl, by rw [← HSet.out]; exact HB.out.set_ 13 _, Hb.out.setCell (Nat.le_refl _) _⟩
        case measure => simp [intOf]
      · simp only [Nat.reduceDiv, Nat.reduceMod, Nat.reduceMul, Nat.reduceAdd, Nat.add_zero, Nat.zero_div, Nat.zero_mod, Nat.mul_zero, Int.reducePow, Int.pow_zero, Int.ediv_one] at q0 f0 d0 hv HSet
        have hv' := hv.symm
        clear hv
        go_wp2_with fail
        go_roundw
        case rel => exact ⟨15, by omega, rfl, by rw [← HSet.out]; exact HB.out.set_ 14 _, Hb.out.setCell (Nat.le_refl _) _⟩
        case measure => simp [intOf]
      · simp only [Nat.reduceDiv, Nat.reduceMod, Nat.reduceMul, Nat.reduceAdd, Nat.add_zero, Nat.zero_div, Nat.zero_mod, Nat.mul_zero, Int.reducePow, Int.pow_zero, Int.ediv_one] at q0 f0 d0 hv HSet
        have hv' : (t0.toNat : Int) / 16777216 = v := by have := t0.isLt; omega
        clear hv
        go_wp2_with fail
        go_roundw
        case rel => exact ⟨16, by omega, rfl, by rw [← HSet.out]; exact HB.out.set_ 15 _, Hb.out.setCell (Nat.le_refl _) _⟩
        case measure => simp [intOf]
    · obtain rfl : k = 16 := by omega
      rw [dby_all] at hblk
      have hdl : (bytesV σ).length = 16 := bytesV_len σ
      have hG2r := HG29.out.below hbw (by omega)
      obtain ⟨D, hD⟩ : ∃ D, D = bytesV σ := ⟨_, rfl⟩
      rw [← hD] at hblk hdl
      have HB := Lib.hid hblk
      have HG2r := Lib.hid hG2r
      have Hbw := Lib.hid (Hb9.out.trans (hbw.mono (by have := Hb9.out.size; omega)))
      have HD := Lib.hid hD
      have z1 := Try.sizeDig D hdl
      have z2 := zsize D hdl
      have z3 := digC_one D
      clear hblk hG2r hbw hD
      go_wp2_with (first
        | (refine list_load rfl 47 (.tmp 6) rfl g6 rfl 47 (digC D) (0, 0) _ HB.out Try.underlying47 rfl z1 ?_)
        | (refine wpList_store_row rfl 47 (.tmp 2) (.tmp 42) rfl (w.heap.size + 1) (digC D) rfl rfl 47 (digC (List.replicate 16 0)) HG2r.out z1 z2 z3 ?_))
      refine bodyPost_ret (v := .tuple #[.agg (digC D), .int .i64 0]) (results_cell_tmp rfl _ _ (w.heap.size + 1) 47 (digC D) (0, 0) _ rfl (setRow_heap _ _ _ _ _ _ HG2r.out) Try.underlying47 rfl z1 (.int .i64 0) rfl) rfl ⟨?_, ?_⟩
      · rw [HE.out, ← Hσ.out, ← HD.out]
      · exact Hbw.out.trans (below_setRow _ _ _ _ (by omega))
end Go.Proofs.Ytnlblmghhkmbbaa

/- The reference's Start and Digest; Absorb and End of a sponge that is none. -/
namespace Go.Proofs.Ytnlblmghhkmbbaa
set_option linter.unusedVariables false
open Go.RowKit Go.Shelf

theorem oneZ : (#[.int .u32 0, .int .u32 0, .int .u32 0, .int .u32 0, .int .u32 0, .int .u32 0, .int .u32 0, .int .u32 0, .slice none 0 0] : Array Value).all (fun x => x.oneCell') = true := by kernel_rfl
set_option maxRecDepth 100000 in
set_option maxHeartbeats 4000000 in
theorem rstart_any (w : World) : Calls Try.prog 35 #[] w fun e w' => e = .returned (.agg (spongeC startV (.slice none 0 0))) ∧ Below w.heap.size w w' := by
  go_enter Try.func35, Try.ntmps35
  go_wp2_with fail
  refine bodyPost_ret (v := .agg (spongeC startV (.slice none 0 0))) ?_ rfl ⟨rfl, ?_⟩
  · simp [results, Try.results35, go_sem]
    rfl
  · exact ((Below.refl _ w).alloc (Nat.le_refl _) _).alloc (by simp) _
attribute [local irreducible] spongeC
set_option maxRecDepth 100000 in
set_option maxHeartbeats 4000000 in
theorem rabsorb_bad (s : St) (ra : Option Addr) (rl rc : Nat) (v : Value) (w : World) (h16 : 16 ≤ rl) :
    Calls Try.prog 30 #[.agg (spongeC s (.slice ra rl rc)), v] w fun e w' => e = .returned (.tuple #[.agg (spongeC (fun _ => 0#32) (.slice none 0 0)), .int .i64 1]) ∧ Below w.heap.size w w' := by
  obtain ⟨W0, hW0⟩ : ∃ W0, W0 = (w.alloc (.cells (spongeC s (.slice ra rl rc)) 43)).alloc (.cells #[.int .u32 0, .int .u32 0, .int .u32 0, .int .u32 0, .int .u32 0, .int .u32 0, .int .u32 0, .int .u32 0, .slice none 0 0] 43) := ⟨_, rfl⟩
  have hg1 : Blk W0 w.heap.size 43 (spongeC s (.slice ra rl rc)) := by rw [hW0]; exact (Below.heap_alloc _ _ _ (by simp)).trans (heap_new w _)
  have hg2 : Blk W0 (w.heap.size + 1) 43 #[.int .u32 0, .int .u32 0, .int .u32 0, .int .u32 0, .int .u32 0, .int .u32 0, .int .u32 0, .int .u32 0, .slice none 0 0] := by rw [hW0]; exact heap_alloc2_new w _ _
  have hb0 : Below w.heap.size w W0 := by rw [hW0]; exact ((Below.refl _ w).alloc (Nat.le_refl _) _).alloc (by simp) _
  have HW0 := Lib.hid hW0
  have Hg1 := Lib.hid hg1
  have Hg2 := Lib.hid hg2
  have Hb0 := Lib.hid hb0
  clear hW0 hg1 hg2 hb0
  go_enter Try.func30, Try.ntmps30
  go_upto_region 1 with fail
  rw [← HW0.out]
  clear HW0
  go_wp2_with (refine list_load rfl 43 (.tmp 2) rfl w.heap.size rfl 43 (spongeC s (.slice ra rl rc)) (0, 0) _ Hg1.out Try.underlying43 rfl (sizeSponge _ _) ?_)
  refine (validS_no s ra rl rc W0 h16).mono ?_
  rintro e w1 ⟨rfl, hb1⟩
  have Hg21 := Lib.hid (Hg2.out.below hb1 Hg2.out.lt)
  have Hb1 : Hid (Below w.heap.size w w1) := Lib.hid (Hb0.out.trans (hb1.mono Hb0.out.size))
  clear hb1 Hg1 Hg2 Hb0
  go_wp2_with (refine wpList_store_row rfl 43 (.tmp 4) (.tmp 11) rfl (w.heap.size + 1) #[.int .u32 0, .int .u32 0, .int .u32 0, .int .u32 0, .int .u32 0, .int .u32 0, .int .u32 0, .int .u32 0, .slice none 0 0] rfl rfl 43 #[.int .u32 0, .int .u32 0, .int .u32 0, .int .u32 0, .int .u32 0, .int .u32 0, .int .u32 0, .int .u32 0, .slice none 0 0] Hg21.out sizeZ9 rfl oneZ ?_)
  refine bodyPost_ret (v := .tuple #[.agg #[.int .u32 0, .int .u32 0, .int .u32 0, .int .u32 0, .int .u32 0, .int .u32 0, .int .u32 0, .int .u32 0, .slice none 0 0], .int .i64 1]) (results_cell_tmp rfl _ _ (w.heap.size + 1) 43 #[.int .u32 0, .int .u32 0, .int .u32 0, .int .u32 0, .int .u32 0, .int .u32 0, .int .u32 0, .int .u32 0, .slice none 0 0] (0, 0) _ rfl (setRow_heap _ _ _ _ _ _ Hg21.out) Try.underlying43 rfl sizeZ9 (.int .i64 1) rfl) rfl ⟨by rw [spongeZ], ?_⟩
  exact Hb1.out.trans (below_setRow _ _ _ _ (by omega))
set_option maxRecDepth 100000 in
set_option maxHeartbeats 4000000 in
theorem rend_bad (s : St) (ra : Option Addr) (rl rc : Nat) (w : World) (h16 : 16 ≤ rl) :
    Calls Try.prog 32 #[.agg (spongeC s (.slice ra rl rc))] w fun e w' => e = .returned (.tuple #[.agg (digC (List.replicate 16 0)), .int .i64 1]) ∧ Below w.heap.size w w' := by
  obtain ⟨W0, hW0⟩ : ∃ W0, W0 = (w.alloc (.cells (spongeC s (.slice ra rl rc)) 43)).alloc (.cells #[.int .u8 0, .int .u8 0, .int .u8 0, .int .u8 0, .int .u8 0, .int .u8 0, .int .u8 0, .int .u8 0, .int .u8 0, .int .u8 0, .int .u8 0, .int .u8 0, .int .u8 0, .int .u8 0, .int .u8 0, .int .u8 0] 47) := ⟨_, rfl⟩
  have hg1 : Blk W0 w.heap.size 43 (spongeC s (.slice ra rl rc)) := by rw [hW0]; exact (Below.heap_alloc _ _ _ (by simp)).trans (heap_new w _)
  have hg2 : Blk W0 (w.heap.size + 1) 47 #[.int .u8 0, .int .u8 0, .int .u8 0, .int .u8 0, .int .u8 0, .int .u8 0, .int .u8 0, .int .u8 0, .int .u8 0, .int .u8 0, .int .u8 0, .int .u8 0, .int .u8 0, .int .u8 0, .int .u8 0, .int .u8 0] := by rw [hW0]; exact heap_alloc2_new w _ _
  have hb0 : Below w.heap.size w W0 := by rw [hW0]; exact ((Below.refl _ w).alloc (Nat.le_refl _) _).alloc (by simp) _
  have HW0 := Lib.hid hW0
  have Hg1 := Lib.hid hg1
  have Hg2 := Lib.hid hg2
  have Hb0 := Lib.hid hb0
  have z1 : (Try.prog.info? 47).map (·.size) = some (#[.int .u8 0, .int .u8 0, .int .u8 0, .int .u8 0, .int .u8 0, .int .u8 0, .int .u8 0, .int .u8 0, .int .u8 0, .int .u8 0, .int .u8 0, .int .u8 0, .int .u8 0, .int .u8 0, .int .u8 0, .int .u8 0] : Array Value).size := by kernel_rfl
  have Z1 := Lib.hid z1
  have O1 := Lib.hid (show (#[.int .u8 0, .int .u8 0, .int .u8 0, .int .u8 0, .int .u8 0, .int .u8 0, .int .u8 0, .int .u8 0, .int .u8 0, .int .u8 0, .int .u8 0, .int .u8 0, .int .u8 0, .int .u8 0, .int .u8 0, .int .u8 0] : Array Value).all (fun x => x.oneCell') = true by kernel_rfl)
  clear hW0 hg1 hg2 hb0 z1
  go_enter Try.func32, Try.ntmps32
  go_upto_region 1 with fail
  rw [← HW0.out]
  clear HW0
  go_wp2_with (refine list_load rfl 43 (.tmp 1) rfl w.heap.size rfl 43 (spongeC s (.slice ra rl rc)) (0, 0) _ Hg1.out Try.underlying43 rfl (sizeSponge _ _) ?_)
  refine (validS_no s ra rl rc W0 h16).mono ?_
  rintro e w1 ⟨rfl, hb1⟩
  have Hg21 := Lib.hid (Hg2.out.below hb1 Hg2.out.lt)
  have Hb1 : Hid (Below w.heap.size w w1) := Lib.hid (Hb0.out.trans (hb1.mono Hb0.out.size))
  clear hb1 Hg1 Hg2 Hb0
  go_wp2_with (refine wpList_store_row rfl 47 (.tmp 2) (.tmp 11) rfl (w.heap.size + 1) #[.int .u8 0, .int .u8 0, .int .u8 0, .int .u8 0, .int .u8 0, .int .u8 0, .int .u8 0, .int .u8 0, .int .u8 0, .int .u8 0, .int .u8 0, .int .u8 0, .int .u8 0, .int .u8 0, .int .u8 0, .int .u8 0] rfl rfl 47 #[.int .u8 0, .int .u8 0, .int .u8 0, .int .u8 0, .int .u8 0, .int .u8 0, .int .u8 0, .int .u8 0, .int .u8 0, .int .u8 0, .int .u8 0, .int .u8 0, .int .u8 0, .int .u8 0, .int .u8 0, .int .u8 0] Hg21.out Z1.out rfl O1.out ?_)
  refine bodyPost_ret (v := .tuple #[.agg #[.int .u8 0, .int .u8 0, .int .u8 0, .int .u8 0, .int .u8 0, .int .u8 0, .int .u8 0, .int .u8 0, .int .u8 0, .int .u8 0, .int .u8 0, .int .u8 0, .int .u8 0, .int .u8 0, .int .u8 0, .int .u8 0], .int .i64 1]) (results_cell_tmp rfl _ _ (w.heap.size + 1) 47 #[.int .u8 0, .int .u8 0, .int .u8 0, .int .u8 0, .int .u8 0, .int .u8 0, .int .u8 0, .int .u8 0, .int .u8 0, .int .u8 0, .int .u8 0, .int .u8 0, .int .u8 0, .int .u8 0, .int .u8 0, .int .u8 0] (0, 0) _ rfl (setRow_heap _ _ _ _ _ _ Hg21.out) Try.underlying47 rfl Z1.out (.int .i64 1) rfl) rfl ⟨rfl, ?_⟩
  exact Hb1.out.trans (below_setRow _ _ _ _ (by omega))
attribute [local irreducible] absS absR endV digestV startV
theorem dig_of (l : List Int) : endV (absS startV l) (absR l) = digestV l := by unfold digestV; rfl
set_option maxRecDepth 100000 in
set_option maxHeartbeats 4000000 in
theorem rdigest_any (a : Option Addr) (len cap : Nat) (xs : List Int) (w : World) (h : Rd w a len cap xs) (hbig : len ≤ 140737488355000) :
    Calls Try.prog 41 #[.slice a len cap] w fun e w' => e = .returned (.agg (digC (digestV xs))) ∧ Below w.heap.size w w' := by
  obtain ⟨W0, hW0⟩ : ∃ W0, W0 = w.alloc (.cells #[.int .u8 0, .int .u8 0, .int .u8 0, .int .u8 0, .int .u8 0, .int .u8 0, .int .u8 0, .int .u8 0, .int .u8 0, .int .u8 0, .int .u8 0, .int .u8 0, .int .u8 0, .int .u8 0, .int .u8 0, .int .u8 0] 47) := ⟨_, rfl⟩
  have hg0 : Blk W0 w.heap.size 47 (digC (List.replicate 16 0)) := by rw [hW0]; exact heap_new w _
  have hb0 : Below w.heap.size w W0 := by rw [hW0]; exact (Below.refl _ w).alloc (Nat.le_refl _) _
  obtain ⟨σ, hσ⟩ : ∃ σ, σ = absS startV xs := ⟨_, rfl⟩
  obtain ⟨R, hR⟩ : ∃ R, R = absR xs := ⟨_, rfl⟩
  obtain ⟨D, hD⟩ : ∃ D, D = digestV xs := ⟨_, rfl⟩
  have hend : endV σ R = D := by rw [hσ, hR, hD]; exact dig_of xs
  have hDl : D.length = 16 := by rw [hD]; exact digestV_len xs
  have hRl : R.length < 16 := by rw [hR]; exact absR_lt xs
  obtain ⟨m, hm⟩ : ∃ m, m = R.length := ⟨_, rfl⟩
  have hcall := fun (u : World) (hu : Below w.heap.size w u) => rabsorb_ok startV none 0 0 [] a len cap xs u (Rd.nil u) (h.below hu (Nat.le_refl _)) (by omega) (by omega)
  simp only [List.nil_append] at hcall
  rw [← hσ, ← hR] at hcall
  have HW0 := Lib.hid hW0
  have Hg0 := Lib.hid hg0
  have Hb0 := Lib.hid hb0
  have HC := Lib.hid hcall
  have HE := Lib.hid hend
  have HD := Lib.hid hD
  have HDl := Lib.hid hDl
  have Hm := Lib.hid hm
  have hm16 : m < 16 := by omega
  clear hW0 hg0 hb0 hcall hend hσ hR hD hDl hRl hm
  go_enter Try.func41, Try.ntmps41
  go_upto_region 1 with fail
  rw [← HW0.out]
  clear HW0
  go_wp2_with fail
  refine (rstart_any W0).mono ?_
  rintro e w1 ⟨rfl, hb1⟩
  have Hb1 : Hid (Below w.heap.size w w1) := Lib.hid (Hb0.out.trans (hb1.mono Hb0.out.size))
  have Hg1 := Lib.hid (Hg0.out.below hb1 Hg0.out.lt)
  clear hb1 Hg0 Hb0
  go_wp2_with fail
  refine (HC.out w1 Hb1.out).mono ?_
  rintro e w2 ⟨v2, rfl, ho2, hb2⟩
  obtain ⟨r2, c2, rfl, hr2⟩ := ho2.rdz Hm.out.symm
  have hbw2 : Below w.heap.size w w2 := Hb1.out.trans (hb2.mono Hb1.out.size)
  have hg2 := Hg1.out.below hb2 Hg1.out.lt
  obtain ⟨w3, e1, hz3, g3, W4, e2, e3, hg3, hb4, hq4, -⟩ := freshZ hbw2 σ (.slice r2 m c2)
  have Hr4 := Lib.hid (hr2.below hq4 (by omega))
  have Hg4 := Lib.hid (hg2.below hq4 (by rw [← e2]; exact hg2.lt))
  have Hg3 := Lib.hid hg3
  have Hb4 := Lib.hid hb4
  have He1 := Lib.hid e1
  have He2 := Lib.hid e2
  have He3 := Lib.hid e3
  have Hz3 := Lib.hid hz3
  clear ho2 hb2 hr2 hbw2 hg2 e1 hz3 e2 e3 hg3 hb4 hq4 Hb1 Hg1 HC
  go_upto_region 2 with (rw [He1.out]; refine wpList_store_row rfl 43 (.tmp 3) (.tmp 11) rfl w2.heap.size (spongeC σ (.slice r2 m c2)) rfl rfl 43 #[.int .u32 0, .int .u32 0, .int .u32 0, .int .u32 0, .int .u32 0, .int .u32 0, .int .u32 0, .int .u32 0, .slice none 0 0] Hz3.out (sizeSponge _ _) (sizeZE _ _) (oneSponge _ _ _ _) ?_)
  rw [He3.out, He2.out]
  clear He1 He2 He3 Hz3
  go_wp2_with (refine list_load rfl 43 (.tmp 3) rfl g3 rfl 43 (spongeC σ (.slice r2 m c2)) (0, 0) _ Hg3.out Try.underlying43 rfl (sizeSponge _ _) ?_)
  refine (rend_ok σ r2 m c2 R W4 Hr4.out hm16).mono ?_
  rintro e w5 ⟨rfl, hb5⟩
  rw [HE.out]
  have hbw5 : Below w.heap.size w w5 := Hb4.out.trans (hb5.mono Hb4.out.size)
  have hg5 := Hg4.out.below hb5 Hg4.out.lt
  obtain ⟨w6, e1, hz6, gd, W7, e2, e3, hgd, hb7, hq7, -⟩ := freshD hbw5 D HDl.out
  have Hg7 := Lib.hid (hg5.below hq7 (by rw [← e2]; exact hg5.lt))
  have Hgd := Lib.hid hgd
  have Hb7 := Lib.hid hb7
  have He1 := Lib.hid e1
  have He2 := Lib.hid e2
  have He3 := Lib.hid e3
  have Hz6 := Lib.hid hz6
  have z1 := Try.sizeDig D HDl.out
  have z2 := zsize D HDl.out
  have z3 := digC_one D
  have Z1 := Lib.hid z1
  have Z2 := Lib.hid z2
  clear hb5 hbw5 hg5 e1 hz6 e2 e3 hgd hb7 hq7 Hr4 Hg4 Hg3 Hb4
  go_upto_region 3 with (rw [He1.out]; refine wpList_store_row rfl 47 (.tmp 5) (.tmp 16) rfl w5.heap.size (digC D) rfl rfl 47 (digC (List.replicate 16 0)) Hz6.out z1 z2 z3 ?_)
  rw [He3.out, He2.out]
  clear He1 He2 He3 Hz6 z1 z2
  go_wp2_with (first
    | (refine list_load rfl 47 (.tmp 5) rfl gd rfl 47 (digC D) (0, 0) _ Hgd.out Try.underlying47 rfl Z1.out ?_)
    | (refine wpList_store_row rfl 47 (.tmp 2) (.tmp 18) rfl w.heap.size (digC D) rfl rfl 47 (digC (List.replicate 16 0)) Hg7.out Z1.out Z2.out z3 ?_))
  refine bodyPost_ret (v := .agg (digC D)) ?_ rfl ⟨by rw [HD.out], Hb7.out.trans (below_setRow _ _ _ _ (Nat.le_refl _))⟩
  exact results_cell_row rfl _ _ w.heap.size 47 (digC D) (0, 0) _ rfl (setRow_heap _ _ _ _ _ _ Hg7.out) Try.underlying47 rfl Z1.out
end Go.Proofs.Ytnlblmghhkmbbaa

/- The lowest nodes that collide. -/
namespace Go.Proofs.Ytnlblmghhkmbbaa
set_option linter.unusedVariables false
open Go.RowKit Go.Shelf

set_option maxRecDepth 100000 in
set_option maxHeartbeats 400000 in
theorem bytesEqual_any (a : Option Addr) (al ac : Nat) (xs : List Int) (b : Option Addr) (bl bc : Nat) (ys : List Int) (w : World) (h1 : Rd w a al ac xs) (h2 : Rd w b bl bc ys) :
    Calls Try.prog 91 #[.slice a al ac, .slice b bl bc] w fun e w' => e = .returned (.bool (decide (xs = ys))) ∧ w' = w := by
  have k1 := h1.convAny
  have k2 := h2.convAny
  have he := str_eq h1.hb h2.hb
  go_enter Try.func91, Try.ntmps91
  go_wp2_with fail
  go_ret
  exact ⟨rfl, rfl⟩
theorem nodesC_all (ms : List NodeM) (i j : Nat) (hi : i < ms.length) (hj : j < 17) : (nodesC ms)[17 * i + j]? = (nodeC (digestV ms[i].xs) ms[i].v)[j]? := by
  induction ms generalizing i with
  | nil => simp at hi
  | cons m ms ih =>
    have hd : (nodeC (digestV m.xs) m.v).toList.length = 17 := by rw [Array.length_toList, nodeC_size _ _ (digestV_len _)]
    have e : nodesC (m :: ms) = (nodeC (digestV m.xs) m.v).toList ++ nodesC ms := by unfold nodesC; rw [List.flatMap_cons]
    rw [e]
    cases i with
    | zero =>
      rw [List.getElem?_append_left (by rw [hd]; omega), Nat.mul_zero, Nat.zero_add, Array.getElem?_toList]
      rfl
    | succ i =>
      rw [List.getElem?_append_right (by rw [hd]; omega), hd, show 17 * (i + 1) + j - 17 = 17 * i + j by omega, ih i (by simpa using hi)]
      rfl
theorem node_range {w : World} {B g cap : Nat} {ms : List NodeM} (h : w.ownsRow B 92 17 (.slice (some ⟨g, 0, none⟩) ms.length cap) ms.length (nodesC ms)) (i : Nat) (hi : i < ms.length) : w.rangeAt g (17 * i) (nodeC (digestV ms[i].xs) ms[i].v).toList := by
  intro j v hv
  have hj : j < 17 := by have := (List.getElem?_eq_some_iff.1 hv).1; rw [Array.length_toList, nodeC_size _ _ (digestV_len _)] at this; exact this
  rw [row_cell h (17 * i + j) (by omega), nodesC_all ms i j hi hj, ← Array.getElem?_toList]
  exact hv
theorem blk_dig {w : World} {g : Nat} {t : TypeId} {d : List Int} {v : Value} (hd : d.length = 16) (h : Blk w g t (nodeC d v)) : w.rangeAt g 0 (digC d).toList := by
  intro j u hu
  have hj : j < 16 := by have := (List.getElem?_eq_some_iff.1 hu).1; rw [Array.length_toList, digC_size, hd] at this; exact this
  rw [Nat.zero_add, h.cell j]
  unfold nodeC
  rw [Array.getElem?_push_lt (by rw [digC_size, hd]; exact hj), ← hu, Array.getElem?_toList, Array.getElem?_eq_getElem]
theorem node_last (d : List Int) (v : Value) (hd : d.length = 16) : (nodeC d v)[16]? = some v := by
  unfold nodeC
  have : (digC d).size = 16 := by rw [digC_size, hd]
  rw [← this, Array.getElem?_push_size]
theorem sizeNode (d : List Int) (v : Value) (hd : d.length = 16) : (Try.prog.info? 92).map (·.size) = some (nodeC d v).size := by rw [nodeC_size d v hd]; kernel_rfl
theorem sizeNodeL (d : List Int) (v : Value) (hd : d.length = 16) : (Try.prog.info? 92).map (·.size) = some (nodeC d v).toList.length := by rw [Array.length_toList]; exact sizeNode d v hd
theorem sizeDigL (d : List Int) (hd : d.length = 16) : (Try.prog.info? 47).map (·.size) = some (digC d).toList.length := by rw [Array.length_toList]; exact Try.sizeDig d hd
theorem freshN {w w1 : World} (h : Below w.heap.size w w1) (d : List Int) (hd : d.length = 16) (v : Value) :
    ∃ W3, w1.alloc (.cells #[.int .u8 0, .int .u8 0, .int .u8 0, .int .u8 0, .int .u8 0, .int .u8 0, .int .u8 0, .int .u8 0, .int .u8 0, .int .u8 0, .int .u8 0, .int .u8 0, .int .u8 0, .int .u8 0, .int .u8 0, .int .u8 0, .slice none 0 0] 92) = W3 ∧ Blk W3 w1.heap.size 92 #[.int .u8 0, .int .u8 0, .int .u8 0, .int .u8 0, .int .u8 0, .int .u8 0, .int .u8 0, .int .u8 0, .int .u8 0, .int .u8 0, .int .u8 0, .int .u8 0, .int .u8 0, .int .u8 0, .int .u8 0, .int .u8 0, .slice none 0 0] ∧
      ∃ g W, w1.heap.size = g ∧ W3.setRow w1.heap.size (nodeC d v) = W ∧ Blk W g 92 (nodeC d v) ∧ Below w.heap.size w W ∧ Below g w1 W ∧ g < W.heap.size := by
  refine ⟨_, rfl, heap_new w1 _, ?_⟩
  obtain ⟨g, W, e1, e2, r⟩ := fresh h (nodeC d v) 92
  exact ⟨g, W, e1, by rw [World.setRow_alloc_new]; exact e2, r⟩
/-- Two nodes collide: the same digest, of different bytes. -/
def clash (xs ys : List Int) : Bool := (digestV xs == digestV ys) && !decide (xs = ys)
/-- What the lowest nodes that collide are digests of. -/
def CollPost (ms ns : List NodeM) (w : World) (e : Ending) (w' : World) : Prop :=
  Below w.heap.size w w' ∧ ((∃ k, ∃ h : k < ms.length, ∃ h' : k < ns.length, e = .returned (.tuple #[ms[k].v, ns[k].v, .int .i64 0]) ∧ clash ms[k].xs ns[k].xs = true ∧ ∀ j (hj : j < k), clash (ms[j]'(by omega)).xs (ns[j]'(by omega)).xs = false) ∨
    (e = .returned (.tuple #[.slice none 0 0, .slice none 0 0, .int .i64 3]) ∧ ∀ j (hj : j < ms.length) (hj' : j < ns.length), clash ms[j].xs ns[j].xs = false))
theorem res3 {fn : Func} {t u v : Tmp} (h : fn.results = #[.tmp t, .tmp u, .tmp v]) (tmps : Array Value) (P : Program) (w : World) :
    (results fn tmps).run P w = .ok (.tuple #[tmps.getD t undef, tmps.getD u undef, tmps.getD v undef]) w := by
  simp [results, h]
attribute [local irreducible] digestV nodeC nodesC clash
set_option maxRecDepth 100000 in
set_option maxHeartbeats 4000000 in
theorem collision_any (B : Nat) (v1 v2 : Value) (ms ns : List NodeM) (w : World) (h1 : Nodes w B v1 ms) (h2 : Nodes w B v2 ns) (hlen : ms.length = ns.length) (h4 : ms.length ≤ 4096) :
    Calls Try.prog 74 #[v1, v2] w (CollPost ms ns w) := by
  obtain ⟨a1, c1, rfl, hc1, hm1, hg1⟩ := row_slice h1.row
  obtain ⟨a2, c2, rfl, hc2, hm2, hg2⟩ := row_slice h2.row
  obtain ⟨n, hn⟩ : ∃ n, n = ms.length := ⟨_, rfl⟩
  have H1 := Lib.hid h1
  have H2 := Lib.hid h2
  have Hn := Lib.hid hn
  have Hlen := Lib.hid hlen
  have Hg1 := Lib.hid hg1
  have Hg2 := Lib.hid hg2
  have hn4 : n ≤ 4096 := by omega
  rw [← hlen, ← hn]
  clear h1 h2 hlen hg1 hg2 hc1 hc2 hm1 hm2 h4 hn
  go_enter Try.func74, Try.ntmps74
  go_wp2_with fail
  go_loopw [12] (fun i wr => ∃ k : Nat, k ≤ n ∧ i = .int .i64 k ∧ Below w.heap.size w wr ∧ ∀ j (hj : j < ms.length) (hj' : j < ns.length), j < k → clash ms[j].xs ns[j].xs = false) (fun i _ => n - (intOf i).toNat)
  case atStart => exact ⟨0, by omega, rfl, Below.refl _ _, fun j _ _ h => by omega⟩
  case round =>
    obtain ⟨k, hk, rfl, hbw, hno⟩ := hrel
    by_cases hlt : k < n
    · have hk1 : k < ms.length := by rw [← Hn.out]; exact hlt
      have hk2 : k < ns.length := by rw [← Hlen.out]; exact hk1
      obtain ⟨g1, rfl, -, hgl1⟩ := Hg1.out (by omega)
      obtain ⟨g2, rfl, -, hgl2⟩ := Hg2.out (by omega)
      have N1 := H1.out.below hbw (Nat.le_refl _)
      have N2 := H2.out.below hbw (Nat.le_refl _)
      have R1 := node_range N1.row k hk1
      have R2 := node_range N2.row k hk2
      have O1 := N1.own ms[k] (List.getElem_mem _)
      have O2 := N2.own ns[k] (List.getElem_mem _)
      have hcl : clash ms[k].xs ns[k].xs = ((digestV ms[k].xs == digestV ns[k].xs) && !decide (ms[k].xs = ns[k].xs)) := by unfold clash; rfl
      have hD1l := digestV_len ms[k].xs
      have hD2l := digestV_len ns[k].xs
      rw [Nat.mul_comm 17 k] at R1 R2
      obtain ⟨m1, hm1⟩ : ∃ m, m = ms[k] := ⟨_, rfl⟩
      obtain ⟨m2, hm2⟩ : ∃ m, m = ns[k] := ⟨_, rfl⟩
      have HM := Lib.hid (And.intro hm1 hm2)
      rw [← hm1] at R1 O1 hD1l
      rw [← hm2] at R2 O2 hD2l
      rw [← hm1, ← hm2] at hcl
      obtain ⟨u1, x1⟩ := m1
      obtain ⟨u2, x2⟩ := m2
      simp only at R1 R2 O1 O2 hcl hD1l hD2l
      obtain ⟨D1, hD1⟩ : ∃ d, d = digestV x1 := ⟨_, rfl⟩
      obtain ⟨D2, hD2⟩ : ∃ d, d = digestV x2 := ⟨_, rfl⟩
      rw [← hD1] at R1 hcl hD1l
      rw [← hD2] at R2 hcl hD2l
      obtain ⟨ua, uc, rfl, hu1⟩ := O1.rdz rfl
      obtain ⟨va, vc, rfl, hu2⟩ := O2.rdz rfl
      obtain ⟨W3, e1, hz3, g8, W4, e2, e3, hg8, hb4, hq4, hs4⟩ := freshN hbw D1 hD1l (.slice ua x1.length uc)
      obtain ⟨W5, d1, hz5, g9, W6, d2, d3, hg9, hb6, hq6, hs6⟩ := freshN hb4 D2 hD2l (.slice va x2.length vc)
      have hwr := hbw.size
      have R2' := rangeAt_below R2 hq4 (by omega)
      have G8 := Lib.hid (hg8.below hq6 (by omega))
      have G9 := Lib.hid hg9
      have U1 := Lib.hid ((hu1.below hq4 (by omega)).below hq6 (by omega))
      have U2 := Lib.hid ((hu2.below hq4 (by omega)).below hq6 (by omega))
      have RX1 := Lib.hid R1
      have RX2 := Lib.hid R2'
      have He1 := Lib.hid e1
      have He2 := Lib.hid e2
      have He3 := Lib.hid e3
      have Hz3 := Lib.hid hz3
      have Hd1 := Lib.hid d1
      have Hd2 := Lib.hid d2
      have Hd3 := Lib.hid d3
      have Hz5 := Lib.hid hz5
      have B6 := Lib.hid hb6
      have HCL := Lib.hid hcl
      have Hno := Lib.hid hno
      have L1 := Lib.hid (sizeNodeL D1 (.slice ua x1.length uc) hD1l)
      have L2 := Lib.hid (sizeNodeL D2 (.slice va x2.length vc) hD2l)
      have S1 := Lib.hid (sizeNode D1 (.slice ua x1.length uc) hD1l)
      have S2 := Lib.hid (sizeNode D2 (.slice va x2.length vc) hD2l)
      have Z1 := Lib.hid (show (#[.int .u8 0, .int .u8 0, .int .u8 0, .int .u8 0, .int .u8 0, .int .u8 0, .int .u8 0, .int .u8 0, .int .u8 0, .int .u8 0, .int .u8 0, .int .u8 0, .int .u8 0, .int .u8 0, .int .u8 0, .int .u8 0, .slice none 0 0] : Array Value).size = (nodeC D1 (.slice ua x1.length uc)).size by rw [nodeC_size _ _ hD1l]; rfl)
      have Z2 := Lib.hid (show (#[.int .u8 0, .int .u8 0, .int .u8 0, .int .u8 0, .int .u8 0, .int .u8 0, .int .u8 0, .int .u8 0, .int .u8 0, .int .u8 0, .int .u8 0, .int .u8 0, .int .u8 0, .int .u8 0, .int .u8 0, .int .u8 0, .slice none 0 0] : Array Value).size = (nodeC D2 (.slice va x2.length vc)).size by rw [nodeC_size _ _ hD2l]; rfl)
      have hki : (k : Int) < (n : Int) := by omega
      have hk0 : (0 : Int) ≤ (k : Int) := by omega
      have hk4 : (k : Int) ≤ 4096 := by omega
      have HDl := Lib.hid (And.intro hD1l hD2l)
      clear N1 N2 R1 R2 R2' O1 O2 hcl hD1l hD2l hm1 hm2 hD1 hD2 hu1 hu2 e1 hz3 e2 e3 hg8 hb4 hq4 hs4 d1 hz5 d2 d3 hg9 hb6 hq6 hs6 hbw hno
      go_upto_region 4 with (first
        | (refine wpList_load_mid rfl 92 (.tmp 15) rfl g1 (k * 17) rfl (nodeC D1 (.slice ua x1.length uc)).toList _ RX1.out Try.underlying92 rfl L1.out ?_; rw [Array.toArray_toList])
        | (rw [He1.out]; refine wpList_store_row rfl 92 (.tmp 8) (.tmp 16) rfl wr.heap.size (nodeC D1 (.slice ua x1.length uc)) rfl rfl 92 #[.int .u8 0, .int .u8 0, .int .u8 0, .int .u8 0, .int .u8 0, .int .u8 0, .int .u8 0, .int .u8 0, .int .u8 0, .int .u8 0, .int .u8 0, .int .u8 0, .int .u8 0, .int .u8 0, .int .u8 0, .int .u8 0, .slice none 0 0] Hz3.out S1.out Z1.out (oneNode D1 _ _ _) ?_))
      rw [He3.out, He2.out]
      clear He1 He2 He3 Hz3 Z1 RX1 L1
      go_upto_region 5 with (first
        | (refine wpList_load_mid rfl 92 (.tmp 19) rfl g2 (k * 17) rfl (nodeC D2 (.slice va x2.length vc)).toList _ RX2.out Try.underlying92 rfl L2.out ?_; rw [Array.toArray_toList])
        | (rw [Hd1.out]; refine wpList_store_row rfl 92 (.tmp 9) (.tmp 20) rfl W4.heap.size (nodeC D2 (.slice va x2.length vc)) rfl rfl 92 #[.int .u8 0, .int .u8 0, .int .u8 0, .int .u8 0, .int .u8 0, .int .u8 0, .int .u8 0, .int .u8 0, .int .u8 0, .int .u8 0, .int .u8 0, .int .u8 0, .int .u8 0, .int .u8 0, .int .u8 0, .int .u8 0, .slice none 0 0] Hz5.out S2.out Z2.out (oneNode D2 _ _ _) ?_))
      rw [Hd3.out, Hd2.out]
      clear Hd1 Hd2 Hd3 Hz5 Z2 RX2 L2 S1 S2
      have RD1 := Lib.hid (blk_dig HDl.out.1 G8.out)
      have RD2 := Lib.hid (blk_dig HDl.out.2 G9.out)
      have T1 := Lib.hid (sizeDigL D1 HDl.out.1)
      have T2 := Lib.hid (sizeDigL D2 HDl.out.2)
      have q8 : W6.cell? ⟨g8, 16, none⟩ = some (.slice ua x1.length uc) := by rw [G8.out.cell 16]; exact node_last D1 _ HDl.out.1
      have q9 : W6.cell? ⟨g9, 16, none⟩ = some (.slice va x2.length vc) := by rw [G9.out.cell 16]; exact node_last D2 _ HDl.out.2
      have hE := eqIn_dig W6 D1 D2 HDl.out.1 HDl.out.2
      have hcl := HCL.out
      clear HCL
      cases hD : (D1 == D2)
      · rw [hD] at hE hcl
        have hclf : clash x1 x2 = false := by rw [hcl]; rfl
        have HCf := Lib.hid hclf
        clear hcl hclf hD
        go_wp2_with (first
          | (refine wpList_load_mid rfl 47 (.tmp 21) rfl g8 0 rfl (digC D1).toList _ RD1.out Try.underlying47 rfl T1.out ?_; rw [Array.toArray_toList])
          | (refine wpList_load_mid rfl 47 (.tmp 23) rfl g9 0 rfl (digC D2).toList _ RD2.out Try.underlying47 rfl T2.out ?_; rw [Array.toArray_toList]))
        go_roundw
        case rel => exact ⟨k + 1, by omega, by go_num, B6.out, fun j hj hj' h => by
            by_cases hjk : j = k
            · subst hjk; rw [← HM.out.1, ← HM.out.2]; exact HCf.out
            · exact Hno.out j hj hj' (by omega)⟩
        case measure => simp [intOf]; omega
      · rw [hD] at hE hcl
        by_cases hx : x1 = x2
        · have hclf : clash x1 x2 = false := by rw [hcl, decide_eq_true hx]; rfl
          have HCf := Lib.hid hclf
          have Hx := Lib.hid (decide_eq_true hx)
          clear hcl hclf hD hx
          go_wp2_with (first
          | (refine wpList_load_mid rfl 47 (.tmp 21) rfl g8 0 rfl (digC D1).toList _ RD1.out Try.underlying47 rfl T1.out ?_; rw [Array.toArray_toList])
          | (refine wpList_load_mid rfl 47 (.tmp 23) rfl g9 0 rfl (digC D2).toList _ RD2.out Try.underlying47 rfl T2.out ?_; rw [Array.toArray_toList]))
          refine (bytesEqual_any ua x1.length uc x1 va x2.length vc x2 W6 U1.out U2.out).mono ?_
          rintro e w7 ⟨rfl, rfl⟩
          rw [Hx.out]
          go_wp2_with fail
          go_roundw
          case rel => exact ⟨k + 1, by omega, by go_num, B6.out, fun j hj hj' h => by
              by_cases hjk : j = k
              · subst hjk; rw [← HM.out.1, ← HM.out.2]; exact HCf.out
              · exact Hno.out j hj hj' (by omega)⟩
          case measure => simp [intOf]; omega
        · have hclf : clash x1 x2 = true := by rw [hcl, decide_eq_false hx]; rfl
          have HCf := Lib.hid hclf
          have Hx := Lib.hid (decide_eq_false hx)
          clear hcl hclf hD hx
          go_wp2_with (first
          | (refine wpList_load_mid rfl 47 (.tmp 21) rfl g8 0 rfl (digC D1).toList _ RD1.out Try.underlying47 rfl T1.out ?_; rw [Array.toArray_toList])
          | (refine wpList_load_mid rfl 47 (.tmp 23) rfl g9 0 rfl (digC D2).toList _ RD2.out Try.underlying47 rfl T2.out ?_; rw [Array.toArray_toList]))
          refine (bytesEqual_any ua x1.length uc x1 va x2.length vc x2 W6 U1.out U2.out).mono ?_
          rintro e w7 ⟨rfl, rfl⟩
          rw [Hx.out]
          go_wp2_with fail
          go_quiet (fail)
          go_wp2_with fail
          refine bodyPost_ret (res3 rfl _ _ _) rfl ?_
          refine ⟨below_drewN B6.out _, .inl ⟨k, hk1, hk2, ?_, ?_, ?_⟩⟩
          · rw [← HM.out.1, ← HM.out.2]; rfl
          · rw [← HM.out.1, ← HM.out.2]; exact HCf.out
          · exact fun j hj => Hno.out j _ _ hj
    · obtain rfl : k = n := by omega
      have Hno := Lib.hid hno
      have Hbw := Lib.hid hbw
      clear hno hbw
      go_wp2_with fail
      refine bodyPost_ret (res3 rfl _ _ _) rfl ?_
      refine ⟨Hbw.out, .inr ⟨rfl, fun j hj hj' => Hno.out j hj hj' (by rw [Hn.out]; exact hj)⟩⟩
end Go.Proofs.Ytnlblmghhkmbbaa

/- Collide, for every input; the reference's SameDigests. -/
namespace Go.Proofs.Ytnlblmghhkmbbaa
set_option linter.unusedVariables false
open Go.RowKit Go.Shelf

/-- What Collide returns: an error, or two slices whose bytes collide; what it says of the nodes of both proofs. -/
def CollideOk (la lb : List (List Int)) (w : World) (e : Ending) (w' : World) : Prop :=
  Below w.heap.size w w' ∧ ((∃ (ua : Option Addr) (ul uc : Nat) (va : Option Addr) (vl vc : Nat) (xs ys : List Int), e = .returned (.tuple #[.slice ua ul uc, .slice va vl vc, .int .i64 0]) ∧ Rd w' ua ul uc xs ∧ Rd w' va vl vc ys ∧ clash xs ys = true ∧
      ∃ k, ∃ h : k < la.length, ∃ h' : k < lb.length, la[k] = xs ∧ lb[k] = ys ∧ ∀ j (hj : j < k), clash (la[j]'(by omega)) (lb[j]'(by omega)) = false) ∨
    (e = .returned (.tuple #[.slice none 0 0, .slice none 0 0, .int .i64 3]) ∧ ∀ j (hj : j < la.length) (hj' : j < lb.length), clash la[j] lb[j] = false))
attribute [local irreducible] digestV rootV halfV climbV clash
set_option maxRecDepth 100000 in
set_option maxHeartbeats 4000000 in
/-- The first proof has an error. -/
theorem collide_one (n i : Int) (leaf path other way : Value) (w : World) (E : Int) (hE : E ≠ 0)
    (h1 : Calls Try.prog 72 #[.int .i64 n, .int .i64 i, leaf, path] w fun e w' => e = .returned (.tuple #[.slice none 0 0, .int .i64 E]) ∧ Below w.heap.size w w') :
    Calls Try.prog 52 #[.int .i64 n, .int .i64 i, leaf, path, other, way] w fun e w' => e = .returned (.tuple #[.slice none 0 0, .slice none 0 0, .int .i64 E]) ∧ Below w.heap.size w w' := by
  have H1 := Lib.hid h1
  have hne : (E == 0) = false := by simp [hE]
  have hne2 : (E != 0) = true := by simp [hE]
  clear h1 hE
  go_enter Try.func52, Try.ntmps52
  go_wp2_with fail
  refine H1.out.mono ?_
  rintro e w1 ⟨rfl, hb⟩
  go_wp2_with fail
  refine bodyPost_ret (res3 rfl _ _ _) rfl ?_
  exact ⟨rfl, hb⟩
set_option maxRecDepth 100000 in
set_option maxHeartbeats 4000000 in
/-- The second proof has an error. -/
theorem collide_two (n i : Int) (leaf path other way : Value) (w : World) (E : Int) (hE : E ≠ 0) (la : List (List Int))
    (h1 : Calls Try.prog 72 #[.int .i64 n, .int .i64 i, leaf, path] w (NodesPost (some la) w))
    (h2 : ∀ w', Below w.heap.size w w' → Calls Try.prog 72 #[.int .i64 n, .int .i64 i, other, way] w' fun e w'' => e = .returned (.tuple #[.slice none 0 0, .int .i64 E]) ∧ Below w'.heap.size w' w'') :
    Calls Try.prog 52 #[.int .i64 n, .int .i64 i, leaf, path, other, way] w fun e w' => e = .returned (.tuple #[.slice none 0 0, .slice none 0 0, .int .i64 E]) ∧ Below w.heap.size w w' := by
  have H1 := Lib.hid h1
  have H2 := Lib.hid h2
  have hne : (E == 0) = false := by simp [hE]
  have hne2 : (E != 0) = true := by simp [hE]
  clear h1 h2 hE
  go_enter Try.func52, Try.ntmps52
  go_wp2_with fail
  refine H1.out.mono ?_
  intro e w1 hp
  obtain ⟨v, ms, rfl, hN, hml, hb1⟩ := hp
  have Hb1 := Lib.hid hb1
  have Hc := Lib.hid (H2.out w1 hb1)
  clear hN hml hb1 H2
  go_wp2_with fail
  refine Hc.out.mono ?_
  rintro e w2 ⟨rfl, hb2⟩
  have Hb2 := Lib.hid (Hb1.out.trans (hb2.mono Hb1.out.size))
  clear hb2
  go_wp2_with fail
  refine bodyPost_ret (res3 rfl _ _ _) rfl ?_
  exact ⟨rfl, Hb2.out⟩
set_option maxRecDepth 100000 in
set_option maxHeartbeats 4000000 in
/-- Both proofs lead somewhere. -/
theorem collide_both (n i : Int) (leaf path other way : Value) (w : World) (la lb : List (List Int)) (hlen : la.length = lb.length) (h4 : la.length ≤ 4096)
    (h1 : Calls Try.prog 72 #[.int .i64 n, .int .i64 i, leaf, path] w (NodesPost (some la) w))
    (h2 : ∀ w', Below w.heap.size w w' → Calls Try.prog 72 #[.int .i64 n, .int .i64 i, other, way] w' (NodesPost (some lb) w')) :
    Calls Try.prog 52 #[.int .i64 n, .int .i64 i, leaf, path, other, way] w (CollideOk la lb w) := by
  have H1 := Lib.hid h1
  have H2 := Lib.hid h2
  have Hlen := Lib.hid (And.intro hlen h4)
  clear h1 h2 hlen h4
  go_enter Try.func52, Try.ntmps52
  go_wp2_with fail
  refine H1.out.mono ?_
  intro e w1 hp
  obtain ⟨v, ms, rfl, hN, hml, hb1⟩ := hp
  have Hb1 := Lib.hid hb1
  have Hc := Lib.hid (H2.out w1 hb1)
  have HN := Lib.hid (And.intro hN hml)
  clear hN hml hb1 H2
  go_wp2_with fail
  refine Hc.out.mono ?_
  intro e w2 hp
  obtain ⟨v2, ns, rfl, hN2, hml2, hb2⟩ := hp
  have Hb2 := Lib.hid (Hb1.out.trans (hb2.mono Hb1.out.size))
  have N1 := Lib.hid (HN.out.1.below hb2 (Nat.le_refl _))
  have N2 := Lib.hid (hN2.mono Hb1.out.size)
  have HL := Lib.hid (And.intro HN.out.2 hml2)
  clear hN2 hml2 hb2 HN Hc
  go_wp2_with fail
  have e1 : ms.length = la.length := by rw [← HL.out.1, List.length_map]
  have e2 : ns.length = lb.length := by rw [← HL.out.2, List.length_map]
  refine (collision_any w.heap.size v v2 ms ns w2 N1.out N2.out (by rw [e1, e2]; exact Hlen.out.1) (by rw [e1]; exact Hlen.out.2)).mono ?_
  rintro e w3 ⟨hb3, hc⟩
  have Hb3 := Lib.hid (Hb2.out.trans (hb3.mono Hb2.out.size))
  have M1 : ∀ j (hj : j < la.length), la[j] = (ms[j]'(by omega)).xs := by
    intro j hj
    have := HL.out.1
    subst this
    simp
  have M2 : ∀ j (hj : j < lb.length), lb[j] = (ns[j]'(by omega)).xs := by
    intro j hj
    have := HL.out.2
    subst this
    simp
  rcases hc with ⟨k, hk, hk', rfl, hcl, hno⟩ | ⟨rfl, hno⟩
  · have O1 := (N1.out.own ms[k] (List.getElem_mem _)).below hb3 (Nat.le_refl _)
    have O2 := (N2.out.own ns[k] (List.getElem_mem _)).below hb3 (Nat.le_refl _)
    obtain ⟨ua, uc, hu, r1⟩ := O1.rdz rfl
    obtain ⟨va, vc, hv, r2⟩ := O2.rdz rfl
    rw [hu, hv]
    have HR := Lib.hid (And.intro r1 r2)
    have HK := Lib.hid (And.intro hcl hno)
    clear hb3 O1 O2 hu hv r1 r2 hcl hno
    go_wp2_with fail
    refine bodyPost_ret (res3 rfl _ _ _) rfl ⟨Hb3.out, .inl ⟨_, _, _, _, _, _, _, _, rfl, HR.out.1, HR.out.2, HK.out.1, k, by omega, by omega, M1 k _, M2 k _, fun j hj => ?_⟩⟩
    rw [M1 j (by omega), M2 j (by omega)]
    exact HK.out.2 j hj
  · have HK := Lib.hid hno
    clear hno hb3
    go_wp2_with fail
    refine bodyPost_ret (res3 rfl _ _ _) rfl ⟨Hb3.out, .inr ⟨rfl, fun j hj hj' => ?_⟩⟩
    rw [M1 j hj, M2 j hj']
    exact HK.out j _ _
end Go.Proofs.Ytnlblmghhkmbbaa

/- Two proofs that lead to the same root, at the same index: the same, or two nodes of them collide. -/
namespace Go.Proofs.Ytnlblmghhkmbbaa
set_option linter.unusedVariables false
open Go.RowKit Go.Shelf

def noClash (la lb : List (List Int)) : Prop := ∀ (j : Nat) (x y : List Int), la[j]? = some x → lb[j]? = some y → clash x y = false
theorem clash_false {x y : List Int} (h : clash x y = false) (hd : digestV x = digestV y) : x = y := by
  unfold clash at h
  rw [hd] at h
  simpa using h
theorem clash_true {x y : List Int} (h : clash x y = true) : digestV x = digestV y ∧ x ≠ y := by
  unfold clash at h
  simpa using h
theorem climb_len (f : Nat) : ∀ (n i : Nat) (leaf other : List Int) (p q la lb : List (List Int)), climbN f n i leaf p = some la → climbN f n i other q = some lb → la.length = lb.length := by
  induction f with
  | zero => intro n i leaf other p q la lb h; rw [climbN] at h; cases h
  | succ f ih =>
    intro n i leaf other p q la lb h1 h2
    rw [climbN] at h1 h2
    by_cases hn : n = 1
    · rw [if_pos hn] at h1 h2
      split at h1
      · split at h2
        · simp only [Option.some.injEq] at h1 h2; rw [← h1, ← h2]; rfl
        · cases h2
      · cases h1
    · rw [if_neg hn] at h1 h2
      split at h1
      · cases h1
      split at h2
      · cases h2
      by_cases hk : i < halfV n
      · rw [if_pos hk] at h1 h2
        obtain ⟨l1, e1, r1⟩ := Option.map_eq_some_iff.1 h1
        obtain ⟨l2, e2, r2⟩ := Option.map_eq_some_iff.1 h2
        rw [← r1, ← r2]
        simp [ih _ _ _ _ _ _ _ _ e1 e2]
      · rw [if_neg hk] at h1 h2
        obtain ⟨l1, e1, r1⟩ := Option.map_eq_some_iff.1 h1
        obtain ⟨l2, e2, r2⟩ := Option.map_eq_some_iff.1 h2
        rw [← r1, ← r2]
        simp [ih _ _ _ _ _ _ _ _ e1 e2]
theorem last_is {p : List (List Int)} (h : p ≠ []) : p.getLast?.getD [] = p.getLast h := by
  have e := List.dropLast_concat_getLast h
  have h2 : (p.dropLast ++ [p.getLast h]).getLast?.getD [] = p.getLast h := by simp
  rw [e] at h2
  exact h2
theorem last_dig {p : List (List Int)} (hp : ∀ d ∈ p, d.length = 16) (hne : p ≠ []) : (p.getLast?.getD []).length = 16 := by
  rw [last_is hne]
  exact hp _ (List.getLast_mem hne)
theorem drop_dig {p : List (List Int)} (hp : ∀ d ∈ p, d.length = 16) : ∀ d ∈ p.dropLast, d.length = 16 := fun d hd => hp d (List.dropLast_subset _ hd)
theorem climb_small (f : Nat) : ∀ (n i : Nat) (leaf : List Int) (p la : List (List Int)), (∀ d ∈ p, d.length = 16) → climbN f n i leaf p = some la → ∀ x ∈ la, x.length ≤ leaf.length + 33 := by
  induction f with
  | zero => intro n i leaf p la _ h; rw [climbN] at h; cases h
  | succ f ih =>
    intro n i leaf p la hp h x hx
    rw [climbN] at h
    by_cases hn : n = 1
    · rw [if_pos hn] at h
      split at h
      · simp only [Option.some.injEq] at h; rw [← h] at hx; simp at hx; rw [hx]; simp
      · cases h
    · rw [if_neg hn] at h
      split at h
      · cases h
      rename_i hpn
      have hl := last_dig hp hpn
      by_cases hk : i < halfV n
      · rw [if_pos hk] at h
        obtain ⟨l1, e1, r1⟩ := Option.map_eq_some_iff.1 h
        rw [← r1] at hx
        rcases List.mem_append.1 hx with hx | hx
        · exact ih _ _ _ _ _ (drop_dig hp) e1 x hx
        · simp only [List.mem_singleton] at hx
          rw [hx, List.length_cons, List.length_append, digestV_len, hl]; omega
      · rw [if_neg hk] at h
        obtain ⟨l1, e1, r1⟩ := Option.map_eq_some_iff.1 h
        rw [← r1] at hx
        rcases List.mem_append.1 hx with hx | hx
        · exact ih _ _ _ _ _ (drop_dig hp) e1 x hx
        · simp only [List.mem_singleton] at hx
          rw [hx, List.length_cons, List.length_append, digestV_len, hl]; omega
theorem noClash_front {l m : List (List Int)} {x y : List Int} (h : noClash (l ++ [x]) (m ++ [y])) (hl : l.length = m.length) : noClash l m ∧ clash x y = false := by
  refine ⟨fun j a b ha hb => ?_, ?_⟩
  · have h1 := (List.getElem?_eq_some_iff.1 ha).1
    have h2 := (List.getElem?_eq_some_iff.1 hb).1
    exact h j a b (by rw [List.getElem?_append_left h1]; exact ha) (by rw [List.getElem?_append_left h2]; exact hb)
  · exact h l.length x y (by simp) (by rw [hl]; simp)
theorem path_ext {p q : List (List Int)} (hp : p ≠ []) (hq : q ≠ []) (h1 : p.dropLast = q.dropLast) (h2 : p.getLast?.getD [] = q.getLast?.getD []) : p = q := by
  rw [last_is hp, last_is hq] at h2
  rw [← List.dropLast_concat_getLast hp, ← List.dropLast_concat_getLast hq, h1]
  rw [h2]
theorem last_snoc (l : List (List Int)) (x : List Int) : ((l ++ [x]).getLast?.getD []) = x := by simp
theorem climb_binds (f : Nat) : ∀ (n i : Nat) (leaf other : List Int) (p q la lb : List (List Int)), (∀ d ∈ p, d.length = 16) → (∀ d ∈ q, d.length = 16) → climbN f n i leaf p = some la → climbN f n i other q = some lb →
    digestV (la.getLast?.getD []) = digestV (lb.getLast?.getD []) → noClash la lb → leaf = other ∧ p = q := by
  induction f with
  | zero => intro n i leaf other p q la lb _ _ h; rw [climbN] at h; cases h
  | succ f ih =>
    intro n i leaf other p q la lb hp hq h1 h2 hd hno
    rw [climbN] at h1 h2
    by_cases hn : n = 1
    · rw [if_pos hn] at h1 h2
      split at h1
      · rename_i hp0
        split at h2
        · rename_i hq0
          simp only [Option.some.injEq] at h1 h2
          subst h1 h2
          have := clash_false (hno 0 _ _ rfl rfl) hd
          simp only [List.cons.injEq, true_and] at this
          exact ⟨this, by rw [hp0, hq0]⟩
        · cases h2
      · cases h1
    · rw [if_neg hn] at h1 h2
      split at h1
      · cases h1
      rename_i hp0
      split at h2
      · cases h2
      rename_i hq0
      have hpl := last_dig hp hp0
      have hql := last_dig hq hq0
      by_cases hk : i < halfV n
      · rw [if_pos hk] at h1 h2
        obtain ⟨l1, e1, r1⟩ := Option.map_eq_some_iff.1 h1
        obtain ⟨l2, e2, r2⟩ := Option.map_eq_some_iff.1 h2
        subst r1 r2
        obtain ⟨hn1, hc⟩ := noClash_front hno (climb_len f _ _ _ _ _ _ _ _ e1 e2)
        rw [last_snoc, last_snoc] at hd
        have he := clash_false hc hd
        simp only [List.cons.injEq, true_and] at he
        obtain ⟨g1, g2⟩ := List.append_inj he (by rw [digestV_len, digestV_len])
        obtain ⟨t1, t2⟩ := ih _ _ _ _ _ _ _ _ (drop_dig hp) (drop_dig hq) e1 e2 g1 hn1
        exact ⟨t1, path_ext hp0 hq0 t2 g2⟩
      · rw [if_neg hk] at h1 h2
        obtain ⟨l1, e1, r1⟩ := Option.map_eq_some_iff.1 h1
        obtain ⟨l2, e2, r2⟩ := Option.map_eq_some_iff.1 h2
        subst r1 r2
        obtain ⟨hn1, hc⟩ := noClash_front hno (climb_len f _ _ _ _ _ _ _ _ e1 e2)
        rw [last_snoc, last_snoc] at hd
        have he := clash_false hc hd
        simp only [List.cons.injEq, true_and] at he
        obtain ⟨g1, g2⟩ := List.append_inj he (by rw [hpl, hql])
        obtain ⟨t1, t2⟩ := ih _ _ _ _ _ _ _ _ (drop_dig hp) (drop_dig hq) e1 e2 g2 hn1
        exact ⟨t1, path_ext hp0 hq0 t2 g1⟩
end Go.Proofs.Ytnlblmghhkmbbaa

/- The reference's half, single, double. -/
namespace Go.Proofs.Ytnlblmghhkmbbaa
set_option linter.unusedVariables false
open Go.RowKit Go.Shelf

theorem pow_one (n a b : Nat) (h1 : 2 ^ a < n) (h2 : n ≤ 2 * 2 ^ a) (h3 : 2 ^ b < n) (h4 : n ≤ 2 * 2 ^ b) : 2 ^ a = 2 ^ b := by
  rcases Nat.lt_trichotomy a b with h | h | h
  · have := Nat.pow_le_pow_right (show 0 < 2 by omega) (show a + 1 ≤ b by omega)
    rw [Nat.pow_succ] at this; omega
  · rw [h]
  · have := Nat.pow_le_pow_right (show 0 < 2 by omega) (show b + 1 ≤ a by omega)
    rw [Nat.pow_succ] at this; omega
theorem half_is (n K j : Nat) (h : 2 ≤ n) (hm : n ≤ 4096) (hK : K = 2 ^ j) (h1 : K < n) (h2 : n ≤ 2 * K) : halfV n = K := by
  obtain ⟨b1, b2, b3⟩ := halfV_bd n h hm
  subst hK
  exact pow_one n _ j b2 b3 h1 h2
set_option maxRecDepth 100000 in
set_option maxHeartbeats 1000000 in
theorem rhalf_any (n : Nat) (w : World) (h : 2 ≤ n) (hm : n ≤ 4096) :
    Calls Try.prog 85 #[.int .i64 n] w fun e w' => e = .returned (.int .i64 (halfV n : Int)) ∧ w' = w := by
  go_enter Try.func85, Try.ntmps85
  go_wp2_with fail
  go_loop [3] (fun v => ∃ K j : Nat, v = .int .i64 K ∧ K = 2 ^ j ∧ K < n) (fun v => n - (intOf v).toNat)
  case atStart => exact ⟨1, 0, rfl, rfl, by omega⟩
  case round =>
    obtain ⟨K, j, rfl, hK, hKn⟩ := hrel
    have hK1 : 1 ≤ K := by rw [hK]; exact Nat.two_pow_pos j
    have hk0 : (0 : Int) ≤ (K : Int) := by omega
    have hk4 : (K : Int) ≤ 4096 := by omega
    have HK := Lib.hid hK
    clear hK
    by_cases hlt : 2 * K < n
    · have hli : 2 * (K : Int) < (n : Int) := by omega
      go_wp2_with fail
      go_round
      case rel => exact ⟨2 * K, j + 1, by go_num, by rw [HK.out, Nat.pow_succ]; omega, hlt⟩
      case measure => simp [intOf]; omega
    · have hli : ¬ 2 * (K : Int) < (n : Int) := by omega
      have hh := Lib.hid (half_is n K j h hm HK.out hKn (by omega))
      go_wp2_with fail
      go_ret
      exact ⟨by rw [hh.out]; rfl, rfl⟩
/-- A row of one byte, just made, is the call's own. -/
theorem own_byte (w : World) (b : Int) (hb : 0 ≤ b ∧ b ≤ 255) : Own (w.alloc (.cells #[.int .u8 b] 5)) w.heap.size (.slice (some ⟨w.heap.size, 0, none⟩) 1 1) [b] := by
  refine ⟨⟨rfl, .inr ⟨w.heap.size, 1, #[.int .u8 b], rfl, Nat.le_refl _, heap_new w _, Nat.le_refl _, by unfold maxLen; omega, rfl, rfl⟩⟩, ?_⟩
  intro n hn
  simp only [List.mem_singleton] at hn
  rw [hn]; exact hb
set_option maxRecDepth 100000 in
set_option maxHeartbeats 1000000 in
theorem rsingle_any (a : Option Addr) (len cap : Nat) (xs : List Int) (w : World) (h : Rd w a len cap xs) (hbig : len ≤ 140737488354000) :
    Calls Try.prog 84 #[.slice a len cap] w fun e w' => ∃ v, e = .returned v ∧ Own w' w.heap.size v (0 :: xs) ∧ Below w.heap.size w w' := by
  obtain ⟨W1, hW1⟩ : ∃ W1, W1 = w.alloc (.cells #[.int .u8 0] 5) := ⟨_, rfl⟩
  have ho : Own W1 w.heap.size (.slice (some ⟨w.heap.size, 0, none⟩) 1 1) [0] := by rw [hW1]; exact own_byte w 0 (by omega)
  have hb : Below w.heap.size w W1 := by rw [hW1]; exact (Below.refl _ w).alloc (Nat.le_refl _) _
  have HO := Lib.hid ho
  have HB := Lib.hid hb
  have HR := Lib.hid (h.below hb (Nat.le_refl _))
  have HW1 := Lib.hid hW1
  have i1 : ([0] : List Int).length + len ≤ 140737488355328 := by simp; omega
  have i2 : w.heap.size ≤ W1.heap.size := hb.size
  clear hW1 ho hb h
  go_enter Try.func84, Try.ntmps84
  go_wp2_with (rw [← HW1.out]; refine wpList_append_rd rfl (.tmp 3) (.tmp 4) 22 rfl w.heap.size Try.infoB Try.underlying22 _ [0] rfl HO.out _ _ _ _ rfl HR.out i1 i2 ?_; intro v2 w2 ho2 hg2; have Ho2 := Lib.hid ho2; have Hb2 := Lib.hid (HB.out.grown hg2 i2 (fun k hk => (HO.out.1.lt k hk).1)); clear ho2 hg2)
  go_ret
  exact ⟨v2, rfl, Ho2.out, Hb2.out⟩
set_option maxRecDepth 100000 in
set_option maxHeartbeats 1000000 in
theorem rdouble_any (c d : List Int) (hc : Dig c) (hd : Dig d) (w : World) :
    Calls Try.prog 86 #[.agg (digC c), .agg (digC d)] w fun e w' => ∃ v, e = .returned v ∧ Own w' w.heap.size v (1 :: (c ++ d)) ∧ Below w.heap.size w w' := by
  obtain ⟨W0, hW0⟩ : ∃ W0, W0 = (w.alloc (.cells (digC c) 47)).alloc (.cells (digC d) 47) := ⟨_, rfl⟩
  have hg1 : Blk W0 w.heap.size 47 (digC c) := by rw [hW0]; exact (Below.heap_alloc _ _ _ (by simp)).trans (heap_new w _)
  have hg2 : Blk W0 (w.heap.size + 1) 47 (digC d) := by rw [hW0]; exact heap_alloc2_new w _ _
  have hb0 : Below w.heap.size w W0 := by rw [hW0]; exact ((Below.refl _ w).alloc (Nat.le_refl _) _).alloc (by simp) _
  have hs0 : W0.heap.size = w.heap.size + 2 := by rw [hW0]; simp
  obtain ⟨W1, hW1⟩ : ∃ W1, W1 = W0.alloc (.cells #[.int .u8 1] 5) := ⟨_, rfl⟩
  have ho : Own W1 W0.heap.size (.slice (some ⟨W0.heap.size, 0, none⟩) 1 1) [1] := by rw [hW1]; exact own_byte W0 1 (by omega)
  have hb : Below W0.heap.size W0 W1 := by rw [hW1]; exact (Below.refl _ W0).alloc (Nat.le_refl _) _
  have r1 := (hg1.below hb hg1.lt).rd hc.2 (by rw [hc.1]; unfold maxLen; omega)
  have r2 := hg2.rd hd.2 (by rw [hd.1]; unfold maxLen; omega)
  rw [hc.1] at r1
  rw [hd.1] at r2
  have HO := Lib.hid ho
  have HB := Lib.hid hb
  have HB0 := Lib.hid hb0
  have HR1 := Lib.hid r1
  have HR2 := Lib.hid r2
  have HW0 := Lib.hid hW0
  have HW1 := Lib.hid hW1
  have Hs0 := Lib.hid hs0
  have HD := Lib.hid (And.intro hc hd)
  have i1 : ([1] : List Int).length + 16 ≤ 140737488355328 := by simp
  have i2 : W0.heap.size ≤ W1.heap.size := hb.size
  have i3 : ([1] ++ c).length + 16 ≤ 140737488355328 := by simp [hc.1]
  clear hW0 hg1 hg2 hb0 hs0 hW1 ho hb r1 r2 hc hd
  go_enter Try.func86, Try.ntmps86
  go_upto_region 1 with fail
  rw [← HW0.out]
  clear HW0
  go_wp2_with (first
    | (rw [← HW1.out]; refine wpList_append_rd rfl (.tmp 6) (.tmp 7) 22 rfl W0.heap.size Try.infoB Try.underlying22 _ [1] rfl HO.out _ _ _ _ rfl HR1.out i1 i2 ?_; intro v2 w2 ho2 hg2; have Ho2 := Lib.hid ho2; have Hb2 := Lib.hid (HB.out.grown hg2 i2 (fun k hk => (HO.out.1.lt k hk).1)); have HR22 := Lib.hid (HR2.out.below Hb2.out (Nat.le_refl _)); have i4 := Hb2.out.size; clear ho2 hg2)
    | (refine wpList_append_rd rfl (.tmp 9) (.tmp 10) 22 rfl W0.heap.size Try.infoB Try.underlying22 _ _ rfl Ho2.out _ _ _ _ rfl HR22.out i3 i4 ?_; intro v3 w3 ho3 hg3; have Ho3 := Lib.hid ho3; have Hb3 := Lib.hid (Hb2.out.grown hg3 i4 (fun k hk => (Ho2.out.1.lt k hk).1)); clear ho3 hg3))
  go_ret
  refine ⟨v3, rfl, ?_, HB0.out.trans (Hb3.out.mono HB0.out.size)⟩
  have h := Ho3.out.mono HB0.out.size
  rw [List.append_assoc] at h
  exact h
end Go.Proofs.Ytnlblmghhkmbbaa

/- The reference's sides. -/
namespace Go.Proofs.Ytnlblmghhkmbbaa
set_option linter.unusedVariables false
open Go.RowKit Go.Shelf

/-- On which side the other node stands, from the bottom up. -/
def sidesN : Nat → Nat → Nat → List Bool
  | 0, _, _ => []
  | f + 1, n, i => if n = 1 then [] else if i < halfV n then sidesN f (halfV n) i ++ [false] else sidesN f (n - halfV n) (i - halfV n) ++ [true]
def SidesPost (l : List Bool) (w : World) (e : Ending) (w' : World) : Prop := ∃ v, e = .returned v ∧ w'.ownsRow w.heap.size 4 1 v l.length (l.map Value.bool) ∧ Below w.heap.size w w'
theorem Try.infoBo : (Try.prog.info? 4).map (fun i => (i.zero, i.size, i.bytes)) = some (some (.bool false), 1, 1) := by kernel_rfl
set_option maxRecDepth 100000 in
set_option maxHeartbeats 1000000 in
theorem rsides_one (i : Int) (w : World) :
    Calls Try.prog 90 #[.int .i64 1, .int .i64 i] w (SidesPost [] w) := by
  go_enter Try.func90, Try.ntmps90
  go_wp2_with fail
  go_ret
  exact ⟨_, rfl, World.ownsRow_nil _ _ _ _, Below.refl _ _⟩
theorem row_bool {w w1 : World} {v : Value} {l : List Bool} (h : w1.ownsRow w.heap.size 4 1 v l.length (l.map Value.bool)) (b : Bool) {n : Nat} (hn : n = l.length) : w1.ownsRow w.heap.size 4 1 v n (l.map Value.bool) := by subst hn; exact h
set_option maxRecDepth 100000 in
set_option maxHeartbeats 1000000 in
theorem rsides_less (n i : Nat) (l : List Bool) (w : World) (h : 2 ≤ n) (hm : n ≤ 4096) (hi : i < halfV n) (hl : l.length ≤ 5000)
    (hcall : Calls Try.prog 90 #[.int .i64 (halfV n : Nat), .int .i64 i] w (SidesPost l w)) :
    Calls Try.prog 90 #[.int .i64 n, .int .i64 i] w (SidesPost (l ++ [false]) w) := by
  have hh := rhalf_any n w h hm
  obtain ⟨K, hK⟩ : ∃ K, K = halfV n := ⟨_, rfl⟩
  rw [← hK] at hcall hi hh
  have Hc := Lib.hid hcall
  have Hh := Lib.hid hh
  have hn1 : ¬ (n : Int) = 1 := by omega
  have hiK : (i : Int) < (K : Int) := by omega
  obtain ⟨i0, hi0, hz0, hz1, hz2⟩ := info_parts Try.infoBo
  have HI := Lib.hid hi0
  have HZ := Lib.hid (And.intro hz0 (And.intro hz1 hz2))
  clear hcall hh hK hi0 hz0 hz1 hz2
  go_enter Try.func90, Try.ntmps90
  go_wp2_with fail
  refine Hh.out.mono ?_
  rintro e w1 ⟨rfl, rfl⟩
  go_wp2_with fail
  refine Hc.out.mono ?_
  rintro e w2 ⟨v, rfl, hrow, hb⟩
  obtain ⟨W3, hW3⟩ : ∃ W3, W3 = w2.alloc (.cells #[.bool false] 4) := ⟨_, rfl⟩
  have hr3 : W3.ownsRow w1.heap.size 4 1 v l.length (l.map Value.bool) := by rw [hW3]; exact hrow.alloc _
  have hg3 : Blk W3 w2.heap.size 4 #[.bool false] := by rw [hW3]; exact heap_new w2 _
  have hb3 : Below w1.heap.size w1 W3 := by rw [hW3]; exact hb.alloc hb.size _
  have HR := Lib.hid hr3
  have HG := Lib.hid hg3
  have HB := Lib.hid hb3
  have HW3 := Lib.hid hW3
  obtain ⟨L, hL⟩ : ∃ L, L = l.length := ⟨_, rfl⟩
  have HL := Lib.hid hL
  have hL5 : L ≤ 5000 := by omega
  rw [← hL] at HR
  clear hrow hb hW3 hr3 hg3 hb3 hL hl
  go_wp2_with (rw [← HW3.out]; refine wpList_append_one rfl (.tmp 15) (.tmp 16) 117 rfl w1.heap.size 4 i0 (.bool false) 1 1 Try.underlying117 HI.out HZ.out.1 HZ.out.2.1 HZ.out.2.2 rfl (by omega) v L (l.map Value.bool) rfl HR.out w2.heap.size #[.bool false] rfl HG.out rfl (by kernel_rfl) (by omega) (by unfold maxLen; omega) HB.out.size ?_; intro v4 w4 ho4 hg4; have Ho4 := Lib.hid ho4; have Hb4 := Lib.hid (HB.out.grown hg4 HB.out.size (fun k hk => (HR.out.lt k hk).1)); clear ho4 hg4)
  go_ret
  refine ⟨v4, rfl, ?_, Hb4.out⟩
  have h := Ho4.out
  rw [HL.out] at h
  rw [List.length_append, List.map_append]
  exact h
set_option maxRecDepth 100000 in
set_option maxHeartbeats 1000000 in
theorem rsides_more (n i : Nat) (l : List Bool) (w : World) (h : 2 ≤ n) (hm : n ≤ 4096) (hi : halfV n ≤ i) (hin : i < n) (hl : l.length ≤ 5000)
    (hcall : Calls Try.prog 90 #[.int .i64 (n - halfV n : Nat), .int .i64 (i - halfV n : Nat)] w (SidesPost l w)) :
    Calls Try.prog 90 #[.int .i64 n, .int .i64 i] w (SidesPost (l ++ [true]) w) := by
  have hh := rhalf_any n w h hm
  obtain ⟨K, hK⟩ : ∃ K, K = halfV n := ⟨_, rfl⟩
  rw [← hK] at hcall hi hh
  have Hc := Lib.hid hcall
  have Hh := Lib.hid hh
  have hn1 : ¬ (n : Int) = 1 := by omega
  have hiK : ¬ (i : Int) < (K : Int) := by omega
  have hb := (halfV_bd n h hm)
  rw [← hK] at hb
  obtain ⟨m, hm1⟩ : ∃ m, m = n - K := ⟨_, rfl⟩
  obtain ⟨t, ht1⟩ : ∃ t, t = i - K := ⟨_, rfl⟩
  rw [← hm1, ← ht1] at Hc
  have hs1 : (n : Int) - (K : Int) = (m : Int) := by omega
  have hs2 : (i : Int) - (K : Int) = (t : Int) := by omega
  clear hm1 ht1 hb
  obtain ⟨i0, hi0, hz0, hz1, hz2⟩ := info_parts Try.infoBo
  have HI := Lib.hid hi0
  have HZ := Lib.hid (And.intro hz0 (And.intro hz1 hz2))
  clear hcall hh hK hi0 hz0 hz1 hz2
  go_enter Try.func90, Try.ntmps90
  go_wp2_with fail
  refine Hh.out.mono ?_
  rintro e w1 ⟨rfl, rfl⟩
  go_wp2_with fail
  refine Hc.out.mono ?_
  rintro e w2 ⟨v, rfl, hrow, hb⟩
  obtain ⟨W3, hW3⟩ : ∃ W3, W3 = w2.alloc (.cells #[.bool true] 4) := ⟨_, rfl⟩
  have hr3 : W3.ownsRow w1.heap.size 4 1 v l.length (l.map Value.bool) := by rw [hW3]; exact hrow.alloc _
  have hg3 : Blk W3 w2.heap.size 4 #[.bool true] := by rw [hW3]; exact heap_new w2 _
  have hb3 : Below w1.heap.size w1 W3 := by rw [hW3]; exact hb.alloc hb.size _
  have HR := Lib.hid hr3
  have HG := Lib.hid hg3
  have HB := Lib.hid hb3
  have HW3 := Lib.hid hW3
  obtain ⟨L, hL⟩ : ∃ L, L = l.length := ⟨_, rfl⟩
  have HL := Lib.hid hL
  have hL5 : L ≤ 5000 := by omega
  rw [← hL] at HR
  clear hrow hb hW3 hr3 hg3 hb3 hL hl
  go_wp2_with (rw [← HW3.out]; refine wpList_append_one rfl (.tmp 24) (.tmp 25) 117 rfl w1.heap.size 4 i0 (.bool false) 1 1 Try.underlying117 HI.out HZ.out.1 HZ.out.2.1 HZ.out.2.2 rfl (by omega) v L (l.map Value.bool) rfl HR.out w2.heap.size #[.bool true] rfl HG.out rfl (by kernel_rfl) (by omega) (by unfold maxLen; omega) HB.out.size ?_; intro v4 w4 ho4 hg4; have Ho4 := Lib.hid ho4; have Hb4 := Lib.hid (HB.out.grown hg4 HB.out.size (fun k hk => (HR.out.lt k hk).1)); clear ho4 hg4)
  go_ret
  refine ⟨v4, rfl, ?_, Hb4.out⟩
  have h := Ho4.out
  rw [HL.out] at h
  rw [List.length_append, List.map_append]
  exact h
theorem sides_len (f : Nat) : ∀ (n i : Nat), 1 ≤ n → n ≤ 4096 → (sidesN f n i).length < n := by
  induction f with
  | zero => intro n i h1 _; rw [sidesN]; simp; omega
  | succ f ih =>
    intro n i h1 hm
    rw [sidesN]
    by_cases hn : n = 1
    · rw [if_pos hn]; simp; omega
    · rw [if_neg hn]
      obtain ⟨b1, b2, b3⟩ := halfV_bd n (by omega) hm
      split
      · have := ih (halfV n) i b1 (by omega)
        rw [List.length_append, List.length_singleton]; omega
      · have := ih (n - halfV n) (i - halfV n) (by omega) (by omega)
        rw [List.length_append, List.length_singleton]; omega
theorem rsides_any (f : Nat) : ∀ (n i : Nat) (w : World), n ≤ f → 1 ≤ n → n ≤ 4096 → i < n →
    Calls Try.prog 90 #[.int .i64 n, .int .i64 i] w (SidesPost (sidesN f n i) w) := by
  induction f with
  | zero => intro n i w h1 h2; omega
  | succ f ih =>
    intro n i w hf h1 hm hi
    rw [sidesN]
    by_cases hn : n = 1
    · subst hn
      rw [if_pos rfl]
      exact rsides_one i w
    · rw [if_neg hn]
      obtain ⟨b1, b2, b3⟩ := halfV_bd n (by omega) hm
      by_cases hk : i < halfV n
      · rw [if_pos hk]
        have := sides_len f (halfV n) i b1 (by omega)
        exact rsides_less n i _ w (by omega) hm hk (by omega) (ih (halfV n) i w (by omega) b1 (by omega) hk)
      · rw [if_neg hk]
        have := sides_len f (n - halfV n) (i - halfV n) (by omega) (by omega)
        exact rsides_more n i _ w (by omega) hm (by omega) hi (by omega) (ih (n - halfV n) (i - halfV n) w (by omega) (by omega) (by omega) (by omega))
end Go.Proofs.Ytnlblmghhkmbbaa

/- What the nodes above a leaf are digests of, told from the bottom up (pure). -/
namespace Go.Proofs.Ytnlblmghhkmbbaa
set_option linter.unusedVariables false
open Go.RowKit Go.Shelf

def insN (ss : List Bool) (leaf : List Int) (path : List (List Int)) : Nat → List (List Int)
  | 0 => [0 :: leaf]
  | k + 1 => insN ss leaf path k ++ [if ss.getD k false then 1 :: (path.getD k [] ++ digestV ((insN ss leaf path k).getLast?.getD [])) else 1 :: (digestV ((insN ss leaf path k).getLast?.getD []) ++ path.getD k [])]
theorem insN_len (ss : List Bool) (leaf : List Int) (path : List (List Int)) (k : Nat) : (insN ss leaf path k).length = k + 1 := by
  induction k with
  | zero => rfl
  | succ k ih => rw [insN, List.length_append, ih]; rfl
theorem insN_front (ss tt : List Bool) (leaf : List Int) (p q : List (List Int)) (k : Nat) (h1 : k ≤ ss.length) (h2 : k ≤ p.length) : insN (ss ++ tt) leaf (p ++ q) k = insN ss leaf p k := by
  induction k with
  | zero => rfl
  | succ k ih =>
    rw [insN, insN, ih (by omega) (by omega)]
    have e1 : (ss ++ tt).getD k false = ss.getD k false := by
      rw [List.getD_eq_getElem?_getD, List.getD_eq_getElem?_getD, List.getElem?_append_left (by omega)]
    have e2 : (p ++ q).getD k [] = p.getD k [] := by
      rw [List.getD_eq_getElem?_getD, List.getD_eq_getElem?_getD, List.getElem?_append_left (by omega)]
    rw [e1, e2]
theorem climb_ins (f : Nat) : ∀ (n i : Nat) (leaf : List Int) (path : List (List Int)), n ≤ f → 1 ≤ n → n ≤ 4096 →
    climbN f n i leaf path = if path.length = (sidesN f n i).length then some (insN (sidesN f n i) leaf path path.length) else none := by
  induction f with
  | zero => intro n i leaf path h1 h2; omega
  | succ f ih =>
    intro n i leaf path hf h1 hm
    rw [climbN, sidesN]
    by_cases hn : n = 1
    · rw [if_pos hn, if_pos hn]
      cases path with
      | nil => rfl
      | cons d p => rw [if_neg (by simp), if_neg (by simp)]
    · rw [if_neg hn, if_neg hn]
      obtain ⟨b1, b2, b3⟩ := halfV_bd n (by omega) hm
      by_cases hp : path = []
      · subst hp
        rw [if_pos rfl]
        split <;> rw [if_neg (by simp)]
      · rw [if_neg hp]
        have hl := last_is hp
        obtain ⟨p, hpd⟩ : ∃ p, p = path.dropLast := ⟨_, rfl⟩
        obtain ⟨d, hd⟩ : ∃ d, d = path.getLast hp := ⟨_, rfl⟩
        have hpath : path = p ++ [d] := by rw [hpd, hd]; exact (List.dropLast_concat_getLast hp).symm
        rw [hl, ← hd, ← hpd]
        clear hl hd hpd
        subst hpath
        by_cases hk : i < halfV n
        · rw [if_pos hk, if_pos hk, ih (halfV n) i leaf p (by omega) b1 (by omega)]
          rw [List.length_append, List.length_append, List.length_singleton, List.length_singleton]
          by_cases he : p.length = (sidesN f (halfV n) i).length
          · rw [if_pos he, if_pos (by omega), Option.map_some, insN, insN_front _ _ _ _ _ _ (by omega) (Nat.le_refl _)]
            have e1 : (sidesN f (halfV n) i ++ [false]).getD p.length false = false := by rw [he, List.getD_eq_getElem?_getD]; simp
            have e2 : (p ++ [d]).getD p.length [] = d := by rw [List.getD_eq_getElem?_getD]; simp
            rw [e1, e2]
            rfl
          · rw [if_neg he, if_neg (by omega)]; rfl
        · rw [if_neg hk, if_neg hk, ih (n - halfV n) (i - halfV n) leaf p (by omega) (by omega) (by omega)]
          rw [List.length_append, List.length_append, List.length_singleton, List.length_singleton]
          by_cases he : p.length = (sidesN f (n - halfV n) (i - halfV n)).length
          · rw [if_pos he, if_pos (by omega), Option.map_some, insN, insN_front _ _ _ _ _ _ (by omega) (Nat.le_refl _)]
            have e1 : (sidesN f (n - halfV n) (i - halfV n) ++ [true]).getD p.length false = true := by rw [he, List.getD_eq_getElem?_getD]; simp
            have e2 : (p ++ [d]).getD p.length [] = d := by rw [List.getD_eq_getElem?_getD]; simp
            rw [e1, e2]
            rfl
          · rw [if_neg he, if_neg (by omega)]; rfl
end Go.Proofs.Ytnlblmghhkmbbaa

/- The reference's Inputs. -/
namespace Go.Proofs.Ytnlblmghhkmbbaa
set_option linter.unusedVariables false
open Go.RowKit Go.Shelf

/-- A slice of slices of bytes of the call's own. -/
structure Ins (w : World) (B : Nat) (v : Value) (ms : List NodeM) : Prop where
  row : w.ownsRow B 22 1 v ms.length (ms.map (·.v))
  own : ∀ m ∈ ms, Own w B m.v m.xs
theorem Ins.below {w w' : World} {B B' : Nat} {v : Value} {ms : List NodeM} (h : Ins w B v ms) (hb : Below B' w w') (hB : w.heap.size ≤ B') : Ins w' B v ms := ⟨row_below h.row hb hB, fun m hm => (h.own m hm).below hb hB⟩
theorem Ins.mono {w : World} {B B' : Nat} {v : Value} {ms : List NodeM} (h : Ins w B v ms) (hB : B' ≤ B) : Ins w B' v ms := ⟨row_mono h.row hB, fun m hm => (h.own m hm).mono hB⟩
theorem Try.infoSl : (Try.prog.info? 22).map (fun i => (i.zero, i.size, i.bytes)) = some (some (.slice none 0 0), 1, 24) := by kernel_rfl
theorem ins_one {w : World} {B : Nat} {u : Value} {xs : List Int} (hB : B ≤ w.heap.size) (h : Own w B u xs) : Ins (w.alloc (.cells #[u] 22)) B (.slice (some ⟨w.heap.size, 0, none⟩) 1 1) [⟨u, xs⟩] := by
  refine ⟨⟨rfl, .inr ⟨w.heap.size, 1, #[u], rfl, hB, heap_new w _, Nat.le_refl _, by unfold maxLen; omega, rfl, rfl⟩⟩, fun m hm => ?_⟩
  simp only [List.mem_singleton] at hm
  subst hm
  exact h.alloc _
theorem ins_more {w w' : World} {B n : Nat} {v v' u : Value} {ms : List NodeM} {xs : List Int} (h : Ins w B v ms) (ho : Own w B u xs) (hn : n = ms.length) (h' : w'.ownsRow B 22 1 v' (n + 1) (ms.map (·.v) ++ [u])) (hg : w.grownBy w' v.ownBlock) : Ins w' B v' (ms ++ [⟨u, xs⟩]) := by
  have hne : 22 ≠ 5 := by decide
  subst hn
  refine ⟨?_, fun m hm => ?_⟩
  · rw [List.length_append, List.map_append]; exact h'
  · rcases List.mem_append.1 hm with hm | hm
    · exact (h.own m hm).grown_other h.row hne hg
    · simp only [List.mem_singleton] at hm
      subst hm
      exact ho.grown_other h.row hne hg
theorem insN_zero (ss : List Bool) (leaf : List Int) (path : List (List Int)) : insN ss leaf path 0 = [0 :: leaf] := rfl
theorem insN_next (ss : List Bool) (leaf : List Int) (path : List (List Int)) (k : Nat) (b : Bool) (d x : List Int) (hb : ss.getD k false = b) (hd : path.getD k [] = d) (hx : (insN ss leaf path k).getLast?.getD [] = x) : insN ss leaf path (k + 1) = insN ss leaf path k ++ [if b then 1 :: (d ++ digestV x) else 1 :: (digestV x ++ d)] := by
  rw [insN, hb, hd, hx]
theorem ins_small (ss : List Bool) (leaf : List Int) (path : List (List Int)) (h : ∀ d ∈ path, d.length = 16) (k : Nat) (hk : k ≤ path.length) : ∀ x ∈ insN ss leaf path k, x.length ≤ leaf.length + 33 := by
  induction k with
  | zero => intro x hx; rw [insN] at hx; simp only [List.mem_singleton] at hx; rw [hx]; simp
  | succ k ih =>
    intro x hx
    rw [insN] at hx
    have hd : (path.getD k []).length = 16 := by
      rw [List.getD_eq_getElem?_getD, List.getElem?_eq_getElem (by omega)]
      exact h _ (List.getElem_mem _)
    rcases List.mem_append.1 hx with hx | hx
    · exact ih (by omega) x hx
    · simp only [List.mem_singleton] at hx
      rw [hx]
      split <;> (rw [List.length_cons, List.length_append, digestV_len, hd]; omega)
theorem blk_digC {w : World} {g : Nat} {t : TypeId} {d : List Int} (h : Blk w g t (digC d)) : w.rangeAt g 0 (digC d).toList := by
  intro j u hu
  rw [Nat.zero_add, h.cell j, ← hu, Array.getElem?_toList]
attribute [local irreducible] digC digestV insN sidesN
set_option maxRecDepth 100000 in
set_option maxHeartbeats 1000000 in
theorem rinputs_err (n i : Int) (leaf path : Value) (w : World) (h : placeE n i ≠ 0) :
    Calls Try.prog 73 #[.int .i64 n, .int .i64 i, leaf, path] w fun e w' => e = .returned (.tuple #[.slice none 0 0, .int .i64 (placeE n i)]) ∧ w' = w := by
  have hc : 4096 < n ∨ (¬ 4096 < n ∧ i < 0) ∨ (¬ 4096 < n ∧ ¬ i < 0 ∧ n ≤ i) := by unfold placeE at h; split at h <;> first | omega | (split at h <;> omega)
  rcases hc with h1 | ⟨h1, h2⟩ | ⟨h1, h2, h3⟩
  · have he := Lib.hid (show placeE n i = 2 by unfold placeE; rw [if_pos h1])
    clear h
    go_enter Try.func73, Try.ntmps73
    go_wp2_with fail
    go_ret2
    exact ⟨by rw [he.out]; rfl, rfl⟩
  · have he := Lib.hid (show placeE n i = 3 by unfold placeE; rw [if_neg h1, if_pos (by omega)])
    clear h
    go_enter Try.func73, Try.ntmps73
    go_wp2_with fail
    go_ret2
    exact ⟨by rw [he.out]; rfl, rfl⟩
  · have he := Lib.hid (show placeE n i = 3 by unfold placeE; rw [if_neg h1, if_pos (by omega)])
    clear h
    go_enter Try.func73, Try.ntmps73
    go_wp2_with fail
    go_ret2
    exact ⟨by rw [he.out]; rfl, rfl⟩
set_option maxRecDepth 100000 in
set_option maxHeartbeats 4000000 in
/-- The path has another length. -/
theorem rinputs_len (n i : Nat) (leaf : Value) (a : Option Addr) (p cap : Nat) (w : World) (hm : n ≤ 4096) (hi : i < n) (hp : p ≤ 1000000) (hne : p ≠ (sidesN n n i).length) :
    Calls Try.prog 73 #[.int .i64 n, .int .i64 i, leaf, .slice a p cap] w fun e w' => e = .returned (.tuple #[.slice none 0 0, .int .i64 22]) ∧ Below w.heap.size w w' := by
  have hs := rsides_any n n i w (Nat.le_refl _) (by omega) hm hi
  obtain ⟨ss, hss⟩ : ∃ ss, ss = sidesN n n i := ⟨_, rfl⟩
  have hsl : ss.length < n := by rw [hss]; exact sides_len n n i (by omega) hm
  rw [← hss] at hs hne
  have Hs := Lib.hid hs
  have g1 : ¬ (4096 : Int) < (n : Int) := by omega
  have g2 : ¬ (i : Int) < 0 := by omega
  have g3 : ¬ (n : Int) ≤ (i : Int) := by omega
  obtain ⟨q, hq⟩ : ∃ q, q = ss.length := ⟨_, rfl⟩
  have hpq : ((p : Int) == (q : Int)) = false := by simp; omega
  have hpq2 : ((p : Int) != (q : Int)) = true := by simp; omega
  have Hq := Lib.hid hq
  clear hs hss hne hsl hq
  go_enter Try.func73, Try.ntmps73
  go_wp2_with fail
  refine Hs.out.mono ?_
  rintro e w1 ⟨v, rfl, hrow, hb⟩
  rw [← Hq.out] at hrow
  obtain ⟨ba, bc, rfl, -, -, -⟩ := row_slice hrow
  have Hb := Lib.hid hb
  clear hrow hb
  go_wp2_with fail
  go_ret2
  exact ⟨rfl, Hb.out⟩
set_option maxRecDepth 100000 in
set_option maxHeartbeats 8000000 in
theorem rinputs_ok (n i : Nat) (la : Option Addr) (ll lc : Nat) (leaf : List Int) (a : Option Addr) (p cap : Nat) (ds : List (List Int)) (w : World) (hm : n ≤ 4096) (hi : i < n) (hl : Rd w la ll lc leaf) (hll : ll ≤ 140737488354000) (hp : RdG w a p cap ds) (heq : p = (sidesN n n i).length) :
    Calls Try.prog 73 #[.int .i64 n, .int .i64 i, .slice la ll lc, .slice a p cap] w fun e w' => ∃ v ms, e = .returned (.tuple #[v, .int .i64 0]) ∧ Ins w' w.heap.size v ms ∧ ms.map (·.xs) = insN (sidesN n n i) leaf ds p ∧ Below w.heap.size w w' := by
  have hs := rsides_any n n i w (Nat.le_refl _) (by omega) hm hi
  obtain ⟨ss, hss⟩ : ∃ ss, ss = sidesN n n i := ⟨_, rfl⟩
  have hsl : ss.length < n := by rw [hss]; exact sides_len n n i (by omega) hm
  rw [← hss] at hs heq ⊢
  have hpl := hp.hl
  have Hs := Lib.hid hs
  have g1 : ¬ (4096 : Int) < (n : Int) := by omega
  have g2 : ¬ (i : Int) < 0 := by omega
  have g3 : ¬ (n : Int) ≤ (i : Int) := by omega
  have hp4 : p ≤ 4096 := by omega
  have Hq := Lib.hid heq
  have Hl := Lib.hid hl
  have Hp := Lib.hid hp
  have Hpl := Lib.hid hpl
  clear hs hss heq hsl hl hp hpl
  obtain ⟨i0, hi0, hz0, hz1, hz2⟩ := info_parts Try.infoSl
  have HI := Lib.hid hi0
  have HZ := Lib.hid (And.intro hz0 (And.intro hz1 hz2))
  clear hi0 hz0 hz1 hz2
  go_enter Try.func73, Try.ntmps73
  go_wp2_with fail
  refine Hs.out.mono ?_
  rintro e w1 ⟨v, rfl, hrow, hb⟩
  rw [← Hq.out] at hrow
  obtain ⟨ba, bc, rfl, hbn, hbm, hbg⟩ := row_slice hrow
  have Hb := Lib.hid hb
  have Hrow := Lib.hid hrow
  have Hbg := Lib.hid hbg
  have Hl1 := Lib.hid (Hl.out.below hb (Nat.le_refl _))
  have Hp1 := Lib.hid (Hp.out.below hb (Nat.le_refl _))
  unfold maxLen at hbm
  clear hrow hb hbg Hs
  go_wp2_with fail
  refine (rsingle_any la ll lc leaf w1 Hl1.out hll).mono ?_
  rintro e w2 ⟨u, rfl, hou, hb2⟩
  obtain ⟨W3, hW3⟩ : ∃ W3, W3 = w2.alloc (.cells #[u] 22) := ⟨_, rfl⟩
  have hI3 : Ins W3 w1.heap.size (.slice (some ⟨w2.heap.size, 0, none⟩) 1 1) [⟨u, 0 :: leaf⟩] := by rw [hW3]; exact ins_one hb2.size hou
  have hb3 : Below w1.heap.size w1 W3 := by rw [hW3]; exact hb2.alloc hb2.size _
  obtain ⟨ul, hul⟩ : ∃ n, n = (0 :: leaf).length := ⟨_, rfl⟩
  obtain ⟨ua, uc, rfl, -⟩ := hou.rdz hul.symm
  have HW3 := Lib.hid hW3
  have HI3 := Lib.hid hI3
  have HB3 := Lib.hid hb3
  have Hul := Lib.hid hul
  clear hou hb2 hW3 hI3 hb3 hul
  go_wp2_with fail
  rw [← HW3.out]
  clear HW3
  go_loopw [12, 11] (fun j v wr => ∃ (k : Nat) (ms : List NodeM), k ≤ p ∧ j = .int .i64 k ∧ Ins wr w1.heap.size v ms ∧ ms.map (·.xs) = insN ss leaf ds k ∧ Below w1.heap.size w1 wr) (fun j _ _ => p - (intOf j).toNat)
  case atStart => exact ⟨0, _, Nat.zero_le _, rfl, HI3.out, by rw [insN_zero]; rfl, HB3.out⟩
  case round =>
    obtain ⟨k, ms, hk, rfl, hI, hms, hbw⟩ := hrel
    have hml : ms.length = k + 1 := by have h := congrArg List.length hms; rw [List.length_map, insN_len] at h; exact h
    obtain ⟨K1, hK1⟩ : ∃ n, n = ms.length := ⟨_, rfl⟩
    have hKk : K1 = k + 1 := by omega
    have hrow1 := hI.row
    rw [← hK1] at hrow1
    obtain ⟨va, vc, rfl, hvn, hvm, hvg⟩ := row_slice hrow1
    obtain ⟨g, rfl, -, hgl⟩ := hvg (by omega)
    unfold maxLen at hvm
    have HK1 := Lib.hid hK1
    by_cases hlt : k < p
    · have hk1 : k < ms.length := by omega
      have hO := hI.own ms[k] (List.getElem_mem _)
      have hcell := row_cell hrow1 k (by omega)
      rw [List.getElem?_map, List.getElem?_eq_getElem hk1, Option.map_some] at hcell
      obtain ⟨m, hmk⟩ : ∃ m, m = ms[k] := ⟨_, rfl⟩
      have hlast : (insN ss leaf ds k).getLast?.getD [] = m.xs := by
        rw [← hms, List.getLast?_eq_getElem?, List.length_map, hml, Nat.add_sub_cancel, List.getElem?_map, List.getElem?_eq_getElem hk1, ← hmk]; rfl
      have hmem : m.xs ∈ insN ss leaf ds k := by rw [← hms, hmk]; exact List.mem_map_of_mem (List.getElem_mem _)
      have hsm := ins_small ss leaf ds (fun d hd => (Hp.out.hd d hd).1) k (by rw [Hpl.out]; omega) m.xs hmem
      have hll' := Hl.out.hl
      rw [← hmk] at hO hcell
      obtain ⟨mu, mx⟩ := m
      simp only at hO hcell hlast hsm
      obtain ⟨xl, hxl⟩ : ∃ n, n = mx.length := ⟨_, rfl⟩
      obtain ⟨xa, xc, rfl, hx⟩ := hO.rdz hxl.symm
      have hxl2 : xl ≤ 140737488355000 := by omega
      have Hx := Lib.hid hx
      have Hlast := Lib.hid hlast
      have Hms := Lib.hid hms
      have HIw := Lib.hid hI
      have Hbw := Lib.hid hbw
      obtain ⟨X, hX⟩ : ∃ X, X = digestV mx := ⟨_, rfl⟩
      have hXd : Dig X := by rw [hX]; exact digestV_dig mx
      have HX := Lib.hid hX
      have HXd := Lib.hid hXd
      have hk0 : (0 : Int) ≤ (k : Int) := by omega
      have hkp : (k : Int) < (p : Int) := by omega
      have hkK : (k : Int) < (K1 : Int) := by omega
      have hk4 : (k : Int) ≤ 4096 := by omega
      have hKa : K1 ≤ k + 1 := by omega
      have hKb : k + 1 ≤ K1 := by omega
      clear hKk
      clear hO hmk hlast hmem hsm hxl hx hms hI hbw hX hXd hK1 hrow1 hvg hk1 hml
      go_wp2_with fail
      refine (rdigest_any xa xl xc mx wr Hx.out hxl2).mono ?_
      rintro e w4 ⟨rfl, hb4⟩
      rw [← HX.out]
      have hbw4 : Below w1.heap.size w1 w4 := Hbw.out.trans (hb4.mono Hbw.out.size)
      obtain ⟨w5, e1, hz5, g7, W6, e2, e3, hg7, hb6, hq6, -⟩ := freshD hbw4 X HXd.out.1
      have I6 := (HIw.out.below hb4 (Nat.le_refl _)).below hq6 (by omega)
      obtain ⟨w9, hw9⟩ : ∃ w9, w9 = W6.drew := ⟨_, rfl⟩
      have I9 : Hid (Ins w9 w1.heap.size (.slice (some ⟨g, 0, none⟩) K1 vc) ms) := Lib.hid (by rw [hw9]; exact I6.below (Below.refl _ W6).drew (Nat.le_refl _))
      have hb9 : Below w1.heap.size w1 w9 := by rw [hw9]; exact hb6.drew
      have G9 : Blk w9 g7 47 (digC X) := by rw [hw9]; exact hg7
      have RX := Lib.hid (blk_digC G9)
      have P9 := Hp1.out.below hb9 (Nat.le_refl _)
      obtain ⟨b1, o1, rfl, hcd⟩ := P9.hr (by omega)
      have hkd : k < ds.length := by rw [Hpl.out]; exact hlt
      have hrd := hcd k hkd
      have hdd := P9.hd ds[k] (List.getElem_mem _)
      have hgd : ds.getD k [] = ds[k] := by rw [List.getD_eq_getElem?_getD, List.getElem?_eq_getElem hkd]; rfl
      obtain ⟨d, hd⟩ : ∃ d, d = ds[k] := ⟨_, rfl⟩
      rw [← hd] at hrd hdd hgd
      rw [Nat.mul_comm 16 k] at hrd
      have RD := Lib.hid hrd
      have HD := Lib.hid (And.intro hdd HXd.out)
      have LD := Lib.hid (sizeDig2 d hdd.1)
      have LX := Lib.hid (sizeDig2 X HXd.out.1)
      have Hds := Lib.hid hgd
      obtain ⟨gb, rfl, -, hgbl⟩ := Hbg.out (by omega)
      have hks : k < ss.length := by rw [← Hq.out]; exact hlt
      have hsb := (hb6.cell (p := ⟨gb, k, none⟩) hgbl).trans (row_cell Hrow.out k (by omega))
      rw [List.getElem?_map, List.getElem?_eq_getElem hks, Option.map_some] at hsb
      have hgs : ss.getD k false = ss[k] := by rw [List.getD_eq_getElem?_getD, List.getElem?_eq_getElem hks]; rfl
      obtain ⟨bb, hbb⟩ : ∃ b, b = ss[k] := ⟨_, rfl⟩
      rw [← hbb] at hsb hgs
      have He1 := Lib.hid e1
      have He2 := Lib.hid e2
      have He3 := Lib.hid e3
      have Hz := Lib.hid hz5
      have Hb9 := Lib.hid hb9
      have Hw9 := Lib.hid hw9
      have Hss := Lib.hid hgs
      have Z1 := Lib.hid (Try.sizeDig X HXd.out.1)
      have Z2 := Lib.hid (zsize X HXd.out.1)
      have Z3 := Lib.hid (digC_one X)
      clear hb4 hbw4 e1 hz5 e2 e3 hg7 hb6 hq6 I6 hw9 hb9 G9 P9 hcd hkd hrd hdd hgd hd hks hgs hbb hcell
      go_upto_region 13 with (rw [He1.out]; refine wpList_store_row rfl 47 (.tmp 13) (.tmp 44) rfl w4.heap.size (digC X) rfl rfl 47 (digC (List.replicate 16 0)) Hz.out Z1.out Z2.out Z3.out ?_)
      rw [He3.out, He2.out]
      clear He1 He2 He3 Hz Z1 Z2 Z3
      cases bb with
      | true =>
        go_wp2_with fail
        refine wp_region_any (by kernel_rfl) ?_
        rw [show (({ W6 with drawn := W6.drawn + 1 } : World)) = w9 from Hw9.out.symm]
        refine wpAny_take (i := 0) (v := .slice (some ⟨g, 0, none⟩) K1 vc) rfl (by kernel_rfl) (by kernel_rfl) (by kernel_rfl) (fun _ _ _ h => h) (Or.inl ⟨by rfl, ?_⟩) ?_
        · intro w; go_simp
        refine wpAny_take (i := 1) (v := .slice (some ⟨b1, o1, none⟩) p cap) rfl (by kernel_rfl) (by kernel_rfl) (by kernel_rfl) (fun _ _ _ h => h) (Or.inl ⟨by rfl, ?_⟩) ?_
        · intro w; go_simp
        refine wpAny_take (i := 2) (v := .int .i64 k) rfl (by kernel_rfl) (by kernel_rfl) (by kernel_rfl) (fun _ _ _ h => h) (Or.inl ⟨by rfl, ?_⟩) ?_
        · intro w; go_simp
        refine wpAny_take (i := 3) (v := .pointer (some ⟨b1, o1 + k * 16, none⟩)) rfl (by kernel_rfl) (by kernel_rfl) (by kernel_rfl) (fun _ _ _ h => h) (Or.inl ⟨by rfl, ?_⟩) ?_
        · intro w; go_simp
        go_simp
        refine wpAny_all (rs := [4, 5]) (by kernel_rfl) (by simp) ?_
        intro j hj
        rcases List.mem_cons.1 hj with rfl | hj
        · clear hj
          refine op_load rfl rfl 47 (.tmp 52) rfl b1 (o1 + k * 16) rfl (digC d) _ RD.out Try.underlying47 rfl LD.out ?_
          refine wpAny_all (rs := [5]) (by kernel_rfl) (by simp) ?_
          intro j2 hj2
          obtain rfl := List.mem_singleton.1 hj2
          clear hj2
          refine op_load rfl rfl 47 (.tmp 13) rfl g7 0 rfl (digC X) _ RX.out Try.underlying47 rfl LX.out ?_
          refine any_seq (k := 6) (by rfl) (by kernel_rfl) ?_
          simp only [List.drop_succ_cons, List.drop_zero]
          go_wp2_with fail
          refine (rdouble_any d X HD.out.1 HD.out.2 w9).mono ?_
          rintro e w10 ⟨u2, rfl, ho10, hb10⟩
          obtain ⟨yl, hyl⟩ : ∃ n, n = (1 :: (d ++ X)).length := ⟨_, rfl⟩
          obtain ⟨ya, yc, rfl, -⟩ := ho10.rdz hyl.symm
          obtain ⟨W11, hW11⟩ : ∃ W11, W11 = w10.alloc (.cells #[.slice ya yl yc] 22) := ⟨_, rfl⟩
          have hb11 : Below w10.heap.size w10 W11 := by rw [hW11]; exact (Below.refl _ w10).alloc (Nat.le_refl _) _
          have I11 := Lib.hid ((I9.out.below hb10 (Nat.le_refl _)).below hb11 (Nat.le_refl _))
          have O11 := Lib.hid ((ho10.below hb11 (Nat.le_refl _)).mono (show w1.heap.size ≤ w9.heap.size from Hb9.out.size))
          have G11 : Hid (Blk W11 w10.heap.size 22 #[.slice ya yl yc]) := Lib.hid (by rw [hW11]; exact heap_new w10 _)
          have B11 : Hid (Below w1.heap.size w1 W11) := Lib.hid ((Hb9.out.trans (hb10.mono Hb9.out.size)).trans (hb11.mono (by have := Hb9.out.size; have := hb10.size; omega)))
          have HW11 := Lib.hid hW11
          have RW : Hid (W11.ownsRow w1.heap.size 22 1 (.slice (some ⟨g, 0, none⟩) K1 vc) K1 (ms.map (·.v))) := Lib.hid (by have h := I11.out.row; rw [← HK1.out] at h; exact h)
          have hsz := B11.out.size
          have HYl := Lib.hid hyl
          clear hb10 hb11 ho10 hW11 hyl
          go_wp2_with (rw [← HW11.out]; refine wpList_append_one rfl (.tmp 49) (.tmp 56) 55 rfl w1.heap.size 22 i0 (.slice none 0 0) 1 24 Try.underlying55 HI.out HZ.out.1 HZ.out.2.1 HZ.out.2.2 rfl (by omega) (.slice (some ⟨g, 0, none⟩) K1 vc) K1 (ms.map (·.v)) rfl RW.out w10.heap.size #[.slice ya yl yc] rfl G11.out rfl (by kernel_rfl) (by omega) (by unfold maxLen; omega) hsz ?_; intro v12 w12 ho12 hg12; have I12 := Lib.hid (ins_more I11.out O11.out HK1.out ho12 hg12); have B12 := Lib.hid (B11.out.grown hg12 hsz (fun j hj => (RW.out.lt j hj).1)); clear ho12 hg12)
          go_roundw
          case rel => exact ⟨k + 1, _, by omega, by go_num, I12.out, by rw [List.map_append, Hms.out, insN_next ss leaf ds k true d mx Hss.out Hds.out Hlast.out, ← HX.out]; rfl, B12.out⟩
          case measure => simp [intOf]; omega
        · obtain rfl := List.mem_singleton.1 hj
          clear hj
          refine op_load rfl rfl 47 (.tmp 13) rfl g7 0 rfl (digC X) _ RX.out Try.underlying47 rfl LX.out ?_
          refine wpAny_all (rs := [4]) (by kernel_rfl) (by simp) ?_
          intro j2 hj2
          obtain rfl := List.mem_singleton.1 hj2
          clear hj2
          refine op_load rfl rfl 47 (.tmp 52) rfl b1 (o1 + k * 16) rfl (digC d) _ RD.out Try.underlying47 rfl LD.out ?_
          refine any_seq (k := 6) (by rfl) (by kernel_rfl) ?_
          simp only [List.drop_succ_cons, List.drop_zero]
          go_wp2_with fail
          refine (rdouble_any d X HD.out.1 HD.out.2 w9).mono ?_
          rintro e w10 ⟨u2, rfl, ho10, hb10⟩
          obtain ⟨yl, hyl⟩ : ∃ n, n = (1 :: (d ++ X)).length := ⟨_, rfl⟩
          obtain ⟨ya, yc, rfl, -⟩ := ho10.rdz hyl.symm
          obtain ⟨W11, hW11⟩ : ∃ W11, W11 = w10.alloc (.cells #[.slice ya yl yc] 22) := ⟨_, rfl⟩
          have hb11 : Below w10.heap.size w10 W11 := by rw [hW11]; exact (Below.refl _ w10).alloc (Nat.le_refl _) _
          have I11 := Lib.hid ((I9.out.below hb10 (Nat.le_refl _)).below hb11 (Nat.le_refl _))
          have O11 := Lib.hid ((ho10.below hb11 (Nat.le_refl _)).mono (show w1.heap.size ≤ w9.heap.size from Hb9.out.size))
          have G11 : Hid (Blk W11 w10.heap.size 22 #[.slice ya yl yc]) := Lib.hid (by rw [hW11]; exact heap_new w10 _)
          have B11 : Hid (Below w1.heap.size w1 W11) := Lib.hid ((Hb9.out.trans (hb10.mono Hb9.out.size)).trans (hb11.mono (by have := Hb9.out.size; have := hb10.size; omega)))
          have HW11 := Lib.hid hW11
          have RW : Hid (W11.ownsRow w1.heap.size 22 1 (.slice (some ⟨g, 0, none⟩) K1 vc) K1 (ms.map (·.v))) := Lib.hid (by have h := I11.out.row; rw [← HK1.out] at h; exact h)
          have hsz := B11.out.size
          have HYl := Lib.hid hyl
          clear hb10 hb11 ho10 hW11 hyl
          go_wp2_with (rw [← HW11.out]; refine wpList_append_one rfl (.tmp 49) (.tmp 56) 55 rfl w1.heap.size 22 i0 (.slice none 0 0) 1 24 Try.underlying55 HI.out HZ.out.1 HZ.out.2.1 HZ.out.2.2 rfl (by omega) (.slice (some ⟨g, 0, none⟩) K1 vc) K1 (ms.map (·.v)) rfl RW.out w10.heap.size #[.slice ya yl yc] rfl G11.out rfl (by kernel_rfl) (by omega) (by unfold maxLen; omega) hsz ?_; intro v12 w12 ho12 hg12; have I12 := Lib.hid (ins_more I11.out O11.out HK1.out ho12 hg12); have B12 := Lib.hid (B11.out.grown hg12 hsz (fun j hj => (RW.out.lt j hj).1)); clear ho12 hg12)
          go_roundw
          case rel => exact ⟨k + 1, _, by omega, by go_num, I12.out, by rw [List.map_append, Hms.out, insN_next ss leaf ds k true d mx Hss.out Hds.out Hlast.out, ← HX.out]; rfl, B12.out⟩
          case measure => simp [intOf]; omega
      | false =>
        go_wp2_with fail
        refine wp_region_any (by kernel_rfl) ?_
        rw [show (({ W6 with drawn := W6.drawn + 1 } : World)) = w9 from Hw9.out.symm]
        refine wpAny_take (i := 0) (v := .slice (some ⟨g, 0, none⟩) K1 vc) rfl (by kernel_rfl) (by kernel_rfl) (by kernel_rfl) (fun _ _ _ h => h) (Or.inl ⟨by rfl, ?_⟩) ?_
        · intro w; go_simp
        refine wpAny_take (i := 2) (v := .slice (some ⟨b1, o1, none⟩) p cap) rfl (by kernel_rfl) (by kernel_rfl) (by kernel_rfl) (fun _ _ _ h => h) (Or.inl ⟨by rfl, ?_⟩) ?_
        · intro w; go_simp
        refine wpAny_take (i := 3) (v := .int .i64 k) rfl (by kernel_rfl) (by kernel_rfl) (by kernel_rfl) (fun _ _ _ h => h) (Or.inl ⟨by rfl, ?_⟩) ?_
        · intro w; go_simp
        refine wpAny_take (i := 4) (v := .pointer (some ⟨b1, o1 + k * 16, none⟩)) rfl (by kernel_rfl) (by kernel_rfl) (by kernel_rfl) (fun _ _ _ h => h) (Or.inl ⟨by rfl, ?_⟩) ?_
        · intro w; go_simp
        go_simp
        refine wpAny_all (rs := [1, 5]) (by kernel_rfl) (by simp) ?_
        intro j hj
        rcases List.mem_cons.1 hj with rfl | hj
        · clear hj
          refine op_load rfl rfl 47 (.tmp 13) rfl g7 0 rfl (digC X) _ RX.out Try.underlying47 rfl LX.out ?_
          refine wpAny_all (rs := [5]) (by kernel_rfl) (by simp) ?_
          intro j2 hj2
          obtain rfl := List.mem_singleton.1 hj2
          clear hj2
          refine op_load rfl rfl 47 (.tmp 62) rfl b1 (o1 + k * 16) rfl (digC d) _ RD.out Try.underlying47 rfl LD.out ?_
          refine any_seq (k := 6) (by rfl) (by kernel_rfl) ?_
          simp only [List.drop_succ_cons, List.drop_zero]
          go_wp2_with fail
          refine (rdouble_any X d HD.out.2 HD.out.1 w9).mono ?_
          rintro e w10 ⟨u2, rfl, ho10, hb10⟩
          obtain ⟨yl, hyl⟩ : ∃ n, n = (1 :: (X ++ d)).length := ⟨_, rfl⟩
          obtain ⟨ya, yc, rfl, -⟩ := ho10.rdz hyl.symm
          obtain ⟨W11, hW11⟩ : ∃ W11, W11 = w10.alloc (.cells #[.slice ya yl yc] 22) := ⟨_, rfl⟩
          have hb11 : Below w10.heap.size w10 W11 := by rw [hW11]; exact (Below.refl _ w10).alloc (Nat.le_refl _) _
          have I11 := Lib.hid ((I9.out.below hb10 (Nat.le_refl _)).below hb11 (Nat.le_refl _))
          have O11 := Lib.hid ((ho10.below hb11 (Nat.le_refl _)).mono (show w1.heap.size ≤ w9.heap.size from Hb9.out.size))
          have G11 : Hid (Blk W11 w10.heap.size 22 #[.slice ya yl yc]) := Lib.hid (by rw [hW11]; exact heap_new w10 _)
          have B11 : Hid (Below w1.heap.size w1 W11) := Lib.hid ((Hb9.out.trans (hb10.mono Hb9.out.size)).trans (hb11.mono (by have := Hb9.out.size; have := hb10.size; omega)))
          have HW11 := Lib.hid hW11
          have RW : Hid (W11.ownsRow w1.heap.size 22 1 (.slice (some ⟨g, 0, none⟩) K1 vc) K1 (ms.map (·.v))) := Lib.hid (by have h := I11.out.row; rw [← HK1.out] at h; exact h)
          have hsz := B11.out.size
          have HYl := Lib.hid hyl
          clear hb10 hb11 ho10 hW11 hyl
          go_wp2_with (rw [← HW11.out]; refine wpList_append_one rfl (.tmp 58) (.tmp 65) 55 rfl w1.heap.size 22 i0 (.slice none 0 0) 1 24 Try.underlying55 HI.out HZ.out.1 HZ.out.2.1 HZ.out.2.2 rfl (by omega) (.slice (some ⟨g, 0, none⟩) K1 vc) K1 (ms.map (·.v)) rfl RW.out w10.heap.size #[.slice ya yl yc] rfl G11.out rfl (by kernel_rfl) (by omega) (by unfold maxLen; omega) hsz ?_; intro v12 w12 ho12 hg12; have I12 := Lib.hid (ins_more I11.out O11.out HK1.out ho12 hg12); have B12 := Lib.hid (B11.out.grown hg12 hsz (fun j hj => (RW.out.lt j hj).1)); clear ho12 hg12)
          go_roundw
          case rel => exact ⟨k + 1, _, by omega, by go_num, I12.out, by rw [List.map_append, Hms.out, insN_next ss leaf ds k false d mx Hss.out Hds.out Hlast.out, ← HX.out]; rfl, B12.out⟩
          case measure => simp [intOf]; omega
        · obtain rfl := List.mem_singleton.1 hj
          clear hj
          refine op_load rfl rfl 47 (.tmp 62) rfl b1 (o1 + k * 16) rfl (digC d) _ RD.out Try.underlying47 rfl LD.out ?_
          refine wpAny_all (rs := [1]) (by kernel_rfl) (by simp) ?_
          intro j2 hj2
          obtain rfl := List.mem_singleton.1 hj2
          clear hj2
          refine op_load rfl rfl 47 (.tmp 13) rfl g7 0 rfl (digC X) _ RX.out Try.underlying47 rfl LX.out ?_
          refine any_seq (k := 6) (by rfl) (by kernel_rfl) ?_
          simp only [List.drop_succ_cons, List.drop_zero]
          go_wp2_with fail
          refine (rdouble_any X d HD.out.2 HD.out.1 w9).mono ?_
          rintro e w10 ⟨u2, rfl, ho10, hb10⟩
          obtain ⟨yl, hyl⟩ : ∃ n, n = (1 :: (X ++ d)).length := ⟨_, rfl⟩
          obtain ⟨ya, yc, rfl, -⟩ := ho10.rdz hyl.symm
          obtain ⟨W11, hW11⟩ : ∃ W11, W11 = w10.alloc (.cells #[.slice ya yl yc] 22) := ⟨_, rfl⟩
          have hb11 : Below w10.heap.size w10 W11 := by rw [hW11]; exact (Below.refl _ w10).alloc (Nat.le_refl _) _
          have I11 := Lib.hid ((I9.out.below hb10 (Nat.le_refl _)).below hb11 (Nat.le_refl _))
          have O11 := Lib.hid ((ho10.below hb11 (Nat.le_refl _)).mono (show w1.heap.size ≤ w9.heap.size from Hb9.out.size))
          have G11 : Hid (Blk W11 w10.heap.size 22 #[.slice ya yl yc]) := Lib.hid (by rw [hW11]; exact heap_new w10 _)
          have B11 : Hid (Below w1.heap.size w1 W11) := Lib.hid ((Hb9.out.trans (hb10.mono Hb9.out.size)).trans (hb11.mono (by have := Hb9.out.size; have := hb10.size; omega)))
          have HW11 := Lib.hid hW11
          have RW : Hid (W11.ownsRow w1.heap.size 22 1 (.slice (some ⟨g, 0, none⟩) K1 vc) K1 (ms.map (·.v))) := Lib.hid (by have h := I11.out.row; rw [← HK1.out] at h; exact h)
          have hsz := B11.out.size
          have HYl := Lib.hid hyl
          clear hb10 hb11 ho10 hW11 hyl
          go_wp2_with (rw [← HW11.out]; refine wpList_append_one rfl (.tmp 58) (.tmp 65) 55 rfl w1.heap.size 22 i0 (.slice none 0 0) 1 24 Try.underlying55 HI.out HZ.out.1 HZ.out.2.1 HZ.out.2.2 rfl (by omega) (.slice (some ⟨g, 0, none⟩) K1 vc) K1 (ms.map (·.v)) rfl RW.out w10.heap.size #[.slice ya yl yc] rfl G11.out rfl (by kernel_rfl) (by omega) (by unfold maxLen; omega) hsz ?_; intro v12 w12 ho12 hg12; have I12 := Lib.hid (ins_more I11.out O11.out HK1.out ho12 hg12); have B12 := Lib.hid (B11.out.grown hg12 hsz (fun j hj => (RW.out.lt j hj).1)); clear ho12 hg12)
          go_roundw
          case rel => exact ⟨k + 1, _, by omega, by go_num, I12.out, by rw [List.map_append, Hms.out, insN_next ss leaf ds k false d mx Hss.out Hds.out Hlast.out, ← HX.out]; rfl, B12.out⟩
          case measure => simp [intOf]; omega
    · obtain rfl : k = p := by omega
      have HI4 := Lib.hid hI
      have Hms := Lib.hid hms
      have Hbw := Lib.hid (Hb.out.trans (hbw.mono Hb.out.size))
      clear hI hms hbw hrow1 hvg hK1
      go_wp2_with fail
      go_ret2
      exact ⟨_, ms, rfl, HI4.out.mono Hb.out.size, Hms.out, Hbw.out⟩
end Go.Proofs.Ytnlblmghhkmbbaa

/- The reference's node and Root. -/
namespace Go.Proofs.Ytnlblmghhkmbbaa
set_option linter.unusedVariables false
open Go.RowKit Go.Shelf

/-- The node of some leaves. -/
def nodeV (l : List (List Int)) : List Int := if l.length = 0 then digestV [2] else rootV l
theorem nodeV_dig (l : List (List Int)) : Dig (nodeV l) := by unfold nodeV; split; exact digestV_dig _; exact rootV_dig _
theorem nodeV_pos (l : List (List Int)) (h : 0 < l.length) : nodeV l = rootV l := by unfold nodeV; rw [if_neg (by omega)]
def RnodePost (d : List Int) (w : World) (e : Ending) (w' : World) : Prop := e = .returned (.agg (digC d)) ∧ Below w.heap.size w w'
theorem boxD (w : World) : ∃ W1, w.alloc (.cells #[.int .u8 0, .int .u8 0, .int .u8 0, .int .u8 0, .int .u8 0, .int .u8 0, .int .u8 0, .int .u8 0, .int .u8 0, .int .u8 0, .int .u8 0, .int .u8 0, .int .u8 0, .int .u8 0, .int .u8 0, .int .u8 0] 47) = W1 ∧ Blk W1 w.heap.size 47 (digC (List.replicate 16 0)) ∧ Below w.heap.size w W1 ∧ W1.heap.size = w.heap.size + 1 := by
  refine ⟨_, rfl, ?_, (Below.refl _ w).alloc (Nat.le_refl _) _, by simp⟩
  rw [← zlit]; exact heap_new w _
theorem zsize' (D : List Int) (hD : D.length = 16) : (digC (List.replicate 16 0)).size = (digC D).size := by rw [digC_size, digC_size, hD]; rfl
attribute [local irreducible] digestV rootV halfV
set_option maxRecDepth 100000 in
set_option maxHeartbeats 4000000 in
theorem rnode_nil (a : Option Addr) (cap : Nat) (w : World) :
    Calls Try.prog 68 #[.slice a 0 cap] w (RnodePost (digestV [2]) w) := by
  obtain ⟨W1, hW1, hR1, hb1, hs1⟩ := boxD w
  obtain ⟨W2, hW2⟩ : ∃ W2, W2 = W1.alloc (.cells #[.int .u8 2] 5) := ⟨_, rfl⟩
  have hb2 : Below W1.heap.size W1 W2 := by rw [hW2]; exact (Below.refl _ W1).alloc (Nat.le_refl _) _
  have hO2 : Blk W2 W1.heap.size 5 #[.int .u8 2] := by rw [hW2]; exact heap_new W1 _
  have hr2 := byte_rd hO2 (by omega)
  have HR2 : Hid (Blk W2 w.heap.size 47 (digC (List.replicate 16 0))) := Lib.hid (hR1.below hb2 (by omega))
  have Hbw2 : Hid (Below w.heap.size w W2) := Lib.hid (hb1.trans (hb2.mono (by omega)))
  have Hr2 := Lib.hid hr2
  have HW1 := Lib.hid hW1
  have HW2 := Lib.hid hW2
  clear hW1 hs1 hR1 hb1 hb2 hO2 hr2 hW2
  go_enter Try.func68, Try.ntmps68
  go_upto_region 1 with fail
  rw [HW1.out]
  go_wp2_with fail
  rw [← HW2.out]
  refine (rdigest_any _ 1 1 [2] W2 Hr2.out (by omega)).mono ?_
  rintro e w3 ⟨rfl, hb3⟩
  obtain ⟨d, hd⟩ : ∃ d, d = digestV [2] := ⟨_, rfl⟩
  rw [← hd]
  have hdl : d.length = 16 := by rw [hd]; exact digestV_len _
  have HR3 : Hid (Blk w3 w.heap.size 47 (digC (List.replicate 16 0))) := Lib.hid (HR2.out.below hb3 HR2.out.lt)
  have Hbw3 : Hid (Below w.heap.size w w3) := Lib.hid (Hbw2.out.trans (hb3.mono Hbw2.out.size))
  have hrw := HR3.out.lt
  have z1 := Try.sizeDig d hdl
  have z2 := zsize' d hdl
  have z3 := digC_one d
  have Hd := Lib.hid hd
  clear hb3 hd hdl HR2 Hbw2 Hr2 HW1 HW2
  go_wp2_with (refine wpList_store_row rfl 47 (.tmp 2) (.tmp 8) rfl w.heap.size (digC d) rfl rfl 47 (digC (List.replicate 16 0)) HR3.out z1 z2 z3 ?_)
  refine bodyPost_ret (v := .agg (digC d)) ?_ rfl ⟨by rw [Hd.out], Hbw3.out.trans (below_setRow _ _ _ _ (Nat.le_refl _))⟩
  exact results_cell_row rfl _ _ w.heap.size 47 _ (0, 0) _ rfl (setRow_heap _ _ _ _ _ _ HR3.out) Try.underlying47 rfl z1
set_option maxRecDepth 100000 in
set_option maxHeartbeats 4000000 in
theorem rnode_one (a : Option Addr) (cap : Nat) (ps : List Pc) (w : World) (h : RdP w a 1 cap ps) (hs : ∀ p ∈ ps, p.len ≤ 140737488354000) :
    Calls Try.prog 68 #[.slice a 1 cap] w (RnodePost (rootV (lvs ps)) w) := by
  obtain ⟨b, off, rfl, hcell⟩ := h.hr (by omega)
  have hl := h.hl
  obtain ⟨p, rfl⟩ : ∃ p, ps = [p] := List.length_eq_one_iff.1 hl
  have hp := h.hb p (by simp)
  have hps := hs p (by simp)
  obtain ⟨pa, pl, pc, px⟩ := p
  have hc0 := hcell 0 (by simp)
  simp only [List.getElem_cons_zero, Nat.add_zero] at hc0
  simp only at hp hps
  have hdv : rootV (lvs [⟨pa, pl, pc, px⟩]) = digestV (0 :: px) := rootV_one px
  rw [hdv]
  have hpx := hp.hl
  obtain ⟨W1, hW1, hR1, hb1, hs1⟩ := boxD w
  have hlt := World.block_lt_of_cell? w _ hc0
  have hc1 : W1.cell? ⟨b, off, none⟩ = some (.slice pa pl pc) := (hb1.cell (p := ⟨b, off, none⟩) hlt).trans hc0
  have HW1 := Lib.hid hW1
  have Hs1 := Lib.hid hs1
  have HR1 := Lib.hid hR1
  have Hb1 := Lib.hid hb1
  have Hp1 := Lib.hid (hp.below hb1 (Nat.le_refl _))
  clear hW1 hs1 hR1 hb1 hp hc0 hcell hlt h hs hl hdv
  go_enter Try.func68, Try.ntmps68
  go_upto_region 1 with fail
  rw [HW1.out]
  go_wp2_with fail
  refine (rsingle_any pa pl pc px W1 Hp1.out (by omega)).mono ?_
  rintro e w2 ⟨v, rfl, ho2, hb2⟩
  obtain ⟨m, hm⟩ : ∃ m, m = (0 :: px).length := ⟨_, rfl⟩
  have hml : m ≤ 140737488355000 := by rw [hm, List.length_cons]; omega
  obtain ⟨ca, cc, rfl, hr2⟩ := ho2.rdz hm.symm
  have HR2 : Hid (Blk w2 w.heap.size 47 (digC (List.replicate 16 0))) := Lib.hid (HR1.out.below hb2 (by rw [Hs1.out]; omega))
  have Hbw2 : Hid (Below w.heap.size w w2) := Lib.hid (Hb1.out.trans (hb2.mono (by rw [Hs1.out]; omega)))
  have Hr2 := Lib.hid hr2
  clear hb2 ho2 hm hr2 HR1 Hb1 HW1 Hp1 hc1
  go_wp2_with fail
  refine (rdigest_any ca m cc (0 :: px) w2 Hr2.out hml).mono ?_
  rintro e w3 ⟨rfl, hb3⟩
  obtain ⟨d, hd⟩ : ∃ d, d = digestV (0 :: px) := ⟨_, rfl⟩
  rw [← hd]
  have hdl : d.length = 16 := by rw [hd]; exact digestV_len _
  have HR3 : Hid (Blk w3 w.heap.size 47 (digC (List.replicate 16 0))) := Lib.hid (HR2.out.below hb3 HR2.out.lt)
  have Hbw3 : Hid (Below w.heap.size w w3) := Lib.hid (Hbw2.out.trans (hb3.mono Hbw2.out.size))
  have hrw := HR3.out.lt
  have z1 := Try.sizeDig d hdl
  have z2 := zsize' d hdl
  have z3 := digC_one d
  have Hd := Lib.hid hd
  clear hb3 hd hdl HR2 Hbw2 Hr2
  go_wp2_with (refine wpList_store_row rfl 47 (.tmp 2) (.tmp 16) rfl w.heap.size (digC d) rfl rfl 47 (digC (List.replicate 16 0)) HR3.out z1 z2 z3 ?_)
  refine bodyPost_ret (v := .agg (digC d)) ?_ rfl ⟨by rw [Hd.out], Hbw3.out.trans (below_setRow _ _ _ _ (Nat.le_refl _))⟩
  exact results_cell_row rfl _ _ w.heap.size 47 _ (0, 0) _ rfl (setRow_heap _ _ _ _ _ _ HR3.out) Try.underlying47 rfl z1
set_option maxRecDepth 100000 in
set_option maxHeartbeats 4000000 in
theorem rnode_two (a : Option Addr) (len cap : Nat) (ps : List Pc) (w : World) (h : RdP w a len cap ps) (hs : ∀ p ∈ ps, p.len ≤ 140737488354000) (h2 : 2 ≤ len) (hm : len ≤ 4096)
    (ih : ∀ (a : Option Addr) (len' cap : Nat) (ps : List Pc) (w : World), RdP w a len' cap ps → (∀ p ∈ ps, p.len ≤ 140737488354000) → 1 ≤ len' → len' < len → Calls Try.prog 68 #[.slice a len' cap] w (RnodePost (rootV (lvs ps)) w)) :
    Calls Try.prog 68 #[.slice a len cap] w (RnodePost (rootV (lvs ps)) w) := by
  obtain ⟨b, off, rfl, -⟩ := h.hr (by omega)
  have hl := h.hl
  have hlc := h.hc
  have hcm := h.hm
  obtain ⟨b1, b2, b3⟩ := halfV_bd len h2 hm
  obtain ⟨k, hk⟩ : ∃ k, k = halfV len := ⟨_, rfl⟩
  rw [← hk] at b1 b2 b3
  have hll : (lvs ps).length = len := by unfold lvs; rw [List.length_map, hl]
  have hdv := rootV_two (lvs ps) (by omega) (by omega)
  rw [hll, ← hk] at hdv
  have ht : (lvs ps).take k = lvs ((ps.drop 0).take k) := by unfold lvs; rw [List.drop_zero, List.map_take]
  have hd' : (lvs ps).drop k = lvs ((ps.drop k).take (len - k)) := by
    unfold lvs; rw [List.take_of_length_le (by rw [List.length_drop]; omega), List.map_drop]
  rw [ht, hd'] at hdv
  have hp1 := fun (w' : World) (hb : Below w.heap.size w w') => (h.below hb (Nat.le_refl _)).part 0 k cap (by omega) (by omega) hcm
  have hp2 := fun (w' : World) (hb : Below w.heap.size w w') => (h.below hb (Nat.le_refl _)).part k (len - k) (cap - k) (by omega) (by omega) (by omega)
  have hs1 : ∀ p ∈ (ps.drop 0).take k, p.len ≤ 140737488354000 := fun p hp => hs p (List.mem_of_mem_drop (List.mem_of_mem_take hp))
  have hs2 : ∀ p ∈ (ps.drop k).take (len - k), p.len ≤ 140737488354000 := fun p hp => hs p (List.mem_of_mem_drop (List.mem_of_mem_take hp))
  obtain ⟨d1, hd1⟩ : ∃ d, d = rootV (lvs ((ps.drop 0).take k)) := ⟨_, rfl⟩
  obtain ⟨d2, hd2⟩ : ∃ d, d = rootV (lvs ((ps.drop k).take (len - k))) := ⟨_, rfl⟩
  have g1 : Dig d1 := by rw [hd1]; exact rootV_dig _
  have g2 : Dig d2 := by rw [hd2]; exact rootV_dig _
  rw [← hd1, ← hd2] at hdv
  have ih1 : ∀ (w' : World), Below w.heap.size w w' → Calls Try.prog 68 #[.slice (some ⟨b, off, none⟩) k cap] w' (RnodePost d1 w') := by
    intro w' hb
    rw [hd1]
    exact ih _ k cap _ w' (hp1 w' hb) hs1 b1 b2
  have ih2 : ∀ (w' : World), Below w.heap.size w w' → Calls Try.prog 68 #[.slice (some ⟨b, off + k, none⟩) (len - k) (cap - k)] w' (RnodePost d2 w') := by
    intro w' hb
    rw [hd2]
    exact ih _ (len - k) (cap - k) _ w' (hp2 w' hb) hs2 (by omega) (by omega)
  rw [hdv]
  obtain ⟨W1, hW1, hR1, hb1, hz1⟩ := boxD w
  have hn0 : ((len : Int) == 0) = false := by simp; omega
  have hn1 : ((len : Int) == 1) = false := by simp; omega
  have hck : (cap = k) = False := eq_false (by omega)
  have hk0 : (0 : Int) ≤ (k : Int) := by omega
  have hkl : (k : Int) ≤ (len : Int) := by omega
  have hkc : (k : Int) ≤ (cap : Int) := by omega
  have HW1 := Lib.hid hW1
  have Hz1 := Lib.hid hz1
  have HR1 := Lib.hid hR1
  have Hb1 := Lib.hid hb1
  have I1 := Lib.hid ih1
  have I2 := Lib.hid ih2
  have G1 := Lib.hid g1
  have G2 := Lib.hid g2
  have Hk := Lib.hid hk
  clear hW1 hz1 hR1 hb1 ih1 ih2 g1 g2 hd1 hd2 hp1 hp2 hs1 hs2 ht hd' hdv hll hl ih h hs hk
  go_enter Try.func68, Try.ntmps68
  go_upto_region 1 with fail
  rw [HW1.out]
  go_wp2_with fail
  refine (rhalf_any len W1 h2 hm).mono ?_
  rintro e w2 ⟨rfl, rfl⟩
  rw [← Hk.out]
  go_wp2_with fail
  have lw : Hid (Below w.heap.size w w2.drew) := Lib.hid Hb1.out.drew
  refine wp_region_any (by kernel_rfl) ?_
  change wpAny _ _ _ _ _ _ _ (World.drew _)
  refine wpAny_take (i := 0) (v := .slice (some ⟨b, off, none⟩) len cap) rfl (by kernel_rfl) (by kernel_rfl) (by kernel_rfl) (fun _ _ _ h => h) (Or.inl ⟨by rfl, ?_⟩) ?_
  · intro w; go_simp
  refine wpAny_take (i := 1) (v := .int .i64 k) rfl (by kernel_rfl) (by kernel_rfl) (by kernel_rfl) (fun _ _ _ h => h) (Or.inl ⟨by rfl, ?_⟩) ?_
  · intro w; go_simp
  refine wpAny_take (i := 2) (v := .slice (some ⟨b, off, none⟩) k cap) rfl (by kernel_rfl) (by kernel_rfl) (by kernel_rfl) (fun _ _ _ h => h) (Or.inl ⟨by rfl, ?_⟩) ?_
  · intro w; go_simp
  refine wpAny_take (i := 4) (v := .slice (some ⟨b, off, none⟩) len cap) rfl (by kernel_rfl) (by kernel_rfl) (by kernel_rfl) (fun _ _ _ h => h) (Or.inl ⟨by rfl, ?_⟩) ?_
  · intro w; go_simp
  refine wpAny_take (i := 5) (v := .int .i64 k) rfl (by kernel_rfl) (by kernel_rfl) (by kernel_rfl) (fun _ _ _ h => h) (Or.inl ⟨by rfl, ?_⟩) ?_
  · intro w; go_simp
  refine wpAny_take (i := 6) (v := .slice (some ⟨b, off + k, none⟩) (len - k) (cap - k)) rfl (by kernel_rfl) (by kernel_rfl) (by kernel_rfl) (fun _ _ _ h => h) (Or.inl ⟨by rfl, ?_⟩) ?_
  · intro w; go_simp
  refine wpAny_ready (rs := [3]) (by kernel_rfl) (by simp) ?_
  refine AllReady.cons rfl (fun K hK => ?_) AllReady.nil
  go_simp
  refine (I1.out _ lw.out).mono ?_
  rintro e w3 ⟨rfl, hb3⟩
  refine hK _ _ ?_
  clear hK K
  have lw3 : Hid (Below w.heap.size w w3) := Lib.hid (lw.out.trans (hb3.mono lw.out.size))
  have HR3 : Hid (Blk w3 w.heap.size 47 (digC (List.replicate 16 0))) := Lib.hid ((show Blk w2.drew w.heap.size 47 (digC (List.replicate 16 0)) from HR1.out).below hb3 (by show w.heap.size < w2.heap.size; rw [Hz1.out]; omega))
  have hz3 : w.heap.size + 1 ≤ w3.heap.size := by have := hb3.size; rw [← Hz1.out]; exact this
  clear hb3 lw
  refine wpAny_ready (rs := [7]) (by kernel_rfl) (by simp) ?_
  refine AllReady.cons rfl (fun K hK => ?_) AllReady.nil
  go_simp
  refine (I2.out _ lw3.out).mono ?_
  rintro e w4 ⟨rfl, hb4⟩
  refine hK _ _ ?_
  clear hK K
  have lw4 : Hid (Below w.heap.size w w4) := Lib.hid (lw3.out.trans (hb4.mono lw3.out.size))
  have HR4 : Hid (Blk w4 w.heap.size 47 (digC (List.replicate 16 0))) := Lib.hid (HR3.out.below hb4 (by omega))
  have hz4 : w.heap.size + 1 ≤ w4.heap.size := by have := hb4.size; omega
  clear hb4 lw3 HR3 HR1 hz3
  refine any_seq (k := 8) (by rfl) (by kernel_rfl) ?_
  simp only [List.drop_succ_cons, List.drop_zero]
  go_wp2_with fail
  refine (rdouble_any d1 d2 G1.out G2.out w4).mono ?_
  rintro e w5 ⟨v, rfl, ho5, hb5⟩
  obtain ⟨m, hm⟩ : ∃ m, m = (1 :: (d1 ++ d2)).length := ⟨_, rfl⟩
  have hml : m ≤ 140737488355000 := by rw [hm, List.length_cons, List.length_append, G1.out.1, G2.out.1]; omega
  obtain ⟨ca, cc, rfl, hr5⟩ := ho5.rdz hm.symm
  have HR5 : Hid (Blk w5 w.heap.size 47 (digC (List.replicate 16 0))) := Lib.hid (HR4.out.below hb5 (by omega))
  have Hbw5 : Hid (Below w.heap.size w w5) := Lib.hid (lw4.out.trans (hb5.mono lw4.out.size))
  have Hr5 := Lib.hid hr5
  clear hb5 ho5 hm hr5 HR4 lw4 HW1 Hb1 I1 I2 G1 G2
  go_wp2_with fail
  refine (rdigest_any ca m cc _ w5 Hr5.out hml).mono ?_
  rintro e w6 ⟨rfl, hb6⟩
  obtain ⟨d, hd⟩ : ∃ d, d = digestV (1 :: (d1 ++ d2)) := ⟨_, rfl⟩
  rw [← hd]
  have hdl : d.length = 16 := by rw [hd]; exact digestV_len _
  have HR6 : Hid (Blk w6 w.heap.size 47 (digC (List.replicate 16 0))) := Lib.hid (HR5.out.below hb6 HR5.out.lt)
  have Hbw6 : Hid (Below w.heap.size w w6) := Lib.hid (Hbw5.out.trans (hb6.mono Hbw5.out.size))
  have hrw := HR6.out.lt
  have z1 := Try.sizeDig d hdl
  have z2 := zsize' d hdl
  have z3 := digC_one d
  have Hd := Lib.hid hd
  clear hb6 hd hdl HR5 Hbw5 Hr5
  go_wp2_with (refine wpList_store_row rfl 47 (.tmp 2) (.tmp 29) rfl w.heap.size (digC d) rfl rfl 47 (digC (List.replicate 16 0)) HR6.out z1 z2 z3 ?_)
  refine bodyPost_ret (v := .agg (digC d)) ?_ rfl ⟨by rw [Hd.out], Hbw6.out.trans (below_setRow _ _ _ _ (Nat.le_refl _))⟩
  exact results_cell_row rfl _ _ w.heap.size 47 _ (0, 0) _ rfl (setRow_heap _ _ _ _ _ _ HR6.out) Try.underlying47 rfl z1
theorem rnode_pos (n : Nat) : ∀ (a : Option Addr) (len cap : Nat) (ps : List Pc) (w : World), len = n → RdP w a len cap ps → (∀ p ∈ ps, p.len ≤ 140737488354000) → 1 ≤ len → len ≤ 4096 → Calls Try.prog 68 #[.slice a len cap] w (RnodePost (rootV (lvs ps)) w) := by
  induction n using Nat.strongRecOn with
  | _ n ih =>
    intro a len cap ps w hn h hs h1 hm
    by_cases h2 : len = 1
    · subst h2; exact rnode_one a cap ps w h hs
    · exact rnode_two a len cap ps w h hs (by omega) hm (fun a' len' cap' ps' w' h' hs' h1' hlt => ih len' (by omega) a' len' cap' ps' w' rfl h' hs' h1' (by omega))
set_option maxRecDepth 100000 in
set_option maxHeartbeats 4000000 in
/-- The reference's Root. -/
theorem rroot_any (a : Option Addr) (len cap : Nat) (ps : List Pc) (w : World) (h : RdP w a len cap ps) (hs : ∀ p ∈ ps, p.len ≤ 140737488354000) :
    Calls Try.prog 44 #[.slice a len cap] w fun e w' => e = .returned (.tuple #[.agg (digC (rootR (lvs ps))), .int .i64 (rootE (lvs ps))]) ∧ Below w.heap.size w w' := by
  have hl := h.hl
  have hm0 := h.hm
  have hc0 := h.hc
  unfold maxLen at hm0
  have hll : (lvs ps).length = len := by unfold lvs; rw [List.length_map, hl]
  obtain ⟨W1, hW1, hR1, hb1, hs1⟩ := boxD w
  by_cases h1 : 4096 < len
  · have e1 : rootR (lvs ps) = List.replicate 16 0 := by unfold rootR; rw [hll, if_pos h1]
    have e2 : rootE (lvs ps) = 2 := by unfold rootE; rw [hll, if_pos h1]
    rw [e1, e2, zlit]
    have g1 : (4096 : Int) < (len : Int) := by omega
    clear hW1 hs1 hR1 hb1 e1 e2 hll hl h
    go_enter Try.func44, Try.ntmps44
    go_wp2_with fail
    exact bodyPost_ret (v := .tuple #[.agg #[.int .u8 0, .int .u8 0, .int .u8 0, .int .u8 0, .int .u8 0, .int .u8 0, .int .u8 0, .int .u8 0, .int .u8 0, .int .u8 0, .int .u8 0, .int .u8 0, .int .u8 0, .int .u8 0, .int .u8 0, .int .u8 0], .int .i64 2]) (by simp [results, Try.results44, go_sem]) rfl ⟨rfl, (Below.refl _ w).alloc (Nat.le_refl _) _⟩
  · have e2 : rootE (lvs ps) = 0 := by unfold rootE; rw [hll, if_neg h1]
    have e1 : rootR (lvs ps) = nodeV (lvs ps) := by unfold rootR nodeV; rw [hll, if_neg h1]
    rw [e2, e1]
    have g1 : ¬ (4096 : Int) < (len : Int) := by omega
    have hcall : Calls Try.prog 68 #[.slice a len cap] W1 (RnodePost (nodeV (lvs ps)) W1) := by
      by_cases h0 : len = 0
      · subst h0
        have : nodeV (lvs ps) = digestV [2] := by unfold nodeV; rw [hll, if_pos rfl]
        rw [this]
        exact rnode_nil a cap W1
      · rw [nodeV_pos _ (by omega)]
        exact rnode_pos len a len cap ps W1 rfl (h.below hb1 (Nat.le_refl _)) hs (by omega) (by omega)
    have hvd := (nodeV_dig (lvs ps)).1
    obtain ⟨d, hd⟩ : ∃ d, d = nodeV (lvs ps) := ⟨_, rfl⟩
    rw [← hd] at hcall hvd ⊢
    have HW1 := Lib.hid hW1
    have HR1 := Lib.hid hR1
    have Hb1 := Lib.hid hb1
    have Hcall := Lib.hid hcall
    clear hW1 hs1 hR1 hb1 e1 e2 hll hl h hd hs hcall
    go_enter Try.func44, Try.ntmps44
    go_upto_region 1 with fail
    rw [HW1.out]
    go_wp2_with fail
    refine Hcall.out.mono ?_
    rintro e w3 ⟨rfl, hb3⟩
    have HR3 : Hid (Blk w3 w.heap.size 47 (digC (List.replicate 16 0))) := Lib.hid (HR1.out.below hb3 HR1.out.lt)
    have Hbw3 : Hid (Below w.heap.size w w3) := Lib.hid (Hb1.out.trans (hb3.mono Hb1.out.size))
    have hrw := HR3.out.lt
    have z1 := Try.sizeDig d hvd
    have z2 := zsize' d hvd
    have z3 := digC_one d
    clear hb3 hvd HR1 Hb1 HW1 Hcall
    go_wp2_with (refine wpList_store_row rfl 47 (.tmp 2) (.tmp 9) rfl w.heap.size (digC d) rfl rfl 47 (digC (List.replicate 16 0)) HR3.out z1 z2 z3 ?_)
    refine bodyPost_ret (v := .tuple #[.agg (digC d), .int .i64 0]) ?_ rfl ⟨rfl, Hbw3.out.trans (below_setRow _ _ _ _ (Nat.le_refl _))⟩
    exact results_cell_tmp (p := 2) (q := 3) rfl _ _ w.heap.size 47 _ (0, 0) _ rfl (setRow_heap _ _ _ _ _ _ HR3.out) Try.underlying47 rfl z1 _ rfl
end Go.Proofs.Ytnlblmghhkmbbaa

/- The reference's way and Prove; Prove's errors. -/
namespace Go.Proofs.Ytnlblmghhkmbbaa
set_option linter.unusedVariables false
open Go.RowKit Go.Shelf

/-- What way answers: the path of a leaf, from the bottom up. -/
def RwayPost (P : List (List Int)) (w : World) (e : Ending) (w' : World) : Prop := ∃ v, e = .returned v ∧ w'.ownsRow w.heap.size 47 16 v P.length (digsC P) ∧ Below w.heap.size w w'
theorem wayV_dig (l : List (List Int)) (i : Nat) : ∀ d ∈ (proveV l i).reverse, Dig d := fun d hd => proveL_dig l.length l i d (by unfold proveV at hd; exact List.mem_reverse.1 hd)
theorem wayV_len (l : List (List Int)) (i : Nat) : ((proveV l i).reverse).length ≤ l.length := by rw [List.length_reverse]; exact proveL_len l.length l i
theorem row_eq {w : World} {B : Nat} {v : Value} {P Q : List (List Int)} (h : w.ownsRow B 47 16 v P.length (digsC P)) (e : P = Q) : w.ownsRow B 47 16 v Q.length (digsC Q) := by subst e; exact h
attribute [local irreducible] digestV rootV halfV proveV
set_option maxRecDepth 100000 in
set_option maxHeartbeats 4000000 in
theorem rway_one (a : Option Addr) (cap : Nat) (i : Int) (w : World) :
    Calls Try.prog 71 #[.slice a 1 cap, .int .i64 i] w (RwayPost [] w) := by
  go_enter Try.func71, Try.ntmps71
  go_wp2_with fail
  go_ret
  exact ⟨_, rfl, World.ownsRow_nil _ _ _ _, Below.refl _ _⟩
set_option maxRecDepth 100000 in
set_option maxHeartbeats 4000000 in
theorem rway_lt (b off len cap k i : Nat) (ps : List Pc) (P : List (List Int)) (w : World) (h : RdP w (some ⟨b, off, none⟩) len cap ps) (hs : ∀ p ∈ ps, p.len ≤ 140737488354000) (h2 : 2 ≤ len) (hm : len ≤ 4096) (hk : k = halfV len) (hik : i < k) (hil : i < len) (hP : ∀ d ∈ P, Dig d) (hPl : P.length ≤ 4096)
    (hcall : ∀ (w' : World), Below w.heap.size w w' → Calls Try.prog 71 #[.slice (some ⟨b, off, none⟩) k cap, .int .i64 i] w' (RwayPost P w')) :
    Calls Try.prog 71 #[.slice (some ⟨b, off, none⟩) len cap, .int .i64 i] w (RwayPost (P ++ [rootV (lvs ((ps.drop k).take (len - k)))]) w) := by
  have hl := h.hl
  have hlc := h.hc
  have hcm := h.hm
  obtain ⟨b1, b2, b3⟩ := halfV_bd len h2 hm
  rw [← hk] at b1 b2 b3
  have hn := fun (w' : World) (hb : Below w.heap.size w w') => rnode_pos (len - k) (some ⟨b, off + k, none⟩) (len - k) (cap - k) ((ps.drop k).take (len - k)) w' rfl ((h.below hb (Nat.le_refl _)).part k (len - k) (cap - k) (by omega) (by omega) (by omega)) (fun p hp => hs p (List.mem_of_mem_drop (List.mem_of_mem_take hp))) (by omega) (by omega)
  obtain ⟨d, hd⟩ : ∃ d, d = rootV (lvs ((ps.drop k).take (len - k))) := ⟨_, rfl⟩
  have hdig : Dig d := by rw [hd]; exact rootV_dig _
  rw [← hd] at hn ⊢
  have hn1 : ((len : Int) == 1) = false := by simp; omega
  have hck : (cap = k) = False := eq_false (by omega)
  have hk0 : (0 : Int) ≤ (k : Int) := by omega
  have hkl : (k : Int) ≤ (len : Int) := by omega
  have hkc : (k : Int) ≤ (cap : Int) := by omega
  have hki : (i : Int) < (k : Int) := by omega
  have hh := rhalf_any len w h2 hm
  have HN := Lib.hid hn
  have HC := Lib.hid hcall
  have HH := Lib.hid hh
  have Hdig := Lib.hid hdig
  have Hk := Lib.hid hk
  have HP := Lib.hid hP
  have hsz := digC_size d
  rw [hdig.1] at hsz
  have Hsz := Lib.hid hsz
  have HII := Lib.hid (info_parts Try.infoG)
  clear hn hcall hh hdig hk hP hd h hs hl hsz
  go_enter Try.func71, Try.ntmps71
  go_wp2_with fail
  refine HH.out.mono ?_
  rintro e w1 ⟨rfl, rfl⟩
  rw [← Hk.out]
  go_wp2_with fail
  have lw : Hid (Below w1.heap.size w1 w1.drew) := Lib.hid (Below.refl _ _).drew
  refine wp_region_any (by kernel_rfl) ?_
  change wpAny _ _ _ _ _ _ _ (World.drew _)
  refine wpAny_take (i := 0) (v := .slice (some ⟨b, off, none⟩) len cap) rfl (by kernel_rfl) (by kernel_rfl) (by kernel_rfl) (fun _ _ _ h => h) (Or.inl ⟨by rfl, ?_⟩) ?_
  · intro w; go_simp
  refine wpAny_take (i := 1) (v := .int .i64 k) rfl (by kernel_rfl) (by kernel_rfl) (by kernel_rfl) (fun _ _ _ h => h) (Or.inl ⟨by rfl, ?_⟩) ?_
  · intro w; go_simp
  refine wpAny_take (i := 2) (v := .slice (some ⟨b, off, none⟩) k cap) rfl (by kernel_rfl) (by kernel_rfl) (by kernel_rfl) (fun _ _ _ h => h) (Or.inl ⟨by rfl, ?_⟩) ?_
  · intro w; go_simp
  refine wpAny_take (i := 3) (v := .int .i64 i) rfl (by kernel_rfl) (by kernel_rfl) (by kernel_rfl) (fun _ _ _ h => h) (Or.inl ⟨by rfl, ?_⟩) ?_
  · intro w; go_simp
  refine wpAny_take (i := 5) (v := .slice (some ⟨b, off, none⟩) len cap) rfl (by kernel_rfl) (by kernel_rfl) (by kernel_rfl) (fun _ _ _ h => h) (Or.inl ⟨by rfl, ?_⟩) ?_
  · intro w; go_simp
  refine wpAny_take (i := 6) (v := .int .i64 k) rfl (by kernel_rfl) (by kernel_rfl) (by kernel_rfl) (fun _ _ _ h => h) (Or.inl ⟨by rfl, ?_⟩) ?_
  · intro w; go_simp
  refine wpAny_take (i := 7) (v := .slice (some ⟨b, off + k, none⟩) (len - k) (cap - k)) rfl (by kernel_rfl) (by kernel_rfl) (by kernel_rfl) (fun _ _ _ h => h) (Or.inl ⟨by rfl, ?_⟩) ?_
  · intro w; go_simp
  refine wpAny_ready (rs := [4]) (by kernel_rfl) (by simp) ?_
  refine AllReady.cons rfl (fun K hK => ?_) AllReady.nil
  go_simp
  refine (HC.out _ lw.out).mono ?_
  rintro e w2 ⟨v, rfl, hrow2, hb2⟩
  refine hK _ _ ?_
  clear hK K
  obtain ⟨va, vc, rfl, -, -, -⟩ := row_slice hrow2
  have lw2 : Hid (Below w1.heap.size w1 w2) := Lib.hid (lw.out.trans (hb2.mono lw.out.size))
  have Hrow2 := Lib.hid hrow2
  clear hb2 lw hrow2
  refine wpAny_ready (rs := [8]) (by kernel_rfl) (by simp) ?_
  refine AllReady.cons rfl (fun K hK => ?_) AllReady.nil
  go_simp
  refine (HN.out _ lw2.out).mono ?_
  rintro e w3 ⟨rfl, hb3⟩
  refine hK _ _ ?_
  clear hK K
  have Hb3 : Hid (Below w1.heap.size w1 w3) := Lib.hid (lw2.out.trans (hb3.mono lw2.out.size))
  have Hrow3 : Hid (w3.ownsRow w1.heap.size 47 16 (.slice va P.length vc) P.length (digsC P)) := Lib.hid (row_below Hrow2.out hb3 (Nat.le_refl _))
  clear hb3 lw2 Hrow2
  refine any_seq (k := 9) (by rfl) (by kernel_rfl) ?_
  simp only [List.drop_succ_cons, List.drop_zero]
  go_wp2_with (first | (refine wpList_build_dig rfl (.tmp 23) rfl d Hdig.out.1 rfl ?_) | (obtain ⟨i0, hi, hz0, hz1, hz2⟩ := HII.out; refine wpList_append_one rfl (.tmp 19) (.tmp 24) 56 rfl w1.heap.size 47 i0 _ 16 16 Try.underlying56 hi hz0 hz1 hz2 rfl (by decide) (.slice va P.length vc) P.length _ rfl (Hrow3.out.alloc _) w3.heap.size (digC d) rfl (heap_new w3 _) Hsz.out (digC_one d) (by omega) (by unfold maxLen; omega) (by simp; have := Hb3.out.size; omega) ?_; clear hi hz0 hz1 hz2; intro v' w5 hrow5 hg5))
  have hvb := (Hrow3.out.alloc (.cells (digC d) 47)).lt
  go_ret
  refine ⟨v', rfl, ?_, (Hb3.out.alloc Hb3.out.size _).grown hg5 (by simp; have := Hb3.out.size; omega) (fun k e => (hvb k e).1)⟩
  rw [digsC_append, digsC_one, List.length_append, List.length_singleton]
  exact hrow5
set_option maxRecDepth 100000 in
set_option maxHeartbeats 4000000 in
theorem rway_ge (b off len cap k i : Nat) (ps : List Pc) (P : List (List Int)) (w : World) (h : RdP w (some ⟨b, off, none⟩) len cap ps) (hs : ∀ p ∈ ps, p.len ≤ 140737488354000) (h2 : 2 ≤ len) (hm : len ≤ 4096) (hk : k = halfV len) (hik : k ≤ i) (hil : i < len) (hP : ∀ d ∈ P, Dig d) (hPl : P.length ≤ 4096)
    (hcall : ∀ (w' : World), Below w.heap.size w w' → Calls Try.prog 71 #[.slice (some ⟨b, off + k, none⟩) (len - k) (cap - k), .int .i64 (i - k : Nat)] w' (RwayPost P w')) :
    Calls Try.prog 71 #[.slice (some ⟨b, off, none⟩) len cap, .int .i64 i] w (RwayPost (P ++ [rootV (lvs ((ps.drop 0).take k))]) w) := by
  have hl := h.hl
  have hlc := h.hc
  have hcm := h.hm
  obtain ⟨b1, b2, b3⟩ := halfV_bd len h2 hm
  rw [← hk] at b1 b2 b3
  have hn := fun (w' : World) (hb : Below w.heap.size w w') => rnode_pos k (some ⟨b, off, none⟩) k cap ((ps.drop 0).take k) w' rfl ((h.below hb (Nat.le_refl _)).part 0 k cap (by omega) (by omega) hcm) (fun p hp => hs p (List.mem_of_mem_drop (List.mem_of_mem_take hp))) (by omega) (by omega)
  obtain ⟨d, hd⟩ : ∃ d, d = rootV (lvs ((ps.drop 0).take k)) := ⟨_, rfl⟩
  have hdig : Dig d := by rw [hd]; exact rootV_dig _
  rw [← hd] at hn ⊢
  have hn1 : ((len : Int) == 1) = false := by simp; omega
  have hck : (cap = k) = False := eq_false (by omega)
  have hk0 : (0 : Int) ≤ (k : Int) := by omega
  have hkl : (k : Int) ≤ (len : Int) := by omega
  have hkc : (k : Int) ≤ (cap : Int) := by omega
  have hki : ¬ (i : Int) < (k : Int) := by omega
  have hsub : (i : Int) - (k : Int) = ((i - k : Nat) : Int) := by omega
  obtain ⟨t, ht⟩ : ∃ t, t = i - k := ⟨_, rfl⟩
  rw [← ht] at hsub hcall
  have htw : IntKind.i64.wrap (t : Int) = (t : Int) := IntWalk.i64_in _ (by omega)
  clear ht
  have hh := rhalf_any len w h2 hm
  have HN := Lib.hid hn
  have HC := Lib.hid hcall
  have HH := Lib.hid hh
  have Hdig := Lib.hid hdig
  have Hk := Lib.hid hk
  have HP := Lib.hid hP
  have hsz := digC_size d
  rw [hdig.1] at hsz
  have Hsz := Lib.hid hsz
  have HII := Lib.hid (info_parts Try.infoG)
  clear hn hcall hh hdig hk hP hd h hs hl hsz
  go_enter Try.func71, Try.ntmps71
  go_wp2_with fail
  refine HH.out.mono ?_
  rintro e w1 ⟨rfl, rfl⟩
  rw [← Hk.out]
  go_wp2_with fail
  have lw : Hid (Below w1.heap.size w1 w1.drew) := Lib.hid (Below.refl _ _).drew
  refine wp_region_any (by kernel_rfl) ?_
  change wpAny _ _ _ _ _ _ _ (World.drew _)
  refine wpAny_take (i := 0) (v := .slice (some ⟨b, off, none⟩) len cap) rfl (by kernel_rfl) (by kernel_rfl) (by kernel_rfl) (fun _ _ _ h => h) (Or.inl ⟨by rfl, ?_⟩) ?_
  · intro w; go_simp
  refine wpAny_take (i := 1) (v := .int .i64 k) rfl (by kernel_rfl) (by kernel_rfl) (by kernel_rfl) (fun _ _ _ h => h) (Or.inl ⟨by rfl, ?_⟩) ?_
  · intro w; go_simp
  refine wpAny_take (i := 2) (v := .slice (some ⟨b, off + k, none⟩) (len - k) (cap - k)) rfl (by kernel_rfl) (by kernel_rfl) (by kernel_rfl) (fun _ _ _ h => h) (Or.inl ⟨by rfl, ?_⟩) ?_
  · intro w; go_simp
  refine wpAny_take (i := 3) (v := .int .i64 i) rfl (by kernel_rfl) (by kernel_rfl) (by kernel_rfl) (fun _ _ _ h => h) (Or.inl ⟨by rfl, ?_⟩) ?_
  · intro w; go_simp
  refine wpAny_take (i := 4) (v := .int .i64 k) rfl (by kernel_rfl) (by kernel_rfl) (by kernel_rfl) (fun _ _ _ h => h) (Or.inl ⟨by rfl, ?_⟩) ?_
  · intro w; go_simp
  refine wpAny_take (i := 5) (v := .int .i64 t) rfl (by kernel_rfl) (by kernel_rfl) (by kernel_rfl) (fun _ _ _ h => h) (Or.inl ⟨by rfl, ?_⟩) ?_
  · intro w; go_simp
  refine wpAny_take (i := 7) (v := .slice (some ⟨b, off, none⟩) len cap) rfl (by kernel_rfl) (by kernel_rfl) (by kernel_rfl) (fun _ _ _ h => h) (Or.inl ⟨by rfl, ?_⟩) ?_
  · intro w; go_simp
  refine wpAny_take (i := 8) (v := .int .i64 k) rfl (by kernel_rfl) (by kernel_rfl) (by kernel_rfl) (fun _ _ _ h => h) (Or.inl ⟨by rfl, ?_⟩) ?_
  · intro w; go_simp
  refine wpAny_take (i := 9) (v := .slice (some ⟨b, off, none⟩) k cap) rfl (by kernel_rfl) (by kernel_rfl) (by kernel_rfl) (fun _ _ _ h => h) (Or.inl ⟨by rfl, ?_⟩) ?_
  · intro w; go_simp
  refine wpAny_ready (rs := [6]) (by kernel_rfl) (by simp) ?_
  refine AllReady.cons rfl (fun K hK => ?_) AllReady.nil
  go_simp
  refine (HC.out _ lw.out).mono ?_
  rintro e w2 ⟨v, rfl, hrow2, hb2⟩
  refine hK _ _ ?_
  clear hK K
  obtain ⟨va, vc, rfl, -, -, -⟩ := row_slice hrow2
  have lw2 : Hid (Below w1.heap.size w1 w2) := Lib.hid (lw.out.trans (hb2.mono lw.out.size))
  have Hrow2 := Lib.hid hrow2
  clear hb2 lw hrow2
  refine wpAny_ready (rs := [10]) (by kernel_rfl) (by simp) ?_
  refine AllReady.cons rfl (fun K hK => ?_) AllReady.nil
  go_simp
  refine (HN.out _ lw2.out).mono ?_
  rintro e w3 ⟨rfl, hb3⟩
  refine hK _ _ ?_
  clear hK K
  have Hb3 : Hid (Below w1.heap.size w1 w3) := Lib.hid (lw2.out.trans (hb3.mono lw2.out.size))
  have Hrow3 : Hid (w3.ownsRow w1.heap.size 47 16 (.slice va P.length vc) P.length (digsC P)) := Lib.hid (row_below Hrow2.out hb3 (Nat.le_refl _))
  clear hb3 lw2 Hrow2
  refine any_seq (k := 11) (by rfl) (by kernel_rfl) ?_
  simp only [List.drop_succ_cons, List.drop_zero]
  go_wp2_with (first | (refine wpList_build_dig rfl (.tmp 36) rfl d Hdig.out.1 rfl ?_) | (obtain ⟨i0, hi, hz0, hz1, hz2⟩ := HII.out; refine wpList_append_one rfl (.tmp 32) (.tmp 37) 56 rfl w1.heap.size 47 i0 _ 16 16 Try.underlying56 hi hz0 hz1 hz2 rfl (by decide) (.slice va P.length vc) P.length _ rfl (Hrow3.out.alloc _) w3.heap.size (digC d) rfl (heap_new w3 _) Hsz.out (digC_one d) (by omega) (by unfold maxLen; omega) (by simp; have := Hb3.out.size; omega) ?_; clear hi hz0 hz1 hz2; intro v' w5 hrow5 hg5))
  have hvb := (Hrow3.out.alloc (.cells (digC d) 47)).lt
  go_ret
  refine ⟨v', rfl, ?_, (Hb3.out.alloc Hb3.out.size _).grown hg5 (by simp; have := Hb3.out.size; omega) (fun k e => (hvb k e).1)⟩
  rw [digsC_append, digsC_one, List.length_append, List.length_singleton]
  exact hrow5
theorem rway_any (n : Nat) : ∀ (a : Option Addr) (len cap i : Nat) (ps : List Pc) (w : World), len = n → RdP w a len cap ps → (∀ p ∈ ps, p.len ≤ 140737488354000) → len ≤ 4096 → i < len →
    Calls Try.prog 71 #[.slice a len cap, .int .i64 i] w (RwayPost (proveV (lvs ps) i).reverse w) := by
  induction n using Nat.strongRecOn with
  | _ n ih =>
    intro a len cap i ps w hn h hs hm hi
    have hl := h.hl
    have hll : (lvs ps).length = len := by unfold lvs; rw [List.length_map, hl]
    by_cases h1 : len = 1
    · subst h1
      rw [proveV_one _ _ (by omega), List.reverse_nil]
      exact rway_one a cap i w
    · obtain ⟨b, off, rfl, -⟩ := h.hr (by omega)
      obtain ⟨b1, b2, b3⟩ := halfV_bd len (by omega) hm
      obtain ⟨k, hk⟩ : ∃ k, k = halfV len := ⟨_, rfl⟩
      rw [← hk] at b1 b2 b3
      have hlc := h.hc
      have hcm := h.hm
      have hp := proveV_two (lvs ps) i (by omega) (by omega)
      rw [hll, ← hk] at hp
      have ht : (lvs ps).take k = lvs ((ps.drop 0).take k) := by unfold lvs; rw [List.drop_zero, List.map_take]
      have hd' : (lvs ps).drop k = lvs ((ps.drop k).take (len - k)) := by
        unfold lvs; rw [List.take_of_length_le (by rw [List.length_drop]; omega), List.map_drop]
      rw [ht, hd'] at hp
      have hs1 : ∀ p ∈ (ps.drop 0).take k, p.len ≤ 140737488354000 := fun p hp => hs p (List.mem_of_mem_drop (List.mem_of_mem_take hp))
      have hs2 : ∀ p ∈ (ps.drop k).take (len - k), p.len ≤ 140737488354000 := fun p hp => hs p (List.mem_of_mem_drop (List.mem_of_mem_take hp))
      have l1 : (lvs ((ps.drop 0).take k)).length = k := by unfold lvs; rw [List.length_map, List.length_take, List.length_drop]; omega
      have l2 : (lvs ((ps.drop k).take (len - k))).length = len - k := by unfold lvs; rw [List.length_map, List.length_take, List.length_drop]; omega
      by_cases hki : k ≤ i
      · rw [if_pos hki] at hp
        rw [hp, List.reverse_cons]
        refine rway_ge b off len cap k i ps _ w h hs (by omega) hm hk hki hi (wayV_dig _ _) (by have := wayV_len (lvs ((ps.drop k).take (len - k))) (i - k); omega) (fun w' hb => ?_)
        exact ih (len - k) (by omega) _ (len - k) (cap - k) (i - k) _ w' rfl ((h.below hb (Nat.le_refl _)).part k (len - k) (cap - k) (by omega) (by omega) (by omega)) hs2 (by omega) (by omega)
      · rw [if_neg hki] at hp
        rw [hp, List.reverse_cons]
        refine rway_lt b off len cap k i ps _ w h hs (by omega) hm hk (by omega) hi (wayV_dig _ _) (by have := wayV_len (lvs ((ps.drop 0).take k)) i; omega) (fun w' hb => ?_)
        exact ih k (by omega) _ k cap i _ w' rfl ((h.below hb (Nat.le_refl _)).part 0 k cap (by omega) (by omega) hcm) hs1 (by omega) (by omega)
/-- The error of Prove. -/
def provesE (n i : Int) : Int := if 4096 < n then 2 else if i < 0 ∨ n ≤ i then 3 else 0
set_option maxRecDepth 100000 in
set_option maxHeartbeats 4000000 in
theorem rprove_ok (a : Option Addr) (len cap i : Nat) (ps : List Pc) (w : World) (h : RdP w a len cap ps) (hs : ∀ p ∈ ps, p.len ≤ 140737488354000) (hm : len ≤ 4096) (hi : i < len) :
    Calls Try.prog 46 #[.slice a len cap, .int .i64 i] w fun e w' => ∃ v, e = .returned (.tuple #[v, .int .i64 0]) ∧ w'.ownsRow w.heap.size 47 16 v (proveV (lvs ps) i).reverse.length (digsC (proveV (lvs ps) i).reverse) ∧ Below w.heap.size w w' := by
  have g1 : ¬ (4096 : Int) < (len : Int) := by omega
  have g2 : ¬ ((i : Int) < 0) := by omega
  have g3 : ¬ ((len : Int) ≤ (i : Int)) := by omega
  have HC := Lib.hid (rway_any len a len cap i ps w rfl h hs hm hi)
  clear h hs hi
  go_enter Try.func46, Try.ntmps46
  go_wp2_with fail
  refine HC.out.mono ?_
  rintro e w1 ⟨v, rfl, hrow, hb⟩
  have Hrow := Lib.hid hrow
  have Hb := Lib.hid hb
  clear hrow hb HC
  go_wp2_with fail
  go_ret2
  exact ⟨_, rfl, Hrow.out, Hb.out⟩
set_option maxRecDepth 100000 in
set_option maxHeartbeats 4000000 in
theorem rprove_err (a : Option Addr) (len cap : Nat) (i : Int) (w : World) (h : provesE len i ≠ 0) :
    Calls Try.prog 46 #[.slice a len cap, .int .i64 i] w fun e w' => e = .returned (.tuple #[.slice none 0 0, .int .i64 (provesE len i)]) ∧ Below w.heap.size w w' := by
  have hc : 4096 < (len : Int) ∨ (¬ 4096 < (len : Int) ∧ i < 0) ∨ (¬ 4096 < (len : Int) ∧ ¬ i < 0 ∧ (len : Int) ≤ i) := by unfold provesE at h; split at h <;> first | omega | (split at h <;> omega)
  rcases hc with h1 | ⟨h1, h2⟩ | ⟨h1, h2, h3⟩
  · have he := Lib.hid (show provesE len i = 2 by unfold provesE; rw [if_pos h1])
    clear h
    go_enter Try.func46, Try.ntmps46
    go_wp2_with fail
    go_ret2
    exact ⟨by rw [he.out]; rfl, Below.refl _ _⟩
  · have he := Lib.hid (show provesE len i = 3 by unfold provesE; rw [if_neg h1, if_pos (by omega)])
    clear h
    go_enter Try.func46, Try.ntmps46
    go_wp2_with fail
    go_ret2
    exact ⟨by rw [he.out]; rfl, Below.refl _ _⟩
  · have he := Lib.hid (show provesE len i = 3 by unfold provesE; rw [if_neg h1, if_pos (by omega)])
    clear h
    go_enter Try.func46, Try.ntmps46
    go_wp2_with fail
    go_ret2
    exact ⟨by rw [he.out]; rfl, Below.refl _ _⟩
set_option maxRecDepth 100000 in
set_option maxHeartbeats 4000000 in
theorem prove_err (a : Option Addr) (len cap : Nat) (i : Int) (w : World) (h : provesE len i ≠ 0) :
    Calls Try.prog 45 #[.slice a len cap, .int .i64 i] w fun e w' => e = .returned (.tuple #[.slice none 0 0, .int .i64 (provesE len i)]) ∧ Below w.heap.size w w' := by
  have hc : 4096 < (len : Int) ∨ (¬ 4096 < (len : Int) ∧ i < 0) ∨ (¬ 4096 < (len : Int) ∧ ¬ i < 0 ∧ (len : Int) ≤ i) := by unfold provesE at h; split at h <;> first | omega | (split at h <;> omega)
  rcases hc with h1 | ⟨h1, h2⟩ | ⟨h1, h2, h3⟩
  · have he := Lib.hid (show provesE len i = 2 by unfold provesE; rw [if_pos h1])
    clear h
    go_enter Try.func45, Try.ntmps45
    go_wp2_with fail
    go_ret2
    exact ⟨by rw [he.out]; rfl, Below.refl _ _⟩
  · have he := Lib.hid (show provesE len i = 3 by unfold provesE; rw [if_neg h1, if_pos (by omega)])
    clear h
    go_enter Try.func45, Try.ntmps45
    go_wp2_with fail
    go_ret2
    exact ⟨by rw [he.out]; rfl, Below.refl _ _⟩
  · have he := Lib.hid (show provesE len i = 3 by unfold provesE; rw [if_neg h1, if_pos (by omega)])
    clear h
    go_enter Try.func45, Try.ntmps45
    go_wp2_with fail
    go_ret2
    exact ⟨by rw [he.out]; rfl, Below.refl _ _⟩
end Go.Proofs.Ytnlblmghhkmbbaa

/- The reference's Above and Check. -/
namespace Go.Proofs.Ytnlblmghhkmbbaa
set_option linter.unusedVariables false
open Go.RowKit Go.Shelf

def InsP (l : List (List Int)) (w : World) (e : Ending) (w' : World) : Prop := ∃ v ms, e = .returned (.tuple #[v, .int .i64 0]) ∧ Ins w' w.heap.size v ms ∧ ms.map (·.xs) = l ∧ Below w.heap.size w w'
/-- Inputs, for every path. -/
theorem rinputs_all (n i : Nat) (la : Option Addr) (ll lc : Nat) (leaf : List Int) (a : Option Addr) (p cap : Nat) (ds : List (List Int)) (w : World) (hm : n ≤ 4096) (hi : i < n) (hl : Rd w la ll lc leaf) (hll : ll ≤ 1000) (hp : RdG w a p cap ds) (hpp : p ≤ 50) :
    (∀ l, climbV n i leaf ds = some l → Calls Try.prog 73 #[.int .i64 n, .int .i64 i, .slice la ll lc, .slice a p cap] w (InsP l w)) ∧
    (climbV n i leaf ds = none → Calls Try.prog 73 #[.int .i64 n, .int .i64 i, .slice la ll lc, .slice a p cap] w fun e w' => e = .returned (.tuple #[.slice none 0 0, .int .i64 22]) ∧ Below w.heap.size w w') := by
  have hc := climb_ins n n i leaf ds (Nat.le_refl _) (by omega) hm
  have hpl := hp.hl
  constructor
  · intro l h
    have h' : climbN n n i leaf ds = some l := h
    rw [hc] at h'
    split at h'
    · rename_i heq
      simp only [Option.some.injEq] at h'
      rw [← h', hpl]
      exact rinputs_ok n i la ll lc leaf a p cap ds w hm hi hl (by omega) hp (by omega)
    · cases h'
  · intro h
    have h' : climbN n n i leaf ds = none := h
    rw [hc] at h'
    split at h'
    · cases h'
    · rename_i hne
      exact rinputs_len n i (.slice la ll lc) a p cap w hm hi (by omega) (by omega)
section
attribute [local irreducible] digestV rootV halfV climbV
set_option maxRecDepth 100000 in
set_option maxHeartbeats 4000000 in
theorem rabove_err (n i : Int) (leaf path : Value) (w : World) (E : Int) (hE : E ≠ 0)
    (hcall : ∀ w', Below w.heap.size w w' → Calls Try.prog 73 #[.int .i64 n, .int .i64 i, leaf, path] w' fun e w'' => e = .returned (.tuple #[.slice none 0 0, .int .i64 E]) ∧ Below w'.heap.size w' w'') :
    Calls Try.prog 49 #[.int .i64 n, .int .i64 i, leaf, path] w fun e w' => e = .returned (.tuple #[.agg (digC (List.replicate 16 0)), .int .i64 E]) ∧ Below w.heap.size w w' := by
  obtain ⟨W1, hW1⟩ : ∃ W1, W1 = w.alloc (.cells (digC (List.replicate 16 0)) 47) := ⟨_, rfl⟩
  have hR1 : Blk W1 w.heap.size 47 (digC (List.replicate 16 0)) := by rw [hW1]; exact heap_new w _
  have hb1 : Below w.heap.size w W1 := by rw [hW1]; exact (Below.refl _ w).alloc (Nat.le_refl _) _
  rw [zlit] at hW1
  have HW1 := Lib.hid hW1
  have HR1 := Lib.hid hR1
  have Hb1 := Lib.hid hb1
  have Hc := Lib.hid (hcall W1 hb1)
  have hne : (E == 0) = false := by simp [hE]
  have hne2 : (E != 0) = true := by simp [hE]
  clear hW1 hR1 hb1 hcall hE
  go_enter Try.func49, Try.ntmps49
  go_upto_region 1 with fail
  rw [← HW1.out]
  go_wp2_with fail
  refine Hc.out.mono ?_
  rintro e w2 ⟨rfl, hb2⟩
  have HR2 : Hid (Blk w2 w.heap.size 47 (digC (List.replicate 16 0))) := Lib.hid (HR1.out.below hb2 HR1.out.lt)
  have Hb2 : Hid (Below w.heap.size w w2) := Lib.hid (Hb1.out.trans (hb2.mono Hb1.out.size))
  have hrw := HR2.out.lt
  have z1 := Try.sizeDig (List.replicate 16 0) (by simp)
  have z3 : (digC (List.replicate 16 0)).all (fun x => x.oneCell') = true := digC_one _
  clear hb2 HR1 Hb1 HW1 Hc
  go_wp2_with (refine wpList_store_row rfl 47 (.tmp 8) (.tmp 22) rfl w.heap.size (digC (List.replicate 16 0)) rfl rfl 47 (digC (List.replicate 16 0)) HR2.out z1 rfl z3 ?_)
  refine bodyPost_ret (v := .tuple #[.agg (digC (List.replicate 16 0)), .int .i64 E]) ?_ rfl ⟨rfl, Hb2.out.trans (below_setRow _ _ _ _ (Nat.le_refl _))⟩
  exact results_cell_tmp (p := 8) (q := 9) rfl _ _ w.heap.size 47 _ (0, 0) _ rfl (setRow_heap _ _ _ _ _ _ HR2.out) Try.underlying47 rfl z1 _ rfl
set_option maxRecDepth 100000 in
set_option maxHeartbeats 4000000 in
theorem rabove_some (n i : Int) (leaf path : Value) (w : World) (l : List (List Int)) (hl : l ≠ []) (hlen : l.length ≤ 4096) (hsm : ∀ x ∈ l, x.length ≤ 140737488354000)
    (hcall : ∀ w', Below w.heap.size w w' → Calls Try.prog 73 #[.int .i64 n, .int .i64 i, leaf, path] w' (InsP l w')) :
    Calls Try.prog 49 #[.int .i64 n, .int .i64 i, leaf, path] w fun e w' => e = .returned (.tuple #[.agg (digC (digestV (l.getLast?.getD []))), .int .i64 0]) ∧ Below w.heap.size w w' := by
  obtain ⟨W1, hW1⟩ : ∃ W1, W1 = w.alloc (.cells (digC (List.replicate 16 0)) 47) := ⟨_, rfl⟩
  have hR1 : Blk W1 w.heap.size 47 (digC (List.replicate 16 0)) := by rw [hW1]; exact heap_new w _
  have hb1 : Below w.heap.size w W1 := by rw [hW1]; exact (Below.refl _ w).alloc (Nat.le_refl _) _
  rw [zlit] at hW1
  have HW1 := Lib.hid hW1
  have HR1 := Lib.hid hR1
  have Hb1 := Lib.hid hb1
  have Hc := Lib.hid (hcall W1 hb1)
  clear hW1 hR1 hb1 hcall
  go_enter Try.func49, Try.ntmps49
  go_upto_region 1 with fail
  rw [← HW1.out]
  go_wp2_with fail
  refine Hc.out.mono ?_
  intro e w2 h2
  obtain ⟨v, ms, rfl, hN8, hml, hb2⟩ := h2
  have hrow := hN8.row
  obtain ⟨va, vc, rfl, -, -, hg8⟩ := row_slice hrow
  have hmsl : ms.length = l.length := by rw [← hml, List.length_map]
  have hpos : 0 < ms.length := by rw [hmsl]; exact List.length_pos_iff.2 hl
  obtain ⟨g8, rfl, hgB, -⟩ := hg8 hpos
  obtain ⟨j, hj⟩ : ∃ j, j = ms.length - 1 := ⟨_, rfl⟩
  have hjl : j < ms.length := by omega
  obtain ⟨x, hx⟩ : ∃ x, x = (ms[j]'hjl).xs := ⟨_, rfl⟩
  have hxl : l.getLast?.getD [] = x := by
    rw [hx, ← hml, List.getLast?_eq_getElem?, List.length_map, ← hj, List.getElem?_map, List.getElem?_eq_getElem hjl]; rfl
  have hxs : x.length ≤ 140737488354000 := hsm x (by rw [← hml, hx]; exact List.mem_map.2 ⟨_, List.getElem_mem hjl, rfl⟩)
  have hown := hN8.own _ (List.getElem_mem hjl)
  rw [← hx] at hown
  obtain ⟨m, hm⟩ : ∃ m, m = x.length := ⟨_, rfl⟩
  obtain ⟨ca, cc, hv, hrx⟩ := hown.rdz hm.symm
  have hcell : w2.cell? ⟨g8, j, none⟩ = some (.slice ca m cc) := by
    rw [row_cell hrow j (by omega), List.getElem?_map, List.getElem?_eq_getElem hjl, Option.map_some, hv]
  have hjs : (ms.length : Int) - 1 = (j : Int) := by omega
  have RX := Lib.hid hrx
  have HR2 : Hid (Blk w2 w.heap.size 47 (digC (List.replicate 16 0))) := Lib.hid (HR1.out.below hb2 HR1.out.lt)
  have Hb2 : Hid (Below w.heap.size w w2) := Lib.hid (Hb1.out.trans (hb2.mono Hb1.out.size))
  have Hxl := Lib.hid hxl
  have hj0 : (0 : Int) ≤ (j : Int) := by omega
  have hjli : (j : Int) < (ms.length : Int) := by omega
  have hm4 : (ms.length : Int) ≤ 4096 := by omega
  have hj4 : (j : Int) ≤ 4096 := by omega
  have hmb : m ≤ 140737488355000 := by omega
  clear hN8 hml hb2 hmsl hg8 hj hx hrx HR1 Hb1 HW1 Hc hgB hxl hl hlen hrow hown hv hm hxs hsm
  go_wp2_with fail
  refine (rdigest_any ca m cc x w2 RX.out hmb).mono ?_
  rintro e w3 ⟨rfl, hb3⟩
  obtain ⟨d, hd⟩ : ∃ d, d = digestV x := ⟨_, rfl⟩
  rw [← hd]
  have hdl : d.length = 16 := by rw [hd]; exact digestV_len _
  have HR3 : Hid (Blk w3 w.heap.size 47 (digC (List.replicate 16 0))) := Lib.hid (HR2.out.below hb3 HR2.out.lt)
  have Hb3 : Hid (Below w.heap.size w w3) := Lib.hid (Hb2.out.trans (hb3.mono Hb2.out.size))
  have hrw := HR3.out.lt
  have z1 := Try.sizeDig d hdl
  have z2 : (digC (List.replicate 16 0)).size = (digC d).size := by rw [digC_size, digC_size, hdl]; rfl
  have z3 := digC_one d
  have Hd := Lib.hid hd
  clear hb3 hd hdl HR2 Hb2 RX hcell
  go_wp2_with (refine wpList_store_row rfl 47 (.tmp 8) (.tmp 30) rfl w.heap.size (digC d) rfl rfl 47 (digC (List.replicate 16 0)) HR3.out z1 z2 z3 ?_)
  refine bodyPost_ret (v := .tuple #[.agg (digC d), .int .i64 0]) ?_ rfl ⟨by rw [Hxl.out, ← Hd.out], Hb3.out.trans (below_setRow _ _ _ _ (Nat.le_refl _))⟩
  exact results_cell_tmp (p := 8) (q := 9) rfl _ _ w.heap.size 47 _ (0, 0) _ rfl (setRow_heap _ _ _ _ _ _ HR3.out) Try.underlying47 rfl z1 _ rfl
end
theorem rabove_any (n i : Int) (la : Option Addr) (ll lc : Nat) (leaf : List Int) (a : Option Addr) (p cap : Nat) (ds : List (List Int)) (w : World) (hl : Rd w la ll lc leaf) (hll : ll ≤ 1000) (hp : RdG w a p cap ds) (hpp : p ≤ 50) :
    Calls Try.prog 49 #[.int .i64 n, .int .i64 i, .slice la ll lc, .slice a p cap] w fun e w' => e = .returned (.tuple #[.agg (digC (aboveD n i leaf ds)), .int .i64 (aboveE n i leaf ds)]) ∧ Below w.heap.size w w' := by
  by_cases h : placeE n i = 0
  · have hn : n ≤ 4096 ∧ 0 ≤ i ∧ i < n := by unfold placeE at h; split at h <;> first | omega | (split at h <;> omega)
    obtain ⟨m, rfl⟩ := Int.eq_ofNat_of_zero_le (show 0 ≤ n by omega)
    obtain ⟨t, rfl⟩ := Int.eq_ofNat_of_zero_le hn.2.1
    have hcall := fun (w' : World) (hb : Below w.heap.size w w') => rinputs_all m t la ll lc leaf a p cap ds w' (by omega) (by omega) (hl.below hb (Nat.le_refl _)) hll (hp.below hb (Nat.le_refl _)) hpp
    cases hc : climbV m t leaf ds with
    | none =>
      have e1 : aboveE m t leaf ds = 22 := by unfold aboveE; rw [if_neg (by simp [h]), Int.toNat_natCast, Int.toNat_natCast, hc]
      have e2 : aboveD m t leaf ds = List.replicate 16 0 := by unfold aboveD; rw [if_neg (by simp [h]), Int.toNat_natCast, Int.toNat_natCast, hc]
      rw [e1, e2]
      exact rabove_err _ _ _ _ w 22 (by omega) (fun w' hb => (hcall w' hb).2 hc)
    | some l =>
      have hc' : climbN m m t leaf ds = some l := hc
      have := climbN_some m m t leaf ds l hc'
      have hfl := hl.hl
      have e1 : aboveE m t leaf ds = 0 := by unfold aboveE; rw [if_neg (by simp [h]), Int.toNat_natCast, Int.toNat_natCast, hc]
      have e2 : aboveD m t leaf ds = digestV (l.getLast?.getD []) := by unfold aboveD; rw [if_neg (by simp [h]), Int.toNat_natCast, Int.toNat_natCast, hc]
      rw [e1, e2]
      exact rabove_some _ _ _ _ w l this.1 (by omega) (fun x hx => by have := climb_small m m t leaf ds l (fun d hd => (hp.hd d hd).1) hc' x hx; omega) (fun w' hb => (hcall w' hb).1 l hc)
  · have e1 : aboveE n i leaf ds = placeE n i := by unfold aboveE; rw [if_pos h]
    have e2 : aboveD n i leaf ds = List.replicate 16 0 := by unfold aboveD; rw [if_pos h]
    rw [e1, e2]
    exact rabove_err n i _ _ w _ h (fun w' hb => (rinputs_err n i _ _ w' h).mono fun e w'' h => ⟨h.1, by rw [h.2]; exact Below.refl _ _⟩)
section
attribute [local irreducible] digestV rootV halfV climbV
set_option maxRecDepth 100000 in
set_option maxHeartbeats 4000000 in
theorem rcheck_with (root D : List Int) (n i : Int) (leaf path : Value) (w : World) (E : Int) (hr : root.length = 16) (hD : D.length = 16)
    (hcall : ∀ w', Below w.heap.size w w' → Calls Try.prog 49 #[.int .i64 n, .int .i64 i, leaf, path] w' fun e w'' => e = .returned (.tuple #[.agg (digC D), .int .i64 E]) ∧ Below w'.heap.size w' w'') :
    Calls Try.prog 51 #[.agg (digC root), .int .i64 n, .int .i64 i, leaf, path] w fun e w' => e = .returned (.int .i64 (checkE root D E)) ∧ Below w.heap.size w w' := by
  obtain ⟨W1, hW1⟩ : ∃ W1, W1 = w.alloc (.cells (digC root) 47) := ⟨_, rfl⟩
  have hR1 : Blk W1 w.heap.size 47 (digC root) := by rw [hW1]; exact heap_new w _
  have hb1 : Below w.heap.size w W1 := by rw [hW1]; exact (Below.refl _ w).alloc (Nat.le_refl _) _
  have HW1 := Lib.hid hW1
  have HR1 := Lib.hid hR1
  have Hb1 := Lib.hid hb1
  have Hc := Lib.hid (hcall W1 hb1)
  clear hW1 hR1 hb1 hcall
  go_enter Try.func51, Try.ntmps51
  go_upto_region 1 with fail

  rw [← HW1.out]
  go_wp2_with fail
  refine Hc.out.mono ?_
  rintro e w2 ⟨rfl, hb2⟩
  have hs1 := Hb1.out.size
  obtain ⟨W3, hW3⟩ : ∃ W3, W3 = w2.alloc (.cells (digC (List.replicate 16 0)) 47) := ⟨_, rfl⟩
  have hR3 : Blk W3 w2.heap.size 47 (digC (List.replicate 16 0)) := by rw [hW3]; exact heap_new w2 _
  have hb3 : Below w2.heap.size w2 W3 := by rw [hW3]; exact (Below.refl _ w2).alloc (Nat.le_refl _) _
  have hR2 := HR1.out.below hb2 HR1.out.lt
  have HR0 : Hid (Blk W3 w.heap.size 47 (digC root)) := Lib.hid (hR2.below hb3 hR2.lt)
  have Hb3 : Hid (Below w.heap.size w W3) := Lib.hid ((Hb1.out.trans (hb2.mono Hb1.out.size)).trans (hb3.mono (Nat.le_trans Hb1.out.size hb2.size)))
  have hne : w.heap.size ≠ w2.heap.size := Nat.ne_of_lt hR2.lt
  have Hne := Lib.hid hne
  have hge : w.heap.size ≤ w2.heap.size := Nat.le_of_lt hR2.lt
  have Hge := Lib.hid hge
  rw [zlit] at hW3
  have HW3 := Lib.hid hW3
  have HR3 := Lib.hid hR3
  have z1 := Try.sizeDig D hD
  have z2 : (digC (List.replicate 16 0)).size = (digC D).size := by rw [digC_size, digC_size, hD]; rfl
  have z3 : (digC D).all (fun x => x.oneCell') = true := digC_one _
  clear hW3 hR3 hb3 hR2 hne hge HR1 Hb1 HW1 Hc hb2 hs1
  go_upto_region 2 with (rw [← HW3.out]; refine wpList_store_row rfl 47 (.tmp 11) (.tmp 19) rfl w2.heap.size (digC D) rfl rfl 47 (digC (List.replicate 16 0)) HR3.out z1 z2 z3 ?_)
  obtain ⟨W4, hW4⟩ : ∃ W4, W4 = W3.setRow w2.heap.size (digC D) := ⟨_, rfl⟩
  have HO4 : Hid (Blk W4 w2.heap.size 47 (digC D)) := Lib.hid (by rw [hW4]; exact setRow_heap _ _ _ _ _ _ HR3.out)
  have HR4 : Hid (Blk W4 w.heap.size 47 (digC root)) := Lib.hid (by rw [hW4]; exact (setRow_other _ _ _ _ Hne.out).trans HR0.out)
  have Hb4 : Hid (Below w.heap.size w W4) := Lib.hid (by rw [hW4]; exact Hb3.out.trans (below_setRow _ _ _ _ Hge.out))
  rw [← hW4]
  clear hW4 HW3 HR3 HR0 Hb3 z2
  have HN : Hid (∀ w, (binOp .neq 47 (.agg (digC D)) (.agg (digC root))).run Try.prog w = .ok (.bool (!(D == root))) w) := Lib.hid (fun w => run_neq_dig w D root hD hr)
  have LD := Lib.hid z1
  have LR := Lib.hid (Try.sizeDig root hr)
  clear z1 z3
  by_cases hE : E = 0
  · subst hE
    by_cases hq : D = root
    · have hv : checkE root D 0 = 0 := by simp [checkE, hq]
      have HN' : ∀ w, (binOp .neq 47 (.agg (digC D)) (.agg (digC root))).run Try.prog w = .ok (.bool false) w := fun w => by rw [HN.out w, hq]; simp
      have Hv := Lib.hid hv
      clear hv hq HN
      go_wp2_with (first
      | refine list_load rfl 47 (.tmp 11) rfl w2.heap.size rfl 47 (digC D) (0, 0) _ HO4.out Try.underlying47 rfl LD.out ?_
      | refine list_load rfl 47 (.tmp 5) rfl w.heap.size rfl 47 (digC root) (0, 0) _ HR4.out Try.underlying47 rfl LR.out ?_)
      exact bodyPost_ret (results_tmp rfl _ _ _) rfl ⟨by rw [Hv.out]; rfl, Hb4.out⟩
    · have hv : checkE root D 0 = 22 := by simp [checkE, hq]
      have HN' : ∀ w, (binOp .neq 47 (.agg (digC D)) (.agg (digC root))).run Try.prog w = .ok (.bool true) w := fun w => by rw [HN.out w]; simp [hq]
      have Hv := Lib.hid hv
      clear hv hq HN
      go_wp2_with (first
      | refine list_load rfl 47 (.tmp 11) rfl w2.heap.size rfl 47 (digC D) (0, 0) _ HO4.out Try.underlying47 rfl LD.out ?_
      | refine list_load rfl 47 (.tmp 5) rfl w.heap.size rfl 47 (digC root) (0, 0) _ HR4.out Try.underlying47 rfl LR.out ?_)
      exact bodyPost_ret (results_tmp rfl _ _ _) rfl ⟨by rw [Hv.out]; rfl, Hb4.out⟩
  · have hv : checkE root D E = E := by simp [checkE, hE]
    have hne : (E == 0) = false := by simp [hE]
    have Hv := Lib.hid hv
    clear hv HN hE
    go_wp2_with fail
    exact bodyPost_ret (results_tmp rfl _ _ _) rfl ⟨by rw [Hv.out]; rfl, Hb4.out⟩
end
theorem rcheck_any (root : List Int) (hr : root.length = 16) (n i : Int) (la : Option Addr) (ll lc : Nat) (leaf : List Int) (a : Option Addr) (p cap : Nat) (ds : List (List Int)) (w : World) (hl : Rd w la ll lc leaf) (hll : ll ≤ 1000) (hp : RdG w a p cap ds) (hpp : p ≤ 50) :
    Calls Try.prog 51 #[.agg (digC root), .int .i64 n, .int .i64 i, .slice la ll lc, .slice a p cap] w fun e w' => e = .returned (.int .i64 (checkE root (aboveD n i leaf ds) (aboveE n i leaf ds))) ∧ Below w.heap.size w w' :=
  rcheck_with root _ n i _ _ w _ hr (aboveD_len n i leaf ds) fun w' hb => rabove_any n i la ll lc leaf a p cap ds w' (hl.below hb (Nat.le_refl _)) hll (hp.below hb (Nat.le_refl _)) hpp
end Go.Proofs.Ytnlblmghhkmbbaa
