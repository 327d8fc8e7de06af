import Derived.Test.YtjkkjfigoanplaaSopen
import Derived.Test.YtjkkjfigoanplaaSrblock
import Derived.Test.YtjkkjfigoanplaaSstr
import Derived.Test.YtjkkjfigoanplaaSrev
import Derived.Test.YtjkkjfigoanplaaSrootE
import Derived.Great.BuildSlice
import Derived.Laws.CopyOwn
/- What a state and a sponge read as, out of the form in which a statement hands them in. -/
namespace Go.Proofs.Ytjkkjfigoanplaa
set_option linter.unusedVariables false
open Go.RowKit Go.Deep Go.WideShapes Go.ChangeShapes
section
variable {H : Type} {enc : TypeId × Value → H} {W : World} {held : Bool}
/-- A word out of a number. -/
theorem word_wv {n : Int} (h : (Lit.int .u32 n).wf = true) : wv (BitVec.ofNat 32 n.toNat) = .int .u32 n := by
  have := wf_u32 h
  unfold wv
  rw [BitVec.toNat_ofNat, Nat.mod_eq_of_lt (by omega)]
  congr 1
  omega
theorem open_state {fuel : Nat} {cs : List Value} {x : DataW H × List MemPlace} (h : DataW.trod enc Try.prog W 0 (fun _ => true) held fuel 41 cs = some x) : ∃ s : St, cs = (vals s).toList := by
  obtain ⟨xs, k, hk, hxy, hlen, hxl, hf⟩ := DataW.trod_array Try.underlying41 h
  rw [Try.cellsS] at hlen
  rw [Try.cellsU] at hf
  match cs, hlen with
  | [v0, v1, v2, v3, v4, v5, v6, v7], _ =>
    have g : ∀ i (hi : i < 8) v, [v0, v1, v2, v3, v4, v5, v6, v7][i]? = some v → ∃ n : Int, v = .int .u32 n ∧ (Lit.int .u32 n).wf = true := by
      intro i hi v hv
      have h1 := hf i hi
      have h2 : (([v0, v1, v2, v3, v4, v5, v6, v7].drop (i * 1)).take 1) = [v] := by
        rw [Nat.mul_one]
        obtain ⟨hl, hq⟩ := List.getElem?_eq_some_iff.1 hv
        rw [List.drop_eq_getElem_cons hl, hq]
        rfl
      rw [h2, List.getElem?_eq_getElem (by omega)] at h1
      obtain ⟨z, hz, -, hw⟩ := DataW.trod_int Try.underlying23 h1
      simp at hz
      exact ⟨z, hz, hw⟩
    obtain ⟨n0, rfl, w0⟩ := g 0 (by omega) v0 rfl
    obtain ⟨n1, rfl, w1⟩ := g 1 (by omega) v1 rfl
    obtain ⟨n2, rfl, w2⟩ := g 2 (by omega) v2 rfl
    obtain ⟨n3, rfl, w3⟩ := g 3 (by omega) v3 rfl
    obtain ⟨n4, rfl, w4⟩ := g 4 (by omega) v4 rfl
    obtain ⟨n5, rfl, w5⟩ := g 5 (by omega) v5 rfl
    obtain ⟨n6, rfl, w6⟩ := g 6 (by omega) v6 rfl
    obtain ⟨n7, rfl, w7⟩ := g 7 (by omega) v7 rfl
    refine ⟨fun i => BitVec.ofNat 32 ([n0, n1, n2, n3, n4, n5, n6, n7].getD i 0).toNat, ?_⟩
    show _ = [wv (BitVec.ofNat 32 n0.toNat), wv (BitVec.ofNat 32 n1.toNat), wv (BitVec.ofNat 32 n2.toNat), wv (BitVec.ofNat 32 n3.toNat), wv (BitVec.ofNat 32 n4.toNat), wv (BitVec.ofNat 32 n5.toNat), wv (BitVec.ofNat 32 n6.toNat), wv (BitVec.ofNat 32 n7.toNat)]
    rw [word_wv w0, word_wv w1, word_wv w2, word_wv w3, word_wv w4, word_wv w5, word_wv w6, word_wv w7]
set_option maxRecDepth 100000 in
theorem open_sponge {fuel : Nat} {cs : List Value} {x : DataW H × List MemPlace} (h : DataW.trod enc Try.prog W 0 (fun _ => true) held fuel 43 cs = some x) (hg : Light Try.prog 43 x.1) :
    ∃ (s : St) (a : Option Addr) (l c : Nat) (xs : List Int), (Rd W a l c xs ∧ c ≤ 140737488351232) ∧ cs = (spongeC s (.slice a l c)).toList := by
  obtain ⟨xs, k, hk, hxy, hlen, hxl, hf⟩ := DataW.trod_struct Try.underlying43 h
  rw [Try.cellsP] at hlen
  match xs, hxl, cs, hlen with
  | [y0, y1], _, [v0, v1, v2, v3, v4, v5, v6, v7, v8], _ =>
    have g0 := hf 0 _ rfl
    have g1 := hf 1 _ rfl
    simp [Try.cellsS, Try.cellsL] at g0 g1
    obtain ⟨s, hs⟩ := open_state g0
    have hv : ∃ a l c, v8 = .slice a l c := by
      rcases open_slice Try.underlying22 g1 with ⟨hcs, _⟩ | ⟨ad, l, c, m, n, D, Pl, hcs, _⟩
      · simp at hcs; exact ⟨_, _, _, hcs⟩
      · simp at hcs; exact ⟨_, _, _, hcs⟩
    obtain ⟨a, l, c, rfl⟩ := hv
    have hg1 : Light Try.prog 22 y1.1 := fun n hn => hg n (by rw [hxy]; simp only [DataW.weights, Try.underlying43]; simp [DataW.weightsEach]; right; exact hn)
    obtain ⟨bs, hbs⟩ := open_rd g1 hg1
    refine ⟨s, a, l, c, bs, hbs, ?_⟩
    have e : (spongeC s (.slice a l c)).toList = (vals s).toList ++ [.slice a l c] := rfl
    rw [e, ← hs]
    rfl
end
end Go.Proofs.Ytjkkjfigoanplaa

/- The reference's Absorb. -/
namespace Go.Proofs.Ytjkkjfigoanplaa
set_option linter.unusedVariables false
open Go.RowKit Go.Shelf

theorem spongeZ : (#[.int .u32 0, .int .u32 0, .int .u32 0, .int .u32 0, .int .u32 0, .int .u32 0, .int .u32 0, .int .u32 0, .slice none 0 0] : Array Value) = spongeC (fun _ => 0#32) (.slice none 0 0) := rfl
theorem sizeZ9 : (Try.prog.info? 43).map (·.size) = some (#[.int .u32 0, .int .u32 0, .int .u32 0, .int .u32 0, .int .u32 0, .int .u32 0, .int .u32 0, .int .u32 0, .slice none 0 0] : Array Value).size := by kernel_rfl
theorem sizeZE (s : St) (v : Value) : (#[.int .u32 0, .int .u32 0, .int .u32 0, .int .u32 0, .int .u32 0, .int .u32 0, .int .u32 0, .int .u32 0, .slice none 0 0] : Array Value).size = (spongeC s v).size := by rfl
theorem sizeEE (s t : St) (v v' : Value) : (spongeC s v).size = (spongeC t v').size := by rfl
theorem sp_rest (s : St) (v v' : Value) : (spongeC s v).setIfInBounds 8 v' = spongeC s v' := rfl
theorem sp_cell8 (s : St) (v : Value) : (spongeC s v)[8]? = some v := rfl
theorem sp_built (s : St) : Try.prog.built 43 [(0, .agg (vals s))] = some (spongeC s (.slice none 0 0)) := by kernel_rfl
theorem blk_setState {w : World} {g : Nat} {t : TypeId} {s : St} {v : Value} (τ : St) (h : Blk w g t (spongeC s v)) : Blk (w.setCells g 0 (vals τ).toList) g t (spongeC τ v) := state_rel s τ h
theorem but_setState (w : World) (g : Nat) (τ : St) : But g w (w.setCells g 0 (vals τ).toList) := but_setCells _ _ _
theorem state_there {w : World} {g : Nat} {t : TypeId} {s : St} {v : Value} (h : Blk w g t (spongeC s v)) (τ : St) : w.there g 0 (vals τ).size := by
  intro j hj
  rw [vals_size] at hj
  rw [Nat.zero_add, h.cell j]
  refine ⟨?_, h.frozen j⟩
  have : j = 0 ∨ j = 1 ∨ j = 2 ∨ j = 3 ∨ j = 4 ∨ j = 5 ∨ j = 6 ∨ j = 7 := by omega
  rcases this with rfl | rfl | rfl | rfl | rfl | rfl | rfl | rfl <;> rfl
theorem freshZ {w w1 : World} (h : Below w.heap.size w w1) (s : St) (v : Value) :
    ∃ W3, w1.alloc (.cells #[.int .u32 0, .int .u32 0, .int .u32 0, .int .u32 0, .int .u32 0, .int .u32 0, .int .u32 0, .int .u32 0, .slice none 0 0] 43) = W3 ∧ Blk W3 w1.heap.size 43 #[.int .u32 0, .int .u32 0, .int .u32 0, .int .u32 0, .int .u32 0, .int .u32 0, .int .u32 0, .int .u32 0, .slice none 0 0] ∧
      ∃ g W, w1.heap.size = g ∧ W3.setRow w1.heap.size (spongeC s v) = W ∧ Blk W g 43 (spongeC s v) ∧ Below w.heap.size w W ∧ Below g w1 W ∧ g < W.heap.size := by
  refine ⟨_, rfl, heap_new w1 _, ?_⟩
  obtain ⟨g, W, e1, e2, r⟩ := fresh h (spongeC s v) 43
  exact ⟨g, W, e1, by rw [World.setRow_alloc_new]; exact e2, r⟩
attribute [local irreducible] spongeC
set_option maxRecDepth 100000 in
set_option maxHeartbeats 1000000 in
theorem validS_yes (s : St) (ra : Option Addr) (rl rc : Nat) (w : World) (h : rl < 16) :
    Calls Try.prog 61 #[.agg (spongeC s (.slice ra rl rc))] w fun e w' => e = .returned (.bool true) ∧ Below w.heap.size w w' := by
  obtain ⟨W0, hW0⟩ : ∃ W0, W0 = w.alloc (.cells (spongeC s (.slice ra rl rc)) 43) := ⟨_, rfl⟩
  have hg : Blk W0 w.heap.size 43 (spongeC s (.slice ra rl rc)) := by rw [hW0]; exact heap_new w _
  have hb : Below w.heap.size w W0 := by rw [hW0]; exact (Below.refl _ w).alloc (Nat.le_refl _) _
  have p8 : W0.cell? ⟨w.heap.size, 8, none⟩ = some (.slice ra rl rc) := by rw [hg.cell 8, sp_cell8]
  have HW0 := Lib.hid hW0
  have Hb := Lib.hid hb
  have h15 : (rl : Int) ≤ 15 := by omega
  clear hW0 hg hb
  go_enter Try.func61, Try.ntmps61
  go_upto_region 1 with fail
  rw [← HW0.out]
  go_wp2_with fail
  go_ret
  exact ⟨rfl, Hb.out⟩
set_option maxRecDepth 100000 in
set_option maxHeartbeats 1000000 in
theorem validS_no (s : St) (ra : Option Addr) (rl rc : Nat) (w : World) (h : 16 ≤ rl) :
    Calls Try.prog 61 #[.agg (spongeC s (.slice ra rl rc))] w fun e w' => e = .returned (.bool false) ∧ Below w.heap.size w w' := by
  obtain ⟨W0, hW0⟩ : ∃ W0, W0 = w.alloc (.cells (spongeC s (.slice ra rl rc)) 43) := ⟨_, rfl⟩
  have hg : Blk W0 w.heap.size 43 (spongeC s (.slice ra rl rc)) := by rw [hW0]; exact heap_new w _
  have hb : Below w.heap.size w W0 := by rw [hW0]; exact (Below.refl _ w).alloc (Nat.le_refl _) _
  have p8 : W0.cell? ⟨w.heap.size, 8, none⟩ = some (.slice ra rl rc) := by rw [hg.cell 8, sp_cell8]
  have HW0 := Lib.hid hW0
  have Hb := Lib.hid hb
  have h15 : ¬ (rl : Int) ≤ 15 := by omega
  clear hW0 hg hb
  go_enter Try.func61, Try.ntmps61
  go_upto_region 1 with fail
  rw [← HW0.out]
  go_wp2_with fail
  go_ret
  exact ⟨rfl, Hb.out⟩
def lenOf : Value → Nat
  | .slice _ n _ => n
  | _ => 0
theorem absL_zero (s : St) (l : List Int) : absL s l (List.range 0) = s := rfl
theorem cutK_def (l : List Int) (k : Nat) : (l.drop (16 * k)).take 16 = cutK l k := rfl
theorem absS_def (s : St) (l : List Int) : absS s l = absL s l (List.range (l.length / 16)) := rfl
theorem absR_def (l : List Int) : absR l = l.drop (16 * (l.length / 16)) := rfl
theorem absL_next (s : St) (l : List Int) (k : Nat) : absL s l (List.range (k + 1)) = blkV (absL s l (List.range k)) (cutK l k) := by rw [List.range_succ]; exact absL_snoc s l (List.range k) k
attribute [local irreducible] absL absS absR blkV vals cutK
set_option maxRecDepth 100000 in
set_option maxHeartbeats 8000000 in
theorem rabsorb_ok (s : St) (ra : Option Addr) (rl rc : Nat) (rest : List Int) (ba : Option Addr) (bl bc : Nat) (bs : List Int) (w : World)
    (hr : Rd w ra rl rc rest) (hb : Rd w ba bl bc bs) (h16 : rl < 16) (hbig : rl + bl ≤ 140737488355000) :
    Calls Try.prog 30 #[.agg (spongeC s (.slice ra rl rc)), .slice ba bl bc] w fun e w' => ∃ v, e = .returned (.tuple #[.agg (spongeC (absS s (rest ++ bs)) v), .int .i64 0]) ∧ Own w' w.heap.size v (absR (rest ++ bs)) ∧ Below w.heap.size w w' := by
  obtain ⟨W0, hW0⟩ : ∃ W0, W0 = (w.alloc (.cells (spongeC s (.slice ra rl rc)) 43)).alloc (.cells #[.int .u32 0, .int .u32 0, .int .u32 0, .int .u32 0, .int .u32 0, .int .u32 0, .int .u32 0, .int .u32 0, .slice none 0 0] 43) := ⟨_, rfl⟩
  have hg1 : Blk W0 w.heap.size 43 (spongeC s (.slice ra rl rc)) := by rw [hW0]; exact (Below.heap_alloc _ _ _ (by simp)).trans (heap_new w _)
  have hg2 : Blk W0 (w.heap.size + 1) 43 #[.int .u32 0, .int .u32 0, .int .u32 0, .int .u32 0, .int .u32 0, .int .u32 0, .int .u32 0, .int .u32 0, .slice none 0 0] := by rw [hW0]; exact heap_alloc2_new w _ _
  have hb0 : Below w.heap.size w W0 := by rw [hW0]; exact ((Below.refl _ w).alloc (Nat.le_refl _) _).alloc (by simp) _
  have hs0 : W0.heap.size = w.heap.size + 2 := by rw [hW0]; simp
  have hrl := hr.hl
  have hbl := hb.hl
  have HW0 := Lib.hid hW0
  have Hg1 := Lib.hid hg1
  have Hg2 := Lib.hid hg2
  have Hb0 := Lib.hid hb0
  have Hr := Lib.hid hr
  have Hbb := Lib.hid hb
  obtain ⟨L, hL⟩ : ∃ L, L = rest ++ bs := ⟨_, rfl⟩
  obtain ⟨n0, hn0⟩ : ∃ n, n = L.length := ⟨_, rfl⟩
  have hn0b : n0 ≤ 140737488355000 := by rw [hn0, hL, List.length_append]; omega
  rw [← hL]
  have HL := Lib.hid hL
  have Hn0 := Lib.hid hn0
  clear hW0 hg1 hg2 hb0 hr hb hL hn0
  go_enter Try.func30, Try.ntmps30
  go_upto_region 1 with fail
  rw [← HW0.out]
  clear HW0
  go_wp2_with (refine list_load rfl 43 (.tmp 2) rfl w.heap.size rfl 43 (spongeC s (.slice ra rl rc)) (0, 0) _ Hg1.out Try.underlying43 rfl (sizeSponge _ _) ?_)
  refine (validS_yes s ra rl rc W0 h16).mono ?_
  rintro e w1 ⟨rfl, hb1⟩
  have Hg11 := Lib.hid (Hg1.out.below hb1 Hg1.out.lt)
  have Hg21 := Lib.hid (Hg2.out.below hb1 Hg2.out.lt)
  have Hb1 : Hid (Below w.heap.size w w1) := Lib.hid (Hb0.out.trans (hb1.mono Hb0.out.size))
  have hws : w.heap.size + 2 ≤ w1.heap.size := by have := hb1.size; omega
  have HR1 := Lib.hid (Hr.out.below Hb1.out (Nat.le_refl _))
  have HB1 := Lib.hid (Hbb.out.below Hb1.out (Nat.le_refl _))
  have p8 : w1.cell? ⟨w.heap.size, 8, none⟩ = some (.slice ra rl rc) := by rw [Hg11.out.cell 8, sp_cell8]
  have HO : Hid (Own w1 w1.heap.size (.slice none 0 0) []) := Lib.hid (Own.nil _ _)
  have i1 : ([] : List Int).length + rl ≤ 140737488355328 := by simp; omega
  have i2 : w1.heap.size ≤ w1.heap.size := Nat.le_refl _
  have i3 : rest.length + bl ≤ 140737488355328 := by omega
  have HR8 := Lib.hid (blk_state Hg11.out)
  have L8 := Lib.hid (sizeStateL s)
  clear hb1 Hg1 Hg2 Hb0 Hr Hbb
  go_upto_region 6 with (first
    | (at_builtin; refine wpList_append_rd rfl (.tmp 12) (.tmp 14) 22 rfl w1.heap.size Try.infoB Try.underlying22 _ [] rfl HO.out _ _ _ _ rfl HR1.out i1 i2 ?_; intro v2 w2 ho2 hg2; rw [List.nil_append] at ho2; have Ho2 := Lib.hid ho2; have Hb2 := Lib.hid ((Below.refl w1.heap.size w1).grown hg2 i2 (fun k hk => (HO.out.1.lt k hk).1)); have HB2 := Lib.hid (HB1.out.below Hb2.out (Nat.le_refl _)); have i4 := Hb2.out.size; clear ho2 hg2)
    | (at_builtin; refine wpList_append_rd rfl (.tmp 16) (.tmp 17) 22 rfl w1.heap.size Try.infoB Try.underlying22 _ _ rfl Ho2.out _ _ _ _ rfl HB2.out i3 i4 ?_; intro v3 w3 ho3 hg3; rw [← HL.out] at ho3; have Ho3 := Lib.hid ho3; have Hb3 := Lib.hid (Hb2.out.grown hg3 i4 (fun k hk => (Ho2.out.1.lt k hk).1)); clear ho3 hg3))
  obtain ⟨a3, c3, rfl, hR3⟩ := Ho3.out.rdz Hn0.out.symm
  have HG3 := Lib.hid (Hg11.out.below Hb3.out Hg11.out.lt)
  have HG23 := Lib.hid (Hg21.out.below Hb3.out Hg21.out.lt)
  have HR3 := Lib.hid hR3
  have HS3 := Lib.hid (blk_state HG3.out)
  have Hbw3 : Hid (Below w.heap.size w w3) := Lib.hid (Hb1.out.trans (Hb3.out.mono (by omega)))
  obtain ⟨W4, e1, hz4, g7, W5, e2, e3, hg7, hb5, hq5, -⟩ := freshZ Hbw3.out s (.slice none 0 0)
  have He1 := Lib.hid e1
  have He2 := Lib.hid e2
  have He3 := Lib.hid e3
  have Hz4 := Lib.hid hz4
  have HG7 := Lib.hid hg7
  have Hb5 := Lib.hid hb5
  have Hq5 := Lib.hid hq5
  have hg7s : w3.heap.size ≤ g7 := by omega
  have hw3s : w.heap.size + 2 ≤ w3.heap.size := by have := Hb3.out.size; omega
  clear hR3 e1 hz4 e2 e3 hg7 hb5 hq5 Ho2 Hb2 HB2 HO i1 i2 i3 i4 HR1 HB1 p8 Hg11 Hg21 HR8 Hb1
  go_wp2_with (first
    | (refine wpList_load_mid rfl 41 (.tmp 19) rfl w.heap.size 0 rfl (vals s).toList _ HS3.out Try.underlying41 rfl L8.out ?_; rw [Array.toArray_toList])
    | (refine wpList_buildTo rfl 43 _ rfl _ rfl (spongeC s (.slice none 0 0)) (by kernel_rfl) ?_)
    | (rw [He1.out]; refine wpList_store_rowTo rfl 43 (.tmp 7) (.tmp 21) rfl rfl w3.heap.size (spongeC s (.slice none 0 0)) rfl rfl 43 #[.int .u32 0, .int .u32 0, .int .u32 0, .int .u32 0, .int .u32 0, .int .u32 0, .int .u32 0, .int .u32 0, .slice none 0 0] Hz4.out (sizeSponge _ _) (sizeZE _ _) (oneSponge _ _ _ _) ?_))
  rw [He3.out, He2.out]
  clear He1 He2 He3 Hz4 HS3
  go_wp2_with fail
  go_loopw [6] (fun v wr => ∃ (k : Nat) (a : Option Addr) (n c : Nat), v = .slice a n c ∧ 16 * k + n = n0 ∧ Rd w3 a n c (L.drop (16 * k)) ∧ Blk wr g7 43 (spongeC (absL s L (List.range k)) (.slice none 0 0)) ∧ Below g7 w3 wr) (fun v _ => lenOf v)
  case atStart => exact ⟨0, a3, n0, c3, rfl, by omega, by rw [Nat.mul_zero, List.drop_zero]; exact HR3.out, by rw [absL_zero]; exact HG7.out, Hq5.out⟩
  case round =>
    obtain ⟨k, a, n, c, rfl, hkn, hR, hblk, hbw⟩ := hrel
    have hnc := hR.hc
    have hcm := hR.hm
    unfold maxLen at hcm
    by_cases h16n : 16 ≤ n
    · have hni : (16 : Int) ≤ (n : Int) := by omega
      have hnc16 : (16 : Int) ≤ (c : Int) := by omega
      obtain ⟨b, off, rfl, -⟩ := hR.hr (by omega)
      have hcut := hR.cut 0 16 (x := ⟨b, off, none⟩) (c := c) (by omega) (by intro; simp) (by omega) (by unfold maxLen; omega)
      rw [List.drop_zero, cutK_def] at hcut
      have hnx := absL_next s L k
      obtain ⟨σ, hσ⟩ : ∃ z, z = absL s L (List.range k) := ⟨_, rfl⟩
      rw [← hσ] at hnx hblk
      obtain ⟨w9, hw9⟩ : ∃ w9, w9 = wr.drew := ⟨_, rfl⟩
      have hg9 : Blk w9 g7 43 (spongeC σ (.slice none 0 0)) := by rw [hw9]; exact hblk
      have hb9 : Below g7 w3 w9 := by rw [hw9]; exact hbw.drew
      have hc9 := hcut.below hb9 hg7s
      have RS := Lib.hid (blk_state hg9)
      have LS := Lib.hid (sizeStateL σ)
      have HG9 := Lib.hid hg9
      have HB9 := Lib.hid hb9
      have HC9 := Lib.hid hc9
      have HNX := Lib.hid hnx
      have HR := Lib.hid hR
      have Hkn := Lib.hid hkn
      have Hw9 := Lib.hid hw9
      clear hcut hnx hσ hw9 hg9 hb9 hc9 hR hkn hblk hbw HG7 Hq5
      by_cases hc16 : c = 16
      all_goals
        first
          | (subst hc16
             have hcc : True := trivial
             have hrest : Rd w3 (some ⟨b, off, none⟩) (n - 16) (16 - 16) (L.drop (16 * (k + 1))) := ⟨by rw [List.length_drop]; have := HR.out.hl; rw [List.length_drop] at this; omega, by omega, by unfold maxLen; omega, fun m hm => HR.out.hb m (by rw [show 16 * (k + 1) = 16 * k + 16 by omega, ← List.drop_drop] at hm; exact List.mem_of_mem_drop hm), (by intro e; cases e), (fun h => by omega)⟩
             have Hrest := Lib.hid hrest
             clear hrest)
          | (have hcc : (c = 16) = False := eq_false hc16
             have hrest : Rd w3 (some ⟨b, off + 16, none⟩) (n - 16) (c - 16) (L.drop (16 * (k + 1))) := by
               have h := HR.out.cut 16 (n - 16) (x := ⟨b, off + 16, none⟩) (c := c - 16) (by omega) (fun _ => rfl) (by omega) (by unfold maxLen; omega)
               rw [List.drop_drop, List.take_of_length_le (by rw [List.length_drop]; have := HR.out.hl; rw [List.length_drop] at this; omega)] at h
               exact h
             have Hrest := Lib.hid hrest
             clear hrest)
        go_wp2_with fail
        refine wp_region_still_tail 4 (by kernel_rfl) (by kernel_rfl) ?_
        rw [show (({ wr with drawn := wr.drawn + 1 } : World)) = w9 from Hw9.out.symm]
        simp only [List.take_succ_cons, List.take_zero, List.drop_succ_cons, List.drop_zero]
        still_step
        refine still_load rfl 41 (.tmp 25) rfl g7 0 rfl (vals σ) _ RS.out Try.underlying41 rfl LS.out ?_
        repeat still_step
        refine wpStill_nil ?_
        go_wp2_with fail
        refine (rblock_any σ (some ⟨b, off, none⟩) _ (cutK L k) w9 HC9.out).mono ?_
        rintro e w10 ⟨rfl, hb10⟩
        rw [← HNX.out]
        obtain ⟨τ, hτ⟩ : ∃ z, z = absL s L (List.range (k + 1)) := ⟨_, rfl⟩
        rw [← hτ]
        have Hτ := Lib.hid hτ
        have HG10 := Lib.hid (HG9.out.below hb10 HG9.out.lt)
        have HB10 : Hid (Below g7 w3 w10) := Lib.hid (HB9.out.trans (hb10.mono (Nat.le_of_lt HG9.out.lt)))
        clear hb10 hτ
        go_wp2_with (refine wpList_store_mid rfl 41 (.tmp 30) (.tmp 29) rfl g7 0 (vals τ) rfl rfl (state_there HG10.out τ) (sizeSt τ) (oneSt τ) ?_)
        go_roundw
        case rel => first | exact ⟨k + 1, _, n - 16, _, rfl, by have := Hkn.out; omega, Hrest.out, by rw [← Hτ.out]; exact blk_setState τ HG10.out, HB10.out.trans (but_setState w10 g7 τ).below⟩ | exact ⟨k + 1, _, 0, 0, rfl, by have := Hkn.out; omega, (by have h := Hrest.out; rw [show n - 16 = 0 by omega] at h; exact h), by rw [← Hτ.out]; exact blk_setState τ HG10.out, HB10.out.trans (but_setState w10 g7 τ).below⟩
        case measure => simp [lenOf]; omega
    · have hni : ¬ (16 : Int) ≤ (n : Int) := by omega
      have hk : k = n0 / 16 := by omega
      have hLl : L.length / 16 = k := by rw [← Hn0.out, hk]
      have hRL : L.drop (16 * k) = absR L := by rw [absR_def, hLl]
      have hSL : absL s L (List.range k) = absS s L := by rw [absS_def, hLl]
      rw [hRL] at hR
      rw [hSL] at hblk
      obtain ⟨σ, hσ⟩ : ∃ z, z = absS s L := ⟨_, rfl⟩
      obtain ⟨R, hRv⟩ : ∃ z, z = absR L := ⟨_, rfl⟩
      rw [← hσ] at hblk
      rw [← hRv] at hR
      have hRl := hR.hl
      have hwr : wr.heap.size ≤ wr.heap.size := Nat.le_refl _
      have hgl := hblk.lt
      have p8 : wr.cell? ⟨g7, 8, none⟩ = some (.slice none 0 0) := by rw [hblk.cell 8, sp_cell8]
      have Q8 : ∀ w12 : World, Blk w12 g7 43 (spongeC σ (.slice none 0 0)) → w12.cell? ⟨g7, 8, none⟩ = some (.slice none 0 0) := fun _ h => by rw [h.cell 8, sp_cell8]
      have HO : Hid (Own wr wr.heap.size (.slice none 0 0) []) := Lib.hid (Own.nil _ _)
      have j1 : ([] : List Int).length + n ≤ 140737488355328 := by simp; omega
      have HRw := Lib.hid (hR.below hbw hg7s)
      have Hblk := Lib.hid hblk
      have Hbw := Lib.hid hbw
      have HG2 := Lib.hid (HG23.out.below hbw (by omega))
      have HF := Lib.hid (And.intro hσ hRv)
      have HRl := Lib.hid hRl
      clear hk hLl hRL hSL hR hblk hbw hσ hRv hRl hkn HG7 Hq5 HG23
      go_upto_region 11 with (at_builtin; refine wpList_append_rd rfl (.tmp 34) (.tmp 35) 22 rfl wr.heap.size Try.infoB Try.underlying22 _ [] rfl HO.out _ _ _ _ rfl HRw.out j1 hwr ?_; intro v12 w12 ho12 hg12; rw [List.nil_append] at ho12; obtain ⟨a12, c12, hv12, -⟩ := ho12.rdz HRl.out; subst hv12; have Hblk12 := Lib.hid (show Blk w12 g7 43 (spongeC σ (.slice none 0 0)) from (hg12.block g7 hgl (fun e => by have := (HO.out.1.lt g7 e.symm).1; omega)).trans Hblk.out); have Hb12 := Lib.hid ((Below.refl wr.heap.size wr).grown hg12 hwr (fun k hk => (HO.out.1.lt k hk).1)); have q8 := Q8 _ Hblk12.out; have f8 := Hblk12.out.frozen 8; have Ho12 := Lib.hid ho12; clear ho12 hg12)
      have HGf := Lib.hid (show Blk (w12.setCell ⟨g7, 8, none⟩ (.slice a12 n c12)) g7 43 (spongeC σ (.slice a12 n c12)) from by rw [← sp_rest σ (.slice none 0 0)]; exact Hblk12.out.set_ 8 _)
      have HG2f := Lib.hid (show Blk (w12.setCell ⟨g7, 8, none⟩ (.slice a12 n c12)) (w.heap.size + 1) 43 #[.int .u32 0, .int .u32 0, .int .u32 0, .int .u32 0, .int .u32 0, .int .u32 0, .int .u32 0, .int .u32 0, .slice none 0 0] from (HG2.out.below Hb12.out HG2.out.lt).other (by omega) 8 _)
      have hOw : Own ((w12.setCell ⟨g7, 8, none⟩ (.slice a12 n c12)).setRow (w.heap.size + 1) (spongeC σ (.slice a12 n c12))) w.heap.size (.slice a12 n c12) R :=
        ((Ho12.out.but ((But.refl g7 w12).setCell 8 _) hgl).but ((But.refl (w.heap.size + 1) _).setRow _) (by omega)).mono (by omega)
      have hBe : Below w.heap.size w ((w12.setCell ⟨g7, 8, none⟩ (.slice a12 n c12)).setRow (w.heap.size + 1) (spongeC σ (.slice a12 n c12))) :=
        (((Hbw3.out.trans (Hbw.out.mono (by omega))).trans (Hb12.out.mono (by omega))).setCell (p := ⟨g7, 8, none⟩) (by show w.heap.size ≤ g7; omega) _).trans (below_setRow _ _ _ _ (by omega))
      have HOw := Lib.hid hOw
      have HBe := Lib.hid hBe
      clear hOw hBe
      go_wp2_with (first
        | (refine list_load rfl 43 (.tmp 7) rfl g7 rfl 43 (spongeC σ (.slice a12 n c12)) (0, 0) _ HGf.out Try.underlying43 rfl (sizeSponge _ _) ?_)
        | (refine wpList_store_row rfl 43 (.tmp 4) (.tmp 38) rfl (w.heap.size + 1) (spongeC σ (.slice a12 n c12)) rfl rfl 43 #[.int .u32 0, .int .u32 0, .int .u32 0, .int .u32 0, .int .u32 0, .int .u32 0, .int .u32 0, .int .u32 0, .slice none 0 0] HG2f.out (sizeSponge _ _) (sizeZE _ _) (oneSponge _ _ _ _) ?_))
      refine bodyPost_ret (v := .tuple #[.agg (spongeC σ (.slice a12 n c12)), .int .i64 0]) ?_ rfl ⟨.slice a12 n c12, by rw [← HF.out.1], by rw [← HF.out.2]; exact HOw.out, HBe.out⟩
      exact results_cell_tmp (p := 4) (q := 5) rfl _ _ (w.heap.size + 1) 43 _ (0, 0) _ rfl (setRow_heap _ _ _ _ _ _ HG2f.out) Try.underlying43 rfl (sizeSponge _ _) _ rfl
end Go.Proofs.Ytjkkjfigoanplaa

/- The reference's End. -/
namespace Go.Proofs.Ytjkkjfigoanplaa
set_option linter.unusedVariables false
open Go.RowKit Go.Shelf

theorem zl16 : (#[.int .u8 0, .int .u8 0, .int .u8 0, .int .u8 0, .int .u8 0, .int .u8 0, .int .u8 0, .int .u8 0, .int .u8 0, .int .u8 0, .int .u8 0, .int .u8 0, .int .u8 0, .int .u8 0, .int .u8 0, .int .u8 0] : Array Value) = digC (List.replicate 16 0) := rfl
theorem abs16 (s : St) (l : List Int) (h : l.length = 16) : absS s l = blkV s l := by
  unfold absS
  rw [h]
  show blkV s (cutK l 0) = _
  have : cutK l 0 = l := by unfold cutK; rw [Nat.mul_zero, List.drop_zero, List.take_of_length_le (by omega)]
  rw [this]
theorem pad16 (rest : List Int) (h : rest.length < 16) : (rest ++ padV rest.length).length = 16 := by
  rw [List.length_append, padV_len _ h]; omega
theorem splice_pad (rest : List Int) (h : rest.length ≤ 16) : (splice ((List.replicate 16 (0 : Int)).map (Value.int .u8)) 0 (rest.map (Value.int .u8))).toArray = digC (rest ++ List.replicate (16 - rest.length) 0) := by
  unfold splice digC
  rw [List.map_replicate]
  simp only [List.take_zero, List.nil_append, Nat.zero_add, List.length_map, List.drop_replicate, List.map_append, List.map_replicate]
theorem set_pad (rest : List Int) (h : rest.length < 16) : (digC (rest ++ List.replicate (16 - rest.length) 0)).setIfInBounds rest.length (.int .u8 128) = digC (rest ++ padV rest.length) := by
  unfold digC padV
  rw [show 16 - rest.length = (15 - rest.length) + 1 by omega, List.replicate_succ]
  simp
def dby (σ : St) (k : Nat) : List Int := (bytesV σ).take k ++ List.replicate (16 - k) 0
theorem dby_len (σ : St) (k : Nat) (h : k ≤ 16) : (dby σ k).length = 16 := by unfold dby; rw [List.length_append, List.length_take, bytesV_len, List.length_replicate]; omega
theorem dby_all (σ : St) : dby σ 16 = bytesV σ := by unfold dby; rw [List.take_of_length_le (by rw [bytesV_len]; omega)]; simp
theorem dby_none (σ : St) : dby σ 0 = List.replicate 16 0 := by unfold dby; simp
theorem bytesV_at (σ : St) (k : Nat) (h : k < 16) : (bytesV σ)[k]'(by rw [bytesV_len]; exact h) = ((σ (k / 4)).toNat : Int) / 2 ^ (8 * (k % 4)) % 256 := by
  unfold bytesV; simp
theorem dby_set (σ : St) (k : Nat) (h : k < 16) (v : Int) (hv : v = ((σ (k / 4)).toNat : Int) / 2 ^ (8 * (k % 4)) % 256) : (digC (dby σ k)).setIfInBounds k (.int .u8 v) = digC (dby σ (k + 1)) := by
  have e : (dby σ k).set k v = dby σ (k + 1) := by
    unfold dby
    have hl : ((bytesV σ).take k).length = k := by rw [List.length_take, bytesV_len]; omega
    rw [List.set_append_right _ _ (by omega), hl, Nat.sub_self, show 16 - k = (16 - (k + 1)) + 1 by omega, List.replicate_succ, List.set_cons_zero, List.take_succ_eq_append_getElem (by rw [bytesV_len]; exact h), bytesV_at σ k h, ← hv]
    simp
  unfold digC
  rw [← e, List.map_set]
  simp
theorem fresh8 {w w1 : World} (h : Below w.heap.size w w1) (σ : St) :
    ∃ W3, w1.alloc (.cells #[.int .u32 0, .int .u32 0, .int .u32 0, .int .u32 0, .int .u32 0, .int .u32 0, .int .u32 0, .int .u32 0] 41) = W3 ∧ Blk W3 w1.heap.size 41 (vals (fun _ => 0#32)) ∧
      ∃ g W, w1.heap.size = g ∧ W3.setRow w1.heap.size (vals σ) = W ∧ Blk W g 41 (vals σ) ∧ Below w.heap.size w W ∧ Below g w1 W ∧ g < W.heap.size := by
  refine ⟨_, rfl, heap_new w1 _, ?_⟩
  obtain ⟨g, W, e1, e2, r⟩ := fresh h (vals σ) 41
  exact ⟨g, W, e1, by rw [World.setRow_alloc_new]; exact e2, r⟩
attribute [local irreducible] spongeC absS blkV vals bytesV dby endV
set_option maxRecDepth 100000 in
set_option maxHeartbeats 8000000 in
theorem rend_ok (s : St) (ra : Option Addr) (rl rc : Nat) (rest : List Int) (w : World) (hr : Rd w ra rl rc rest) (h16 : rl < 16) :
    Calls Try.prog 32 #[.agg (spongeC s (.slice ra rl rc))] w fun e w' => e = .returned (.tuple #[.agg (digC (endV s rest)), .int .i64 0]) ∧ Below w.heap.size w w' := by
  obtain ⟨W0, hW0⟩ : ∃ W0, W0 = (w.alloc (.cells (spongeC s (.slice ra rl rc)) 43)).alloc (.cells #[.int .u8 0, .int .u8 0, .int .u8 0, .int .u8 0, .int .u8 0, .int .u8 0, .int .u8 0, .int .u8 0, .int .u8 0, .int .u8 0, .int .u8 0, .int .u8 0, .int .u8 0, .int .u8 0, .int .u8 0, .int .u8 0] 47) := ⟨_, rfl⟩
  have hg1 : Blk W0 w.heap.size 43 (spongeC s (.slice ra rl rc)) := by rw [hW0]; exact (Below.heap_alloc _ _ _ (by simp)).trans (heap_new w _)
  have hg2 : Blk W0 (w.heap.size + 1) 47 (digC (List.replicate 16 0)) := by rw [hW0]; exact heap_alloc2_new w _ _
  have hb0 : Below w.heap.size w W0 := by rw [hW0]; exact ((Below.refl _ w).alloc (Nat.le_refl _) _).alloc (by simp) _
  have hs0 : W0.heap.size = w.heap.size + 2 := by rw [hW0]; simp
  have hrl := hr.hl
  have hend : endV s rest = bytesV (blkV s (rest ++ padV rl)) := by unfold endV; rw [hrl, abs16 s _ (by rw [← hrl]; exact pad16 rest (by omega))]
  have hpb : ∀ n ∈ rest ++ padV rl, 0 ≤ n ∧ n ≤ 255 := fun n hn => by
    rcases List.mem_append.1 hn with h | h
    · exact hr.hb n h
    · exact padV_bd rl n h
  have hpl : (rest ++ padV rl).length = 16 := by rw [← hrl]; exact pad16 rest (by omega)
  have HW0 := Lib.hid hW0
  have Hg1 := Lib.hid hg1
  have Hg2 := Lib.hid hg2
  have Hb0 := Lib.hid hb0
  have Hr := Lib.hid hr
  have HE := Lib.hid hend
  have HP := Lib.hid (And.intro hpb hpl)
  clear hW0 hg1 hg2 hb0 hr hend hpb hpl
  go_enter Try.func32, Try.ntmps32
  go_upto_region 1 with fail
  rw [← HW0.out]
  clear HW0
  go_wp2_with (refine list_load rfl 43 (.tmp 1) rfl w.heap.size rfl 43 (spongeC s (.slice ra rl rc)) (0, 0) _ Hg1.out Try.underlying43 rfl (sizeSponge _ _) ?_)
  refine (validS_yes s ra rl rc W0 h16).mono ?_
  rintro e w1 ⟨rfl, hb1⟩
  have Hb1 : Hid (Below w.heap.size w w1) := Lib.hid (Hb0.out.trans (hb1.mono Hb0.out.size))
  have hws : w.heap.size + 2 ≤ w1.heap.size := by have := hb1.size; omega
  obtain ⟨gl, W2, e1, e2, hgl2, hb2, hq2, hs2⟩ := fresh Hb1.out (digC (List.replicate 16 0)) 5
  have hG12 := (Hg1.out.below hb1 Hg1.out.lt).below hq2 (by have := Hg1.out.lt; omega)
  have hG22 := (Hg2.out.below hb1 Hg2.out.lt).below hq2 (by have := Hg2.out.lt; omega)
  have hR2 := Hr.out.below hb2 (Nat.le_refl _)
  have hmk : (Instr.makeSlice 22 (.int .i64 16) (.int .i64 16)).run Try.prog w1 = .ok (.slice (some ⟨gl, 0, none⟩) 16 16) W2 := by rw [run_make8 16 16 rfl (Nat.le_refl _) w1, e1, e2]
  have HGl := Lib.hid hgl2
  have Hb2 := Lib.hid hb2
  have HG1 := Lib.hid hG12
  have HG2 := Lib.hid hG22
  have HR2 := Lib.hid hR2
  have hglw : w.heap.size + 2 ≤ gl := by omega
  clear hb1 e1 e2 hgl2 hb2 hq2 hG12 hG22 hR2 Hg1 Hg2 Hb0
  go_upto_region 4 with fail
  clear hmk
  have p8 : W2.cell? ⟨w.heap.size, 8, none⟩ = some (.slice ra rl rc) := by rw [HG1.out.cell 8, sp_cell8]
  have hsz1 : (Try.prog.info? 5).map (·.size) = some 1 := by kernel_rfl
  have HZ1 := Lib.hid hsz1
  clear hsz1
  go_upto_region 5 with (refine wpList_copy_splice rfl (.tmp 13) (.tmp 15) 22 22 rfl 5 Try.underlying22 HZ1.out (some ⟨gl, 0, none⟩) ra 16 16 rl rc rfl rfl gl 0 ((List.replicate 16 (0 : Int)).map (Value.int .u8)) 5 HGl.out (rest.map (Value.int .u8)) (by rw [List.length_map, Hr.out.hl]; exact (Nat.min_eq_left (by omega)).symm) (fun h => by
      rw [List.length_map, Hr.out.hl] at h
      obtain ⟨b, off, rfl, -⟩ := HR2.out.hr h
      exact ⟨rfl, _, rfl, HR2.out.cells⟩) (by rw [List.length_map, Hr.out.hl, List.length_map, List.length_replicate]; omega) (oneCells rest) (w.heap.size + 2) W2 (Below.refl _ _) (by omega) ?_; intro w3 hg3 hb3)
  have hgl3 : Blk w3 gl 5 (digC (rest ++ List.replicate (16 - rl) 0)) := by
    have h := hg3.out
    have h2 := splice_pad rest (by rw [Hr.out.hl]; omega)
    rw [Hr.out.hl] at h2
    rw [h2] at h
    exact h
  have hG13 := HG1.out.below hb3 (by omega)
  have hG23 := HG2.out.below hb3 (by omega)
  have hbw3 : Below w.heap.size w w3 := Hb2.out.trans (hb3.mono (by omega))
  have hfz := hgl3.frozen rl
  have hcz : w3.cell? ⟨gl, rl, none⟩ = some (.int .u8 0) := by
    rw [hgl3.cell rl, digC_get _ rl (by rw [List.length_append, Hr.out.hl, List.length_replicate]; omega)]
    congr 2
    rw [List.getD_eq_getElem?_getD, List.getElem?_append_right (by rw [Hr.out.hl]; exact Nat.le_refl _), ← List.getD_eq_getElem?_getD, rep0]
  have p83 : w3.cell? ⟨w.heap.size, 8, none⟩ = some (.slice ra rl rc) := by rw [hG13.cell 8, sp_cell8]
  obtain ⟨W4, hW4⟩ : ∃ W, W = w3.setCell ⟨gl, rl, none⟩ (.int .u8 128) := ⟨_, rfl⟩
  have hgl4 : Blk W4 gl 5 (digC (rest ++ padV rl)) := by
    rw [hW4]
    have h := hgl3.set_ rl (.int .u8 128)
    have h2 := set_pad rest (by rw [Hr.out.hl]; exact h16)
    rw [Hr.out.hl] at h2
    rw [h2] at h
    exact h
  have hG14 : Blk W4 w.heap.size 43 (spongeC s (.slice ra rl rc)) := by rw [hW4]; exact hG13.other (by omega) _ _
  have hG24 : Blk W4 (w.heap.size + 1) 47 (digC (List.replicate 16 0)) := by rw [hW4]; exact hG23.other (by omega) _ _
  have hbw4 : Below w.heap.size w W4 := by rw [hW4]; exact hbw3.setCell (by simp; omega) _
  have hrd4 := hgl4.rd HP.out.1 (by rw [HP.out.2]; unfold maxLen; omega)
  rw [HP.out.2] at hrd4
  have hs4 : gl < W4.heap.size := hgl4.lt
  have HW4 := Lib.hid hW4
  have HRd4 := Lib.hid hrd4
  have HG24 := Lib.hid hG24
  have HG14 := Lib.hid hG14
  have Hbw4 := Lib.hid hbw4
  have HS4 := Lib.hid (blk_state hG14)
  have L8 := Lib.hid (sizeStateL s)
  have hr15 : (rl : Int) < 16 := by omega
  have hgls := hgl3.lt
  obtain ⟨σ, hσ⟩ : ∃ σ, σ = blkV s (rest ++ padV rl) := ⟨_, rfl⟩
  have Hσ := Lib.hid hσ
  clear hgl3 hG13 hG23 hbw3 hW4 hgl4 hG14 hG24 hbw4 hrd4 hσ hg3 hb3 p8 HGl Hb2 HG1 HG2 HR2 HZ1
  go_upto_region 6 with fail
  rw [← HW4.out]
  clear HW4 hfz hcz p83
  go_wp2_with (refine wpList_load_mid rfl 41 (.tmp 22) rfl w.heap.size 0 rfl (vals s).toList _ HS4.out Try.underlying41 rfl L8.out ?_; rw [Array.toArray_toList])
  refine (rblock_any s (some ⟨gl, 0, none⟩) 16 (rest ++ padV rl) W4 HRd4.out).mono ?_
  rintro e w5 ⟨rfl, hb5⟩
  rw [← Hσ.out]
  have hG25 := HG24.out.below hb5 HG24.out.lt
  have hbw5 : Below w.heap.size w w5 := Hbw4.out.trans (hb5.mono Hbw4.out.size)
  obtain ⟨w6, e1, hz6, g5, W7, e2, e3, hg57, hb7, hq7, hs7⟩ := fresh8 hbw5 σ
  have hG27 := hG25.below hq7 (by have := hG25.lt; omega)
  obtain ⟨w8, d1, hz8, g6, W9, d2, d3, hg69, hb9, hq9, hs9⟩ := freshD hb7 (List.replicate 16 0) (by simp)
  have HG29 := Lib.hid (hG27.below hq9 (by have := hG27.lt; omega))
  have HG59 := Lib.hid (hg57.below hq9 (by omega))
  have He1 := Lib.hid e1
  have He2 := Lib.hid e2
  have He3 := Lib.hid e3
  have Hz6 := Lib.hid hz6
  have Hd1 := Lib.hid d1
  have Hd2 := Lib.hid d2
  have Hd3 := Lib.hid d3
  have Hz8 := Lib.hid hz8
  have HG69 := Lib.hid hg69
  have Hb9 := Lib.hid hb9
  have h56 : g5 < g6 := by omega
  have hg5w : w.heap.size + 2 ≤ g5 := by have := hb5.size; omega
  have z1 := Try.sizeDig (List.replicate 16 0) (by simp)
  clear hb5 hG25 hbw5 e1 hz6 e2 e3 hg57 hb7 hq7 hs7 hG27 d1 hz8 d2 d3 hg69 hb9 hq9 hs9 HG24 HG14 Hbw4 HS4 L8 HRd4
  go_upto_region 7 with (rw [He1.out]; refine wpList_store_row rfl 41 (.tmp 5) (.tmp 25) rfl w5.heap.size (vals σ) rfl rfl 41 (vals (fun _ => 0#32)) Hz6.out (sizeSt σ) (by rw [vals_size, vals_size]) (oneSt σ) ?_)
  rw [He3.out, He2.out]
  clear He1 He2 He3 Hz6
  go_wp2_with (rw [Hd1.out]; refine wpList_store_row rfl 47 (.tmp 6) (.tmp 26) rfl W7.heap.size (digC (List.replicate 16 0)) rfl rfl 47 (digC (List.replicate 16 0)) Hz8.out z1 rfl (digC_one _) ?_; rw [Hd3.out])
  rw [Hd2.out]
  clear Hd1 Hd2 Hd3 Hz8 z1
  go_loopw [7] (fun i wr => ∃ k : Nat, k ≤ 16 ∧ i = .int .i64 k ∧ Blk wr g6 47 (digC (dby σ k)) ∧ Below g6 W9 wr) (fun i _ => 16 - (intOf i).toNat)
  case atStart => exact ⟨0, by omega, rfl, by rw [dby_none]; exact HG69.out, Below.refl _ _⟩
  case round =>
    obtain ⟨k, hk, rfl, hblk, hbw⟩ := hrel
    by_cases hlt : k < 16
    · have hg5r := HG59.out.below hbw h56
      obtain ⟨t0, ht0⟩ : ∃ t, t = σ (k / 4) := ⟨_, rfl⟩
      have q0 : wr.cell? ⟨g5, k / 4, none⟩ = some (.int .u32 (t0.toNat : Int)) := by rw [hg5r.cell (k / 4), vals_get σ (k / 4) (by omega), ht0]; rfl
      obtain ⟨y, d0⟩ : ∃ y, wr.cell? ⟨g6, k, none⟩ = some (.int .u8 y) := ⟨_, by rw [hblk.cell k, digC_get _ k (by rw [dby_len σ k hk]; exact hlt)]⟩
      have f0 := hblk.frozen k
      obtain ⟨v, hv⟩ : ∃ v : Int, v = (t0.toNat : Int) / 2 ^ (8 * (k % 4)) % 256 := ⟨_, rfl⟩
      have hset := dby_set σ k hlt v (by rw [hv, ht0])
      have hbt := b_bd t0
      have HSet := Lib.hid hset
      have HB := Lib.hid hblk
      have Hb := Lib.hid hbw
      clear ht0 hset hblk hbw hg5r
      have hk16 : k = 0 ∨ k = 1 ∨ k = 2 ∨ k = 3 ∨ k = 4 ∨ k = 5 ∨ k = 6 ∨ k = 7 ∨ k = 8 ∨ k = 9 ∨ k = 10 ∨ k = 11 ∨ k = 12 ∨ k = 13 ∨ k = 14 ∨ k = 15 := by omega
      clear hk hlt
      rcases hk16 with rfl | rfl | rfl | rfl | rfl | rfl | rfl | rfl | rfl | rfl | rfl | rfl | rfl | rfl | rfl | rfl
      · simp only [Nat.reduceDiv, Nat.reduceMod, Nat.reduceMul, Nat.reduceAdd, Nat.add_zero, Nat.zero_div, Nat.zero_mod, Nat.mul_zero, Int.reducePow, Int.pow_zero, Int.ediv_one] at q0 f0 d0 hv HSet
        have hv' := hv.symm
        clear hv
        go_wp2_with fail
        go_roundw
        case rel => exact ⟨1, by omega, rfl, by rw [← HSet.out]; exact HB.out.set_ 0 _, Hb.out.setCell (Nat.le_refl _) _⟩
        case measure => simp [intOf]
      · simp only [Nat.reduceDiv, Nat.reduceMod, Nat.reduceMul, Nat.reduceAdd, Nat.add_zero, Nat.zero_div, Nat.zero_mod, Nat.mul_zero, Int.reducePow, Int.pow_zero, Int.ediv_one] at q0 f0 d0 hv HSet
        have hv' := hv.symm
        clear hv
        go_wp2_with fail
        go_roundw
        case rel => exact ⟨2, by omega, rfl, by rw [← HSet.out]; exact HB.out.set_ 1 _, Hb.out.setCell (Nat.le_refl _) _⟩
        case measure => simp [intOf]
      · simp only [Nat.reduceDiv, Nat.reduceMod, Nat.reduceMul, Nat.reduceAdd, Nat.add_zero, Nat.zero_div, Nat.zero_mod, Nat.mul_zero, Int.reducePow, Int.pow_zero, Int.ediv_one] at q0 f0 d0 hv HSet
        have hv' := hv.symm
        clear hv
        go_wp2_with fail
        go_roundw
        case rel => exact ⟨3, by omega, rfl, by rw [← HSet.out]; exact HB.out.set_ 2 _, Hb.out.setCell (Nat.le_refl _) _⟩
        case measure => simp [intOf]
      · simp only [Nat.reduceDiv, Nat.reduceMod, Nat.reduceMul, Nat.reduceAdd, Nat.add_zero, Nat.zero_div, Nat.zero_mod, Nat.mul_zero, Int.reducePow, Int.pow_zero, Int.ediv_one] at q0 f0 d0 hv HSet
        have hv' : (t0.toNat : Int) / 16777216 = v := by have := t0.isLt; omega
        clear hv
        go_wp2_with fail
        go_roundw
        case rel => exact ⟨4, by omega, rfl, by rw [← HSet.out]; exact HB.out.set_ 3 _, Hb.out.setCell (Nat.le_refl _) _⟩
        case measure => simp [intOf]
      · simp only [Nat.reduceDiv, Nat.reduceMod, Nat.reduceMul, Nat.reduceAdd, Nat.add_zero, Nat.zero_div, Nat.zero_mod, Nat.mul_zero, Int.reducePow, Int.pow_zero, Int.ediv_one] at q0 f0 d0 hv HSet
        have hv' := hv.symm
        clear hv
        go_wp2_with fail
        go_roundw
        case rel => exact ⟨5, by omega, rfl, by rw [← HSet.out]; exact HB.out.set_ 4 _, Hb.out.setCell (Nat.le_refl _) _⟩
        case measure => simp [intOf]
      · simp only [Nat.reduceDiv, Nat.reduceMod, Nat.reduceMul, Nat.reduceAdd, Nat.add_zero, Nat.zero_div, Nat.zero_mod, Nat.mul_zero, Int.reducePow, Int.pow_zero, Int.ediv_one] at q0 f0 d0 hv HSet
        have hv' := hv.symm
        clear hv
        go_wp2_with fail
        go_roundw
        case rel => exact ⟨6, by omega, rfl, by rw [← HSet.out]; exact HB.out.set_ 5 _, Hb.out.setCell (Nat.le_refl _) _⟩
        case measure => simp [intOf]
      · simp only [Nat.reduceDiv, Nat.reduceMod, Nat.reduceMul, Nat.reduceAdd, Nat.add_zero, Nat.zero_div, Nat.zero_mod, Nat.mul_zero, Int.reducePow, Int.pow_zero, Int.ediv_one] at q0 f0 d0 hv HSet
        have hv' := hv.symm
        clear hv
        go_wp2_with fail
        go_roundw
        case rel => exact ⟨7, by omega, rfl, by rw [← HSet.out]; exact HB.out.set_ 6 _, Hb.out.setCell (Nat.le_refl _) _⟩
        case measure => simp [intOf]
      · simp only [Nat.reduceDiv, Nat.reduceMod, Nat.reduceMul, Nat.reduceAdd, Nat.add_zero, Nat.zero_div, Nat.zero_mod, Nat.mul_zero, Int.reducePow, Int.pow_zero, Int.ediv_one] at q0 f0 d0 hv HSet
        have hv' : (t0.toNat : Int) / 16777216 = v := by have := t0.isLt; omega
        clear hv
        go_wp2_with fail
        go_roundw
        case rel => exact ⟨8, by omega, rfl, by rw [← HSet.out]; exact HB.out.set_ 7 _, Hb.out.setCell (Nat.le_refl _) _⟩
        case measure => simp [intOf]
      · simp only [Nat.reduceDiv, Nat.reduceMod, Nat.reduceMul, Nat.reduceAdd, Nat.add_zero, Nat.zero_div, Nat.zero_mod, Nat.mul_zero, Int.reducePow, Int.pow_zero, Int.ediv_one] at q0 f0 d0 hv HSet
        have hv' := hv.symm
        clear hv
        go_wp2_with fail
        go_roundw
        case rel => exact ⟨9, by omega, rfl, by rw [← HSet.out]; exact HB.out.set_ 8 _, Hb.out.setCell (Nat.le_refl _) _⟩
        case measure => simp [intOf]
      · simp only [Nat.reduceDiv, Nat.reduceMod, Nat.reduceMul, Nat.reduceAdd, Nat.add_zero, Nat.zero_div, Nat.zero_mod, Nat.mul_zero, Int.reducePow, Int.pow_zero, Int.ediv_one] at q0 f0 d0 hv HSet
        have hv' := hv.symm
        clear hv
        go_wp2_with fail
        go_roundw
        case rel => exact ⟨10, by omega, rfl, by rw [← HSet.out]; exact HB.out.set_ 9 _, Hb.out.setCell (Nat.le_refl _) _⟩
        case measure => simp [intOf]
      · simp only [Nat.reduceDiv, Nat.reduceMod, Nat.reduceMul, Nat.reduceAdd, Nat.add_zero, Nat.zero_div, Nat.zero_mod, Nat.mul_zero, Int.reducePow, Int.pow_zero, Int.ediv_one] at q0 f0 d0 hv HSet
        have hv' := hv.symm
        clear hv
        go_wp2_with fail
        go_roundw
        case rel => exact ⟨11, by omega, rfl, by rw [← HSet.out]; exact HB.out.set_ 10 _, Hb.out.setCell (Nat.le_refl _) _⟩
        case measure => simp [intOf]
      · simp only [Nat.reduceDiv, Nat.reduceMod, Nat.reduceMul, Nat.reduceAdd, Nat.add_zero, Nat.zero_div, Nat.zero_mod, Nat.mul_zero, Int.reducePow, Int.pow_zero, Int.ediv_one] at q0 f0 d0 hv HSet
        have hv' : (t0.toNat : Int) / 16777216 = v := by have := t0.isLt; omega
        clear hv
        go_wp2_with fail
        go_roundw
        case rel => exact ⟨12, by omega, rfl, by rw [← HSet.out]; exact HB.out.set_ 11 _, Hb.out.setCell (Nat.le_refl _) _⟩
        case measure => simp [intOf]
      · simp only [Nat.reduceDiv, Nat.reduceMod, Nat.reduceMul, Nat.reduceAdd, Nat.add_zero, Nat.zero_div, Nat.zero_mod, Nat.mul_zero, Int.reducePow, Int.pow_zero, Int.ediv_one] at q0 f0 d0 hv HSet
        have hv' := hv.symm
        clear hv
        go_wp2_with fail
        go_roundw
        case rel => exact ⟨13, by omega, rfl, by rw [← HSet.out]; exact HB.out.set_ 12 _, Hb.out.setCell (Nat.le_refl _) _⟩
        case measure => simp [intOf]
      · simp only [Nat.reduceDiv, Nat.reduceMod, Nat.reduceMul, Nat.reduceAdd, Nat.add_zero, Nat.zero_div, Nat.zero_mod, Nat.mul_zero, Int.reducePow, Int.pow_zero, Int.ediv_one] at q0 f0 d0 hv HSet
        have hv' := hv.symm
        clear hv
        go_wp2_with fail
        go_roundw
        case rel => exact ⟨14, by omega, rfl, by rw [← HSet.out]; exact HB.out.set_ 13 _, Hb.out.setCell (Nat.le_refl _) _⟩
        case measure => simp [intOf]
      · simp only [Nat.reduceDiv, Nat.reduceMod, Nat.reduceMul, Nat.reduceAdd, Nat.add_zero, Nat.zero_div, Nat.zero_mod, Nat.mul_zero, Int.reducePow, Int.pow_zero, Int.ediv_one] at q0 f0 d0 hv HSet
        have hv' := hv.symm
        clear hv
        go_wp2_with fail
        go_roundw
        case rel => exact ⟨15, by omega, rfl, by rw [← HSet.out]; exact HB.out.set_ 14 _, Hb.out.setCell (Nat.le_refl _) _⟩
        case measure => simp [intOf]
      · simp only [Nat.reduceDiv, Nat.reduceMod, Nat.reduceMul, Nat.reduceAdd, Nat.add_zero, Nat.zero_div, Nat.zero_mod, Nat.mul_zero, Int.reducePow, Int.pow_zero, Int.ediv_one] at q0 f0 d0 hv HSet
        have hv' : (t0.toNat : Int) / 16777216 = v := by have := t0.isLt; omega
        clear hv
        go_wp2_with fail
        go_roundw
        case rel => exact ⟨16, by omega, rfl, by rw [← HSet.out]; exact HB.out.set_ 15 _, Hb.out.setCell (Nat.le_refl _) _⟩
        case measure => simp [intOf]
    · obtain rfl : k = 16 := by omega
      rw [dby_all] at hblk
      have hdl : (bytesV σ).length = 16 := bytesV_len σ
      have hG2r := HG29.out.below hbw (by omega)
      obtain ⟨D, hD⟩ : ∃ D, D = bytesV σ := ⟨_, rfl⟩
      rw [← hD] at hblk hdl
      have HB := Lib.hid hblk
      have HG2r := Lib.hid hG2r
      have Hbw := Lib.hid (Hb9.out.trans (hbw.mono (by have := Hb9.out.size; omega)))
      have HD := Lib.hid hD
      have z1 := Try.sizeDig D hdl
      have z2 := zsize D hdl
      have z3 := digC_one D
      clear hblk hG2r hbw hD
      go_wp2_with (first
        | (refine list_load rfl 47 (.tmp 6) rfl g6 rfl 47 (digC D) (0, 0) _ HB.out Try.underlying47 rfl z1 ?_)
        | (refine wpList_store_row rfl 47 (.tmp 2) (.tmp 42) rfl (w.heap.size + 1) (digC D) rfl rfl 47 (digC (List.replicate 16 0)) HG2r.out z1 z2 z3 ?_))
      refine bodyPost_ret (v := .tuple #[.agg (digC D), .int .i64 0]) (results_cell_tmp rfl _ _ (w.heap.size + 1) 47 (digC D) (0, 0) _ rfl (setRow_heap _ _ _ _ _ _ HG2r.out) Try.underlying47 rfl z1 (.int .i64 0) rfl) rfl ⟨?_, ?_⟩
      · rw [HE.out, ← Hσ.out, ← HD.out]
      · exact Hbw.out.trans (below_setRow _ _ _ _ (by omega))
end Go.Proofs.Ytjkkjfigoanplaa

/- The reference's Start and Digest; Absorb and End of a sponge that is none. -/
namespace Go.Proofs.Ytjkkjfigoanplaa
set_option linter.unusedVariables false
open Go.RowKit Go.Shelf

theorem oneZ : (#[.int .u32 0, .int .u32 0, .int .u32 0, .int .u32 0, .int .u32 0, .int .u32 0, .int .u32 0, .int .u32 0, .slice none 0 0] : Array Value).all (fun x => x.oneCell') = true := by kernel_rfl
set_option maxRecDepth 100000 in
set_option maxHeartbeats 4000000 in
theorem rstart_any (w : World) : Calls Try.prog 35 #[] w fun e w' => e = .returned (.agg (spongeC startV (.slice none 0 0))) ∧ Below w.heap.size w w' := by
  go_enter Try.func35, Try.ntmps35
  go_wp2_with fail
  refine bodyPost_ret (v := .agg (spongeC startV (.slice none 0 0))) ?_ rfl ⟨rfl, ?_⟩
  · simp [results, Try.results35, go_sem]
    rfl
  · exact ((Below.refl _ w).alloc (Nat.le_refl _) _).alloc (by simp) _
attribute [local irreducible] spongeC
set_option maxRecDepth 100000 in
set_option maxHeartbeats 4000000 in
theorem rabsorb_bad (s : St) (ra : Option Addr) (rl rc : Nat) (v : Value) (w : World) (h16 : 16 ≤ rl) :
    Calls Try.prog 30 #[.agg (spongeC s (.slice ra rl rc)), v] w fun e w' => e = .returned (.tuple #[.agg (spongeC (fun _ => 0#32) (.slice none 0 0)), .int .i64 1]) ∧ Below w.heap.size w w' := by
  obtain ⟨W0, hW0⟩ : ∃ W0, W0 = (w.alloc (.cells (spongeC s (.slice ra rl rc)) 43)).alloc (.cells #[.int .u32 0, .int .u32 0, .int .u32 0, .int .u32 0, .int .u32 0, .int .u32 0, .int .u32 0, .int .u32 0, .slice none 0 0] 43) := ⟨_, rfl⟩
  have hg1 : Blk W0 w.heap.size 43 (spongeC s (.slice ra rl rc)) := by rw [hW0]; exact (Below.heap_alloc _ _ _ (by simp)).trans (heap_new w _)
  have hg2 : Blk W0 (w.heap.size + 1) 43 #[.int .u32 0, .int .u32 0, .int .u32 0, .int .u32 0, .int .u32 0, .int .u32 0, .int .u32 0, .int .u32 0, .slice none 0 0] := by rw [hW0]; exact heap_alloc2_new w _ _
  have hb0 : Below w.heap.size w W0 := by rw [hW0]; exact ((Below.refl _ w).alloc (Nat.le_refl _) _).alloc (by simp) _
  have HW0 := Lib.hid hW0
  have Hg1 := Lib.hid hg1
  have Hg2 := Lib.hid hg2
  have Hb0 := Lib.hid hb0
  clear hW0 hg1 hg2 hb0
  go_enter Try.func30, Try.ntmps30
  go_upto_region 1 with fail
  rw [← HW0.out]
  clear HW0
  go_wp2_with (refine list_load rfl 43 (.tmp 2) rfl w.heap.size rfl 43 (spongeC s (.slice ra rl rc)) (0, 0) _ Hg1.out Try.underlying43 rfl (sizeSponge _ _) ?_)
  refine (validS_no s ra rl rc W0 h16).mono ?_
  rintro e w1 ⟨rfl, hb1⟩
  have Hg21 := Lib.hid (Hg2.out.below hb1 Hg2.out.lt)
  have Hb1 : Hid (Below w.heap.size w w1) := Lib.hid (Hb0.out.trans (hb1.mono Hb0.out.size))
  clear hb1 Hg1 Hg2 Hb0
  go_wp2_with (refine wpList_store_row rfl 43 (.tmp 4) (.tmp 11) rfl (w.heap.size + 1) #[.int .u32 0, .int .u32 0, .int .u32 0, .int .u32 0, .int .u32 0, .int .u32 0, .int .u32 0, .int .u32 0, .slice none 0 0] rfl rfl 43 #[.int .u32 0, .int .u32 0, .int .u32 0, .int .u32 0, .int .u32 0, .int .u32 0, .int .u32 0, .int .u32 0, .slice none 0 0] Hg21.out sizeZ9 rfl oneZ ?_)
  refine bodyPost_ret (v := .tuple #[.agg #[.int .u32 0, .int .u32 0, .int .u32 0, .int .u32 0, .int .u32 0, .int .u32 0, .int .u32 0, .int .u32 0, .slice none 0 0], .int .i64 1]) (results_cell_tmp rfl _ _ (w.heap.size + 1) 43 #[.int .u32 0, .int .u32 0, .int .u32 0, .int .u32 0, .int .u32 0, .int .u32 0, .int .u32 0, .int .u32 0, .slice none 0 0] (0, 0) _ rfl (setRow_heap _ _ _ _ _ _ Hg21.out) Try.underlying43 rfl sizeZ9 (.int .i64 1) rfl) rfl ⟨by rw [spongeZ], ?_⟩
  exact Hb1.out.trans (below_setRow _ _ _ _ (by omega))
set_option maxRecDepth 100000 in
set_option maxHeartbeats 4000000 in
theorem rend_bad (s : St) (ra : Option Addr) (rl rc : Nat) (w : World) (h16 : 16 ≤ rl) :
    Calls Try.prog 32 #[.agg (spongeC s (.slice ra rl rc))] w fun e w' => e = .returned (.tuple #[.agg (digC (List.replicate 16 0)), .int .i64 1]) ∧ Below w.heap.size w w' := by
  obtain ⟨W0, hW0⟩ : ∃ W0, W0 = (w.alloc (.cells (spongeC s (.slice ra rl rc)) 43)).alloc (.cells #[.int .u8 0, .int .u8 0, .int .u8 0, .int .u8 0, .int .u8 0, .int .u8 0, .int .u8 0, .int .u8 0, .int .u8 0, .int .u8 0, .int .u8 0, .int .u8 0, .int .u8 0, .int .u8 0, .int .u8 0, .int .u8 0] 47) := ⟨_, rfl⟩
  have hg1 : Blk W0 w.heap.size 43 (spongeC s (.slice ra rl rc)) := by rw [hW0]; exact (Below.heap_alloc _ _ _ (by simp)).trans (heap_new w _)
  have hg2 : Blk W0 (w.heap.size + 1) 47 #[.int .u8 0, .int .u8 0, .int .u8 0, .int .u8 0, .int .u8 0, .int .u8 0, .int .u8 0, .int .u8 0, .int .u8 0, .int .u8 0, .int .u8 0, .int .u8 0, .int .u8 0, .int .u8 0, .int .u8 0, .int .u8 0] := by rw [hW0]; exact heap_alloc2_new w _ _
  have hb0 : Below w.heap.size w W0 := by rw [hW0]; exact ((Below.refl _ w).alloc (Nat.le_refl _) _).alloc (by simp) _
  have HW0 := Lib.hid hW0
  have Hg1 := Lib.hid hg1
  have Hg2 := Lib.hid hg2
  have Hb0 := Lib.hid hb0
  have z1 : (Try.prog.info? 47).map (·.size) = some (#[.int .u8 0, .int .u8 0, .int .u8 0, .int .u8 0, .int .u8 0, .int .u8 0, .int .u8 0, .int .u8 0, .int .u8 0, .int .u8 0, .int .u8 0, .int .u8 0, .int .u8 0, .int .u8 0, .int .u8 0, .int .u8 0] : Array Value).size := by kernel_rfl
  have Z1 := Lib.hid z1
  have O1 := Lib.hid (show (#[.int .u8 0, .int .u8 0, .int .u8 0, .int .u8 0, .int .u8 0, .int .u8 0, .int .u8 0, .int .u8 0, .int .u8 0, .int .u8 0, .int .u8 0, .int .u8 0, .int .u8 0, .int .u8 0, .int .u8 0, .int .u8 0] : Array Value).all (fun x => x.oneCell') = true by kernel_rfl)
  clear hW0 hg1 hg2 hb0 z1
  go_enter Try.func32, Try.ntmps32
  go_upto_region 1 with fail
  rw [← HW0.out]
  clear HW0
  go_wp2_with (refine list_load rfl 43 (.tmp 1) rfl w.heap.size rfl 43 (spongeC s (.slice ra rl rc)) (0, 0) _ Hg1.out Try.underlying43 rfl (sizeSponge _ _) ?_)
  refine (validS_no s ra rl rc W0 h16).mono ?_
  rintro e w1 ⟨rfl, hb1⟩
  have Hg21 := Lib.hid (Hg2.out.below hb1 Hg2.out.lt)
  have Hb1 : Hid (Below w.heap.size w w1) := Lib.hid (Hb0.out.trans (hb1.mono Hb0.out.size))
  clear hb1 Hg1 Hg2 Hb0
  go_wp2_with (refine wpList_store_row rfl 47 (.tmp 2) (.tmp 11) rfl (w.heap.size + 1) #[.int .u8 0, .int .u8 0, .int .u8 0, .int .u8 0, .int .u8 0, .int .u8 0, .int .u8 0, .int .u8 0, .int .u8 0, .int .u8 0, .int .u8 0, .int .u8 0, .int .u8 0, .int .u8 0, .int .u8 0, .int .u8 0] rfl rfl 47 #[.int .u8 0, .int .u8 0, .int .u8 0, .int .u8 0, .int .u8 0, .int .u8 0, .int .u8 0, .int .u8 0, .int .u8 0, .int .u8 0, .int .u8 0, .int .u8 0, .int .u8 0, .int .u8 0, .int .u8 0, .int .u8 0] Hg21.out Z1.out rfl O1.out ?_)
  refine bodyPost_ret (v := .tuple #[.agg #[.int .u8 0, .int .u8 0, .int .u8 0, .int .u8 0, .int .u8 0, .int .u8 0, .int .u8 0, .int .u8 0, .int .u8 0, .int .u8 0, .int .u8 0, .int .u8 0, .int .u8 0, .int .u8 0, .int .u8 0, .int .u8 0], .int .i64 1]) (results_cell_tmp rfl _ _ (w.heap.size + 1) 47 #[.int .u8 0, .int .u8 0, .int .u8 0, .int .u8 0, .int .u8 0, .int .u8 0, .int .u8 0, .int .u8 0, .int .u8 0, .int .u8 0, .int .u8 0, .int .u8 0, .int .u8 0, .int .u8 0, .int .u8 0, .int .u8 0] (0, 0) _ rfl (setRow_heap _ _ _ _ _ _ Hg21.out) Try.underlying47 rfl Z1.out (.int .i64 1) rfl) rfl ⟨rfl, ?_⟩
  exact Hb1.out.trans (below_setRow _ _ _ _ (by omega))
attribute [local irreducible] absS absR endV digestV startV
theorem dig_of (l : List Int) : endV (absS startV l) (absR l) = digestV l := by unfold digestV; rfl
set_option maxRecDepth 100000 in
set_option maxHeartbeats 4000000 in
theorem rdigest_any (a : Option Addr) (len cap : Nat) (xs : List Int) (w : World) (h : Rd w a len cap xs) (hbig : len ≤ 140737488355000) :
    Calls Try.prog 41 #[.slice a len cap] w fun e w' => e = .returned (.agg (digC (digestV xs))) ∧ Below w.heap.size w w' := by
  obtain ⟨W0, hW0⟩ : ∃ W0, W0 = w.alloc (.cells #[.int .u8 0, .int .u8 0, .int .u8 0, .int .u8 0, .int .u8 0, .int .u8 0, .int .u8 0, .int .u8 0, .int .u8 0, .int .u8 0, .int .u8 0, .int .u8 0, .int .u8 0, .int .u8 0, .int .u8 0, .int .u8 0] 47) := ⟨_, rfl⟩
  have hg0 : Blk W0 w.heap.size 47 (digC (List.replicate 16 0)) := by rw [hW0]; exact heap_new w _
  have hb0 : Below w.heap.size w W0 := by rw [hW0]; exact (Below.refl _ w).alloc (Nat.le_refl _) _
  obtain ⟨σ, hσ⟩ : ∃ σ, σ = absS startV xs := ⟨_, rfl⟩
  obtain ⟨R, hR⟩ : ∃ R, R = absR xs := ⟨_, rfl⟩
  obtain ⟨D, hD⟩ : ∃ D, D = digestV xs := ⟨_, rfl⟩
  have hend : endV σ R = D := by rw [hσ, hR, hD]; exact dig_of xs
  have hDl : D.length = 16 := by rw [hD]; exact digestV_len xs
  have hRl : R.length < 16 := by rw [hR]; exact absR_lt xs
  obtain ⟨m, hm⟩ : ∃ m, m = R.length := ⟨_, rfl⟩
  have hcall := fun (u : World) (hu : Below w.heap.size w u) => rabsorb_ok startV none 0 0 [] a len cap xs u (Rd.nil u) (h.below hu (Nat.le_refl _)) (by omega) (by omega)
  simp only [List.nil_append] at hcall
  rw [← hσ, ← hR] at hcall
  have HW0 := Lib.hid hW0
  have Hg0 := Lib.hid hg0
  have Hb0 := Lib.hid hb0
  have HC := Lib.hid hcall
  have HE := Lib.hid hend
  have HD := Lib.hid hD
  have HDl := Lib.hid hDl
  have Hm := Lib.hid hm
  have hm16 : m < 16 := by omega
  clear hW0 hg0 hb0 hcall hend hσ hR hD hDl hRl hm
  go_enter Try.func41, Try.ntmps41
  go_upto_region 1 with fail
  rw [← HW0.out]
  clear HW0
  go_wp2_with fail
  refine (rstart_any W0).mono ?_
  rintro e w1 ⟨rfl, hb1⟩
  have Hb1 : Hid (Below w.heap.size w w1) := Lib.hid (Hb0.out.trans (hb1.mono Hb0.out.size))
  have Hg1 := Lib.hid (Hg0.out.below hb1 Hg0.out.lt)
  clear hb1 Hg0 Hb0
  go_wp2_with fail
  refine (HC.out w1 Hb1.out).mono ?_
  rintro e w2 ⟨v2, rfl, ho2, hb2⟩
  obtain ⟨r2, c2, rfl, hr2⟩ := ho2.rdz Hm.out.symm
  have hbw2 : Below w.heap.size w w2 := Hb1.out.trans (hb2.mono Hb1.out.size)
  have hg2 := Hg1.out.below hb2 Hg1.out.lt
  obtain ⟨w3, e1, hz3, g3, W4, e2, e3, hg3, hb4, hq4, -⟩ := freshZ hbw2 σ (.slice r2 m c2)
  have Hr4 := Lib.hid (hr2.below hq4 (by omega))
  have Hg4 := Lib.hid (hg2.below hq4 (by rw [← e2]; exact hg2.lt))
  have Hg3 := Lib.hid hg3
  have Hb4 := Lib.hid hb4
  have He1 := Lib.hid e1
  have He2 := Lib.hid e2
  have He3 := Lib.hid e3
  have Hz3 := Lib.hid hz3
  clear ho2 hb2 hr2 hbw2 hg2 e1 hz3 e2 e3 hg3 hb4 hq4 Hb1 Hg1 HC
  go_upto_region 2 with (rw [He1.out]; refine wpList_store_row rfl 43 (.tmp 3) (.tmp 11) rfl w2.heap.size (spongeC σ (.slice r2 m c2)) rfl rfl 43 #[.int .u32 0, .int .u32 0, .int .u32 0, .int .u32 0, .int .u32 0, .int .u32 0, .int .u32 0, .int .u32 0, .slice none 0 0] Hz3.out (sizeSponge _ _) (sizeZE _ _) (oneSponge _ _ _ _) ?_)
  rw [He3.out, He2.out]
  clear He1 He2 He3 Hz3
  go_wp2_with (refine list_load rfl 43 (.tmp 3) rfl g3 rfl 43 (spongeC σ (.slice r2 m c2)) (0, 0) _ Hg3.out Try.underlying43 rfl (sizeSponge _ _) ?_)
  refine (rend_ok σ r2 m c2 R W4 Hr4.out hm16).mono ?_
  rintro e w5 ⟨rfl, hb5⟩
  rw [HE.out]
  have hbw5 : Below w.heap.size w w5 := Hb4.out.trans (hb5.mono Hb4.out.size)
  have hg5 := Hg4.out.below hb5 Hg4.out.lt
  obtain ⟨w6, e1, hz6, gd, W7, e2, e3, hgd, hb7, hq7, -⟩ := freshD hbw5 D HDl.out
  have Hg7 := Lib.hid (hg5.below hq7 (by rw [← e2]; exact hg5.lt))
  have Hgd := Lib.hid hgd
  have Hb7 := Lib.hid hb7
  have He1 := Lib.hid e1
  have He2 := Lib.hid e2
  have He3 := Lib.hid e3
  have Hz6 := Lib.hid hz6
  have z1 := Try.sizeDig D HDl.out
  have z2 := zsize D HDl.out
  have z3 := digC_one D
  have Z1 := Lib.hid z1
  have Z2 := Lib.hid z2
  clear hb5 hbw5 hg5 e1 hz6 e2 e3 hgd hb7 hq7 Hr4 Hg4 Hg3 Hb4
  go_upto_region 3 with (rw [He1.out]; refine wpList_store_row rfl 47 (.tmp 5) (.tmp 16) rfl w5.heap.size (digC D) rfl rfl 47 (digC (List.replicate 16 0)) Hz6.out z1 z2 z3 ?_)
  rw [He3.out, He2.out]
  clear He1 He2 He3 Hz6 z1 z2
  go_wp2_with (first
    | (refine list_load rfl 47 (.tmp 5) rfl gd rfl 47 (digC D) (0, 0) _ Hgd.out Try.underlying47 rfl Z1.out ?_)
    | (refine wpList_store_row rfl 47 (.tmp 2) (.tmp 18) rfl w.heap.size (digC D) rfl rfl 47 (digC (List.replicate 16 0)) Hg7.out Z1.out Z2.out z3 ?_))
  refine bodyPost_ret (v := .agg (digC D)) ?_ rfl ⟨by rw [HD.out], Hb7.out.trans (below_setRow _ _ _ _ (Nat.le_refl _))⟩
  exact results_cell_row rfl _ _ w.heap.size 47 (digC D) (0, 0) _ rfl (setRow_heap _ _ _ _ _ _ Hg7.out) Try.underlying47 rfl Z1.out
end Go.Proofs.Ytjkkjfigoanplaa
