/- find: a place, by one way after another. -/
import Derived.Test.YtknacgdjodmaiaaDoorBways
import Derived.Deep.DeepCutAuto
namespace Go.Proofs.YtknacgdjodmaiaaDoor
set_option linter.unusedVariables false
open Go.RowKit Go.Shelf

/-- The place that find answers, where best would answer bst. -/
def findV (bs : List Int) (M : Nat) (many : Int) (near : Nat) (bst : Option Nat) (how : Nat) : Option Nat :=
  if how = 3 then (match nextV bs M many near with | some x => some x | none => nextV bs M many 0) else if how = 1 then nextV bs M many 0 else bst
set_option maxRecDepth 100000 in
set_option maxHeartbeats 4000000 in
theorem find_any (M : Nat) (a : Option Addr) (l c : Nat) (bs : List Int) (many : Int) (near how : Nat) (bst : Option Nat) (w : World) (hr : Rd w a l c bs) (hv : validB (M : Int) bs = true) (hn_near : near ≤ M) (h1 : 1 ≤ how) (h3 : how ≤ 3)
    (hbest : how = 2 → ∀ W, Below w.heap.size w W → Calls Tryd.prog 103 #[.agg #[.int .i64 (M : Int), .slice a l c], .int .i64 many, .int .i64 (near : Int)] W fun e w' => e = .returned (.tuple #[.int .i64 (bst.getD 0 : Nat), .bool bst.isSome]) ∧ Below W.heap.size W w') :
    Calls Tryd.prog 79 #[.agg #[.int .i64 (M : Int), .slice a l c], .int .i64 many, .int .i64 (how : Int), .int .i64 (near : Int)] w fun e w' => e = .returned (.tuple #[.int .i64 ((findV bs M many near bst how).getD 0 : Nat), .bool (findV bs M many near bst how).isSome]) ∧ Below w.heap.size w w' := by
  obtain ⟨W0, hW0⟩ : ∃ W0, w.alloc (.cells #[.int .i64 (M : Int), .slice a l c] 24) = W0 := ⟨_, rfl⟩
  have hb0 : Below w.heap.size w W0 := by rw [← hW0]; exact (Below.refl _ w).alloc (Nat.le_refl _) _
  have hB0 : Blk W0 w.heap.size 24 #[.int .i64 (M : Int), .slice a l c] := by rw [← hW0]; exact heap_new w _
  have hs0 : W0.heap.size = w.heap.size + 1 := by rw [← hW0]; simp
  obtain ⟨V, hV⟩ : ∃ V, V = (W0.alloc (.cells wayTab 110)).alloc (.cells wayTab 110) := ⟨_, rfl⟩
  have hbV : Below W0.heap.size W0 V := by rw [hV]; exact ((Below.refl _ W0).alloc (Nat.le_refl _) _).alloc (by simp) _
  have hTV : Blk V (w.heap.size + 2) 110 wayTab := by
    rw [hV]; have := heap_new (W0.alloc (.cells wayTab 110)) (.cells wayTab 110); rw [World.size_alloc, hs0] at this; exact this
  have hbwV := hb0.trans (hbV.mono (by omega))
  have HW := Lib.hid hW0
  have HV := Lib.hid hV
  have HbwV := Lib.hid hbwV
  have HBV := Lib.hid (hB0.below hbV hB0.lt)
  have HTV := Lib.hid hTV
  have HRw := Lib.hid hr
  have Hv := Lib.hid hv
  have Hbest := Lib.hid hbest
  have Hs0 := Lib.hid hs0
  obtain ⟨res, hres⟩ : ∃ r, r = findV bs M many near bst how := ⟨_, rfl⟩
  rw [← hres]
  have Hres := Lib.hid hres
  clear hW0 hb0 hB0 hs0 hV hbV hTV hbwV hr hv hbest hres
  go_enter Tryd.func79, Tryd.ntmps79
  go_upto_region 1 with fail
  rw [HW.out]
  go_wp2_with (first
    | (go_at_call 94; refine (ways_any _).mono ?_; rintro e w1 ⟨rfl, rfl⟩)
    | (refine wpList_store_newAt (by rfl) 110 (.tmp 10) (.tmp 11) rfl wayTab (W0.heap.size + 1) (by simp) rfl rfl 110 _ Tryd.sizeWays (by kernel_rfl) (by kernel_rfl) ?_))
  rw [← HV.out, Hs0.out]
  simp only [Act.put]
  rw [show w.heap.size + 1 + 1 = w.heap.size + 2 from rfl]
  go_loopw [2, 8, 9] (fun h x f wr => ∃ (hn : Nat) (r : Option Nat), h = .int .i64 (hn : Int) ∧ x = .int .i64 (r.getD 0 : Nat) ∧ f = .bool r.isSome ∧ Below V.heap.size V wr ∧ ((hn = how ∧ r = none) ∨ (hn = 0 ∧ r = res) ∨ (hn = 1 ∧ how = 3 ∧ r = nextV bs M many near))) (fun h _ _ _ => (intOf h).toNat)
  case atStart => exact ⟨how, none, rfl, rfl, rfl, Below.refl _ _, .inl ⟨rfl, rfl⟩⟩
  case round =>
    obtain ⟨hn, r, rfl, rfl, rfl, hbr, hst⟩ := hrel
    have HVr := Lib.hid hbr
    have HT := Lib.hid (HTV.out.below hbr HTV.out.lt)
    have HB := Lib.hid (HBV.out.below hbr HBV.out.lt)
    have hbw := HbwV.out.trans (hbr.mono HbwV.out.size)
    have HRr := Lib.hid (HRw.out.below hbw (Nat.le_refl _))
    have Hbw := Lib.hid hbw
    clear hbr hbw HTV HBV HW HV
    have hres1 : how = 1 → res = nextV bs M many 0 := fun h => by rw [Hres.out]; unfold findV; rw [if_neg (by omega), if_pos h]
    have hres2 : how = 2 → res = bst := fun h => by rw [Hres.out]; unfold findV; rw [if_neg (by omega), if_neg (by omega)]
    have hres3 : how = 3 → nextV bs M many near = none → res = nextV bs M many 0 := fun h h0 => by rw [Hres.out]; unfold findV; rw [if_pos h, h0]
    have hres4 : how = 3 → ∀ x, nextV bs M many near = some x → res = some x := fun h x h0 => by rw [Hres.out]; unfold findV; rw [if_pos h, h0]
    have Hr1 := Lib.hid (And.intro hres1 (And.intro hres2 (And.intro hres3 hres4)))
    have Hst := Lib.hid hst
    clear hres1 hres2 hres3 hres4 hst
    by_cases hgo : hn ≠ 0 ∧ r = none
    · obtain ⟨hn0, rfl⟩ := hgo
      have hcase : hn = 1 ∨ hn = 2 ∨ hn = 3 := by rcases Hst.out with ⟨h, -⟩ | ⟨h, -⟩ | ⟨h, -⟩ <;> omega
      rcases hcase with rfl | rfl | rfl
      · have hfin : nextV bs M many 0 = res := by
          rcases Hst.out with ⟨h, -⟩ | ⟨h, -⟩ | ⟨-, h, h'⟩
          · exact (Hr1.out.1 h.symm).symm
          · omega
          · exact (Hr1.out.2.2.1 h h'.symm).symm
        have Hfin := Lib.hid hfin
        clear hfin hn0
        simp only [Option.getD_none, Option.isSome_none]
        go_wp2_with fail
        refine wp_region_held_drew (S := Below wr.heap.size wr) (by kernel_rfl) (Below.refl _ _).drew (fun _ => ?_)
        have HS : Hid (Below wr.heap.size wr wr.drew) := Lib.hid (Below.refl _ _).drew
        refine wpAnyH_take (i := 0) (v := .int .i64 1) rfl (by kernel_rfl) (by kernel_rfl) (by kernel_rfl) (fun _ _ _ h => h) (Or.inl ⟨by rfl, ?_⟩) HS.out ?_
        · intro u hu; go_simp
        go_simp
        refine wpAnyH_take (i := 1) (v := .pointer (some ⟨w.heap.size + 2, 2, none⟩)) rfl (by kernel_rfl) (by kernel_rfl) (by kernel_rfl) (fun _ _ _ h => h) (Or.inl ⟨by rfl, ?_⟩) HS.out ?_
        · intro u hu; go_simp
        go_simp
        refine wpAnyH_take (i := 2) (v := .pointer (some ⟨w.heap.size + 2, 2, none⟩)) rfl (by kernel_rfl) (by kernel_rfl) (by kernel_rfl) (fun _ _ _ h => h) (Or.inl ⟨by rfl, ?_⟩) HS.out ?_
        · intro u hu; go_simp
        go_simp
        refine wpAnyH_take (i := 3) (v := .func (.func 101) #[] #[]) rfl (by kernel_rfl) (by kernel_rfl) (by kernel_rfl) (fun _ _ _ h => h) (Or.inl ⟨by rfl, ?_⟩) HS.out ?_
        · intro u hu; have : u.cell? ⟨w.heap.size + 2, 2, none⟩ = some (.func (.func 101) #[] #[]) := (HT.out.below hu HT.out.lt).cell 2; go_simp
        go_simp
        refine wpAnyH_take (i := 4) (v := .agg #[.int .i64 (M : Int), .slice a l c]) rfl (by kernel_rfl) (by kernel_rfl) (by kernel_rfl) (fun _ _ _ h => h) (Or.inl ⟨by rfl, ?_⟩) HS.out ?_
        · intro u hu; have : u.cell? ⟨w.heap.size, 0, none⟩ = some (.int .i64 (M : Int)) := (HB.out.below hu HB.out.lt).cell 0; have : u.cell? ⟨w.heap.size, 1, none⟩ = some (.slice a l c) := (HB.out.below hu HB.out.lt).cell 1; go_simp
        go_simp
        refine wpAnyH_take (i := 5) (v := .int .i64 many) rfl (by kernel_rfl) (by kernel_rfl) (by kernel_rfl) (fun _ _ _ h => h) (Or.inl ⟨by rfl, ?_⟩) HS.out ?_
        · intro u hu; go_simp
        go_simp
        refine wpAnyH_take (i := 6) (v := .int .i64 (near : Int)) rfl (by kernel_rfl) (by kernel_rfl) (by kernel_rfl) (fun _ _ _ h => h) (Or.inl ⟨by rfl, ?_⟩) HS.out ?_
        · intro u hu; go_simp
        go_simp
        refine wpAnyH_ready (rs := [7]) (by kernel_rfl) (by simp) ?_
        refine AllReadyH.cons rfl (fun K hK => ?_) AllReadyH.nil
        go_simp
        refine (ways1_any M a l c bs many near wr.drew (HRr.out.drew) Hv.out).mono ?_
        rintro e u ⟨rfl, hb⟩
        have HS2 : Hid (Below wr.heap.size wr u) := Lib.hid (HS.out.trans (hb.mono HS.out.size))
        clear HS hb
        have HS := HS2
        clear HS2
        refine hK.out _ _ HS.out (fun _ => ?_)
        clear hK K
        refine wpAnyH_take (i := 8) (v := .tuple #[.int .i64 ((nextV bs M many 0).getD 0 : Nat), .bool (nextV bs M many 0).isSome]) rfl (by kernel_rfl) (by kernel_rfl) (by kernel_rfl) (fun _ _ _ h => h) (Or.inl ⟨by rfl, ?_⟩) HS.out ?_
        · intro u hu; go_simp
        go_simp
        refine wpAnyH_take (i := 9) (v := .int .i64 ((nextV bs M many 0).getD 0 : Nat)) rfl (by kernel_rfl) (by kernel_rfl) (by kernel_rfl) (fun _ _ _ h => h) (Or.inl ⟨by rfl, ?_⟩) HS.out ?_
        · intro u hu; go_simp
        go_simp
        refine wpAnyH_take (i := 10) (v := .bool (nextV bs M many 0).isSome) rfl (by kernel_rfl) (by kernel_rfl) (by kernel_rfl) (fun _ _ _ h => h) (Or.inl ⟨by rfl, ?_⟩) HS.out ?_
        · intro u hu; go_simp
        go_simp
        refine wpAnyH_ready (rs := [11]) (by kernel_rfl) (by simp) ?_
        refine AllReadyH.cons rfl (fun K hK => ?_) AllReadyH.nil
        go_simp
        refine hK.out _ _ HS.out (fun _ => ?_)
        clear hK K
        refine wpAnyH_ready (rs := [12]) (by kernel_rfl) (by simp) ?_
        refine AllReadyH.cons rfl (fun K hK => ?_) AllReadyH.nil
        go_simp
        refine hK.out _ _ HS.out (fun _ => ?_)
        clear hK K
        refine wpAnyH_done (by kernel_rfl) ?_ _
        have t1 : u.cell? ⟨w.heap.size + 2, 3, none⟩ = some (.int .i64 0) := (HT.out.below HS.out HT.out.lt).cell 3
        have HZ := Lib.hid (HVr.out.trans (HS.out.mono HVr.out.size))
        clear HS HT HB HVr
        go_wp2_with fail
        go_roundw
        case rel => exact ⟨0, nextV bs M many 0, rfl, rfl, rfl, HZ.out, .inr (.inl ⟨rfl, Hfin.out⟩)⟩
        case measure => decide
      · have hh2 : how = 2 := by rcases Hst.out with ⟨h, -⟩ | ⟨h, -⟩ | ⟨h, -⟩ <;> omega
        have hfin : bst = res := (Hr1.out.2.1 hh2).symm
        have Hfin := Lib.hid hfin
        clear hfin hn0
        simp only [Option.getD_none, Option.isSome_none]
        go_wp2_with fail
        refine wp_region_held_drew (S := Below wr.heap.size wr) (by kernel_rfl) (Below.refl _ _).drew (fun _ => ?_)
        have HS : Hid (Below wr.heap.size wr wr.drew) := Lib.hid (Below.refl _ _).drew
        refine wpAnyH_take (i := 0) (v := .int .i64 2) rfl (by kernel_rfl) (by kernel_rfl) (by kernel_rfl) (fun _ _ _ h => h) (Or.inl ⟨by rfl, ?_⟩) HS.out ?_
        · intro u hu; go_simp
        go_simp
        refine wpAnyH_take (i := 1) (v := .pointer (some ⟨w.heap.size + 2, 4, none⟩)) rfl (by kernel_rfl) (by kernel_rfl) (by kernel_rfl) (fun _ _ _ h => h) (Or.inl ⟨by rfl, ?_⟩) HS.out ?_
        · intro u hu; go_simp
        go_simp
        refine wpAnyH_take (i := 2) (v := .pointer (some ⟨w.heap.size + 2, 4, none⟩)) rfl (by kernel_rfl) (by kernel_rfl) (by kernel_rfl) (fun _ _ _ h => h) (Or.inl ⟨by rfl, ?_⟩) HS.out ?_
        · intro u hu; go_simp
        go_simp
        refine wpAnyH_take (i := 3) (v := .func (.func 103) #[] #[]) rfl (by kernel_rfl) (by kernel_rfl) (by kernel_rfl) (fun _ _ _ h => h) (Or.inl ⟨by rfl, ?_⟩) HS.out ?_
        · intro u hu; have : u.cell? ⟨w.heap.size + 2, 4, none⟩ = some (.func (.func 103) #[] #[]) := (HT.out.below hu HT.out.lt).cell 4; go_simp
        go_simp
        refine wpAnyH_take (i := 4) (v := .agg #[.int .i64 (M : Int), .slice a l c]) rfl (by kernel_rfl) (by kernel_rfl) (by kernel_rfl) (fun _ _ _ h => h) (Or.inl ⟨by rfl, ?_⟩) HS.out ?_
        · intro u hu; have : u.cell? ⟨w.heap.size, 0, none⟩ = some (.int .i64 (M : Int)) := (HB.out.below hu HB.out.lt).cell 0; have : u.cell? ⟨w.heap.size, 1, none⟩ = some (.slice a l c) := (HB.out.below hu HB.out.lt).cell 1; go_simp
        go_simp
        refine wpAnyH_take (i := 5) (v := .int .i64 many) rfl (by kernel_rfl) (by kernel_rfl) (by kernel_rfl) (fun _ _ _ h => h) (Or.inl ⟨by rfl, ?_⟩) HS.out ?_
        · intro u hu; go_simp
        go_simp
        refine wpAnyH_take (i := 6) (v := .int .i64 (near : Int)) rfl (by kernel_rfl) (by kernel_rfl) (by kernel_rfl) (fun _ _ _ h => h) (Or.inl ⟨by rfl, ?_⟩) HS.out ?_
        · intro u hu; go_simp
        go_simp
        refine wpAnyH_ready (rs := [7]) (by kernel_rfl) (by simp) ?_
        refine AllReadyH.cons rfl (fun K hK => ?_) AllReadyH.nil
        go_simp
        refine (Hbest.out hh2 wr.drew (Hbw.out.drew)).mono ?_
        rintro e u ⟨rfl, hb⟩
        have HS2 : Hid (Below wr.heap.size wr u) := Lib.hid (HS.out.trans (hb.mono HS.out.size))
        clear HS hb
        have HS := HS2
        clear HS2
        refine hK.out _ _ HS.out (fun _ => ?_)
        clear hK K
        refine wpAnyH_take (i := 8) (v := .tuple #[.int .i64 ((bst).getD 0 : Nat), .bool (bst).isSome]) rfl (by kernel_rfl) (by kernel_rfl) (by kernel_rfl) (fun _ _ _ h => h) (Or.inl ⟨by rfl, ?_⟩) HS.out ?_
        · intro u hu; go_simp
        go_simp
        refine wpAnyH_take (i := 9) (v := .int .i64 ((bst).getD 0 : Nat)) rfl (by kernel_rfl) (by kernel_rfl) (by kernel_rfl) (fun _ _ _ h => h) (Or.inl ⟨by rfl, ?_⟩) HS.out ?_
        · intro u hu; go_simp
        go_simp
        refine wpAnyH_take (i := 10) (v := .bool (bst).isSome) rfl (by kernel_rfl) (by kernel_rfl) (by kernel_rfl) (fun _ _ _ h => h) (Or.inl ⟨by rfl, ?_⟩) HS.out ?_
        · intro u hu; go_simp
        go_simp
        refine wpAnyH_ready (rs := [11]) (by kernel_rfl) (by simp) ?_
        refine AllReadyH.cons rfl (fun K hK => ?_) AllReadyH.nil
        go_simp
        refine hK.out _ _ HS.out (fun _ => ?_)
        clear hK K
        refine wpAnyH_ready (rs := [12]) (by kernel_rfl) (by simp) ?_
        refine AllReadyH.cons rfl (fun K hK => ?_) AllReadyH.nil
        go_simp
        refine hK.out _ _ HS.out (fun _ => ?_)
        clear hK K
        refine wpAnyH_done (by kernel_rfl) ?_ _
        have t1 : u.cell? ⟨w.heap.size + 2, 5, none⟩ = some (.int .i64 0) := (HT.out.below HS.out HT.out.lt).cell 5
        have HZ := Lib.hid (HVr.out.trans (HS.out.mono HVr.out.size))
        clear HS HT HB HVr
        go_wp2_with fail
        go_roundw
        case rel => exact ⟨0, bst, rfl, rfl, rfl, HZ.out, .inr (.inl ⟨rfl, Hfin.out⟩)⟩
        case measure => decide
      · have hh3 : how = 3 := by rcases Hst.out with ⟨h, -⟩ | ⟨h, -⟩ | ⟨h, -⟩ <;> omega
        clear hn0
        simp only [Option.getD_none, Option.isSome_none]
        go_wp2_with fail
        refine wp_region_held_drew (S := Below wr.heap.size wr) (by kernel_rfl) (Below.refl _ _).drew (fun _ => ?_)
        have HS : Hid (Below wr.heap.size wr wr.drew) := Lib.hid (Below.refl _ _).drew
        refine wpAnyH_take (i := 0) (v := .int .i64 3) rfl (by kernel_rfl) (by kernel_rfl) (by kernel_rfl) (fun _ _ _ h => h) (Or.inl ⟨by rfl, ?_⟩) HS.out ?_
        · intro u hu; go_simp
        go_simp
        refine wpAnyH_take (i := 1) (v := .pointer (some ⟨w.heap.size + 2, 6, none⟩)) rfl (by kernel_rfl) (by kernel_rfl) (by kernel_rfl) (fun _ _ _ h => h) (Or.inl ⟨by rfl, ?_⟩) HS.out ?_
        · intro u hu; go_simp
        go_simp
        refine wpAnyH_take (i := 2) (v := .pointer (some ⟨w.heap.size + 2, 6, none⟩)) rfl (by kernel_rfl) (by kernel_rfl) (by kernel_rfl) (fun _ _ _ h => h) (Or.inl ⟨by rfl, ?_⟩) HS.out ?_
        · intro u hu; go_simp
        go_simp
        refine wpAnyH_take (i := 3) (v := .func (.func 102) #[] #[]) rfl (by kernel_rfl) (by kernel_rfl) (by kernel_rfl) (fun _ _ _ h => h) (Or.inl ⟨by rfl, ?_⟩) HS.out ?_
        · intro u hu; have : u.cell? ⟨w.heap.size + 2, 6, none⟩ = some (.func (.func 102) #[] #[]) := (HT.out.below hu HT.out.lt).cell 6; go_simp
        go_simp
        refine wpAnyH_take (i := 4) (v := .agg #[.int .i64 (M : Int), .slice a l c]) rfl (by kernel_rfl) (by kernel_rfl) (by kernel_rfl) (fun _ _ _ h => h) (Or.inl ⟨by rfl, ?_⟩) HS.out ?_
        · intro u hu; have : u.cell? ⟨w.heap.size, 0, none⟩ = some (.int .i64 (M : Int)) := (HB.out.below hu HB.out.lt).cell 0; have : u.cell? ⟨w.heap.size, 1, none⟩ = some (.slice a l c) := (HB.out.below hu HB.out.lt).cell 1; go_simp
        go_simp
        refine wpAnyH_take (i := 5) (v := .int .i64 many) rfl (by kernel_rfl) (by kernel_rfl) (by kernel_rfl) (fun _ _ _ h => h) (Or.inl ⟨by rfl, ?_⟩) HS.out ?_
        · intro u hu; go_simp
        go_simp
        refine wpAnyH_take (i := 6) (v := .int .i64 (near : Int)) rfl (by kernel_rfl) (by kernel_rfl) (by kernel_rfl) (fun _ _ _ h => h) (Or.inl ⟨by rfl, ?_⟩) HS.out ?_
        · intro u hu; go_simp
        go_simp
        refine wpAnyH_ready (rs := [7]) (by kernel_rfl) (by simp) ?_
        refine AllReadyH.cons rfl (fun K hK => ?_) AllReadyH.nil
        go_simp
        refine (next_any M a l c bs many near wr.drew (HRr.out.drew) Hv.out hn_near).mono ?_
        rintro e u ⟨rfl, hb⟩
        have HS2 : Hid (Below wr.heap.size wr u) := Lib.hid (HS.out.trans (hb.mono HS.out.size))
        clear HS hb
        have HS := HS2
        clear HS2
        refine hK.out _ _ HS.out (fun _ => ?_)
        clear hK K
        refine wpAnyH_take (i := 8) (v := .tuple #[.int .i64 ((nextV bs M many near).getD 0 : Nat), .bool (nextV bs M many near).isSome]) rfl (by kernel_rfl) (by kernel_rfl) (by kernel_rfl) (fun _ _ _ h => h) (Or.inl ⟨by rfl, ?_⟩) HS.out ?_
        · intro u hu; go_simp
        go_simp
        refine wpAnyH_take (i := 9) (v := .int .i64 ((nextV bs M many near).getD 0 : Nat)) rfl (by kernel_rfl) (by kernel_rfl) (by kernel_rfl) (fun _ _ _ h => h) (Or.inl ⟨by rfl, ?_⟩) HS.out ?_
        · intro u hu; go_simp
        go_simp
        refine wpAnyH_take (i := 10) (v := .bool (nextV bs M many near).isSome) rfl (by kernel_rfl) (by kernel_rfl) (by kernel_rfl) (fun _ _ _ h => h) (Or.inl ⟨by rfl, ?_⟩) HS.out ?_
        · intro u hu; go_simp
        go_simp
        refine wpAnyH_ready (rs := [11]) (by kernel_rfl) (by simp) ?_
        refine AllReadyH.cons rfl (fun K hK => ?_) AllReadyH.nil
        go_simp
        refine hK.out _ _ HS.out (fun _ => ?_)
        clear hK K
        refine wpAnyH_ready (rs := [12]) (by kernel_rfl) (by simp) ?_
        refine AllReadyH.cons rfl (fun K hK => ?_) AllReadyH.nil
        go_simp
        refine hK.out _ _ HS.out (fun _ => ?_)
        clear hK K
        refine wpAnyH_done (by kernel_rfl) ?_ _
        have t1 : u.cell? ⟨w.heap.size + 2, 7, none⟩ = some (.int .i64 1) := (HT.out.below HS.out HT.out.lt).cell 7
        have HZ := Lib.hid (HVr.out.trans (HS.out.mono HVr.out.size))
        clear HS HT HB HVr
        go_wp2_with fail
        go_roundw
        case rel => exact ⟨1, nextV bs M many near, rfl, rfl, rfl, HZ.out, .inr (.inr ⟨rfl, hh3, rfl⟩)⟩
        case measure => decide
    · have hrr : r = res := by
        rcases Hst.out with ⟨h, h'⟩ | ⟨h, h'⟩ | ⟨h, h', h''⟩
        · exact absurd ⟨by omega, h'⟩ hgo
        · exact h'
        · cases hrc : r with
          | none => exact absurd ⟨by omega, hrc⟩ hgo
          | some x => exact (Hr1.out.2.2.2 h' x (by rw [← h'', hrc])).symm
      rw [hrr]
      have Hrr := Lib.hid hrr
      have hstop : hn = 0 ∨ r.isSome = true := by
        by_cases h0 : hn = 0
        · exact .inl h0
        · refine .inr ?_
          cases hrc : r with
          | none => exact absurd ⟨h0, hrc⟩ hgo
          | some x => rfl
      rw [hrr] at hstop
      clear hgo hrr Hst HT HB HRr
      obtain ⟨x0, hx0⟩ : ∃ x, x = res.getD 0 := ⟨_, rfl⟩
      obtain ⟨f0, hf0⟩ : ∃ f, f = res.isSome := ⟨_, rfl⟩
      rw [← hf0] at hstop ⊢
      rw [← hx0]
      have Hx0 := Lib.hid hx0
      have Hf0 := Lib.hid hf0
      clear hx0 hf0
      by_cases h0 : hn = 0
      · subst h0
        go_wp2_with fail
        go_ret2
        exact ⟨by rw [← Hx0.out, ← Hf0.out]; rfl, Hbw.out⟩
      · have hf1 : f0 = true := by rcases hstop with h | h; exact absurd h h0; exact h
        subst hf1
        have hgt : (0 : Int) < (hn : Int) := by omega
        clear hstop h0
        go_wp2_with fail
        go_ret2
        exact ⟨by rw [← Hx0.out, ← Hf0.out]; rfl, Hbw.out⟩
end Go.Proofs.YtknacgdjodmaiaaDoor
