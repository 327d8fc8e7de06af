/- clone, and empty: bitmaps of the call's own. -/
import Derived.Test.YtknacgdjodmaiaaDoorBneed
import Derived.Test.YtknacgdjodmaiaaDoorBcall
namespace Go.Proofs.YtknacgdjodmaiaaDoor
set_option linter.unusedVariables false
open Go.RowKit Go.Shelf

/-- A row filled anew, cell by cell. -/
theorem filled {w : World} {g : Nat} {old : Array Value} {t : TypeId} (h : w.heap[g]? = some (.cells old t (0, 0))) (cs : Array Value) : ∃ W, w.setRow g cs = W ∧ W.heap[g]? = some (.cells cs t (0, 0)) ∧ Below g w W ∧ W.heap.size = w.heap.size ∧ (∀ k, k ≠ g → W.heap[k]? = w.heap[k]?) :=
  ⟨_, rfl, setRow_heap w g _ cs t (0, 0) h, ⟨rfl, rfl, rfl, by simp, fun k hk => setRow_other w g k cs (by omega)⟩, by simp, fun k hk => setRow_other w g k cs hk⟩
/-- What a function's own result cell holds goes out as it stands. -/
theorem Own.other {w W : World} {B g : Nat} {v : Value} {xs : List Int} (h : Own w B v xs) (hk : ∀ k, k ≠ g → W.heap[k]? = w.heap[k]?) (hg : g < B) : Own W B v xs := by
  refine ⟨⟨h.1.1, ?_⟩, h.2⟩
  rcases h.1.2 with hn | ⟨g', cap, cur, rfl, hg0, hgg, rest⟩
  · exact .inl hn
  · exact .inr ⟨g', cap, cur, rfl, hg0, (hk g' (by omega)).trans hgg, rest⟩
/-- The boxes of clone. -/
theorem clone_boxes (w : World) (v0 v1 : Value) : ∃ W0, (w.alloc (.cells #[v0, v1] 24)).alloc (.cells #[.int .i64 0, .slice none 0 0] 24) = W0 ∧ Blk W0 w.heap.size 24 #[v0, v1] ∧ Blk W0 (w.heap.size + 1) 24 #[.int .i64 0, .slice none 0 0] ∧ Below w.heap.size w W0 ∧ W0.heap.size = w.heap.size + 2 := by
  refine ⟨_, rfl, ?_, ?_, ?_, by simp⟩
  · exact Blk.below (heap_new w _ : Blk (w.alloc _) _ _ _) ((Below.refl _ _).alloc (Nat.le_refl _) _) (by simp)
  · have := heap_new (w.alloc (.cells #[v0, v1] 24)) (.cells #[.int .i64 0, .slice none 0 0] 24)
    rw [World.size_alloc] at this; exact this
  · exact ((Below.refl _ w).alloc (Nat.le_refl _) _).alloc (by simp) _
set_option maxRecDepth 100000 in
set_option maxHeartbeats 2000000 in
theorem cloneB_any (N : Int) (a : Option Addr) (len cap : Nat) (bs : List Int) (w : World) (hr : Rd w a len cap bs) (hbig : len ≤ 140737488355328) :
    Calls Tryd.prog 49 #[.agg #[.int .i64 N, .slice a len cap]] w fun e w' => ∃ a' c', e = .returned (.agg #[.int .i64 N, .slice a' len c']) ∧ Own w' w.heap.size (.slice a' len c') bs ∧ Below w.heap.size w w' := by
  obtain ⟨W0, hW0, hB, hR, hb0, hs0⟩ := clone_boxes w (.int .i64 N) (.slice a len cap)
  have HR0 := Lib.hid (hr.below hb0 (Nat.le_refl _))
  have hl := hr.hl
  have q0 : W0.cell? ⟨w.heap.size, 0, none⟩ = some (.int .i64 N) := hB.cell 0
  have q1 : W0.cell? ⟨w.heap.size, 1, none⟩ = some (.slice a len cap) := hB.cell 1
  have HW := Lib.hid hW0
  have Hb := Lib.hid hb0
  have HB := Lib.hid hB
  have HRes := Lib.hid hR
  have Hs := Lib.hid hs0
  have Hl := Lib.hid hl
  clear hW0 hB hR hb0 hs0 hr hl q0 q1
  go_enter Tryd.func49, Tryd.ntmps49
  go_upto_region 1 with fail
  rw [HW.out]
  refine wp_region_held_drew (S := Below (w.heap.size + 1) W0) (by kernel_rfl) (Below.refl _ _).drew (fun _ => ?_)
  have HS : Hid (Below (w.heap.size + 1) W0 W0.drew) := Lib.hid (Below.refl _ _).drew
  refine wpAnyH_take (i := 0) (v := .pointer (some ⟨w.heap.size, 0, none⟩)) rfl (by kernel_rfl) (by kernel_rfl) (by kernel_rfl) (fun _ _ _ h => h) (Or.inl ⟨by rfl, ?_⟩) HS.out ?_
  · intro u hu; go_simp
  go_simp
  refine wpAnyH_take (i := 1) (v := .int .i64 N) rfl (by kernel_rfl) (by kernel_rfl) (by kernel_rfl) (fun _ _ _ h => h) (Or.inl ⟨by rfl, ?_⟩) HS.out ?_
  · intro u hu; have : u.cell? ⟨w.heap.size, 0, none⟩ = some (.int .i64 N) := (HB.out.below hu (Nat.lt_succ_self _)).cell 0; go_simp
  go_simp
  refine wpAnyH_take (i := 2) (v := .pointer (some ⟨w.heap.size, 1, none⟩)) rfl (by kernel_rfl) (by kernel_rfl) (by kernel_rfl) (fun _ _ _ h => h) (Or.inl ⟨by rfl, ?_⟩) HS.out ?_
  · intro u hu; go_simp
  go_simp
  refine wpAnyH_take (i := 3) (v := .slice a len cap) rfl (by kernel_rfl) (by kernel_rfl) (by kernel_rfl) (fun _ _ _ h => h) (Or.inl ⟨by rfl, ?_⟩) HS.out ?_
  · intro u hu; have : u.cell? ⟨w.heap.size, 1, none⟩ = some (.slice a len cap) := (HB.out.below hu (Nat.lt_succ_self _)).cell 1; go_simp
  go_simp
  refine wpAnyH_ready (rs := [4]) (by kernel_rfl) (by simp) ?_
  refine AllReadyH.cons rfl (fun K hK => ?_) AllReadyH.nil
  go_simp
  refine (clone_any a len cap bs W0.drew HR0.out.drew hbig).mono ?_
  rintro e u ⟨v, rfl, ho, hb⟩
  obtain ⟨ac, cc, rfl, -⟩ := ho.rdz Hl.out
  have hsz : W0.heap.size ≤ u.heap.size := hb.size
  have hres : Blk u (w.heap.size + 1) 24 #[.int .i64 0, .slice none 0 0] := (hb.block _ (show w.heap.size + 1 < W0.heap.size by rw [Hs.out]; omega)).trans HRes.out
  have hbu : Below W0.heap.size W0 u := ⟨hb.os, hb.tape, hb.output, hb.size, hb.block⟩
  have HS2 : Hid (Below (w.heap.size + 1) W0 u) := Lib.hid (hbu.mono (by rw [Hs.out]; omega))
  have HO : Hid (Own u W0.heap.size (.slice ac len cc) bs) := Lib.hid ho
  have HRu := Lib.hid hres
  have Hbu := Lib.hid hbu
  clear HS ho hb hres hbu
  have HS := HS2
  clear HS2
  refine hK.out _ _ HS.out (fun _ => ?_)
  clear hK K
  refine wpAnyH_take (i := 5) (v := .agg #[.int .i64 N, .slice ac len cc]) rfl (by kernel_rfl) (by kernel_rfl) (by kernel_rfl) (fun _ _ _ h => h) (Or.inl ⟨by rfl, ?_⟩) HS.out ?_
  · intro u hu; go_simp
  go_simp
  have f0 := HRu.out.frozen 0
  have f1 := HRu.out.frozen 1
  have k0 : u.cell? ⟨w.heap.size + 1, 0, none⟩ = some (.int .i64 0) := HRu.out.cell 0
  have k1 : u.cell? ⟨w.heap.size + 1, 1, none⟩ = some (.slice none 0 0) := HRu.out.cell 1
  refine wpAnyH_ready (rs := [6]) (by kernel_rfl) (by simp) ?_
  refine AllReadyH.cons rfl (fun K hK => ?_) AllReadyH.nil
  go_simp
  rw [cells2 HRu.out]
  obtain ⟨V, hV, rV, bV, sV, oV⟩ := filled HRu.out #[.int .i64 N, .slice ac len cc]
  rw [hV]
  clear f0 f1 k0 k1
  have HS2 : Hid (Below (w.heap.size + 1) W0 V) := Lib.hid (HS.out.trans bV)
  refine hK.out _ _ HS2.out (fun _ => ?_)
  clear hK K
  refine wpAnyH_done (by kernel_rfl) ?_ _
  have z0 : V.cell? ⟨w.heap.size + 1, 0, none⟩ = some (.int .i64 N) := (show Blk V _ 24 _ from rV).cell 0
  have z1 : V.cell? ⟨w.heap.size + 1, 1, none⟩ = some (.slice ac len cc) := (show Blk V _ 24 _ from rV).cell 1
  have HZ : Hid (Own V w.heap.size (.slice ac len cc) bs ∧ Below w.heap.size w V) := Lib.hid ⟨(HO.out.other oV (by rw [Hs.out]; omega)).mono (by rw [Hs.out]; omega), Hb.out.trans (HS2.out.mono (Nat.le_succ _))⟩
  clear HS HS2 HO HRu Hbu rV bV sV oV hV
  go_wp2_with fail
  simp [bodyPost, results, Tryd.results49, go_sem, z0, z1]
  exact ⟨ac, cc, ⟨rfl, rfl⟩, HZ.out.1, HZ.out.2⟩
end Go.Proofs.YtknacgdjodmaiaaDoor
