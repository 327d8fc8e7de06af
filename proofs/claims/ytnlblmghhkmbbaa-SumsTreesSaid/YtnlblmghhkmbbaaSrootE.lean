/- Root answers as the chapter says. -/
import Derived.Test.YtnlblmghhkmbbaaSroot
namespace Go.Proofs.Ytnlblmghhkmbbaa
set_option linter.unusedVariables false
open Go.RowKit Go.Shelf

theorem results_cell_tmp {P : Program} {fn : Func} {p q : Tmp} {ty : TypeId} (h : fn.results = #[.cell p ty, .tmp q]) (tmps : Array Value) (w : World) (g : Nat) (t : TypeId) (cs : Array Value) (fr : Nat × Nat) (d : TypeDesc)
    (hp : tmps.getD p undef = .pointer (some ⟨g, 0, none⟩)) (hg : w.heap[g]? = some (.cells cs t fr))
    (hu : P.underlying ty = some d) (hd : (match d with | .struct _ | .array _ _ => true | _ => false) = true) (hi : (P.info? ty).map (·.size) = some cs.size) (v : Value) (hq : tmps.getD q undef = v) :
    (results fn tmps).run P w = .ok (.tuple #[.agg cs, v]) w := by
  subst hq
  have hp' : tmps[p]?.getD undef = .pointer (some ⟨g, 0, none⟩) := by simpa using hp
  simp [results, h, hp', asAddr, run_loadVar_row w g t ty cs fr d hg hu hd hi]
/-- The error of Root, and what it answers. -/
def rootE (l : List (List Int)) : Int := if 4096 < l.length then 2 else 0
def rootR (l : List (List Int)) : List Int := if 4096 < l.length then List.replicate 16 0 else if l.length = 0 then digestV [2] else rootV l
theorem rootR_len (l : List (List Int)) : (rootR l).length = 16 := by
  unfold rootR
  split
  · simp
  · split
    · exact digestV_len _
    · exact (rootV_dig l).1
attribute [local irreducible] digestV rootV halfV
set_option maxRecDepth 100000 in
set_option maxHeartbeats 4000000 in
theorem rootE_any (a : Option Addr) (len cap : Nat) (ps : List Pc) (w : World) (h : RdP w a len cap ps) (hs : ∀ p ∈ ps, p.len ≤ 140737488354000) :
    Calls Try.prog 43 #[.slice a len cap] w fun e w' => e = .returned (.tuple #[.agg (digC (rootR (lvs ps))), .int .i64 (rootE (lvs ps))]) ∧ Below w.heap.size w w' := by
  have hl := h.hl
  have hm0 := h.hm
  have hc0 := h.hc
  unfold maxLen at hm0
  have hll : (lvs ps).length = len := by unfold lvs; rw [List.length_map, hl]
  obtain ⟨W1, hW1⟩ : ∃ W1, W1 = w.alloc (.cells (digC (List.replicate 16 0)) 47) := ⟨_, rfl⟩
  have hs1 : W1.heap.size = w.heap.size + 1 := by rw [hW1]; simp
  have hR1 : Blk W1 w.heap.size 47 (digC (List.replicate 16 0)) := by rw [hW1]; exact heap_new w _
  have hb1 : Below w.heap.size w W1 := by rw [hW1]; exact (Below.refl _ w).alloc (Nat.le_refl _) _
  have hp1 := h.below hb1 (Nat.le_refl _)
  have hdl : digC (List.replicate 16 0) = #[.int .u8 0, .int .u8 0, .int .u8 0, .int .u8 0, .int .u8 0, .int .u8 0, .int .u8 0, .int .u8 0, .int .u8 0, .int .u8 0, .int .u8 0, .int .u8 0, .int .u8 0, .int .u8 0, .int .u8 0, .int .u8 0] := by rfl
  by_cases h1 : 4096 < len
  · have e1 : rootR (lvs ps) = List.replicate 16 0 := by unfold rootR; rw [hll, if_pos h1]
    have e2 : rootE (lvs ps) = 2 := by unfold rootE; rw [hll, if_pos h1]
    rw [e1, e2, hdl]
    have g1 : (4096 : Int) < (len : Int) := by omega
    clear hW1 hs1 hR1 hb1 hp1 hdl e1 e2 hll hl h
    go_enter Try.func43, Try.ntmps43
    go_wp2_with fail
    exact bodyPost_ret (v := .tuple #[.agg #[.int .u8 0, .int .u8 0, .int .u8 0, .int .u8 0, .int .u8 0, .int .u8 0, .int .u8 0, .int .u8 0, .int .u8 0, .int .u8 0, .int .u8 0, .int .u8 0, .int .u8 0, .int .u8 0, .int .u8 0, .int .u8 0], .int .i64 2]) (by simp [results, Try.results43, go_sem]) rfl ⟨rfl, (Below.refl _ w).alloc (Nat.le_refl _) _⟩
  · have e2 : rootE (lvs ps) = 0 := by unfold rootE; rw [hll, if_neg h1]
    rw [e2]
    have g1 : ¬ (4096 : Int) < (len : Int) := by omega
    rw [hdl] at hW1
    have HW1 := Lib.hid hW1
    have Hs1 := Lib.hid hs1
    have HR1 := Lib.hid hR1
    have Hb1 := Lib.hid hb1
    have Hp1 := Lib.hid hp1
    by_cases h0 : len = 0
    · have e1 : rootR (lvs ps) = digestV [2] := by unfold rootR; rw [hll, if_neg h1, if_pos h0]
      subst h0
      rw [e1]
      obtain ⟨W2, hW2⟩ : ∃ W2, W2 = W1.alloc (.cells #[.int .u8 2] 5) := ⟨_, rfl⟩
      have hb2 : Below W1.heap.size W1 W2 := by rw [hW2]; exact (Below.refl _ W1).alloc (Nat.le_refl _) _
      have hO2 : Blk W2 W1.heap.size 5 #[.int .u8 2] := by rw [hW2]; exact heap_new W1 _
      have hr2 := byte_rd hO2 (by omega)
      have HR2 : Hid (Blk W2 w.heap.size 47 (digC (List.replicate 16 0))) := Lib.hid (hR1.below hb2 (by omega))
      have Hbw2 : Hid (Below w.heap.size w W2) := Lib.hid (hb1.trans (hb2.mono (by omega)))
      have Hr2 := Lib.hid hr2
      have HW2 := Lib.hid hW2
      clear hW1 hs1 hR1 hb1 hp1 hdl e1 e2 hll hl h hb2 hO2 hr2 hW2
      go_enter Try.func43, Try.ntmps43
      go_upto_region 1 with fail
      rw [← HW1.out]
      go_wp2_with fail
      rw [← HW2.out]
      refine (digest_any _ 1 1 [2] W2 Hr2.out (by omega)).mono ?_
      rintro e w3 ⟨rfl, hb3⟩
      obtain ⟨d, hd⟩ : ∃ d, d = digestV [2] := ⟨_, rfl⟩
      rw [← hd]
      have hdl : d.length = 16 := by rw [hd]; exact digestV_len _
      have HR3 : Hid (Blk w3 w.heap.size 47 (digC (List.replicate 16 0))) := Lib.hid (HR2.out.below hb3 HR2.out.lt)
      have Hbw3 : Hid (Below w.heap.size w w3) := Lib.hid (Hbw2.out.trans (hb3.mono Hbw2.out.size))
      have hrw := HR3.out.lt
      have z1 := Try.sizeDig d hdl
      have z2 : (digC (List.replicate 16 0)).size = (digC d).size := by rw [digC_size, digC_size, hdl]; rfl
      have z3 : (digC d).all (fun x => x.oneCell') = true := digC_one d
      have Hd := Lib.hid hd
      clear hb3 hd hdl HR2 Hbw2 Hr2 HW1 HW2 Hp1 HR1 Hb1
      go_wp2_with (refine wpList_store_row rfl 47 (.tmp 2) (.tmp 12) rfl w.heap.size (digC d) rfl rfl 47 (digC (List.replicate 16 0)) HR3.out z1 z2 z3 ?_)
      refine bodyPost_ret (v := .tuple #[.agg (digC d), .int .i64 0]) ?_ rfl ⟨by rw [Hd.out], Hbw3.out.trans (below_setRow _ _ _ _ (Nat.le_refl _))⟩
      exact results_cell_tmp (p := 2) (q := 3) rfl _ _ w.heap.size 47 _ (0, 0) _ rfl (setRow_heap _ _ _ _ _ _ HR3.out) Try.underlying47 rfl z1 _ rfl
    · have e1 : rootR (lvs ps) = rootV (lvs ps) := by unfold rootR; rw [hll, if_neg h1, if_neg h0]
      rw [e1]
      have g2 : ((len : Int) == 0) = false := by simp; omega
      have Hcall := Lib.hid (root_any len a len cap ps W1 rfl hp1 hs (by omega) (by omega))
      have hvd := (rootV_dig (lvs ps)).1
      obtain ⟨d, hd⟩ : ∃ d, d = rootV (lvs ps) := ⟨_, rfl⟩
      rw [← hd] at Hcall hvd ⊢
      have Hd := Lib.hid hd
      clear hW1 hs1 hR1 hb1 hp1 hdl e1 e2 hll hl h hd hs Hp1
      go_enter Try.func43, Try.ntmps43
      go_upto_region 1 with fail
      rw [← HW1.out]
      go_wp2_with fail
      refine Hcall.out.mono ?_
      rintro e w3 ⟨v, rfl, hb3⟩
      have HR3 : Hid (Blk w3 w.heap.size 47 (digC (List.replicate 16 0))) := Lib.hid (HR1.out.below hb3 HR1.out.lt)
      have Hbw3 : Hid (Below w.heap.size w w3) := Lib.hid (Hb1.out.trans (hb3.mono Hb1.out.size))
      have hrw := HR3.out.lt
      have z1 := Try.sizeDig d hvd
      have z2 : (digC (List.replicate 16 0)).size = (digC d).size := by rw [digC_size, digC_size, hvd]; rfl
      have z3 : (digC d).all (fun x => x.oneCell') = true := digC_one d
      have hf := run_field_node d v hvd
      clear hb3 hvd HR1 Hb1 HW1 Hcall
      go_wp2_with (refine wpList_store_row rfl 47 (.tmp 2) (.tmp 15) rfl w.heap.size (digC d) rfl rfl 47 (digC (List.replicate 16 0)) HR3.out z1 z2 z3 ?_)
      refine bodyPost_ret (v := .tuple #[.agg (digC d), .int .i64 0]) ?_ rfl ⟨rfl, Hbw3.out.trans (below_setRow _ _ _ _ (Nat.le_refl _))⟩
      exact results_cell_tmp (p := 2) (q := 3) rfl _ _ w.heap.size 47 _ (0, 0) _ rfl (setRow_heap _ _ _ _ _ _ HR3.out) Try.underlying47 rfl z1 _ rfl
end Go.Proofs.Ytnlblmghhkmbbaa
