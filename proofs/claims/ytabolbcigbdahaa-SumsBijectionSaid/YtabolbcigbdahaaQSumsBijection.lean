/- SumsBijection: the walk. -/
import Derived.Test.YtabolbcigbdahaaSsane
import Derived.Test.YtabolbcigbdahaaSinv
import Derived.Test.YtabolbcigbdahaaSperm
import Derived.Test.YtabolbcigbdahaaSundo
import Derived.OpenShut
import Derived.Deep.RegionHeld3
namespace Go.Proofs.Ytabolbcigbdahaa
set_option linter.unusedVariables false
open Go.RowKit Go.Shelf Go.WideShapes Go.ChangeShapes

theorem items_same (w : World) (s : St) : ∀ (is : List Nat), (∀ i ∈ is, i < 8) →
    (Op.eqItems 9999 23 1 (vals s) (vals s) is).run Try.prog w = .ok true w := by
  intro is
  induction is with
  | nil => intro _; simp [Op.eqItems]
  | cons i is ih =>
    intro h
    have hi := h i (by simp)
    have p1 : (part 23 (vals s) (i * 1)).run Try.prog w = .ok (wv (s i)) w := by
      rw [Nat.mul_one, run_part_plain w (by kernel_rfl) (vals_get s i hi)]
    have e1 : (Op.equalIn 9999 23 (wv (s i)) (wv (s i))).run Try.prog w = .ok true w := by
      have := run_equalIn_int w 9998 23 .u32 .u32 ((s i).toNat : Int) ((s i).toNat : Int) Try.underlying23
      rw [show ((((s i).toNat : Int)) == (((s i).toNat : Int))) = true from by simp] at this
      exact this
    simp only [Op.eqItems, Sem.run_bind, p1, Result.andThen_ok, e1]
    simp [ih (fun j hj => h j (by simp [hj]))]
theorem eql_vals (w : World) (s : St) : (binOp .eql 41 (.agg (vals s)) (.agg (vals s))).run Try.prog w = .ok (.bool true) w := by
  obtain ⟨i, hi⟩ : ∃ i, Try.prog.info? 23 = some i := Option.isSome_iff_exists.1 (by kernel_rfl)
  rw [run_eql_struct, run_equalIn_array w 9999 (vals s) (vals s) Try.underlying41 hi]
  rw [show Try.prog.cellsOf 23 = 1 from by kernel_rfl, items_same w s (List.range 8) (by simp)]
  rfl
theorem sizeState (s : St) : (Try.prog.info? 41).map (·.size) = some (vals s).size := by kernel_rfl
theorem load_yields {P : Program} {ops : Array Oper} {S : World → Prop} {o : Oper} {a : Act} (hw : Region.wanted o (yielded ops a.tmps) = true) (ty : TypeId) (x : Operand) (ho : o.op = .load ty x)
    (g : Nat) (hx : a.eval x = .pointer (some ⟨g, 0, none⟩)) (t : TypeId) (cs : Array Value) (fr : Nat × Nat) (d : TypeDesc) (hg : ∀ w, S w → w.heap[g]? = some (.cells cs t fr))
    (hu : P.underlying ty = some d) (hd : (match d with | .struct _ | .array _ _ => true | _ => false) = true) (hi : (P.info? ty).map (·.size) = some cs.size) : YieldsIf P ops S o (.agg cs) a := by
  refine Or.inl ⟨hw, fun w h => ?_⟩
  unfold execOp
  simp only [ho, hx, Instr.loadAt, Instr.sureAddr, Sem.run_bind, Sem.run_pure, Result.andThen_ok, run_loadVar_row w g t ty cs fr d (hg w h) hu hd hi]
attribute [local irreducible] permV undos vals
set_option maxRecDepth 100000 in
set_option maxHeartbeats 4000000 in
theorem bijection (s : St) (w : World) : Calls Try.prog 11 #[.agg (vals s)] w fun e w' => e = .returned (.bool true) ∧ Below w.heap.size w w' := by
  obtain ⟨g, W, e1, e2, hr, hb, -, -⟩ := fresh (Below.refl _ w) (vals s) 41
  have He1 := Lib.hid e1
  have He2 := Lib.hid e2
  have Hr := Lib.hid hr
  have Hb := Lib.hid hb
  have SZ := Lib.hid (sizeState s)
  have q1 := eql_vals
  clear e1 e2 hr hb
  go_enter Try.func11, Try.ntmps11
  go_upto_region 1 with fail
  rw [He2.out, He1.out]
  clear He1 He2
  refine wp_region_held_drew (S := fun w' => Blk w' g 41 (vals s)) (by kernel_rfl) Hr.out (fun _ => ?_)
  obtain ⟨V, hV⟩ : ∃ V, V = World.drew W := ⟨_, rfl⟩
  have HR : Hid (Blk V g 41 (vals s)) := Lib.hid (by rw [hV]; exact Hr.out)
  have HB : Hid (Below w.heap.size w V) := Lib.hid (by rw [hV]; exact ⟨Hb.out.os, Hb.out.tape, Hb.out.output, Hb.out.size, Hb.out.block⟩)
  rw [← hV]
  clear hV Hr Hb
  refine wpAnyH_ready (rs := [0]) (by kernel_rfl) (by simp) ?_
  refine AllReadyH.cons rfl (fun K hK => ?_) AllReadyH.nil
  go_simp
  refine (sane_any V).mono ?_
  rintro e w1 ⟨rfl, hb⟩
  have HR' := Lib.hid (HR.out.below hb HR.out.lt)
  have HB' : Hid (Below w.heap.size w w1) := Lib.hid (HB.out.trans (hb.mono HB.out.size))
  clear hb HR HB
  have HR := HR'
  have HB := HB'
  clear HR' HB'
  refine hK.out _ _ HR.out (fun _ => ?_)
  clear hK K
  refine wpAnyH_ready (rs := [1]) (by kernel_rfl) (by simp) ?_
  refine AllReadyH.cons rfl (fun K hK => ?_) AllReadyH.nil
  go_simp
  refine hK.out _ _ HR.out (fun _ => ?_)
  clear hK K
  refine wpAnyH_take (i := 2) (v := .agg (vals s)) rfl (by kernel_rfl) (by kernel_rfl) (by kernel_rfl) (fun _ _ _ h => h) (load_yields (by rfl) 41 (.tmp 1) rfl g rfl 41 (vals s) (0, 0) _ (fun _ h => h) Try.underlying41 rfl SZ.out) HR.out ?_
  go_simp
  refine wpAnyH_take (i := 5) (v := .agg (vals s)) rfl (by kernel_rfl) (by kernel_rfl) (by kernel_rfl) (fun _ _ _ h => h) (load_yields (by rfl) 41 (.tmp 1) rfl g rfl 41 (vals s) (0, 0) _ (fun _ h => h) Try.underlying41 rfl SZ.out) HR.out ?_
  go_simp
  refine wpAnyH_ready (rs := [3]) (by kernel_rfl) (by simp) ?_
  refine AllReadyH.cons rfl (fun K hK => ?_) AllReadyH.nil
  go_simp
  refine (permute_any s w1).mono ?_
  rintro e w2 ⟨rfl, hb⟩
  have HR' := Lib.hid (HR.out.below hb HR.out.lt)
  have HB' : Hid (Below w.heap.size w w2) := Lib.hid (HB.out.trans (hb.mono HB.out.size))
  clear hb HR HB
  have HR := HR'
  have HB := HB'
  clear HR' HB'
  refine hK.out _ _ HR.out (fun _ => ?_)
  clear hK K
  refine wpAnyH_ready (rs := [4]) (by kernel_rfl) (by simp) ?_
  refine AllReadyH.cons rfl (fun K hK => ?_) AllReadyH.nil
  go_simp
  refine (undo_any (permV s) w2).mono ?_
  rintro e w3 ⟨rfl, hb⟩
  rw [undo_perm]
  have HR' := Lib.hid (HR.out.below hb HR.out.lt)
  have HB' : Hid (Below w.heap.size w w3) := Lib.hid (HB.out.trans (hb.mono HB.out.size))
  clear hb HR HB
  have HR := HR'
  have HB := HB'
  clear HR' HB'
  refine hK.out _ _ HR.out (fun _ => ?_)
  clear hK K
  refine wpAnyH_ready (rs := [6]) (by kernel_rfl) (by simp) ?_
  refine AllReadyH.cons rfl (fun K hK => ?_) AllReadyH.nil
  go_simp
  refine hK.out _ _ HR.out (fun _ => ?_)
  clear hK K
  refine wpAnyH_ready (rs := [7]) (by kernel_rfl) (by simp) ?_
  refine AllReadyH.cons rfl (fun K hK => ?_) AllReadyH.nil
  go_simp
  refine hK.out _ _ HR.out (fun _ => ?_)
  clear hK K
  refine wpAnyH_ready (rs := [8]) (by kernel_rfl) (by simp) ?_
  refine AllReadyH.cons rfl (fun K hK => ?_) AllReadyH.nil
  go_simp
  refine hK.out _ _ HR.out (fun _ => ?_)
  clear hK K
  refine wpAnyH_take (i := 9) (v := .agg (vals s)) rfl (by kernel_rfl) (by kernel_rfl) (by kernel_rfl) (fun _ _ _ h => h) (load_yields (by rfl) 41 (.tmp 1) rfl g rfl 41 (vals s) (0, 0) _ (fun _ h => h) Try.underlying41 rfl SZ.out) HR.out ?_
  go_simp
  refine wpAnyH_take (i := 12) (v := .agg (vals s)) rfl (by kernel_rfl) (by kernel_rfl) (by kernel_rfl) (fun _ _ _ h => h) (load_yields (by rfl) 41 (.tmp 1) rfl g rfl 41 (vals s) (0, 0) _ (fun _ h => h) Try.underlying41 rfl SZ.out) HR.out ?_
  go_simp
  refine wpAnyH_ready (rs := [10]) (by kernel_rfl) (by simp) ?_
  refine AllReadyH.cons rfl (fun K hK => ?_) AllReadyH.nil
  go_simp
  refine (undo_any s w3).mono ?_
  rintro e w4 ⟨rfl, hb⟩
  have HR' := Lib.hid (HR.out.below hb HR.out.lt)
  have HB' : Hid (Below w.heap.size w w4) := Lib.hid (HB.out.trans (hb.mono HB.out.size))
  clear hb HR HB
  have HR := HR'
  have HB := HB'
  clear HR' HB'
  refine hK.out _ _ HR.out (fun _ => ?_)
  clear hK K
  refine wpAnyH_ready (rs := [11]) (by kernel_rfl) (by simp) ?_
  refine AllReadyH.cons rfl (fun K hK => ?_) AllReadyH.nil
  go_simp
  refine (permute_any (undos 12 s) w4).mono ?_
  rintro e w5 ⟨rfl, hb⟩
  rw [perm_undo]
  have HR' := Lib.hid (HR.out.below hb HR.out.lt)
  have HB' : Hid (Below w.heap.size w w5) := Lib.hid (HB.out.trans (hb.mono HB.out.size))
  clear hb HR HB
  have HR := HR'
  have HB := HB'
  clear HR' HB'
  refine hK.out _ _ HR.out (fun _ => ?_)
  clear hK K
  refine wpAnyH_ready (rs := [13]) (by kernel_rfl) (by simp) ?_
  refine AllReadyH.cons rfl (fun K hK => ?_) AllReadyH.nil
  go_simp
  refine hK.out _ _ HR.out (fun _ => ?_)
  clear hK K
  refine wpAnyH_ready (rs := [14]) (by kernel_rfl) (by simp) ?_
  refine AllReadyH.cons rfl (fun K hK => ?_) AllReadyH.nil
  go_simp
  refine hK.out _ _ HR.out (fun _ => ?_)
  clear hK K
  refine wpAnyH_ready (rs := [15]) (by kernel_rfl) (by simp) ?_
  refine AllReadyH.cons rfl (fun K hK => ?_) AllReadyH.nil
  go_simp
  refine hK.out _ _ HR.out (fun _ => ?_)
  clear hK K
  refine wpAnyH_done (by kernel_rfl) ?_ _
  go_wp2_with fail
  refine bodyPost_ret (results_tmp rfl _ _ _) rfl ⟨?_, HB.out⟩
  rfl
end Go.Proofs.Ytabolbcigbdahaa
