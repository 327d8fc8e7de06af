/- Check answers as the chapter says. -/
import Derived.Test.YtnlblmghhkmbbaaSequal
namespace Go.Proofs.Ytnlblmghhkmbbaa
set_option linter.unusedVariables false
open Go.RowKit Go.Shelf

theorem list_load {P : Program} {ops : Array Oper} {rest : List Oper} {o : Oper} {a : Act} {w : World} {Q : Exit → Act → World → Prop} (hw : Region.wanted o (yielded ops a.tmps) = true) (ty : TypeId) (x : Operand) (ho : o.op = .load ty x)
    (g : Nat) (hx : a.eval x = .pointer (some ⟨g, 0, none⟩)) (t : TypeId) (cs : Array Value) (fr : Nat × Nat) (d : TypeDesc) (hg : w.heap[g]? = some (.cells cs t fr))
    (hu : P.underlying ty = some d) (hd : (match d with | .struct _ | .array _ _ => true | _ => false) = true) (hi : (P.info? ty).map (·.size) = some cs.size)
    (h : wpList P ops Q rest (a.put o.dst (.agg cs)) w) : wpList P ops Q (o :: rest) a w := by
  rw [wpList, if_pos hw]
  exact Or.inl (wp_load_row ty x ho g hx t cs fr d hg hu hd hi h)
def checkE (root D : List Int) (E : Int) : Int := if E = 0 then (if D = root then 0 else 22) else E
attribute [local irreducible] digestV rootV halfV climbV
set_option maxRecDepth 100000 in
set_option maxHeartbeats 4000000 in
theorem check_with (root D : List Int) (n i : Int) (leaf path : Value) (w : World) (E : Int) (hr : root.length = 16) (hD : D.length = 16)
    (hcall : ∀ w', Below w.heap.size w w' → Calls Try.prog 48 #[.int .i64 n, .int .i64 i, leaf, path] w' fun e w'' => e = .returned (.tuple #[.agg (digC D), .int .i64 E]) ∧ Below w'.heap.size w' w'') :
    Calls Try.prog 50 #[.agg (digC root), .int .i64 n, .int .i64 i, leaf, path] w fun e w' => e = .returned (.int .i64 (checkE root D E)) ∧ Below w.heap.size w w' := by
  obtain ⟨W1, hW1⟩ : ∃ W1, W1 = w.alloc (.cells (digC root) 47) := ⟨_, rfl⟩
  have hR1 : Blk W1 w.heap.size 47 (digC root) := by rw [hW1]; exact heap_new w _
  have hb1 : Below w.heap.size w W1 := by rw [hW1]; exact (Below.refl _ w).alloc (Nat.le_refl _) _
  have HW1 := Lib.hid hW1
  have HR1 := Lib.hid hR1
  have Hb1 := Lib.hid hb1
  have Hc := Lib.hid (hcall W1 hb1)
  clear hW1 hR1 hb1 hcall
  go_enter Try.func50, Try.ntmps50
  go_upto_region 1 with fail

  rw [← HW1.out]
  go_wp2_with fail
  refine Hc.out.mono ?_
  rintro e w2 ⟨rfl, hb2⟩
  have hs1 := Hb1.out.size
  obtain ⟨W3, hW3⟩ : ∃ W3, W3 = w2.alloc (.cells (digC (List.replicate 16 0)) 47) := ⟨_, rfl⟩
  have hR3 : Blk W3 w2.heap.size 47 (digC (List.replicate 16 0)) := by rw [hW3]; exact heap_new w2 _
  have hb3 : Below w2.heap.size w2 W3 := by rw [hW3]; exact (Below.refl _ w2).alloc (Nat.le_refl _) _
  have hR2 := HR1.out.below hb2 HR1.out.lt
  have HR0 : Hid (Blk W3 w.heap.size 47 (digC root)) := Lib.hid (hR2.below hb3 hR2.lt)
  have Hb3 : Hid (Below w.heap.size w W3) := Lib.hid ((Hb1.out.trans (hb2.mono Hb1.out.size)).trans (hb3.mono (Nat.le_trans Hb1.out.size hb2.size)))
  have hne : w.heap.size ≠ w2.heap.size := Nat.ne_of_lt hR2.lt
  have Hne := Lib.hid hne
  have hge : w.heap.size ≤ w2.heap.size := Nat.le_of_lt hR2.lt
  have Hge := Lib.hid hge
  rw [zlit] at hW3
  have HW3 := Lib.hid hW3
  have HR3 := Lib.hid hR3
  have z1 := Try.sizeDig D hD
  have z2 : (digC (List.replicate 16 0)).size = (digC D).size := by rw [digC_size, digC_size, hD]; rfl
  have z3 : (digC D).all (fun x => x.oneCell') = true := digC_one _
  clear hW3 hR3 hb3 hR2 hne hge HR1 Hb1 HW1 Hc hb2 hs1
  go_upto_region 2 with (rw [← HW3.out]; refine wpList_store_row rfl 47 (.tmp 11) (.tmp 19) rfl w2.heap.size (digC D) rfl rfl 47 (digC (List.replicate 16 0)) HR3.out z1 z2 z3 ?_)
  obtain ⟨W4, hW4⟩ : ∃ W4, W4 = W3.setRow w2.heap.size (digC D) := ⟨_, rfl⟩
  have HO4 : Hid (Blk W4 w2.heap.size 47 (digC D)) := Lib.hid (by rw [hW4]; exact setRow_heap _ _ _ _ _ _ HR3.out)
  have HR4 : Hid (Blk W4 w.heap.size 47 (digC root)) := Lib.hid (by rw [hW4]; exact (setRow_other _ _ _ _ Hne.out).trans HR0.out)
  have Hb4 : Hid (Below w.heap.size w W4) := Lib.hid (by rw [hW4]; exact Hb3.out.trans (below_setRow _ _ _ _ Hge.out))
  rw [← hW4]
  clear hW4 HW3 HR3 HR0 Hb3 z2
  have HN : Hid (∀ w, (binOp .neq 47 (.agg (digC D)) (.agg (digC root))).run Try.prog w = .ok (.bool (!(D == root))) w) := Lib.hid (fun w => run_neq_dig w D root hD hr)
  have LD := Lib.hid z1
  have LR := Lib.hid (Try.sizeDig root hr)
  clear z1 z3
  by_cases hE : E = 0
  · subst hE
    by_cases hq : D = root
    · have hv : checkE root D 0 = 0 := by simp [checkE, hq]
      have HN' : ∀ w, (binOp .neq 47 (.agg (digC D)) (.agg (digC root))).run Try.prog w = .ok (.bool false) w := fun w => by rw [HN.out w, hq]; simp
      have Hv := Lib.hid hv
      clear hv hq HN
      go_wp2_with (first
      | refine list_load rfl 47 (.tmp 11) rfl w2.heap.size rfl 47 (digC D) (0, 0) _ HO4.out Try.underlying47 rfl LD.out ?_
      | refine list_load rfl 47 (.tmp 5) rfl w.heap.size rfl 47 (digC root) (0, 0) _ HR4.out Try.underlying47 rfl LR.out ?_)
      exact bodyPost_ret (results_tmp rfl _ _ _) rfl ⟨by rw [Hv.out]; rfl, Hb4.out⟩
    · have hv : checkE root D 0 = 22 := by simp [checkE, hq]
      have HN' : ∀ w, (binOp .neq 47 (.agg (digC D)) (.agg (digC root))).run Try.prog w = .ok (.bool true) w := fun w => by rw [HN.out w]; simp [hq]
      have Hv := Lib.hid hv
      clear hv hq HN
      go_wp2_with (first
      | refine list_load rfl 47 (.tmp 11) rfl w2.heap.size rfl 47 (digC D) (0, 0) _ HO4.out Try.underlying47 rfl LD.out ?_
      | refine list_load rfl 47 (.tmp 5) rfl w.heap.size rfl 47 (digC root) (0, 0) _ HR4.out Try.underlying47 rfl LR.out ?_)
      exact bodyPost_ret (results_tmp rfl _ _ _) rfl ⟨by rw [Hv.out]; rfl, Hb4.out⟩
  · have hv : checkE root D E = E := by simp [checkE, hE]
    have hne : (E == 0) = false := by simp [hE]
    have Hv := Lib.hid hv
    clear hv HN hE
    go_wp2_with fail
    exact bodyPost_ret (results_tmp rfl _ _ _) rfl ⟨by rw [Hv.out]; rfl, Hb4.out⟩
theorem check_any (root : List Int) (hr : root.length = 16) (n i : Int) (la : Option Addr) (ll lc : Nat) (leaf : List Int) (a : Option Addr) (p cap : Nat) (ds : List (List Int)) (w : World) (hl : Rd w la ll lc leaf) (hll : ll ≤ 140737488354000) (hp : RdG w a p cap ds) :
    Calls Try.prog 50 #[.agg (digC root), .int .i64 n, .int .i64 i, .slice la ll lc, .slice a p cap] w fun e w' => e = .returned (.int .i64 (checkE root (aboveD n i leaf ds) (aboveE n i leaf ds))) ∧ Below w.heap.size w w' :=
  check_with root _ n i _ _ w _ hr (aboveD_len n i leaf ds) fun w' hb => above_any n i la ll lc leaf a p cap ds w' (hl.below hb (Nat.le_refl _)) hll (hp.below hb (Nat.le_refl _))
end Go.Proofs.Ytnlblmghhkmbbaa
