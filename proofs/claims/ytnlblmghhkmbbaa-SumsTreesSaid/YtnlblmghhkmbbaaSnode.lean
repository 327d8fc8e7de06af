/- The nodes of a digest tree. -/
import Derived.Test.YtnlblmghhkmbbaaSdig
import Derived.Test.YtnlblmghhkmbbaaSconcat
namespace Go.Proofs.Ytnlblmghhkmbbaa
set_option linter.unusedVariables false
open Go.RowKit Go.Shelf

/-- A node's cells. -/
def nodeC (d : List Int) (v : Value) : Array Value := (digC d).push v
theorem digestV_len (l : List Int) : (digestV l).length = 16 := by rw [digestV, endV]; exact bytesV_len _
theorem digestV_bd (l : List Int) : ∀ n ∈ digestV l, 0 ≤ n ∧ n ≤ 255 := by rw [digestV, endV]; exact bytesV_bd _
theorem nodeC_size (d : List Int) (v : Value) (h : d.length = 16) : (nodeC d v).size = 17 := by unfold nodeC; rw [Array.size_push, digC_size, h]
theorem nodeC_lit (l : List Int) (v : Value) (h : l.length = 16) : nodeC l v = #[.int .u8 (l.getD 0 0), .int .u8 (l.getD 1 0), .int .u8 (l.getD 2 0), .int .u8 (l.getD 3 0), .int .u8 (l.getD 4 0), .int .u8 (l.getD 5 0), .int .u8 (l.getD 6 0), .int .u8 (l.getD 7 0), .int .u8 (l.getD 8 0), .int .u8 (l.getD 9 0), .int .u8 (l.getD 10 0), .int .u8 (l.getD 11 0), .int .u8 (l.getD 12 0), .int .u8 (l.getD 13 0), .int .u8 (l.getD 14 0), .int .u8 (l.getD 15 0), v] := by
  unfold nodeC
  rw [digC_lit l h]
  rfl
theorem Try.sizeNode (l : List Int) (v : Value) (h : l.length = 16) : (Try.prog.info? 92).map (·.size) = some (nodeC l v).size := by rw [nodeC_size l v h]; kernel_rfl
theorem oneNode (l : List Int) (a : Option Addr) (m c : Nat) : (nodeC l (.slice a m c)).all (fun x => x.oneCell') = true := by
  rw [Array.all_eq_true]
  intro i hi
  unfold nodeC at hi ⊢
  rw [Array.getElem_push]
  split
  · simp [digC, Value.oneCell']
  · rfl
def zeroNode : Array Value := nodeC (List.replicate 16 0) (.slice none 0 0)
theorem zeroNode_lit : zeroNode = #[.int .u8 0, .int .u8 0, .int .u8 0, .int .u8 0, .int .u8 0, .int .u8 0, .int .u8 0, .int .u8 0, .int .u8 0, .int .u8 0, .int .u8 0, .int .u8 0, .int .u8 0, .int .u8 0, .int .u8 0, .int .u8 0, .slice none 0 0] := by rfl
theorem zeroNode_size : zeroNode.size = 17 := by rfl
attribute [local irreducible] digestV
set_option maxRecDepth 100000 in
set_option maxHeartbeats 4000000 in
theorem newNode_any (a : Option Addr) (len cap : Nat) (ps : List Pc) (w : World) (h : RdP w a len cap ps) (hbig : (catV ps).length ≤ 140737488355000) :
    Calls Try.prog 95 #[.slice a len cap] w fun e w' => ∃ v, e = .returned (.agg (nodeC (digestV (catV ps)) v)) ∧ Own w' w.heap.size v (catV ps) ∧ Below w.heap.size w w' := by
  obtain ⟨W1, hW1⟩ : ∃ W1, W1 = w.alloc (.cells zeroNode 92) := ⟨_, rfl⟩
  have hs1 : W1.heap.size = w.heap.size + 1 := by rw [hW1]; simp
  have hR1 : Blk W1 w.heap.size 92 zeroNode := by rw [hW1]; exact heap_new w _
  have hb1 : Below w.heap.size w W1 := by rw [hW1]; exact (Below.refl _ w).alloc (Nat.le_refl _) _
  have hp1 := h.below hb1 (Nat.le_refl _)
  rw [zeroNode_lit] at hW1
  have HW1 := Lib.hid hW1
  have Hs1 := Lib.hid hs1
  have HR1 := Lib.hid hR1
  have Hb1 := Lib.hid hb1
  have Hp1 := Lib.hid hp1
  clear hW1 hs1 hR1 hb1 hp1 h
  go_enter Try.func95, Try.ntmps95
  go_wp2_with fail
  rw [← HW1.out]
  refine (concat_any a len cap ps W1 Hp1.out (by omega)).mono ?_
  rintro e w2 ⟨v, rfl, ho2, hb2⟩
  obtain ⟨m, hm⟩ : ∃ m, m = (catV ps).length := ⟨_, rfl⟩
  rw [← hm] at hbig
  obtain ⟨ca, cc, rfl, hr2, -⟩ := ho2.rdb hm.symm
  rw [Hs1.out] at ho2 hb2
  have Ho2 := Lib.hid ho2
  have Hr2 := Lib.hid hr2
  have HR2 : Hid (Blk w2 w.heap.size 92 zeroNode) := Lib.hid (HR1.out.below hb2 (by omega))
  have Hbw2 : Hid (Below w.heap.size w w2) := Lib.hid (Hb1.out.trans (hb2.mono (by omega)))
  have hs2 : w.heap.size + 1 ≤ w2.heap.size := by rw [← Hs1.out]; exact hb2.size
  clear ho2 hr2 hb2 hm Hp1 HR1 Hb1 HW1
  go_wp2_with fail
  refine (digest_any ca m cc (catV ps) w2 Hr2.out hbig).mono ?_
  rintro e w3 ⟨rfl, hb3⟩
  obtain ⟨d, hd⟩ : ∃ d, d = digestV (catV ps) := ⟨_, rfl⟩
  rw [← hd]
  have hdl : d.length = 16 := by rw [hd]; exact digestV_len _
  have HR3 : Hid (Blk w3 w.heap.size 92 zeroNode) := Lib.hid (HR2.out.below hb3 (by omega))
  have Hbw3 : Hid (Below w.heap.size w w3) := Lib.hid (Hbw2.out.trans (hb3.mono (by omega)))
  have Ho3 : Hid (Own w3 (w.heap.size + 1) (.slice ca m cc) (catV ps)) := Lib.hid (Ho2.out.below hb3 (Nat.le_refl _))
  have hrw := HR3.out.lt
  have z1 := Try.sizeNode d (.slice ca m cc) hdl
  have z2 : zeroNode.size = (nodeC d (.slice ca m cc)).size := by rw [zeroNode_size, nodeC_size _ _ hdl]
  have z3 := oneNode d ca m cc
  have Hd := Lib.hid hd
  have hlit := digC_lit d hdl
  have Hnl := Lib.hid (nodeC_lit d (.slice ca m cc) hdl)
  clear hb3 hd hdl Hr2 HR2 Hbw2 Ho2
  rw [hlit]
  have Hlit := Lib.hid hlit
  clear hlit
  go_wp2_with (refine wpList_store_row rfl 92 (.tmp 2) (.tmp 9) rfl w.heap.size (nodeC d (.slice ca m cc)) rfl (by rw [Hnl.out]; rfl) 92 zeroNode HR3.out z1 z2 z3 ?_)
  refine bodyPost_ret (v := .agg (nodeC d (.slice ca m cc))) ?_ rfl ⟨.slice ca m cc, by rw [Hd.out], ?_, Hbw3.out.trans (below_setRow _ _ _ _ (Nat.le_refl _))⟩
  · exact results_cell_row rfl _ _ w.heap.size 92 _ (0, 0) _ rfl (setRow_heap _ _ _ _ _ _ HR3.out) Try.underlying92 rfl z1
  · exact (Ho3.out.but ((But.refl w.heap.size w3).setRow _) (by omega)).mono (by omega)
end Go.Proofs.Ytnlblmghhkmbbaa
