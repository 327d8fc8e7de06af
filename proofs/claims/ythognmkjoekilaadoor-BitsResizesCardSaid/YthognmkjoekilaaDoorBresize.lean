/- Resize: what its literal answers; told. -/
import Derived.Test.YthognmkjoekilaaDoorBis
import Derived.Laws.CopyOwn
namespace Go.Proofs.YthognmkjoekilaaDoor
set_option linter.unusedVariables false
open Go.RowKit Go.Shelf
attribute [local go_sem] Oper.semAt_some

/-- Bytes copied into m zeros. -/
def cpV (bs : List Int) (m : Nat) : List Int := (List.range m).map fun i => bs.getD i 0
theorem cpV_len (bs : List Int) (m : Nat) : (cpV bs m).length = m := by simp [cpV]
theorem cpV_bs {bs : List Int} (h : isBs bs) (m : Nat) : isBs (cpV bs m) := by
  intro x hx
  obtain ⟨i, hi, rfl⟩ := List.mem_map.mp hx
  by_cases h1 : i < bs.length
  · exact h _ (getD_mem h1)
  · have : bs.getD i 0 = 0 := by simp [List.getD, List.getElem?_eq_none (Nat.le_of_not_lt h1)]
    omega
theorem cpV_bit (bs : List Int) (m j : Nat) (hj : j < 8 * m) : bitV (cpV bs m) j = bitV bs j := by
  have hi : j / 8 < m := by omega
  unfold bitV
  have : (cpV bs m).getD (j / 8) 0 = bs.getD (j / 8) 0 := by simp [cpV, List.getD, hi]
  rw [this]
theorem bit_past (bs : List Int) (j : Nat) (hj : 8 * bs.length ≤ j) : bitV bs j = false := by
  unfold bitV
  have : bs.getD (j / 8) 0 = 0 := by simp [List.getD, List.getElem?_eq_none (show bs.length ≤ j / 8 by omega)]
  rw [this]
  exact Nat.zero_testBit _
theorem cpV_splice (bs : List Int) (m K : Nat) (hK : K = Nat.min bs.length m) : splice ((List.replicate m (0 : Int)).map (Value.int .u8)) 0 ((bs.take K).map (Value.int .u8)) = (cpV bs m).map (Value.int .u8) := by
  have hK1 : K ≤ bs.length := by rw [hK]; exact Nat.min_le_left _ _
  have hK2 : K ≤ m := by rw [hK]; exact Nat.min_le_right _ _
  have hKm : K = bs.length ∨ K = m := by rw [hK]; rcases Nat.le_total bs.length m with h | h <;> simp [Nat.min_def] <;> omega
  apply List.ext_getElem
  · simp [splice, cpV]; omega
  · intro i h1 h2
    simp only [splice, List.take_zero, List.nil_append, Nat.zero_add, List.length_map, List.length_take]
    simp only [cpV, List.length_map, List.length_range] at h2
    rw [List.getElem_append]
    split
    · rename_i h3
      simp only [List.length_map, List.length_take] at h3
      simp [cpV, List.getD, show i < bs.length by omega]
    · rename_i h3
      simp only [List.length_map, List.length_take] at h3
      simp [cpV, List.getD, List.getElem?_eq_none (show bs.length ≤ i by omega)]
theorem resize_is {M n : Nat} {bs : List Int} (hv : Vb M bs) (hn : n ≤ 65536) (m : Nat) (hm : m = (n + 7) / 8) : Is n (fillV (cpV bs m) n (8 * m) false) (fun j => decide (j < M) && bitV bs j) := by
  have hb := cpV_bs hv.is m
  have hbit : ∀ j, j < 8 * m → bitV (fillV (cpV bs m) n (8 * m) false) j = if n ≤ j then false else bitV bs j := fun j hj => by
    rw [fillV_bit hb n (8 * m) false j (by rw [cpV_len]; exact hj), cpV_bit bs m j hj]
    by_cases h : n ≤ j
    · rw [if_pos ⟨h, hj⟩, if_pos h]
    · rw [if_neg (by omega), if_neg h]
  refine ⟨⟨fillV_bs hb _ _ _, hn, by rw [fillV_len, cpV_len]; exact hm, fun j h1 h2 => ?_⟩, fun j hj => ?_⟩
  · rw [fillV_len, cpV_len] at h2
    rw [hbit j h2, if_pos h1]
  · rw [hbit j (by omega), if_neg (by omega)]
    by_cases h : j < M
    · simp [h]
    · by_cases h2 : j < 8 * bs.length
      · rw [hv.high j (by omega) h2]; simp
      · rw [bit_past bs j (by omega)]; simp
/-- Bytes copied into a row of zeros. -/
theorem copy_run (V : World) (B ga m : Nat) (a : Option Addr) (l c : Nat) (bs : List Int) (ho : Own V B (.slice (some ⟨ga, 0, none⟩) m m) (List.replicate m 0)) (hr : Rd V a l c bs) :
    ∃ V2 K, (∀ ty, (Builtin.copy_ #[22, 22] ty #[.slice (some ⟨ga, 0, none⟩) m m, .slice a l c]).run Tryd.prog V = .ok (.int .i64 (K : Int)) V2) ∧ Own V2 B (.slice (some ⟨ga, 0, none⟩) m m) (cpV bs m) ∧ But ga V V2 := by
  have hbs : isBs bs := hr.hb
  have hl := hr.hl
  obtain ⟨K, hK⟩ : ∃ K, K = Nat.min bs.length m := ⟨_, rfl⟩
  have hinfo : (Tryd.prog.info? 5).map (·.size) = some 1 := by kernel_rfl
  rcases ho.1.2 with ⟨hv, h0⟩ | ⟨g, cap, cur, hv, hg0, hg, hnc, hcm, hcs, htake⟩
  · cases hv
  injection hv with e1 e2 e3
  injection e1 with e1
  injection e1 with e1
  subst e1
  subst e3
  simp only [List.length_replicate] at hnc hcm hcs htake
  have hcur : cur.toList = (List.replicate m (0 : Int)).map (Value.int .u8) := by
    rw [← htake, List.take_of_length_le]
    simp; omega
  have hsp := cpV_splice bs m K hK
  have hK1 : K ≤ bs.length := by rw [hK]; exact Nat.min_le_left _ _
  have hK2 : K ≤ m := by rw [hK]; exact Nat.min_le_right _ _
  have hrow : V.setRow ga ((cpV bs m).map (Value.int .u8)).toArray = V.setRow ga (cur.toList.take 0 ++ ((bs.take K).map (Value.int .u8)) ++ cur.toList.drop (0 + ((bs.take K).map (Value.int .u8)).length)).toArray := by
    rw [← hsp, hcur]
    unfold splice
    rw [List.append_assoc]
  refine ⟨V.setRow ga ((cpV bs m).map (Value.int .u8)).toArray, K, fun ty => ?_, ⟨⟨by simp, .inr ⟨ga, m, ((cpV bs m).map (Value.int .u8)).toArray, by rw [cpV_len], hg0, setRow_heap V ga _ _ _ _ hg, by rw [cpV_len]; exact hnc, hcm, by simp [cpV_len], by rw [cpV_len, List.take_of_length_le (by simp [cpV_len])]⟩⟩, cpV_bs hbs m⟩, ⟨⟨rfl, rfl, rfl, by simp [World.setRow], fun k hk => setRow_other V ga k _ (by omega)⟩, fun k hk hne => setRow_other V ga k _ hne⟩⟩
  by_cases h0 : K = 0
  · have hn := run_copy_none (P := Tryd.prog) V 22 22 ty 5 (some ⟨ga, 0, none⟩) a m m l c Tryd.underlying22 hinfo (by rw [← hl, ← hK]; exact h0)
    rw [hn, hrow, h0]
    have hself : (cur.toList.take 0 ++ ((bs.take 0).map (Value.int .u8)) ++ cur.toList.drop (0 + ((bs.take 0).map (Value.int .u8)).length)).toArray = cur := by simp
    rw [hself, setRow_self V ga cur _ _ hg]
    rfl
  · obtain ⟨b, off, rfl, hcell⟩ := hr.hr (by omega)
    rw [hrow]
    have h := run_copy_row (P := Tryd.prog) V 22 22 ty 5 ga 0 m m ⟨b, off, none⟩ l c cur 5 ((bs.take K).map (Value.int .u8)) Tryd.underlying22 hinfo hg (by rw [List.length_map, List.length_take, ← hl, Nat.min_eq_left hK1]; exact hK)
      (fun j v hv => hr.cells j v (by
        have hj := (List.getElem?_eq_some_iff.1 hv).1
        simp only [List.length_map, List.length_take] at hj
        rw [← hv, List.getElem?_map, List.getElem?_map, List.getElem?_take, if_pos (by omega)])) (by simp; omega) (fun v hv => oneCells _ v hv)
    rw [h]
    simp [goInt, Nat.min_eq_left hK1]
theorem sizeBits : (Tryd.prog.info? 24).map (·.size) = some 2 := by kernel_rfl
section
variable (g0 g1 : Nat) (N : Int) (a : Option Addr) (l c : Nat) (bs : List Int) (n : Int) (W : World) (hB : Blk W g0 24 #[.int .i64 N, .slice a l c])
  (hr : Rd W a l c bs) (hN1 : -9223372036854775808 ≤ N) (hN2 : N ≤ 9223372036854775807)
include hB hr hN1 hN2
set_option maxRecDepth 100000 in
set_option maxHeartbeats 1000000 in
theorem resize1_bad (hv : validB N bs = false) : Calls Tryd.prog 63 #[.pointer (some ⟨g0, 0, none⟩), .pointer (some ⟨g1, 0, none⟩)] W fun e w' => e = pan 9 ∧ Below W.heap.size W w' := by
  obtain ⟨W0, hW0, hRes, hb0, hs0⟩ := lit_box W
  have q0 : W0.cell? ⟨g0, 0, none⟩ = some (.int .i64 N) := (hB.below hb0 hB.lt).cell 0
  have q1 : W0.cell? ⟨g0, 1, none⟩ = some (.slice a l c) := (hB.below hb0 hB.lt).cell 1
  have HW := Lib.hid hW0
  have Hb := Lib.hid hb0
  have C := Lib.hid (needValid_no N a l c bs W0 (hr.below hb0 (Nat.le_refl _)) hN1 hN2 hv)
  clear hW0 hRes hb0 hs0 hB hr hv
  go_enter Tryd.func63, Tryd.ntmps63
  go_upto_region 1 with fail
  rw [HW.out]
  go_wp2_with fail
  refine C.out.mono ?_
  rintro e w2 ⟨rfl, hb⟩
  exact ⟨rfl, rfl, Hb.out.trans (hb.mono Hb.out.size)⟩
variable (h1 : Blk W g1 3 #[.int .i64 n])
include h1
set_option maxRecDepth 100000 in
set_option maxHeartbeats 1000000 in
theorem resize1_no (hv : validB N bs = true) (hn : ¬ (0 ≤ n ∧ n ≤ 65536)) : Calls Tryd.prog 63 #[.pointer (some ⟨g0, 0, none⟩), .pointer (some ⟨g1, 0, none⟩)] W fun e w' => e = pan 1 ∧ Below W.heap.size W w' := by
  obtain ⟨W0, hW0, hRes, hb0, hs0⟩ := lit_box W
  have q0 : W0.cell? ⟨g0, 0, none⟩ = some (.int .i64 N) := (hB.below hb0 hB.lt).cell 0
  have q1 : W0.cell? ⟨g0, 1, none⟩ = some (.slice a l c) := (hB.below hb0 hB.lt).cell 1
  have H1 := Lib.hid (h1.below hb0 h1.lt)
  have HW := Lib.hid hW0
  have Hb := Lib.hid hb0
  have C := Lib.hid (needValid_yes N a l c bs W0 (hr.below hb0 (Nat.le_refl _)) hN1 hN2 hv)
  clear hW0 hRes hb0 hs0 hB hr hv h1
  go_enter Tryd.func63, Tryd.ntmps63
  go_upto_region 1 with fail
  rw [HW.out]
  go_wp2_with fail
  refine C.out.mono ?_
  rintro e w2 ⟨rfl, hb⟩
  have k0 : w2.cell? ⟨g1, 0, none⟩ = some (.int .i64 n) := (H1.out.below hb H1.out.lt).cell 0
  have Hb2 := Lib.hid (Hb.out.trans (hb.mono Hb.out.size))
  clear hb C q0 q1 H1 HW Hb
  go_wp2_with fail
  refine (size_no n hn w2).mono ?_
  rintro e w3 ⟨rfl, rfl⟩
  go_wp2_with fail
  refine (need_no 1 w2).mono ?_
  rintro e w3 ⟨rfl, rfl⟩
  exact ⟨rfl, rfl, Hb2.out⟩
end
set_option maxRecDepth 100000 in
set_option maxHeartbeats 4000000 in
theorem resize1_ok (g0 g1 : Nat) (M : Nat) (a : Option Addr) (l c : Nat) (bs : List Int) (n m : Nat) (W : World) (hB : Blk W g0 24 #[.int .i64 (M : Int), .slice a l c]) (h1 : Blk W g1 3 #[.int .i64 (n : Int)])
    (hr : Rd W a l c bs) (hv : Vb M bs) (hn : n ≤ 65536) (hm : m = (n + 7) / 8) :
    Calls Tryd.prog 63 #[.pointer (some ⟨g0, 0, none⟩), .pointer (some ⟨g1, 0, none⟩)] W fun e w' => ∃ a' l' c', e = .returned (.agg #[.int .i64 (n : Int), .slice a' l' c']) ∧ Own w' W.heap.size (.slice a' l' c') (fillV (cpV bs m) n (8 * m) false) ∧ Below W.heap.size W w' := by
  have hM := hv.le
  have hlen := hv.len
  have hl := hr.hl
  have hc := hr.hc
  have hcm := hr.hm
  unfold maxLen at hcm
  have hmi : ((n : Int) + 7) / 8 = (m : Int) := by omega
  obtain ⟨E, hE⟩ : ∃ E : Nat, E = 8 * m := ⟨_, rfl⟩
  obtain ⟨ys, hys⟩ : ∃ ys, ys = cpV bs m := ⟨_, rfl⟩
  rw [← hE, ← hys]
  have Hcb : Hid (isBs ys) := Lib.hid (by rw [hys]; exact cpV_bs hv.is m)
  have hcl : ys.length = m := by rw [hys]; exact cpV_len bs m
  have HE := Lib.hid hE
  have Hys := Lib.hid hys
  have hn8 : n ≤ 8 * m := by omega
  have hm9 : m ≤ 9000 := by omega
  have hm8 : 8 * m ≤ n + 7 := by omega
  obtain ⟨W0, hW0, hRes, hb0, hs0⟩ := lit_box W
  have q0 : W0.cell? ⟨g0, 0, none⟩ = some (.int .i64 (M : Int)) := (hB.below hb0 hB.lt).cell 0
  have q1 : W0.cell? ⟨g0, 1, none⟩ = some (.slice a l c) := (hB.below hb0 hB.lt).cell 1
  have HW := Lib.hid hW0
  have Hb := Lib.hid hb0
  have HB := Lib.hid (hB.below hb0 hB.lt)
  have H1 := Lib.hid (h1.below hb0 h1.lt)
  have HR := Lib.hid (hr.below hb0 (Nat.le_refl _))
  have HRes := Lib.hid hRes
  have hrl := hRes.lt
  have C := Lib.hid (needValid_yes (M : Int) a l c bs W0 (hr.below hb0 (Nat.le_refl _)) (by omega) (by omega) hv.valid)
  have HE := Lib.hid (fun w => empty_any (n : Int) m w (by omega) (by omega) hmi)
  have Hsz := Lib.hid (fun w => size_yes (n : Int) ⟨by omega, by omega⟩ w)
  have hg0 : g0 < W.heap.size := hB.lt
  have hbsB : isBs bs := hv.is
  have HbsB := Lib.hid hbsB
  clear hW0 hRes hb0 hs0 hB hr hv h1 hm hmi hlen hbsB hE hys
  refine (callsIn_wide (n := 9)).1 ?_
  refine callsIn_of_wp_marks Tryd.func63 rfl trivial ?_ rfl
  simp only [Tryd.ntmps63, List.size_toArray, List.length_cons, List.length_nil, Nat.reduceAdd, Nat.reduceSub, Array.replicate_succ, Array.replicate_zero, List.push_toArray, List.append_toArray, List.nil_append, List.cons_append]
  gi_upto_region 1 with fail
  rw [HW.out]
  gi_wp2_with fail
  refine ⟨trivial, ?_⟩
  refine (callsIn_wide.2 C.out).mono ?_
  rintro e w1 ⟨rfl, hb⟩
  have k0 : w1.cell? ⟨g1, 0, none⟩ = some (.int .i64 (n : Int)) := (H1.out.below hb H1.out.lt).cell 0
  have HB' := Lib.hid (HB.out.below hb HB.out.lt)
  have HRes' := Lib.hid (HRes.out.below hb HRes.out.lt)
  have HR' := Lib.hid (HR.out.below hb (Nat.le_refl _))
  have Hb1 := Lib.hid (Hb.out.trans (hb.mono Hb.out.size))
  clear hb C q0 q1 H1 HW Hb HB HRes HR
  gi_wp2_with fail
  refine ⟨trivial, ?_⟩
  refine (callsIn_wide.2 (Hsz.out w1)).mono ?_
  rintro e w3 ⟨rfl, rfl⟩
  gi_wp2_with fail
  refine ⟨trivial, ?_⟩
  refine (callsIn_wide.2 (need_yes 1 w1)).mono ?_
  rintro e w3 ⟨rfl, rfl⟩
  gi_wp2_with fail
  refine ⟨trivial, ?_⟩
  refine (callsIn_wide.2 (HE.out w1)).mono ?_
  rintro e w2 ⟨a1, rfl, ho, hb⟩
  obtain ⟨ga, rfl, hga0, hga1⟩ := own_addr ho
  have HB2 := Lib.hid (HB'.out.below hb HB'.out.lt)
  have HRes2 := Lib.hid (HRes'.out.below hb HRes'.out.lt)
  have HR2 := Lib.hid (HR'.out.below hb (Nat.le_refl _))
  have Hb2 := Lib.hid (Hb1.out.trans (hb.mono Hb1.out.size))
  have hw1 : W.heap.size < w1.heap.size := HRes'.out.lt
  have hw2 := hb.size
  obtain ⟨V, hV⟩ : ∃ V, V = w2.alloc (.cells #[.int .i64 (n : Int), .slice (some ⟨ga, 0, none⟩) m m] 24) := ⟨_, rfl⟩
  have hbV : Below w2.heap.size w2 V := by rw [hV]; exact (Below.refl _ w2).alloc (Nat.le_refl _) _
  have hBV : Blk V w2.heap.size 24 #[.int .i64 (n : Int), .slice (some ⟨ga, 0, none⟩) m m] := by rw [hV]; exact heap_new w2 _
  obtain ⟨gc, hgc⟩ : ∃ gc, gc = w2.heap.size := ⟨_, rfl⟩
  have HV := Lib.hid hV
  have Hgc := Lib.hid hgc
  have HO := Lib.hid (ho.below hbV (Nat.le_refl _))
  rw [← hgc] at hBV hga1
  have HC := Lib.hid hBV
  have HB3 := Lib.hid (HB2.out.below hbV HB2.out.lt)
  have HRes3 := Lib.hid (HRes2.out.below hbV HRes2.out.lt)
  have HR3 := Lib.hid (HR2.out.below hbV (Nat.le_refl _))
  have Hb3 := Lib.hid (Hb2.out.trans (hbV.mono Hb2.out.size))
  have hgcV : gc < V.heap.size := hBV.lt
  have hgcw : w1.heap.size ≤ gc := by rw [hgc]; exact hw2
  clear ho hb hV hbV hBV hgc HB' HRes' HR' Hb1 HB2 HRes2 HR2 Hb2 HE Hsz k0
  have c0 : V.cell? ⟨gc, 0, none⟩ = some (.int .i64 (n : Int)) := HC.out.cell 0
  have c1 : V.cell? ⟨gc, 1, none⟩ = some (.slice (some ⟨ga, 0, none⟩) m m) := HC.out.cell 1
  have b1 : V.cell? ⟨g0, 1, none⟩ = some (.slice a l c) := HB3.out.cell 1
  obtain ⟨V2, K, hcp, hO2, hbut⟩ := copy_run V w1.heap.size ga m a l c bs HO.out HR3.out
  rw [← Hys.out] at hO2
  have hcp3 := hcp 3
  have hrc : W.heap.size < ga := by omega
  have HO2 := Lib.hid hO2
  have HC2 := Lib.hid (hbut.blk HC.out (by omega))
  have HRes4 := Lib.hid (hbut.blk HRes3.out (by omega))
  have Hb4 := Lib.hid (Hb3.out.trans (hbut.below.mono (by omega)))
  have hsV2 := hbut.size
  have HCP := Lib.hid hcp3
  clear hcp hO2 hbut HC HB3 HRes3 HR3 HO
  gi_upto_region 4 with fail
  rw [← HV.out, ← Hgc.out]
  have hcp3 := HCP.out
  gi_upto_region 5 with fail
  clear hcp3 HCP c0 c1 b1
  have q0 : V2.cell? ⟨gc, 0, none⟩ = some (.int .i64 (n : Int)) := HC2.out.cell 0
  have q1 : V2.cell? ⟨gc, 1, none⟩ = some (.slice (some ⟨ga, 0, none⟩) m m) := HC2.out.cell 1
  have hgc2 : gc < V2.heap.size := HC2.out.lt
  gi_wp2_with fail
  refine ⟨trivial, ?_⟩
  refine (callsIn_wide.2 (spare_any n (some ⟨ga, 0, none⟩) m m V2 hn8 hm9)).mono ?_
  rintro e2 w3 ⟨rfl, hw3⟩
  obtain ⟨q, hq⟩ : ∃ q : Nat, q = 8 * m - n := ⟨_, rfl⟩
  have hE := HE.out
  rw [← hq] at hw3
  obtain ⟨V3, hV3⟩ : ∃ V3, V3 = V2.alloc (.cells #[.int .i64 (n : Int), .slice (some ⟨ga, 0, none⟩) m m] 24) := ⟨_, rfl⟩
  have hs3 : V3.heap.size = V2.heap.size + 1 := by rw [hV3]; simp
  have hbV3 : Below V2.heap.size V2 V3 := by rw [hV3]; exact (Below.refl _ V2).alloc (Nat.le_refl _) _
  rw [← hV3] at hw3
  have hbx0 : Boxed w3 (V2.heap.size + 1) 3 (.int .i64 (n : Int)) := by rw [hw3, ← hs3]; exact (Boxed.new V3 _ _).alloc _
  have hbx1 : Boxed w3 (V2.heap.size + 2) 3 (.int .i64 (q : Int)) := by
    rw [hw3]; have := Boxed.new (V3.alloc (.cells #[.int .i64 (n : Int)] 3)) 3 (.int .i64 (q : Int)); rw [World.size_alloc, hs3] at this; exact this
  have hb3 : Below V2.heap.size V2 w3 := by rw [hw3]; exact ((hbV3.alloc hbV3.size _).alloc (by simp; omega) _)
  have hsw3 : w3.heap.size = V2.heap.size + 3 := by rw [hw3]; unfold rangeBoxes; simp [hs3]
  have hO3 := HO2.out.below hb3 (Nat.le_refl _)
  have hC3 := HC2.out.below hb3 HC2.out.lt
  have hR3 := HRes4.out.below hb3 HRes4.out.lt
  have he : E = n + q := by omega
  have Hbx := Lib.hid (And.intro hbx0 hbx1)
  have HO3 := Lib.hid hO3
  have HC3 := Lib.hid hC3
  have HR3 := Lib.hid hR3
  have Hb5 := Lib.hid (Hb4.out.trans (hb3.mono Hb4.out.size))
  have He := Lib.hid he
  have hEb : E ≤ 140737488355328 := by omega
  have hE8 : E ≤ 8 * m := by omega
  have hrV2 : W.heap.size < V2.heap.size := HRes4.out.lt
  have hgaV2 : ga < V2.heap.size := by omega
  clear hw3 hV3 hs3 hbV3 hbx0 hbx1 hb3 hO3 hC3 hR3 he hE hq q0 q1 HO2 HC2 HRes4 Hb4 HV
  gi_wp2_with fail
  refine wpIn_rangeFunc_ownF rfl (by omega) (gf := 87) (lb := #[.pointer (some ⟨V2.heap.size + 1, 0, none⟩), .pointer (some ⟨V2.heap.size + 2, 0, none⟩)]) rfl trivial (enters_of Tryd.func87 (by kernel_rfl) rfl)
    (parts1_stops Fence.wide _ trivial rfl (by omega) (V2.heap.size + 1) (V2.heap.size + 2) n q E He.out _ Hbx.out.1 Hbx.out.2 hEb)
    (fun h k hx => k (h hx)) ?kb (Below.refl _ _) (fun _ => rfl)
    (fun pre W' => (Own W' w1.heap.size (.slice (some ⟨ga, 0, none⟩) m m) (fillL ys n E false (pre.map (·.1))) ∧ Blk W' gc 24 #[.int .i64 (n : Int), .slice (some ⟨ga, 0, none⟩) m m]) ∧ But ga w3 W')
    (fun _ _ _ => False)
    ?own (fun _ _ _ _ _ hs _ _ => hs) ?start
    (fun x => { tmps := #[.pointer (some ⟨g0, 0, none⟩), .pointer (some ⟨g1, 0, none⟩), .pointer (some ⟨W.heap.size, 0, none⟩), .pointer (some ⟨gc, 0, none⟩), .int .i64 (x.1 : Int), .int .u8 (mkV n E x.1 : Int), .agg #[.int .i64 (M : Int), .slice a l c], .tuple #[], .int .i64 (n : Int), .bool true, .tuple #[], .int .i64 (n : Int), .agg #[.int .i64 (n : Int), .slice (some ⟨ga, 0, none⟩) m m], .pointer (some ⟨gc, 1, none⟩), .slice (some ⟨ga, 0, none⟩) m m, .pointer (some ⟨g0, 1, none⟩), .slice a l c, .int .i64 K, .agg #[.int .i64 (n : Int), .slice (some ⟨ga, 0, none⟩) m m], .func (.func 87) #[] #[.pointer (some ⟨V2.heap.size + 1, 0, none⟩), .pointer (some ⟨V2.heap.size + 2, 0, none⟩)], .int .i64 (x.1 : Int), .int .u8 (mkV n E x.1 : Int), undef, undef, undef, undef, undef, undef, undef, undef, undef], defers := [] }) ?assign ?body ?done ?stop
  case kb =>
    intro W l o o' hl ho hc _ ⟨h1, h2⟩
    exact ⟨(World.putObj_heap_other (by intro e; subst e; have := ho.symm.trans h1; cases this; cases hc)).trans h1, (World.putObj_heap_other (by intro e; subst e; have := ho.symm.trans h2; cases this; cases hc)).trans h2⟩
  case own =>
    refine OwnFrom.and (OwnFrom.and ((own_own _ _ _).from _) ((blk_own _ _ _).from _)) (ownFrom_but ?_ (Nat.le_refl _))
    omega
  case start => exact ⟨⟨by rw [List.map_nil, fillL_nil]; exact HO3.out, HC3.out⟩, But.refl _ _⟩
  case assign =>
    intro l x W K hK
    dsimp only [partEnc]
    gi_wp2
    exact hK
  case body =>
    rintro ln pre ⟨i, hx⟩ W' ⟨⟨hO, hB⟩, hbut⟩ _
    have hil : i < m := by omega
    have hLl : (fillL ys n E false (pre.map (·.1))).length = m := by rw [fillL_len, hcl]
    have hnext := fillL_next Hcb.out n E false (pre.map (·.1)) i (by omega)
    obtain ⟨L, hL⟩ : ∃ L, L = fillL ys n E false (pre.map (·.1)) := ⟨_, rfl⟩
    rw [← hL] at hO hLl hnext
    obtain ⟨X, hXv⟩ : ∃ X, X = L.getD i 0 := ⟨_, rfl⟩
    rw [← hXv] at hnext
    have hXb : 0 ≤ X ∧ X ≤ 255 := by rw [hXv]; exact hO.2 _ (getD_mem (by omega))
    have hmb := mkV_lt n E i
    dsimp only
    obtain ⟨Mk, hMk⟩ : ∃ Mk, Mk = mkV n E i := ⟨_, rfl⟩
    rw [← hMk] at hnext hmb ⊢
    have hcell : W'.cell? ⟨ga, i, none⟩ = some (.int .u8 X) := by
      have h1 := hO.1
      rw [hLl] at h1
      rw [h1.cellAt i (by omega), hXv]
      simp [List.getD, show i < L.length by omega]
    have hfro : W'.frozen? ⟨ga, i, none⟩ = false := by have h1 := hO.1; rw [hLl] at h1; exact h1.frozenAt i
    have hq0 : W'.cell? ⟨gc, 1, none⟩ = some (.slice (some ⟨ga, 0, none⟩) m m) := hB.cell 1
    have hii : (i : Int) < (m : Int) := by omega
    have hst : ∀ z, 0 ≤ z ∧ z ≤ 255 → Own (W'.setCell ⟨ga, i, none⟩ (.int .u8 z)) w1.heap.size (.slice (some ⟨ga, 0, none⟩) m m) (L.set i z) := fun z hz => hO.stored hLl i z hz
    have hne1 : gc ≠ ga := by omega
    have fin : ∀ z, 0 ≤ z ∧ z ≤ 255 → z = fillB false Mk X → KeepsOthers W' (W'.setCell ⟨ga, i, none⟩ (.int .u8 z)) ∧ boxesKp (V2.heap.size + 1) (V2.heap.size + 2) n q W' (W'.setCell ⟨ga, i, none⟩ (.int .u8 z)) ∧
        (Own (W'.setCell ⟨ga, i, none⟩ (.int .u8 z)) w1.heap.size (.slice (some ⟨ga, 0, none⟩) m m) (fillL ys n E false ((pre ++ [(⟨i, hx⟩ : PartNo n E)]).map (·.1))) ∧ Blk (W'.setCell ⟨ga, i, none⟩ (.int .u8 z)) gc 24 #[.int .i64 (n : Int), .slice (some ⟨ga, 0, none⟩) m m]) ∧ But ga w3 (W'.setCell ⟨ga, i, none⟩ (.int .u8 z)) := by
      intro z hz hze
      have hbb := (But.refl ga W').setCell i (.int .u8 z)
      refine ⟨hO.keeps hbb, boxesKp_but hbb (by omega) (by omega), ⟨?_, hbb.blk hB hne1⟩, hbut.setCell i _⟩
      rw [List.map_append, List.map_singleton, hnext, ← hze]
      exact hst z hz
    have hor := andNot_fill X Mk hmb hXb
    have hzb := fillB_bd false Mk X hmb hXb
    obtain ⟨z, hz⟩ : ∃ z, z = fillB false Mk X := ⟨_, rfl⟩
    rw [← hz] at hor hzb
    have Fin := Lib.hid (fin z hzb hz)
    clear fin hst hnext hO hB hbut hXb hL hXv hMk Hbx HO3 HC3 HR3 hzb hz
    gi_wp2_with fail
    exact Fin.out
  case done =>
    rintro D xs W' hD hS ⟨⟨hO, hB⟩, hbut⟩ hK
    rw [hS, fillL_done Hcb.out n E false _ (partN_bd n E)] at hO
    have hR6 : Blk W' W.heap.size 24 #[.int .i64 0, .slice none 0 0] := hbut.blk HR3.out (by omega)
    have q0 : W'.cell? ⟨gc, 0, none⟩ = some (.int .i64 (n : Int)) := hB.cell 0
    have q1 : W'.cell? ⟨gc, 1, none⟩ = some (.slice (some ⟨ga, 0, none⟩) m m) := hB.cell 1
    have HO := Lib.hid hO
    have HR6 := Lib.hid hR6
    have Hbut := Lib.hid hbut
    have HK := Lib.hid hK
    have f0 := hR6.frozen 0
    have f1 := hR6.frozen 1
    have k0 : W'.cell? ⟨W.heap.size, 0, none⟩ = some (.int .i64 0) := hR6.cell 0
    have k1 : W'.cell? ⟨W.heap.size, 1, none⟩ = some (.slice none 0 0) := hR6.cell 1
    clear hO hB hbut hK hS Hbx HO3 HC3 HR3 hR6
    gi_wp2_with fail
    rw [cells2 HR6.out]
    obtain ⟨V6, hV6, rV, bV, sV, oV⟩ := filled HR6.out #[.int .i64 (n : Int), .slice (some ⟨ga, 0, none⟩) m m]
    rw [hV6]
    have hDne : D ≠ W.heap.size := by omega
    have hK6 := (oV D hDne).trans HK.out
    have hO6 := (HO.out.other oV hw1).mono (Nat.le_of_lt hw1)
    have hb6 := Hb5.out.trans ((Hbut.out.below.mono (Nat.le_of_lt hrc)).trans bV)
    refine ⟨by simp, .inl ⟨_, _, rfl, run_takeDeferred hK6, ?_⟩⟩
    refine ⟨_, results_cell_row rfl _ _ W.heap.size 24 #[.int .i64 (n : Int), .slice (some ⟨ga, 0, none⟩) m m] (0, 0) _ rfl ((World.putObj_heap_other hDne.symm).trans rV) Tryd.underlying24 rfl sizeBits, ?_⟩
    exact ⟨_, _, _, rfl, hO6.putNew _ hK6 rfl, hb6.trans (belowK_b (w := W) (Nat.le_refl _) V6 D _ _ (by omega) hK6 rfl rfl)⟩
  case stop =>
    rintro D c pre W _ _ h _
    exact h.elim
theorem resize_ok (M : Nat) (a : Option Addr) (l c : Nat) (bs : List Int) (n : Nat) (w : World) (hr : Rd w a l c bs) (hv : Vb M bs) (hn : n ≤ 65536) :
    Calls Tryd.prog 28 #[.agg #[.int .i64 (M : Int), .slice a l c], .int .i64 (n : Int)] w fun e w' => ∃ a' l' c' X, e = .returned (.tuple #[.agg #[.int .i64 (n : Int), .slice a' l' c'], .int .i64 0]) ∧ Rd w' a' l' c' X ∧ Is n X (fun j => decide (j < M) && bitV bs j) ∧ Below w.heap.size w w' :=
  (resize_lift_ok M a l c n n (fillV (cpV bs ((n + 7) / 8)) n (8 * ((n + 7) / 8)) false) w fun W hb h0 h1 => resize1_ok _ _ M a l c bs n _ W h0 h1 (hr.below hb (Nat.le_refl _)) hv hn rfl).mono fun e w' ⟨x, y, z, h1, h2, h3⟩ => ⟨x, y, z, _, h1, own_read h2, resize_is hv hn _ rfl, h3⟩
section
variable (N : Int) (a : Option Addr) (l c : Nat) (bs : List Int) (n : Int) (w : World) (hr : Rd w a l c bs) (hN1 : -9223372036854775808 ≤ N) (hN2 : N ≤ 9223372036854775807)
include hr hN1 hN2
theorem resize_bad (hv : validB N bs = false) : Calls Tryd.prog 28 #[.agg #[.int .i64 N, .slice a l c], .int .i64 n] w fun e w' => e = .returned (.tuple #[.agg #[.int .i64 0, .slice none 0 0], .int .i64 9]) ∧ Below w.heap.size w w' :=
  resize_lift_bad N a l c n 9 w fun W hb h0 h1 => resize1_bad _ _ N a l c bs W h0 (hr.below hb (Nat.le_refl _)) hN1 hN2 hv
theorem resize_no (hv : validB N bs = true) (hn : ¬ (0 ≤ n ∧ n ≤ 65536)) : Calls Tryd.prog 28 #[.agg #[.int .i64 N, .slice a l c], .int .i64 n] w fun e w' => e = .returned (.tuple #[.agg #[.int .i64 0, .slice none 0 0], .int .i64 1]) ∧ Below w.heap.size w w' :=
  resize_lift_bad N a l c n 1 w fun W hb h0 h1 => resize1_no _ _ N a l c bs n W h0 (hr.below hb (Nat.le_refl _)) hN1 hN2 h1 hv hn
end
end Go.Proofs.YthognmkjoekilaaDoor
