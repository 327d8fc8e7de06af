/- valid, and Check: which bitmaps are valid. -/
import Derived.Test.YtknacgdjodmaiaaDoorBspare
import Derived.Test.YtknacgdjodmaiaaDoorBvalp
import Derived.Test.YtknacgdjodmaiaaDoorBcall0
import Derived.Test.YtknacgdjodmaiaaDoorBfill
import Derived.BigQuiet
namespace Go.Proofs.YtknacgdjodmaiaaDoor
set_option linter.unusedVariables false
open Go.RowKit Go.Shelf
attribute [local go_sem] Oper.semAt_some

theorem quiet_left {P : Program} {f : FuncId} {args : Array Value} {w : World} {n : Nat} {v : Value}
    (h : Calls P f args (w.drewN n) fun e w' => e = .returned v ∧ w.drewN n = w') : Calls P f args (w.drewN n) fun e w'' => e = .returned v ∧ ∃ m, w'' = w.drewN m :=
  h.mono fun _ _ ⟨he, hm⟩ => ⟨he, n, hm.symm⟩
theorem quiet_add_left {P : Program} {f : FuncId} {args : Array Value} {w : World} {a n : Nat} {v : Value}
    (h : Calls P f args (w.drewN (a + n)) fun e w' => e = .returned v ∧ w.drewN (a + n) = w') :
    Calls P f args (w.drewN (a + n)) fun e w'' => e = .returned v ∧ ∃ m, w'' = w.drewN (a + m) :=
  h.mono fun _ _ ⟨he, hm⟩ => ⟨he, n, hm.symm⟩
theorem size_no (n : Int) (h : ¬ (0 ≤ n ∧ n ≤ 65536)) (w : World) : Calls Tryd.prog 60 #[.int .i64 n] w fun e w' => e = .returned (.bool false) ∧ w = w' := by
  have := size_any n w
  rw [show (decide (0 ≤ n) && decide (n ≤ 65536)) = false by simp; omega] at this
  exact this
theorem size_yes (n : Int) (h : 0 ≤ n ∧ n ≤ 65536) (w : World) : Calls Tryd.prog 60 #[.int .i64 n] w fun e w' => e = .returned (.bool true) ∧ w = w' := by
  have := size_any n w
  rw [show (decide (0 ≤ n) && decide (n ≤ 65536)) = true by simp; omega] at this
  exact this
/-- A bitmap in memory. -/
def valB (N : Int) (a : Option Addr) (len cap : Nat) : Value := .agg #[.int .i64 N, .slice a len cap]
set_option maxRecDepth 100000 in
set_option maxHeartbeats 4000000 in
theorem valid_any (N : Int) (a : Option Addr) (len cap : Nat) (bs : List Int) (w : World) (hr : Rd w a len cap bs) (hN1 : -9223372036854775808 ≤ N) (hN2 : N ≤ 9223372036854775807) :
    Calls Tryd.prog 54 #[.agg #[.int .i64 N, .slice a len cap]] w fun e w' => e = .returned (.bool (validB N bs)) ∧ Below w.heap.size w w' := by
  have hl := hr.hl
  obtain ⟨W1, hW1⟩ : ∃ W1, W1 = (w.alloc (.cells #[.int .i64 N, .slice a len cap] 24)).alloc (.cells #[.bool false] 4) := ⟨_, rfl⟩
  have hs1 : W1.heap.size = w.heap.size + 2 := by rw [hW1]; simp
  have hb1 : Below w.heap.size w W1 := by rw [hW1]; exact ((Below.refl _ w).alloc (Nat.le_refl _) _).alloc (by simp) _
  have hB1 : Blk W1 w.heap.size 24 #[.int .i64 N, .slice a len cap] := by rw [hW1]; exact Blk.below (heap_new w _ : Blk (w.alloc _) _ _ _) ((Below.refl _ _).alloc (Nat.le_refl _) _) (by simp)
  have hX1 : Boxed W1 (w.heap.size + 1) 4 (.bool false) := by
    rw [hW1]; have := Boxed.new (w.alloc (.cells #[.int .i64 N, .slice a len cap] 24)) 4 (.bool false); rw [World.size_alloc] at this; exact this
  have q0 : W1.cell? ⟨w.heap.size, 0, none⟩ = some (.int .i64 N) := hB1.cell 0
  have q1 : W1.cell? ⟨w.heap.size, 1, none⟩ = some (.slice a len cap) := hB1.cell 1
  have x0 := hX1.cell
  have x1 := hX1.frozen
  have HW1 := Lib.hid hW1
  have HR := Lib.hid hr
  have Hb1 := Lib.hid hb1
  have HB1 := Lib.hid hB1
  have HX1 := Lib.hid hX1
  have Hs1 := Lib.hid hs1
  clear hW1 hr hb1 hB1 hX1 hs1
  by_cases hN : 0 ≤ N ∧ N ≤ 65536
  · have HN := Lib.hid hN
    clear hN
    by_cases hL : (len : Int) = (N + 7) / 8
    · have HL := Lib.hid hL
      have hq : ((len : Int) != (N + 7) / 8) = false := by simp [hL]
      clear hL
      refine (callsIn_wide (n := 9)).1 ?_
      refine callsIn_of_wp_marks Tryd.func54 rfl trivial ?_ rfl
      simp only [Tryd.ntmps54, List.size_toArray, List.length_cons, List.length_nil, Nat.reduceAdd, Nat.reduceSub, Array.replicate_succ, Array.replicate_zero, List.push_toArray, List.append_toArray, List.nil_append, List.cons_append]
      gi_wp2_with fail
      rw [← HW1.out]
      refine wpIn_wide.2 ?_
      go_quiet ((first | (go_at_call 60; first | exact quiet_add_left (size_yes N HN.out _) | exact quiet_left (size_yes N HN.out _)) | (go_at_call 88; first | exact quiet_add_left (bytesFor_any N _ HN.out.1 HN.out.2) | exact quiet_left (bytesFor_any N _ HN.out.1 HN.out.2))))
      obtain ⟨V, hV⟩ : ∃ V, V = W1.drewN nq := ⟨_, rfl⟩
      have hbV : Below w.heap.size w V := by rw [hV]; exact below_drewN Hb1.out nq
      have hBV : Blk V w.heap.size 24 #[.int .i64 N, .slice a len cap] := by rw [hV]; exact HB1.out
      have hXV : Boxed V (w.heap.size + 1) 4 (.bool false) := by rw [hV]; exact HX1.out
      have hsV : V.heap.size = w.heap.size + 2 := by rw [hV]; exact Hs1.out
      have q0 : V.cell? ⟨w.heap.size, 0, none⟩ = some (.int .i64 N) := hBV.cell 0
      have q1 : V.cell? ⟨w.heap.size, 1, none⟩ = some (.slice a len cap) := hBV.cell 1
      rw [← hV]
      have HbV := Lib.hid hbV
      have HBV := Lib.hid hBV
      have HXV := Lib.hid hXV
      have HsV := Lib.hid hsV
      obtain ⟨M, hM⟩ := Int.eq_ofNat_of_zero_le HN.out.1
      obtain ⟨E, hE⟩ : ∃ E, E = 8 * len := ⟨_, rfl⟩
      have hML : M ≤ 8 * len := by have := HL.out; omega
      have hl9 : len ≤ 9000 := by have := HL.out; have := HN.out; omega
      have HM := Lib.hid hM
      have HE := Lib.hid hE
      clear hV hbV hBV hXV hsV x0 x1 HB1 HX1 Hs1 Hb1 HW1 hM hE
      gi_wp2_with fail
      refine ⟨trivial, ?_⟩
      have C := spare_any M a len cap V hML hl9
      rw [show ((M : Nat) : Int) = N from HM.out.symm] at C
      refine (callsIn_wide.2 C).mono ?_
      clear C
      rintro e1 w3 ⟨rfl, hw3⟩
      obtain ⟨V1, hV1⟩ : ∃ V1, V1 = V.alloc (.cells #[.int .i64 N, .slice a len cap] 24) := ⟨_, rfl⟩
      rw [← hV1] at hw3
      have hsV1 : V1.heap.size = V.heap.size + 1 := by rw [hV1]; simp
      have hbx0 : Boxed w3 (V.heap.size + 1) 3 (.int .i64 (M : Int)) := by rw [hw3, ← hsV1, ← HM.out]; exact (Boxed.new V1 _ _).alloc _
      have hbx1 : Boxed w3 (V.heap.size + 2) 3 (.int .i64 ((8 * len - M : Nat) : Int)) := by
        rw [hw3]; have := Boxed.new (V1.alloc (.cells #[.int .i64 N] 3)) 3 (.int .i64 ((8 * len - M : Nat) : Int)); rw [World.size_alloc, hsV1] at this; exact this
      have hb3 : Below V.heap.size V w3 := by rw [hw3, hV1]; exact (((Below.refl _ V).alloc (Nat.le_refl _) _).alloc (by simp) _).alloc (by simp; omega) _
      have hbw3 := HbV.out.trans (hb3.mono HbV.out.size)
      have hB3 := HBV.out.below hb3 HBV.out.lt
      have hX3 : Boxed w3 (w.heap.size + 1) 4 (.bool false) := (hb3.block _ HXV.out.lt).trans HXV.out
      have hR3 := HR.out.below hbw3 (Nat.le_refl _)
      have Hbx := Lib.hid (And.intro hbx0 hbx1)
      have Hb3 := Lib.hid hbw3
      have HB3 := Lib.hid hB3
      have HX3 := Lib.hid hX3
      have HR3 := Lib.hid hR3
      have hs3 : w.heap.size + 2 ≤ w3.heap.size := by have := hb3.size; have := HsV.out; omega
      clear hw3 hV1 hsV1 hbx0 hbx1 hb3 hbw3 hB3 hX3 hR3 HbV HBV HXV HR q0 q1
      gi_wp2_with fail
      refine wpIn_rangeFunc_ownF rfl (by omega) (gf := 87) (lb := #[.pointer (some ⟨V.heap.size + 1, 0, none⟩), .pointer (some ⟨V.heap.size + 2, 0, none⟩)]) rfl trivial (enters_of Tryd.func87 (by kernel_rfl) rfl)
        (parts1_stops Fence.wide _ trivial rfl (by omega) (V.heap.size + 1) (V.heap.size + 2) M (8 * len - M) E (by have := HE.out; omega) _ Hbx.out.1 Hbx.out.2 (by have := HE.out; omega))
        (fun h k hx => k (h hx)) ?kb (Below.refl _ _) (fun _ => rfl)
        (fun pre W => ((Boxed W (w.heap.size + 1) 4 (.bool false) ∧ ∀ i, i ∈ pre.map (·.1) → i < bs.length → (bs.getD i 0).toNat &&& mkV M E i = 0) ∧ Below w3.heap.size w3 W))
        (fun c pre W => (Boxed W (w.heap.size + 1) 4 (.bool false) ∧ c = .ret ∧ validB N bs = false) ∧ Below w.heap.size w W)
        ?own ?ownx ?start
        (fun x => { tmps := #[.agg #[.int .i64 N, .slice a len cap], .pointer (some ⟨w.heap.size, 0, none⟩), .pointer (some ⟨w.heap.size + 1, 0, none⟩), .int .i64 (x.1 : Int), .int .u8 (mkV M E x.1 : Int), .pointer (some ⟨w.heap.size, 0, none⟩), .int .i64 N, .bool true, .bool false, .bool false, .pointer (some ⟨w.heap.size, 1, none⟩), .slice a len cap, .int .i64 len, .pointer (some ⟨w.heap.size, 0, none⟩), .int .i64 N, .int .i64 ((N + 7) / 8), .bool false, .bool false, .agg #[.int .i64 N, .slice a len cap], .func (.func 87) #[] #[.pointer (some ⟨V.heap.size + 1, 0, none⟩), .pointer (some ⟨V.heap.size + 2, 0, none⟩)], .int .i64 (x.1 : Int), .int .u8 (mkV M E x.1 : Int), undef, undef, undef, undef, undef, undef, undef, undef], defers := [] }) ?assign ?body ?done ?stop
      case kb =>
        intro W l o o' hl ho hc _ ⟨h1, h2⟩
        exact ⟨(World.putObj_heap_other (by intro e; subst e; have := ho.symm.trans h1; cases this; cases hc)).trans h1, (World.putObj_heap_other (by intro e; subst e; have := ho.symm.trans h2; cases this; cases hc)).trans h2⟩
      case own => exact OwnFrom.and (OwnFrom.and ((boxed_own _ _ _).from _) (fun _ _ _ _ hs _ _ => hs)) (ownFrom_below (Nat.le_refl _) (Nat.le_refl _))
      case ownx => exact fun c => OwnFrom.and (OwnFrom.and ((boxed_own _ _ _).from _) (fun _ _ _ _ hs _ _ => hs)) (ownFrom_below (by omega) (by omega))
      case start => exact ⟨⟨HX3.out, by simp⟩, Below.refl _ _⟩
      case assign =>
        intro l x W K hK
        dsimp only [partEnc]
        gi_wp2
        exact hK
      case body =>
        rintro l pre ⟨i, hx⟩ W ⟨⟨hX, hall⟩, hbb⟩ _
        have hil : i < len := by have := HE.out; omega
        have hRW := HR3.out.below hbb (Nat.le_refl _)
        obtain ⟨b, off, rfl, hcl⟩ := hRW.hr (by omega)
        have hcell := hcl i hil
        have hbs := hRW.hb
        have hlb := hRW.hl
        have hcp := hRW.hc
        have hcm := hRW.hm
        unfold maxLen at hcm
        have hXb := hbs _ (getD_mem (bs := bs) (i := i) (by omega))
        have hclean := byte_clean hbs M E i (by omega)
        dsimp only
        obtain ⟨X, hXv⟩ : ∃ X, X = bs.getD i 0 := ⟨_, rfl⟩
        have hmb := mkV_lt M E i
        obtain ⟨K, hKv⟩ : ∃ K, K = mkV M E i := ⟨_, rfl⟩
        obtain ⟨Z, hZ⟩ : ∃ Z, Z = X.toNat &&& K := ⟨_, rfl⟩
        rw [← hXv, ← hKv, ← hZ] at hclean
        rw [← hXv] at hXb hcell
        rw [← hKv] at hmb ⊢
        have hand : bits .and .u8 X (K : Int) = (Z : Int) := by rw [u8_and X K hXb.1 (by omega) (by omega) (by omega), Int.toNat_natCast, ← hZ]
        have hqB : W.cell? ⟨w.heap.size, 1, none⟩ = some (.slice (some ⟨b, off, none⟩) len cap) := (HB3.out.below hbb HB3.out.lt).cell 1
        have x0 := hX.cell
        have x1 := hX.frozen
        have hii : (i : Int) < (len : Int) := by omega
        have HX := Lib.hid hX
        have Hbb := Lib.hid hbb
        have Hall := Lib.hid hall
        have Hclean := Lib.hid hclean
        have HZ := Lib.hid (And.intro hXv (And.intro hKv hZ))
        have Hlb := Lib.hid hlb
        clear hX hbb hall hclean hXv hKv hZ hcl hRW hbs hcp hcm HB3 HX3 Hbx hlb
        by_cases h0 : Z = 0
        · have hz : ((Z : Int) != 0) = false := by simp [h0]
          have H0 := Lib.hid h0
          clear h0
          gi_wp2_with fail
          refine ⟨KeepsOthers.refl _, fun h => h, ⟨HX.out, fun j hj hl => ?_⟩, Hbb.out⟩
          rw [List.map_append, List.mem_append] at hj
          rcases hj with hj | hj
          · exact Hall.out j hj hl
          · have hji : j = i := by simpa using hj
            subst hji
            rw [← HZ.out.1, ← HZ.out.2.1, ← HZ.out.2.2]; exact H0.out
        · have hz : ((Z : Int) != 0) = true := by simpa using h0
          have H0 := Lib.hid h0
          clear h0
          gi_wp2_with fail
          have hbx := HX.out.set (.bool false)
          refine ⟨(But.setCell (But.refl (w.heap.size + 1) W) 0 _).keeps (show Blk W (w.heap.size + 1) 4 #[.bool false] from HX.out), ⟨hbx, rfl, ?_⟩, (Hb3.out.trans (Hbb.out.mono (by omega))).setCell (by simp) _⟩
          cases hv : validB N bs with
          | false => rfl
          | true =>
            exfalso
            obtain ⟨v1, v2, v3, v4⟩ := (validB_iff N bs).mp hv
            refine H0.out (Hclean.out.mpr (fun j hj h1 h2 => v4 j (by have := HM.out; omega) (by have := HE.out; have := Hlb.out; omega)))
      case done =>
        rintro D xs W hD hS ⟨⟨hX, hall⟩, hbb⟩ hK
        have hv : validB N bs = true := by
          rw [validB_iff]
          refine ⟨HN.out.1, HN.out.2, by have := HL.out; omega, ?_⟩
          have e1 : N.toNat = M := by rw [HM.out]; rfl
          have e2 : E = 8 * bs.length := by rw [HE.out, hl]
          rw [e1]
          rw [hS] at hall
          rw [e2] at hall
          exact spare_clean HR3.out.hb M _ (fun h => partN_bd M (8 * bs.length) h) hall
        have Hv := Lib.hid hv
        have x0 := hX.cell
        have x1 := hX.frozen
        have hDw : w.heap.size + 1 ≠ D := by omega
        have HX := Lib.hid hX
        have Hbb := Lib.hid (Hb3.out.trans (hbb.mono (by omega)))
        have HK := Lib.hid hK
        clear hX hall hbb hK hS hv HB3 HX3 Hbx
        gi_wp2_with fail
        have hX := HX.out.set (.bool true)
        have hb := Hbb.out.setCell (p := ⟨w.heap.size + 1, 0, none⟩) (by simp) (.bool true)
        have hk : (W.setCell ⟨w.heap.size + 1, 0, none⟩ (.bool true)).heap[D]? = some (.deferred (some [])) := (heap_setCell_other W ⟨w.heap.size + 1, 0, none⟩ D _ (by simp; omega)).trans HK.out
        clear x0 x1
        generalize W.setCell ⟨w.heap.size + 1, 0, none⟩ (.bool true) = w4 at *
        refine ⟨by simp, .inl ⟨_, _, rfl, run_takeDeferred hk, ?_⟩⟩
        have z0 : (w4.putObj D (.deferred none)).cell? ⟨w.heap.size + 1, 0, none⟩ = some (.bool true) := (show Boxed (w4.putObj D (.deferred none)) (w.heap.size + 1) 4 (.bool true) from (World.putObj_heap_other hDw).trans hX).cell
        have hb5 : Below w.heap.size w (w4.putObj D (.deferred none)) := hb.trans (belowK_b (w := w) (Nat.le_refl _) w4 D _ _ (by omega) hk rfl rfl)
        have HZ := Lib.hid hb5
        clear hb5 hX hb hk
        simp [LeavesInM, LeavesIn, results, Tryd.results54, go_sem, z0, Hv.out]
        exact HZ.out
      case stop =>
        rintro D c pre W hD _ ⟨⟨hX, rfl, hv⟩, hb⟩ hK
        have Hv := Lib.hid hv
        have hDw : w.heap.size + 1 ≠ D := by omega
        have HX := Lib.hid hX
        have Hb := Lib.hid hb
        have HK := Lib.hid hK
        clear hX hb hK hv HB3 HX3 Hbx
        gi_wp2_with fail
        refine ⟨by simp, .inl ⟨_, _, rfl, run_takeDeferred HK.out, ?_⟩⟩
        have z0 : (W.putObj D (.deferred none)).cell? ⟨w.heap.size + 1, 0, none⟩ = some (.bool false) := (show Boxed (W.putObj D (.deferred none)) (w.heap.size + 1) 4 (.bool false) from (World.putObj_heap_other hDw).trans HX.out).cell
        have HZ : Hid (Below w.heap.size w (W.putObj D (.deferred none))) := Lib.hid (Hb.out.trans (belowK_b (w := w) (Nat.le_refl _) W D _ _ (by omega) HK.out rfl rfl))
        simp [LeavesInM, LeavesIn, results, Tryd.results54, go_sem, z0, Hv.out]
        exact HZ.out
    · have hv : validB N bs = false := by
        cases h : validB N bs with
        | false => rfl
        | true => have := (validB_iff N bs).mp h; omega
      rw [hv]
      have hq : ((len : Int) != (N + 7) / 8) = true := by simpa using hL
      clear hL hv
      refine (callsIn_wide (n := 9)).1 ?_
      refine callsIn_of_wp_marks Tryd.func54 rfl trivial ?_ rfl
      simp only [Tryd.ntmps54, List.size_toArray, List.length_cons, List.length_nil, Nat.reduceAdd, Nat.reduceSub, Array.replicate_succ, Array.replicate_zero, List.push_toArray, List.append_toArray, List.nil_append, List.cons_append]
      gi_wp2_with fail
      rw [← HW1.out]
      refine wpIn_wide.2 ?_
      go_quiet ((first | (go_at_call 60; first | exact quiet_add_left (size_yes N HN.out _) | exact quiet_left (size_yes N HN.out _)) | (go_at_call 88; first | exact quiet_add_left (bytesFor_any N _ HN.out.1 HN.out.2) | exact quiet_left (bytesFor_any N _ HN.out.1 HN.out.2))))
      gi_wp2_with fail
      have hX := (show Boxed (W1.drewN nq) (w.heap.size + 1) 4 (.bool false) from HX1.out).set (.bool false)
      have z0 := hX.cell
      have hb := (below_drewN Hb1.out nq).setCell (p := ⟨w.heap.size + 1, 0, none⟩) (by simp) (.bool false)
      generalize (W1.drewN nq).setCell ⟨w.heap.size + 1, 0, none⟩ (.bool false) = w3 at *
      have HZ := Lib.hid hb
      clear hb hX
      simp [bodyPostM, LeavesInM, LeavesIn, results, Tryd.results54, go_sem, z0]
      exact HZ.out
  · have hv : validB N bs = false := by
      cases h : validB N bs with
      | false => rfl
      | true => have := (validB_iff N bs).mp h; omega
    rw [hv]
    have HN := Lib.hid hN
    clear hN
    refine (callsIn_wide (n := 9)).1 ?_
    refine callsIn_of_wp_marks Tryd.func54 rfl trivial ?_ rfl
    simp only [Tryd.ntmps54, List.size_toArray, List.length_cons, List.length_nil, Nat.reduceAdd, Nat.reduceSub, Array.replicate_succ, Array.replicate_zero, List.push_toArray, List.append_toArray, List.nil_append, List.cons_append]
    gi_wp2_with fail
    rw [← HW1.out]
    refine wpIn_wide.2 ?_
    go_quiet ((go_at_call 60; first | exact quiet_add_left (size_no N HN.out _) | exact quiet_left (size_no N HN.out _)))
    gi_wp2_with fail
    have hX := (show Boxed (W1.drewN nq) (w.heap.size + 1) 4 (.bool false) from HX1.out).set (.bool false)
    have z0 := hX.cell
    have hb := (below_drewN Hb1.out nq).setCell (p := ⟨w.heap.size + 1, 0, none⟩) (by simp) (.bool false)
    generalize (W1.drewN nq).setCell ⟨w.heap.size + 1, 0, none⟩ (.bool false) = w3 at *
    have HZ := Lib.hid hb
    clear hb hX
    simp [bodyPostM, LeavesInM, LeavesIn, results, Tryd.results54, go_sem, z0]
    exact HZ.out
end Go.Proofs.YtknacgdjodmaiaaDoor
