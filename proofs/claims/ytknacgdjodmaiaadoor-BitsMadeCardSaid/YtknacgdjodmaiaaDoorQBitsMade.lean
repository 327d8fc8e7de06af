/- What the statement BitsMade calls answers true, for every input that its walk is handed. -/
import Derived.Test.YtknacgdjodmaiaaDoorRows
import Derived.WalkKit
import Derived.ProofKit
import Derived.OpenShut
import Derived.ShutString
import Derived.ChangeOld
import Derived.Below
import Derived.SizedLaws
import Derived.Test.YtknacgdjodmaiaaDoorBrnew
namespace Go.Proofs.YtknacgdjodmaiaaDoor.bitsMade
open Go.ChangeShapes Go.WideShapes Go.ChangeAt Go.RowKit
open Go.ChangeMaps (open_string shut_string)
set_option linter.unusedVariables false

theorem new_ok (N : Int) (m : Nat) (w : World) (hs : 0 ≤ N ∧ N ≤ 65536) (hm : (N + 7) / 8 = (m : Int)) : Calls Tryd.prog 25 #[.int .i64 N] w fun e w' => ∃ a l c, e = .returned (.tuple #[.agg #[.int .i64 N, .slice a l c], .int .i64 0]) ∧ Own w' w.heap.size (.slice a l c) (List.replicate m 0) ∧ Below w.heap.size w w' :=
  new_lift_ok N N (List.replicate m 0) w (fun W hb h0 => new1_ok _ N m W h0 hs hm)
theorem new_no (N : Int) (w : World) (hs : ¬ (0 ≤ N ∧ N ≤ 65536)) : Calls Tryd.prog 25 #[.int .i64 N] w fun e w' => e = .returned (.tuple #[.agg #[.int .i64 0, .slice none 0 0], .int .i64 1]) ∧ Below w.heap.size w w' :=
  new_lift_bad N 1 w (fun W hb h0 => new1_no _ N W h0 hs)
theorem from_ok (N : Int) (a : Option Addr) (l c : Nat) (bs : List Int) (w : World) (hr : Rd w a l c bs) (hv : validB N bs = true) : Calls Tryd.prog 26 #[.int .i64 N, .slice a l c] w fun e w' => ∃ a l c, e = .returned (.tuple #[.agg #[.int .i64 N, .slice a l c], .int .i64 0]) ∧ Own w' w.heap.size (.slice a l c) bs ∧ Below w.heap.size w w' :=
  from_lift_ok N a l c N bs w (fun W hb h0 h1 => from1_ok _ _ N a l c bs W h0 h1 (hr.below hb (Nat.le_refl _)) hv)
theorem from_no (N : Int) (a : Option Addr) (l c : Nat) (bs : List Int) (w : World) (hr : Rd w a l c bs) (hs : ¬ (0 ≤ N ∧ N ≤ 65536)) : Calls Tryd.prog 26 #[.int .i64 N, .slice a l c] w fun e w' => e = .returned (.tuple #[.agg #[.int .i64 0, .slice none 0 0], .int .i64 1]) ∧ Below w.heap.size w w' :=
  from_lift_bad N a l c 1 w (fun W hb h0 h1 => from1_no _ _ N a l c bs W h0 h1 (hr.below hb (Nat.le_refl _)) hs)
theorem from_form (N : Int) (a : Option Addr) (l c : Nat) (bs : List Int) (w : World) (hr : Rd w a l c bs) (hs : 0 ≤ N ∧ N ≤ 65536) (hv : validB N bs = false) : Calls Tryd.prog 26 #[.int .i64 N, .slice a l c] w fun e w' => e = .returned (.tuple #[.agg #[.int .i64 0, .slice none 0 0], .int .i64 4]) ∧ Below w.heap.size w w' :=
  from_lift_bad N a l c 4 w (fun W hb h0 h1 => from1_form _ _ N a l c bs W h0 h1 (hr.below hb (Nat.le_refl _)) hs hv)
/-- A bitmap that reads so, in a box made now. -/
theorem boxed2 {w w1 : World} (h : Below w.heap.size w w1) (N : Int) (a : Option Addr) (l c : Nat) (xs : List Int) (hr : Rd w1 a l c xs) :
    ∃ g W, w1.heap.size = g ∧ w1.alloc (.cells #[.int .i64 N, .slice a l c] 24) = W ∧ Bx W g N a l c xs ∧ Below w.heap.size w W ∧ Below w1.heap.size w1 W := boxed h N a l c xs hr
theorem nil_rd (w : World) : Rd w none 0 0 [] := Rd.nil w
set_option maxRecDepth 100000 in
set_option maxHeartbeats 8000000 in
theorem walk (a0 : Int) (a1 : Option Addr) (len1 cap1 : Nat) (xs1 : List Int) (w : World) (w0 : (Lit.int .i64 a0).wf = true) (w1 : Rd w a1 len1 cap1 xs1 ∧ cap1 ≤ 140737488351232) (ho : Ones w) :
    Calls Tryd.prog 4 #[.int .i64 a0, .slice a1 len1 cap1] w fun e w' => e = .returned (.bool true) ∧ Below w.heap.size w w' := by
  have hwf : -9223372036854775808 ≤ a0 ∧ a0 ≤ 9223372036854775807 := wf_i64 w0
  have HR := Lib.hid w1.1
  have HO := Lib.hid ho
  have hlc := w1.1.hc
  have hcm := w1.2
  clear w0 w1 ho
  by_cases cA : 300 < len1
  · have cA2 : (300 : Int) < (len1 : Int) := by omega
    go_enter Tryd.func4, Tryd.ntmps4
    go_wp2_with fail
    refine (sane_any w HO.out).mono ?_
    rintro e u ⟨rfl, hb⟩
    have Hb := Lib.hid hb
    clear hb
    go_wp2_with fail
    go_ret
    exact ⟨rfl, Hb.out⟩
  by_cases cB : 2000 < a0 ∧ a0 ≤ 65536
  · obtain ⟨cB1, cB2⟩ := cB
    have cA2 : (len1 : Int) ≤ 300 := by omega
    clear cA
    go_enter Tryd.func4, Tryd.ntmps4
    go_wp2_with fail
    refine (sane_any w HO.out).mono ?_
    rintro e u ⟨rfl, hb⟩
    have Hb := Lib.hid hb
    clear hb
    go_wp2_with fail
    go_ret
    exact ⟨rfl, Hb.out⟩
  by_cases cC : 0 ≤ a0 ∧ a0 ≤ 65536
  · obtain ⟨cC1, cC2⟩ := cC
    obtain ⟨m, hm⟩ : ∃ m : Nat, (a0 + 7) / 8 = (m : Int) := ⟨((a0 + 7) / 8).toNat, by omega⟩
    have cA2 : (len1 : Int) ≤ 300 := by omega
    have g1 : (2000 < a0 ∧ a0 ≤ 65536) = False := eq_false cB
    have g2 : (2000 < a0) = False := eq_false (by omega)
    have Hm := Lib.hid hm
    clear cA cB hm
    obtain ⟨V, hV⟩ : ∃ V, V = validB a0 xs1 := ⟨_, rfl⟩
    have Hv := Lib.hid hV
    clear hV
    cases V with
    | true =>
      go_enter Tryd.func4, Tryd.ntmps4
      go_wp2_with fail
      refine (new_ok a0 m w ⟨cC1, cC2⟩ Hm.out).mono ?_
      rintro e u1 ⟨b5, l5, c5, rfl, hw, hb⟩
      have HR' := Lib.hid (HR.out.below hb (Nat.le_refl _))
      have HO' := Lib.hid (HO.out.below hb (Nat.le_refl _))
      have Hb' := Lib.hid (hb)
      clear hb  HR HO
      have HR := HR'
      have HO := HO'
      have Hb := Hb'
      clear HR' HO' Hb'
      have H5r := Lib.hid (own_read hw)
      clear hw
      go_upto_region 4 with fail
      obtain ⟨g5, W5, e1, e2, hB, hb, hq⟩ := boxed Hb.out a0 b5 l5 c5 _ H5r.out
      rw [e2, e1]
      have HR' := Lib.hid (HR.out.below hq (Nat.le_refl _))
      have HO' := Lib.hid (HO.out.below hq (Nat.le_refl _))
      have Hb' := Lib.hid hb
      have H5 := Lib.hid hB
      clear e1 e2 hb hB hq Hb HR HO
      have HR := HR'
      have HO := HO'
      have Hb := Hb'
      clear HR' HO' Hb'
      clear H5r
      go_wp2_with fail
      refine (from_ok a0 a1 len1 cap1 xs1 W5 HR.out Hv.out.symm).mono ?_
      rintro e u2 ⟨b7, l7, c7, rfl, hw, hb⟩
      have HR' := Lib.hid (HR.out.below hb (Nat.le_refl _))
      have HO' := Lib.hid (HO.out.below hb (Nat.le_refl _))
      have H5' := Lib.hid (H5.out.below hb)
      have Hb' := Lib.hid (Hb.out.trans (hb.mono Hb.out.size))
      clear hb Hb HR HO H5
      have HR := HR'
      have HO := HO'
      have H5 := H5'
      have Hb := Hb'
      clear HR' HO' H5' Hb'
      have H7r := Lib.hid (own_read hw)
      clear hw
      go_upto_region 5 with fail
      obtain ⟨g7, W7, e1, e2, hB, hb, hq⟩ := boxed Hb.out a0 b7 l7 c7 _ H7r.out
      rw [e2, e1]
      have HR' := Lib.hid (HR.out.below hq (Nat.le_refl _))
      have HO' := Lib.hid (HO.out.below hq (Nat.le_refl _))
      have H5' := Lib.hid (H5.out.below hq)
      have Hb' := Lib.hid hb
      have H7 := Lib.hid hB
      clear e1 e2 hb hB hq Hb HR HO H5
      have HR := HR'
      have HO := HO'
      have H5 := H5'
      have Hb := Hb'
      clear HR' HO' H5' Hb'
      clear H7r
      go_upto_region 7 with fail
      refine wp_region_held_drew (S := Below W7.heap.size W7) (by kernel_rfl) ((Below.refl _ W7).drew) (fun _ => ?_)
      have HS : Hid (Below W7.heap.size W7 W7.drew) := Lib.hid ((Below.refl _ W7).drew)
      refine wpAnyH_take (i := 0) (v := .int .i64 0) rfl (by kernel_rfl) (by kernel_rfl) (by kernel_rfl) (fun _ _ _ h => h) (Or.inl ⟨by rfl, ?_⟩) HS.out ?_
      · intro u hu; go_simp
      go_simp
      refine wpAnyH_take (i := 1) (v := .bool false) rfl (by kernel_rfl) (by kernel_rfl) (by kernel_rfl) (fun _ _ _ h => h) (Or.inl ⟨by rfl, ?_⟩) HS.out ?_
      · intro u hu; go_simp
      go_simp
      refine wpAnyH_take (i := 2) (v := .bool false) rfl (by kernel_rfl) (by kernel_rfl) (by kernel_rfl) (fun _ _ _ h => h) (Or.inl ⟨by rfl, ?_⟩) HS.out ?_
      · intro u hu; go_simp
      go_simp
      refine wpAnyH_take (i := 3) (v := .agg #[.int .i64 a0, .slice b5 l5 c5]) rfl (by kernel_rfl) (by kernel_rfl) (by kernel_rfl) (fun _ _ _ h => h) (Or.inl ⟨by rfl, ?_⟩) HS.out ?_
      · intro u hu; have : u.cell? ⟨g5, 0, none⟩ = some (.int .i64 a0) := (H5.out.below hu).blk.cell 0; have : u.cell? ⟨g5, 1, none⟩ = some (.slice b5 l5 c5) := (H5.out.below hu).blk.cell 1; go_simp
      go_simp
      refine wpAnyH_take (i := 4) (v := .int .i64 a0) rfl (by kernel_rfl) (by kernel_rfl) (by kernel_rfl) (fun _ _ _ h => h) (Or.inl ⟨by rfl, ?_⟩) HS.out ?_
      · intro u hu; go_simp
      go_simp
      refine wpAnyH_ready (rs := [5]) (by kernel_rfl) (by simp) ?_
      refine AllReadyH.cons rfl (fun K hK => ?_) AllReadyH.nil
      go_simp
      refine (rnew_any a0 m W7.drew cC1 cC2 Hm.out).mono ?_
      rintro e w8 ⟨b8, rfl, hw, hb⟩
      have HS2 : Hid (Below W7.heap.size W7 w8) := Lib.hid (HS.out.trans (hb.mono HS.out.size))
      have H8r := Lib.hid (own_read hw)
      clear HS hw hb
      have HS := HS2
      clear HS2
      refine hK.out _ _ HS.out (fun _ => ?_)
      clear hK K
      refine wpAnyH_ready (rs := [6]) (by kernel_rfl) (by simp) ?_
      refine AllReadyH.cons rfl (fun K hK => ?_) AllReadyH.nil
      go_simp
      have H5s := H5.out.below HS.out
      have hl5 : l5 = m := by have := H5s.rd.hl; simpa using this.symm
      subst hl5
      refine (same_any a0 a0 b5 l5 c5 (List.replicate l5 0) _ _ _ (List.replicate l5 0) w8 H5s.rd H8r.out).mono ?_
      rintro e w9 ⟨rfl, hb⟩
      rw [show decide (a0 = a0 ∧ List.replicate l5 (0 : Int) = List.replicate l5 0) = true from by simp]
      have HS2 : Hid (Below W7.heap.size W7 w9) := Lib.hid (HS.out.trans (hb.mono HS.out.size))
      clear HS hb H5s
      have HS := HS2
      clear HS2
      refine hK.out _ _ HS.out (fun _ => ?_)
      clear hK K
      refine wpAnyH_take (i := 7) (v := .bool false) rfl (by kernel_rfl) (by kernel_rfl) (by kernel_rfl) (fun _ _ _ h => h) (Or.inl ⟨by rfl, ?_⟩) HS.out ?_
      · intro u hu; go_simp
      go_simp
      refine wpAnyH_take (i := 8) (v := .bool false) rfl (by kernel_rfl) (by kernel_rfl) (by kernel_rfl) (fun _ _ _ h => h) (Or.inl ⟨by rfl, ?_⟩) HS.out ?_
      · intro u hu; go_simp
      go_simp
      refine wpAnyH_done (by kernel_rfl) ?_ _
      have HR9 := Lib.hid (HR.out.below HS.out (Nat.le_refl _))
      have HO9 := Lib.hid (HO.out.below HS.out (Nat.le_refl _))
      have H79 := Lib.hid (H7.out.below HS.out)
      have Hb9 := Lib.hid (Hb.out.trans (HS.out.mono Hb.out.size))
      clear HS HR HO H7 H5 Hb H8r
      have HR := HR9
      have HO := HO9
      have H7 := H79
      have Hb := Hb9
      clear HR9 HO9 H79 Hb9
      go_wp2_with fail
      refine (right_any a0 a1 len1 cap1 xs1 w9 HR.out (by omega) (by omega) (by omega)).mono ?_
      rintro e w10 ⟨rfl, hb⟩
      have HR' := Lib.hid (HR.out.below hb (Nat.le_refl _))
      have HO' := Lib.hid (HO.out.below hb (Nat.le_refl _))
      have H7' := Lib.hid (H7.out.below hb)
      have Hb' := Lib.hid (Hb.out.trans (hb.mono Hb.out.size))
      clear hb Hb HR HO H7
      have HR := HR'
      have HO := HO'
      have H7 := H7'
      have Hb := Hb'
      clear HR' HO' H7' Hb'
      rw [← Hv.out]
      go_wp2_with fail
      refine (sane_any w10 HO.out).mono ?_
      rintro e w11 ⟨rfl, hb⟩
      have HR' := Lib.hid (HR.out.below hb (Nat.le_refl _))
      have HO' := Lib.hid (HO.out.below hb (Nat.le_refl _))
      have H7' := Lib.hid (H7.out.below hb)
      have Hb' := Lib.hid (Hb.out.trans (hb.mono Hb.out.size))
      clear hb Hb HR HO H7
      have HR := HR'
      have HO := HO'
      have H7 := H7'
      have Hb := Hb'
      clear HR' HO' H7' Hb'
      have q0 : w11.cell? ⟨g7, 0, none⟩ = some (.int .i64 a0) := H7.out.blk.cell 0
      have q1 : w11.cell? ⟨g7, 1, none⟩ = some (.slice b7 l7 c7) := H7.out.blk.cell 1
      go_wp2_with fail
      refine (same_any a0 a0 b7 l7 c7 xs1 a1 len1 cap1 xs1 w11 H7.out.rd HR.out).mono ?_
      rintro e w12 ⟨rfl, hb⟩
      have HR' := Lib.hid (HR.out.below hb (Nat.le_refl _))
      have HO' := Lib.hid (HO.out.below hb (Nat.le_refl _))
      have H7' := Lib.hid (H7.out.below hb)
      have Hb' := Lib.hid (Hb.out.trans (hb.mono Hb.out.size))
      clear hb Hb HR HO H7
      have HR := HR'
      have HO := HO'
      have H7 := H7'
      have Hb := Hb'
      clear HR' HO' H7' Hb'
      rw [show decide (a0 = a0 ∧ xs1 = xs1) = true from by simp]
      clear q0 q1
      go_wp2_with fail
      go_ret
      exact ⟨rfl, Hb.out⟩
    | false =>
      go_enter Tryd.func4, Tryd.ntmps4
      go_wp2_with fail
      refine (new_ok a0 m w ⟨cC1, cC2⟩ Hm.out).mono ?_
      rintro e u1 ⟨b5, l5, c5, rfl, hw, hb⟩
      have HR' := Lib.hid (HR.out.below hb (Nat.le_refl _))
      have HO' := Lib.hid (HO.out.below hb (Nat.le_refl _))
      have Hb' := Lib.hid (hb)
      clear hb  HR HO
      have HR := HR'
      have HO := HO'
      have Hb := Hb'
      clear HR' HO' Hb'
      have H5r := Lib.hid (own_read hw)
      clear hw
      go_upto_region 4 with fail
      obtain ⟨g5, W5, e1, e2, hB, hb, hq⟩ := boxed Hb.out a0 b5 l5 c5 _ H5r.out
      rw [e2, e1]
      have HR' := Lib.hid (HR.out.below hq (Nat.le_refl _))
      have HO' := Lib.hid (HO.out.below hq (Nat.le_refl _))
      have Hb' := Lib.hid hb
      have H5 := Lib.hid hB
      clear e1 e2 hb hB hq Hb HR HO
      have HR := HR'
      have HO := HO'
      have Hb := Hb'
      clear HR' HO' Hb'
      clear H5r
      go_wp2_with fail
      refine (from_form a0 a1 len1 cap1 xs1 W5 HR.out ⟨cC1, cC2⟩ Hv.out.symm).mono ?_
      rintro e u2 ⟨rfl, hb⟩
      have HR' := Lib.hid (HR.out.below hb (Nat.le_refl _))
      have HO' := Lib.hid (HO.out.below hb (Nat.le_refl _))
      have H5' := Lib.hid (H5.out.below hb)
      have Hb' := Lib.hid (Hb.out.trans (hb.mono Hb.out.size))
      clear hb Hb HR HO H5
      have HR := HR'
      have HO := HO'
      have H5 := H5'
      have Hb := Hb'
      clear HR' HO' H5' Hb'
      go_upto_region 5 with fail
      obtain ⟨g7, W7, e1, e2, hB, hb, hq⟩ := boxed Hb.out 0 none 0 0 [] (Rd.nil u2)
      rw [e2, e1]
      have HR' := Lib.hid (HR.out.below hq (Nat.le_refl _))
      have HO' := Lib.hid (HO.out.below hq (Nat.le_refl _))
      have H5' := Lib.hid (H5.out.below hq)
      have Hb' := Lib.hid hb
      have H7 := Lib.hid hB
      clear e1 e2 hb hB hq Hb HR HO H5
      have HR := HR'
      have HO := HO'
      have H5 := H5'
      have Hb := Hb'
      clear HR' HO' H5' Hb'
      go_upto_region 7 with fail
      refine wp_region_held_drew (S := Below W7.heap.size W7) (by kernel_rfl) ((Below.refl _ W7).drew) (fun _ => ?_)
      have HS : Hid (Below W7.heap.size W7 W7.drew) := Lib.hid ((Below.refl _ W7).drew)
      refine wpAnyH_take (i := 0) (v := .int .i64 0) rfl (by kernel_rfl) (by kernel_rfl) (by kernel_rfl) (fun _ _ _ h => h) (Or.inl ⟨by rfl, ?_⟩) HS.out ?_
      · intro u hu; go_simp
      go_simp
      refine wpAnyH_take (i := 1) (v := .bool false) rfl (by kernel_rfl) (by kernel_rfl) (by kernel_rfl) (fun _ _ _ h => h) (Or.inl ⟨by rfl, ?_⟩) HS.out ?_
      · intro u hu; go_simp
      go_simp
      refine wpAnyH_take (i := 2) (v := .bool false) rfl (by kernel_rfl) (by kernel_rfl) (by kernel_rfl) (fun _ _ _ h => h) (Or.inl ⟨by rfl, ?_⟩) HS.out ?_
      · intro u hu; go_simp
      go_simp
      refine wpAnyH_take (i := 3) (v := .agg #[.int .i64 a0, .slice b5 l5 c5]) rfl (by kernel_rfl) (by kernel_rfl) (by kernel_rfl) (fun _ _ _ h => h) (Or.inl ⟨by rfl, ?_⟩) HS.out ?_
      · intro u hu; have : u.cell? ⟨g5, 0, none⟩ = some (.int .i64 a0) := (H5.out.below hu).blk.cell 0; have : u.cell? ⟨g5, 1, none⟩ = some (.slice b5 l5 c5) := (H5.out.below hu).blk.cell 1; go_simp
      go_simp
      refine wpAnyH_take (i := 4) (v := .int .i64 a0) rfl (by kernel_rfl) (by kernel_rfl) (by kernel_rfl) (fun _ _ _ h => h) (Or.inl ⟨by rfl, ?_⟩) HS.out ?_
      · intro u hu; go_simp
      go_simp
      refine wpAnyH_ready (rs := [5]) (by kernel_rfl) (by simp) ?_
      refine AllReadyH.cons rfl (fun K hK => ?_) AllReadyH.nil
      go_simp
      refine (rnew_any a0 m W7.drew cC1 cC2 Hm.out).mono ?_
      rintro e w8 ⟨b8, rfl, hw, hb⟩
      have HS2 : Hid (Below W7.heap.size W7 w8) := Lib.hid (HS.out.trans (hb.mono HS.out.size))
      have H8r := Lib.hid (own_read hw)
      clear HS hw hb
      have HS := HS2
      clear HS2
      refine hK.out _ _ HS.out (fun _ => ?_)
      clear hK K
      refine wpAnyH_ready (rs := [6]) (by kernel_rfl) (by simp) ?_
      refine AllReadyH.cons rfl (fun K hK => ?_) AllReadyH.nil
      go_simp
      have H5s := H5.out.below HS.out
      have hl5 : l5 = m := by have := H5s.rd.hl; simpa using this.symm
      subst hl5
      refine (same_any a0 a0 b5 l5 c5 (List.replicate l5 0) _ _ _ (List.replicate l5 0) w8 H5s.rd H8r.out).mono ?_
      rintro e w9 ⟨rfl, hb⟩
      rw [show decide (a0 = a0 ∧ List.replicate l5 (0 : Int) = List.replicate l5 0) = true from by simp]
      have HS2 : Hid (Below W7.heap.size W7 w9) := Lib.hid (HS.out.trans (hb.mono HS.out.size))
      clear HS hb H5s
      have HS := HS2
      clear HS2
      refine hK.out _ _ HS.out (fun _ => ?_)
      clear hK K
      refine wpAnyH_take (i := 7) (v := .bool false) rfl (by kernel_rfl) (by kernel_rfl) (by kernel_rfl) (fun _ _ _ h => h) (Or.inl ⟨by rfl, ?_⟩) HS.out ?_
      · intro u hu; go_simp
      go_simp
      refine wpAnyH_take (i := 8) (v := .bool false) rfl (by kernel_rfl) (by kernel_rfl) (by kernel_rfl) (fun _ _ _ h => h) (Or.inl ⟨by rfl, ?_⟩) HS.out ?_
      · intro u hu; go_simp
      go_simp
      refine wpAnyH_done (by kernel_rfl) ?_ _
      have HR9 := Lib.hid (HR.out.below HS.out (Nat.le_refl _))
      have HO9 := Lib.hid (HO.out.below HS.out (Nat.le_refl _))
      have H79 := Lib.hid (H7.out.below HS.out)
      have Hb9 := Lib.hid (Hb.out.trans (HS.out.mono Hb.out.size))
      clear HS HR HO H7 H5 Hb H8r
      have HR := HR9
      have HO := HO9
      have H7 := H79
      have Hb := Hb9
      clear HR9 HO9 H79 Hb9
      go_wp2_with fail
      refine (right_any a0 a1 len1 cap1 xs1 w9 HR.out (by omega) (by omega) (by omega)).mono ?_
      rintro e w10 ⟨rfl, hb⟩
      have HR' := Lib.hid (HR.out.below hb (Nat.le_refl _))
      have HO' := Lib.hid (HO.out.below hb (Nat.le_refl _))
      have H7' := Lib.hid (H7.out.below hb)
      have Hb' := Lib.hid (Hb.out.trans (hb.mono Hb.out.size))
      clear hb Hb HR HO H7
      have HR := HR'
      have HO := HO'
      have H7 := H7'
      have Hb := Hb'
      clear HR' HO' H7' Hb'
      rw [← Hv.out]
      go_wp2_with fail
      refine (sane_any w10 HO.out).mono ?_
      rintro e w11 ⟨rfl, hb⟩
      have HR' := Lib.hid (HR.out.below hb (Nat.le_refl _))
      have HO' := Lib.hid (HO.out.below hb (Nat.le_refl _))
      have H7' := Lib.hid (H7.out.below hb)
      have Hb' := Lib.hid (Hb.out.trans (hb.mono Hb.out.size))
      clear hb Hb HR HO H7
      have HR := HR'
      have HO := HO'
      have H7 := H7'
      have Hb := Hb'
      clear HR' HO' H7' Hb'
      have q0 : w11.cell? ⟨g7, 0, none⟩ = some (.int .i64 0) := H7.out.blk.cell 0
      have q1 : w11.cell? ⟨g7, 1, none⟩ = some (.slice none 0 0) := H7.out.blk.cell 1
      go_wp2_with fail
      refine (none_zero w11).mono ?_
      rintro e w12 ⟨rfl, hb⟩
      have HR' := Lib.hid (HR.out.below hb (Nat.le_refl _))
      have HO' := Lib.hid (HO.out.below hb (Nat.le_refl _))
      have H7' := Lib.hid (H7.out.below hb)
      have Hb' := Lib.hid (Hb.out.trans (hb.mono Hb.out.size))
      clear hb Hb HR HO H7
      have HR := HR'
      have HO := HO'
      have H7 := H7'
      have Hb := Hb'
      clear HR' HO' H7' Hb'
      clear q0 q1
      go_wp2_with fail
      go_ret
      exact ⟨rfl, Hb.out⟩
  · have Hs := Lib.hid cC
    have cA2 : (len1 : Int) ≤ 300 := by omega
    have g : a0 < 0 ∨ 65536 < a0 := by omega
    have g1 : (2000 < a0 ∧ a0 ≤ 65536) = False := eq_false cB
    clear cA cB cC
    rcases g with g | g
    · go_enter Tryd.func4, Tryd.ntmps4
      go_wp2_with fail
      refine (new_no a0 w Hs.out).mono ?_
      rintro e u1 ⟨rfl, hb⟩
      have HR' := Lib.hid (HR.out.below hb (Nat.le_refl _))
      have HO' := Lib.hid (HO.out.below hb (Nat.le_refl _))
      have Hb' := Lib.hid (hb)
      clear hb  HR HO
      have HR := HR'
      have HO := HO'
      have Hb := Hb'
      clear HR' HO' Hb'
      go_upto_region 4 with fail
      obtain ⟨g5, W5, e1, e2, hB, hb, hq⟩ := boxed Hb.out 0 none 0 0 [] (Rd.nil u1)
      rw [e2, e1]
      have HR' := Lib.hid (HR.out.below hq (Nat.le_refl _))
      have HO' := Lib.hid (HO.out.below hq (Nat.le_refl _))
      have Hb' := Lib.hid hb
      have H5 := Lib.hid hB
      clear e1 e2 hb hB hq Hb HR HO
      have HR := HR'
      have HO := HO'
      have Hb := Hb'
      clear HR' HO' Hb'
      go_wp2_with fail
      refine (from_no a0 a1 len1 cap1 xs1 W5 HR.out Hs.out).mono ?_
      rintro e u2 ⟨rfl, hb⟩
      have HR' := Lib.hid (HR.out.below hb (Nat.le_refl _))
      have HO' := Lib.hid (HO.out.below hb (Nat.le_refl _))
      have H5' := Lib.hid (H5.out.below hb)
      have Hb' := Lib.hid (Hb.out.trans (hb.mono Hb.out.size))
      clear hb Hb HR HO H5
      have HR := HR'
      have HO := HO'
      have H5 := H5'
      have Hb := Hb'
      clear HR' HO' H5' Hb'
      go_upto_region 5 with fail
      obtain ⟨g7, W7, e1, e2, hB, hb, hq⟩ := boxed Hb.out 0 none 0 0 [] (Rd.nil u2)
      rw [e2, e1]
      have HR' := Lib.hid (HR.out.below hq (Nat.le_refl _))
      have HO' := Lib.hid (HO.out.below hq (Nat.le_refl _))
      have H5' := Lib.hid (H5.out.below hq)
      have Hb' := Lib.hid hb
      have H7 := Lib.hid hB
      clear e1 e2 hb hB hq Hb HR HO H5
      have HR := HR'
      have HO := HO'
      have H5 := H5'
      have Hb := Hb'
      clear HR' HO' H5' Hb'
      go_wp2_with fail
      refine (sane_any W7 HO.out).mono ?_
      rintro e u3 ⟨rfl, hb⟩
      have HR' := Lib.hid (HR.out.below hb (Nat.le_refl _))
      have HO' := Lib.hid (HO.out.below hb (Nat.le_refl _))
      have H5' := Lib.hid (H5.out.below hb)
      have H7' := Lib.hid (H7.out.below hb)
      have Hb' := Lib.hid (Hb.out.trans (hb.mono Hb.out.size))
      clear hb Hb HR HO H5 H7
      have HR := HR'
      have HO := HO'
      have H5 := H5'
      have H7 := H7'
      have Hb := Hb'
      clear HR' HO' H5' H7' Hb'
      have q0 : u3.cell? ⟨g5, 0, none⟩ = some (.int .i64 0) := H5.out.blk.cell 0
      have q1 : u3.cell? ⟨g5, 1, none⟩ = some (.slice none 0 0) := H5.out.blk.cell 1
      go_wp2_with fail
      refine (none_zero u3).mono ?_
      rintro e u4 ⟨rfl, hb⟩
      have HR' := Lib.hid (HR.out.below hb (Nat.le_refl _))
      have HO' := Lib.hid (HO.out.below hb (Nat.le_refl _))
      have H5' := Lib.hid (H5.out.below hb)
      have H7' := Lib.hid (H7.out.below hb)
      have Hb' := Lib.hid (Hb.out.trans (hb.mono Hb.out.size))
      clear hb Hb HR HO H5 H7
      have HR := HR'
      have HO := HO'
      have H5 := H5'
      have H7 := H7'
      have Hb := Hb'
      clear HR' HO' H5' H7' Hb'
      clear q0 q1
      have q0 : u4.cell? ⟨g7, 0, none⟩ = some (.int .i64 0) := H7.out.blk.cell 0
      have q1 : u4.cell? ⟨g7, 1, none⟩ = some (.slice none 0 0) := H7.out.blk.cell 1
      go_wp2_with fail
      refine (none_zero u4).mono ?_
      rintro e u5 ⟨rfl, hb⟩
      have HR' := Lib.hid (HR.out.below hb (Nat.le_refl _))
      have HO' := Lib.hid (HO.out.below hb (Nat.le_refl _))
      have H5' := Lib.hid (H5.out.below hb)
      have H7' := Lib.hid (H7.out.below hb)
      have Hb' := Lib.hid (Hb.out.trans (hb.mono Hb.out.size))
      clear hb Hb HR HO H5 H7
      have HR := HR'
      have HO := HO'
      have H5 := H5'
      have H7 := H7'
      have Hb := Hb'
      clear HR' HO' H5' H7' Hb'
      clear q0 q1
      go_wp2_with fail
      go_ret
      exact ⟨rfl, Hb.out⟩
    · have g2 : (a0 ≤ 65536) = False := eq_false (by omega)
      go_enter Tryd.func4, Tryd.ntmps4
      go_wp2_with fail
      refine (new_no a0 w Hs.out).mono ?_
      rintro e u1 ⟨rfl, hb⟩
      have HR' := Lib.hid (HR.out.below hb (Nat.le_refl _))
      have HO' := Lib.hid (HO.out.below hb (Nat.le_refl _))
      have Hb' := Lib.hid (hb)
      clear hb  HR HO
      have HR := HR'
      have HO := HO'
      have Hb := Hb'
      clear HR' HO' Hb'
      go_upto_region 4 with fail
      obtain ⟨g5, W5, e1, e2, hB, hb, hq⟩ := boxed Hb.out 0 none 0 0 [] (Rd.nil u1)
      rw [e2, e1]
      have HR' := Lib.hid (HR.out.below hq (Nat.le_refl _))
      have HO' := Lib.hid (HO.out.below hq (Nat.le_refl _))
      have Hb' := Lib.hid hb
      have H5 := Lib.hid hB
      clear e1 e2 hb hB hq Hb HR HO
      have HR := HR'
      have HO := HO'
      have Hb := Hb'
      clear HR' HO' Hb'
      go_wp2_with fail
      refine (from_no a0 a1 len1 cap1 xs1 W5 HR.out Hs.out).mono ?_
      rintro e u2 ⟨rfl, hb⟩
      have HR' := Lib.hid (HR.out.below hb (Nat.le_refl _))
      have HO' := Lib.hid (HO.out.below hb (Nat.le_refl _))
      have H5' := Lib.hid (H5.out.below hb)
      have Hb' := Lib.hid (Hb.out.trans (hb.mono Hb.out.size))
      clear hb Hb HR HO H5
      have HR := HR'
      have HO := HO'
      have H5 := H5'
      have Hb := Hb'
      clear HR' HO' H5' Hb'
      go_upto_region 5 with fail
      obtain ⟨g7, W7, e1, e2, hB, hb, hq⟩ := boxed Hb.out 0 none 0 0 [] (Rd.nil u2)
      rw [e2, e1]
      have HR' := Lib.hid (HR.out.below hq (Nat.le_refl _))
      have HO' := Lib.hid (HO.out.below hq (Nat.le_refl _))
      have H5' := Lib.hid (H5.out.below hq)
      have Hb' := Lib.hid hb
      have H7 := Lib.hid hB
      clear e1 e2 hb hB hq Hb HR HO H5
      have HR := HR'
      have HO := HO'
      have H5 := H5'
      have Hb := Hb'
      clear HR' HO' H5' Hb'
      go_wp2_with fail
      refine (sane_any W7 HO.out).mono ?_
      rintro e u3 ⟨rfl, hb⟩
      have HR' := Lib.hid (HR.out.below hb (Nat.le_refl _))
      have HO' := Lib.hid (HO.out.below hb (Nat.le_refl _))
      have H5' := Lib.hid (H5.out.below hb)
      have H7' := Lib.hid (H7.out.below hb)
      have Hb' := Lib.hid (Hb.out.trans (hb.mono Hb.out.size))
      clear hb Hb HR HO H5 H7
      have HR := HR'
      have HO := HO'
      have H5 := H5'
      have H7 := H7'
      have Hb := Hb'
      clear HR' HO' H5' H7' Hb'
      have q0 : u3.cell? ⟨g5, 0, none⟩ = some (.int .i64 0) := H5.out.blk.cell 0
      have q1 : u3.cell? ⟨g5, 1, none⟩ = some (.slice none 0 0) := H5.out.blk.cell 1
      go_wp2_with fail
      refine (none_zero u3).mono ?_
      rintro e u4 ⟨rfl, hb⟩
      have HR' := Lib.hid (HR.out.below hb (Nat.le_refl _))
      have HO' := Lib.hid (HO.out.below hb (Nat.le_refl _))
      have H5' := Lib.hid (H5.out.below hb)
      have H7' := Lib.hid (H7.out.below hb)
      have Hb' := Lib.hid (Hb.out.trans (hb.mono Hb.out.size))
      clear hb Hb HR HO H5 H7
      have HR := HR'
      have HO := HO'
      have H5 := H5'
      have H7 := H7'
      have Hb := Hb'
      clear HR' HO' H5' H7' Hb'
      clear q0 q1
      have q0 : u4.cell? ⟨g7, 0, none⟩ = some (.int .i64 0) := H7.out.blk.cell 0
      have q1 : u4.cell? ⟨g7, 1, none⟩ = some (.slice none 0 0) := H7.out.blk.cell 1
      go_wp2_with fail
      refine (none_zero u4).mono ?_
      rintro e u5 ⟨rfl, hb⟩
      have HR' := Lib.hid (HR.out.below hb (Nat.le_refl _))
      have HO' := Lib.hid (HO.out.below hb (Nat.le_refl _))
      have H5' := Lib.hid (H5.out.below hb)
      have H7' := Lib.hid (H7.out.below hb)
      have Hb' := Lib.hid (Hb.out.trans (hb.mono Hb.out.size))
      clear hb Hb HR HO H5 H7
      have HR := HR'
      have HO := HO'
      have H5 := H5'
      have H7 := H7'
      have Hb := Hb'
      clear HR' HO' H5' H7' Hb'
      clear q0 q1
      go_wp2_with fail
      go_ret
      exact ⟨rfl, Hb.out⟩
end Go.Proofs.YtknacgdjodmaiaaDoor.bitsMade
