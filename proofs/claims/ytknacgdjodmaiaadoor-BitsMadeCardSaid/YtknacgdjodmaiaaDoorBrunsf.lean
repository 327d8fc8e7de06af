/- Runs: all runs of a bitmap. -/
import Derived.Test.YtknacgdjodmaiaaDoorBcollect
namespace Go.Proofs.YtknacgdjodmaiaaDoor
set_option linter.unusedVariables false
open Go.RowKit Go.Shelf

theorem runsF_bd (bs : List Int) (N : Nat) (on : Bool) : ∀ n a, (a < N → bitV bs a = on) → ∀ r ∈ runsF bs N on n a, r.1 + r.2 ≤ N ∧ 1 ≤ r.2 ∧ a ≤ r.1 := by
  intro n
  induction n with
  | zero => intro a _ r hr; simp [runsF] at hr
  | succ n ih =>
    intro a hb r hr
    unfold runsF at hr
    by_cases h : a < N
    · rw [if_pos h] at hr
      obtain ⟨s1, s2, s3, s4⟩ := run_step bs N on a h (hb h)
      have j4 := (seekV_spec bs N on (seekV bs N (!on) a) s2).2.2.2
      rcases List.mem_cons.mp hr with rfl | hr
      · simp only; omega
      · have := ih _ j4 r hr
        omega
    · rw [if_neg h] at hr; simp at hr
theorem runsV_bd (bs : List Int) (N : Nat) (on : Bool) : ∀ r ∈ runsV bs N on, r.1 + r.2 ≤ N ∧ 1 ≤ r.2 := fun r hr => by
  have := runsF_bd bs N on (N + 1) _ (seekV_spec bs N on 0 (Nat.zero_le _)).2.2.2 r hr
  omega
theorem row_slice {W : World} {base : Nat} {e : TypeId} {size : Nat} {v : Value} {n : Nat} {xs : List Value} (h : W.ownsRow base e size v n xs) : ∃ a c, v = .slice a n c := by
  rcases h.2 with ⟨rfl, h0⟩ | ⟨g, cap, cur, rfl, -⟩
  · exact ⟨none, 0, by rw [h0]⟩
  · exact ⟨_, cap, rfl⟩
section
variable (g h : Nat) (M : Nat) (a : Option Addr) (l c : Nat) (bs : List Int) (on : Bool) (w : World) (hR : RunsAt w g h M a l c bs on) (hv : validB (M : Int) bs = true)
include hR hv
set_option maxRecDepth 100000 in
set_option maxHeartbeats 1000000 in
theorem collect_any :
    Calls Tryd.prog 75 #[.func (.func 92) #[] #[.pointer (some ⟨g, 0, none⟩), .pointer (some ⟨h, 0, none⟩)]] w fun e w' => ∃ a' l' c', e = .returned (.slice a' l' c') ∧ OwnR w' w.heap.size (.slice a' l' c') (runsV bs M on) ∧ Below w.heap.size w w' := by
  have C := Lib.hid (append_any g h M a l c bs on w hR hv)
  have hM6 : M ≤ 65536 := by have := (validB_iff (M : Int) bs).mp hv; omega
  clear hR hv
  go_enter Tryd.func75, Tryd.ntmps75
  go_wp2_with fail
  refine C.out.mono ?_
  rintro e w1 ⟨v, rfl, hrow, hb⟩
  obtain ⟨a', c', rfl⟩ := row_slice hrow
  have HR := Lib.hid hrow
  have Hb := Lib.hid hb
  clear C hrow hb
  go_wp2_with fail
  refine bodyPost_ret (results_tmp rfl _ _ _) rfl ?_
  exact ⟨a', _, c', rfl, ⟨HR.out, fun r hr => by have := runsV_bd bs M on r hr; omega⟩, Hb.out⟩
end
section
variable (g0 g1 : Nat) (N : Int) (a : Option Addr) (l c : Nat) (bs : List Int) (on : Bool) (W : World) (hB : Blk W g0 24 #[.int .i64 N, .slice a l c]) (h1 : Blk W g1 4 #[.bool on]) (hr : Rd W a l c bs)
include hB h1 hr
set_option maxRecDepth 100000 in
set_option maxHeartbeats 1000000 in
theorem runs1_bad (hN1 : -9223372036854775808 ≤ N) (hN2 : N ≤ 9223372036854775807) (hv : validB N bs = false) :
    Calls Tryd.prog 74 #[.pointer (some ⟨g0, 0, none⟩), .pointer (some ⟨g1, 0, none⟩)] W fun e w' => e = pan 9 ∧ Below W.heap.size W w' := by
  have q0 : W.cell? ⟨g0, 0, none⟩ = some (.int .i64 N) := hB.cell 0
  have q1 : W.cell? ⟨g0, 1, none⟩ = some (.slice a l c) := hB.cell 1
  have q2 := h1.boxed.cell
  have C := Lib.hid (needValid_no N a l c bs W hr hN1 hN2 hv)
  clear hB h1 hr hv
  go_enter Tryd.func74, Tryd.ntmps74
  go_wp2_with fail
  refine C.out.mono ?_
  rintro e w1 ⟨rfl, hb⟩
  exact ⟨rfl, rfl, hb⟩
set_option maxRecDepth 100000 in
set_option maxHeartbeats 1000000 in
theorem runs1_ok (M : Nat) (hM : N = (M : Int)) (hv : validB N bs = true) :
    Calls Tryd.prog 74 #[.pointer (some ⟨g0, 0, none⟩), .pointer (some ⟨g1, 0, none⟩)] W fun e w' => ∃ a' l' c', e = .returned (.slice a' l' c') ∧ OwnR w' W.heap.size (.slice a' l' c') (runsV bs M on) ∧ Below W.heap.size W w' := by
  subst hM
  have hM6 : M ≤ 65536 := by have := (validB_iff (M : Int) bs).mp hv; omega
  have q0 : W.cell? ⟨g0, 0, none⟩ = some (.int .i64 (M : Int)) := hB.cell 0
  have q1 : W.cell? ⟨g0, 1, none⟩ = some (.slice a l c) := hB.cell 1
  have C := Lib.hid (needValid_yes M a l c bs W hr (by omega) (by omega) hv)
  have HB := Lib.hid hB
  have H1 := Lib.hid h1
  have HR := Lib.hid hr
  have Hv := Lib.hid hv
  clear hB h1 hr hv
  go_enter Tryd.func74, Tryd.ntmps74
  go_wp2_with fail
  refine C.out.mono ?_
  rintro e w1 ⟨rfl, hb1⟩
  have hB1 := HB.out.below hb1 HB.out.lt
  have p0 : w1.cell? ⟨g0, 0, none⟩ = some (.int .i64 (M : Int)) := hB1.cell 0
  have p1 : w1.cell? ⟨g0, 1, none⟩ = some (.slice a l c) := hB1.cell 1
  have p2 := (H1.out.below hb1 H1.out.lt).boxed.cell
  have HR1 := Lib.hid (HR.out.below hb1 (Nat.le_refl _))
  have Hb1 := Lib.hid hb1
  clear hb1 hB1 C HB H1 HR q0 q1
  go_wp2_with fail
  refine (runs_any M a l c on w1).mono ?_
  rintro e w2 ⟨rfl, hw2⟩
  have hb2 : Below w1.heap.size w1 w2 := by rw [hw2]; exact ((Below.refl _ w1).alloc (Nat.le_refl _) _).alloc (by simp) _
  have hRA : RunsAt w2 w1.heap.size (w1.heap.size + 1) M a l c bs on := by
    refine ⟨?_, ?_, HR1.out.below hb2 (Nat.le_refl _)⟩
    · rw [hw2]; exact Blk.below (heap_new w1 _ : Blk (w1.alloc _) _ _ _) ((Below.refl _ _).alloc (Nat.le_refl _) _) (by simp)
    · rw [hw2]; have := Boxed.new (w1.alloc (.cells #[.int .i64 (M : Int), .slice a l c] 24)) 4 (.bool on); rw [World.size_alloc] at this; exact this
  have HRA := Lib.hid hRA
  have Hb2 := Lib.hid hb2
  clear hw2 hb2 hRA p0 p1 p2 HR1
  go_wp2_with fail
  refine (collect_any _ _ M a l c bs on w2 HRA.out Hv.out).mono ?_
  rintro e w3 ⟨a', l', c', rfl, hO, hb3⟩
  have HO := Lib.hid (hO.mono (B' := W.heap.size) (by have := Hb1.out.size; have := Hb2.out.size; omega))
  have Hb3 := Lib.hid (Hb1.out.trans ((Hb2.out.trans (hb3.mono Hb2.out.size)).mono Hb1.out.size))
  clear hO hb3
  go_wp2_with fail
  refine bodyPost_ret (results_tmp rfl _ _ _) rfl ?_
  exact ⟨a', l', c', rfl, HO.out, Hb3.out⟩
end
end Go.Proofs.YtknacgdjodmaiaaDoor
