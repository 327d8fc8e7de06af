/- What the statement BitsRuns calls answers true, for every input that its walk is handed. -/
import Derived.Test.YthognmkjoekilaaDoorRows
import Derived.WalkKit
import Derived.ProofKit
import Derived.OpenShut
import Derived.ShutString
import Derived.ChangeOld
import Derived.Below
import Derived.SizedLaws
import Derived.Test.YthognmkjoekilaaDoorBrsame
namespace Go.Proofs.YthognmkjoekilaaDoor.bitsRuns
open Go.ChangeShapes Go.WideShapes Go.ChangeAt Go.RowKit
open Go.ChangeMaps (open_string shut_string)
set_option linter.unusedVariables false

theorem runs_bad (N : Int) (a : Option Addr) (l c : Nat) (bs : List Int) (on : Bool) (w : World) (hr : Rd w a l c bs) (hN1 : -9223372036854775808 ≤ N) (hN2 : N ≤ 9223372036854775807) (hv : validB N bs = false) :
    Calls Tryd.prog 37 #[.agg #[.int .i64 N, .slice a l c], .bool on] w fun e w' => e = .returned (.tuple #[.slice none 0 0, .int .i64 9]) ∧ Below w.heap.size w w' :=
  runs_lift_bad N a l c on 9 w fun W hb h0 h1 => runs1_bad _ _ N a l c bs on W h0 h1 (hr.below hb (Nat.le_refl _)) hN1 hN2 hv
theorem runs_ok (M : Nat) (a : Option Addr) (l c : Nat) (bs : List Int) (on : Bool) (w : World) (hr : Rd w a l c bs) (hv : Vb M bs) :
    Calls Tryd.prog 37 #[.agg #[.int .i64 (M : Int), .slice a l c], .bool on] w fun e w' => ∃ a' l' c', e = .returned (.tuple #[.slice a' l' c', .int .i64 0]) ∧ OwnR w' w.heap.size (.slice a' l' c') (runsV bs M on) ∧ Below w.heap.size w w' :=
  runs_lift_ok M a l c on (runsV bs M on) w fun W hb h0 h1 => runs1_ok _ _ M a l c bs on W h0 h1 (hr.below hb (Nat.le_refl _)) M rfl hv.valid
theorem new_is (M m : Nat) (w : World) (hM : M ≤ 65536) (hm : ((M : Int) + 7) / 8 = (m : Int)) : Calls Tryd.prog 25 #[.int .i64 (M : Int)] w fun e w' => ∃ a l c X, e = .returned (.tuple #[.agg #[.int .i64 (M : Int), .slice a l c], .int .i64 0]) ∧ Rd w' a l c X ∧ Is M X (fun _ => false) ∧ Below w.heap.size w w' :=
  (new_lift_ok M M (List.replicate m 0) w (fun W hb h0 => new1_ok _ M m W h0 (by omega) hm)).mono fun e w' ⟨x, y, z, h1, h2, h3⟩ => ⟨x, y, z, _, h1, own_read h2, ⟨⟨zeros_bs m, hM, by simp; omega, fun j _ _ => zeros_bit m j⟩, fun j _ => zeros_bit m j⟩, h3⟩
theorem set_own (M : Nat) (a : Option Addr) (l c : Nat) (bs : List Int) (w : World) (hr : Rd w a l c bs) (at_ m e : Nat) (hv : Vb M bs) (he : e = at_ + m) (hc : e ≤ M) : Calls Tryd.prog 15 #[.agg #[.int .i64 (M : Int), .slice a l c], .int .i64 (at_ : Int), .int .i64 (m : Int), .bool true] w fun e' w' => ∃ a' l' c' X, e' = .returned (.tuple #[.agg #[.int .i64 (M : Int), .slice a' l' c'], .int .i64 0]) ∧ Own w' w.heap.size (.slice a' l' c') X ∧ Is M X (fun j => if at_ ≤ j ∧ j < e then true else bitV bs j) ∧ Below w.heap.size w w' :=
  (set_lift_ok M a l c at_ m true M (fillV bs at_ e true) w fun W hb h0 h1 h2 h3 => set1_ok _ _ _ _ M a l c bs at_ m e true W h0 h1 h2 h3 (hr.below hb (Nat.le_refl _)) hv.valid he (by omega)).mono fun e' w' ⟨x, y, z, h1, h2, h3⟩ => ⟨x, y, z, _, h1, h2, ⟨hv.fill at_ e true hc, fun j hj => hv.fillBit at_ e true j hj⟩, h3⟩
theorem Rd.others {w W : World} {a : Option Addr} {l c g : Nat} {xs : List Int} (h : Rd w a l c xs) (hk : ∀ k, k < w.heap.size → k ≠ g → W.heap[k]? = w.heap[k]?) (hne : 0 < l → ∀ x, a = some x → x.block ≠ g) : Rd W a l c xs := by
  refine ⟨h.hl, h.hc, h.hm, h.hb, h.hn, fun h0 => ?_⟩
  obtain ⟨b, off, ha, hc⟩ := h.hr h0
  refine ⟨b, off, ha, fun i hi => ?_⟩
  have hlt := World.block_lt_of_cell? w _ (hc i hi)
  exact (World.cell?_of_block (w := w) (a := ⟨b, off + i, none⟩) (hk b hlt (hne h0 _ ha))).trans (hc i hi)
theorem OwnR.others {w W : World} {B g : Nat} {a : Option Addr} {n c : Nat} {L : List (Nat × Nat)} (h : OwnR w B (.slice a n c) L) (hk : ∀ k, k < w.heap.size → k ≠ g → W.heap[k]? = w.heap[k]?) (hne : ∀ x, a = some x → x.block ≠ g) : OwnR W B (.slice a n c) L := by
  refine ⟨⟨h.1.1, ?_⟩, h.2⟩
  rcases h.1.2 with hn | ⟨g', cap, cur, hv, hg0, hgg, rest⟩
  · exact .inl hn
  · have h1 := (Value.slice.inj hv).1
    exact .inr ⟨g', cap, cur, hv, hg0, (hk g' (Array.getElem?_eq_some_iff.1 hgg).1 (hne _ h1)).trans hgg, rest⟩
theorem OwnR.block {w : World} {B n c : Nat} {a : Option Addr} {L : List (Nat × Nat)} (h : OwnR w B (.slice a n c) L) : ∀ x, a = some x → x.block < w.heap.size := by
  intro x hx
  rcases h.1.2 with ⟨hv, h0⟩ | ⟨g', cap, cur, hv, hg0, hgg, rest⟩
  · have h1 := (Value.slice.inj hv).1; rw [hx] at h1; cases h1
  · have h1 := (Value.slice.inj hv).1
    rw [hx] at h1
    injection h1 with h1
    subst h1
    exact (Array.getElem?_eq_some_iff.1 hgg).1
theorem Rd.block {w : World} {a : Option Addr} {l c : Nat} {xs : List Int} (h : Rd w a l c xs) (h0 : 0 < l) : ∀ x, a = some x → x.block < w.heap.size := by
  intro x hx
  obtain ⟨b, off, ha, hc⟩ := h.hr h0
  rw [hx] at ha
  injection ha with ha
  subst ha
  exact World.block_lt_of_cell? w _ (hc 0 h0)
theorem sumR_take (L : List (Nat × Nat)) (k : Nat) (hk : k < L.length) : sumR (L.take (k + 1)) = sumR (L.take k) + (L.getD k (0, 0)).2 := by
  unfold sumR
  rw [List.take_succ_eq_append_getElem hk, List.map_append, List.sum_append]
  simp [List.getD, hk]
theorem sumR_take_le (L : List (Nat × Nat)) (k : Nat) : sumR (L.take k) ≤ sumR L := by
  have h : sumR L = sumR (L.take k) + sumR (L.drop k) := by
    unfold sumR
    rw [← List.sum_append, ← List.map_append, List.take_append_drop]
  omega
theorem inR_take (L : List (Nat × Nat)) (k : Nat) (hk : k < L.length) (j : Nat) : inR (L.take (k + 1)) j = (inR (L.take k) j || (decide ((L.getD k (0, 0)).1 ≤ j) && decide (j < (L.getD k (0, 0)).1 + (L.getD k (0, 0)).2))) := by
  rw [List.take_succ_eq_append_getElem hk, inR_append]
  congr 1
  simp [inR, List.getD, hk]
set_option maxRecDepth 100000 in
set_option maxHeartbeats 8000000 in
theorem walk (N0 : Int) (a0 : Option Addr) (len0 cap0 : Nat) (xs0 : List Int) (w : World) (w0 : (Rd w a0 len0 cap0 xs0 ∧ cap0 ≤ 140737488351232) ∧ (-9223372036854775808 ≤ N0 ∧ N0 ≤ 9223372036854775807)) (ho : Ones w) :
    Calls Tryd.prog 9 #[.agg #[.int .i64 N0, .slice a0 len0 cap0]] w fun e w' => e = .returned (.bool true) ∧ Below w.heap.size w w' := by
  have HO := Lib.hid ho
  have HX := Lib.hid w0.1.1
  have hN0 := w0.2
  have hc0 := w0.1.2
  have hl0 := w0.1.1.hc
  clear w0 ho
  obtain ⟨g0, V, e0, eV, hBx, hb, -⟩ := boxed (Below.refl _ w) N0 a0 len0 cap0 xs0 HX.out
  have HEV := Lib.hid eV
  have HE0 := Lib.hid e0
  have HX' := Lib.hid hBx
  have HO' := Lib.hid (HO.out.below hb (Nat.le_refl _))
  have Hb := Lib.hid hb
  clear HX HO e0 eV hBx hb
  have HX := HX'
  have HO := HO'
  clear HX' HO'
  obtain ⟨F, hF⟩ : ∃ F, F = fewV N0 len0 := ⟨_, rfl⟩
  obtain ⟨V0, hV0⟩ : ∃ V, V = validB N0 xs0 := ⟨_, rfl⟩
  have HF := Lib.hid hF
  have HV0 := Lib.hid hV0
  clear hF hV0
  cases F with
  | false =>
    go_enter Tryd.func9, Tryd.ntmps9
    go_upto_region 1 with fail
    rw [HEV.out, HE0.out]
    clear HEV HE0
    have q0 : V.cell? ⟨g0, 0, none⟩ = some (.int .i64 N0) := HX.out.blk.cell 0
    have q1 : V.cell? ⟨g0, 1, none⟩ = some (.slice a0 len0 cap0) := HX.out.blk.cell 1
    go_wp2_with fail
    obtain ⟨WS, hWS⟩ : ∃ WS, WS = V.alloc (.cells #[.int .i64 N0, .slice a0 len0 cap0] 24) := ⟨_, rfl⟩
    have hbS : Below V.heap.size V WS := by rw [hWS]; exact (Below.refl _ V).alloc (Nat.le_refl _) _
    have hBS : Blk WS V.heap.size 24 #[.int .i64 N0, .slice a0 len0 cap0] := by rw [hWS]; exact heap_new V _
    rw [← hWS]
    refine (few1_any _ N0 a0 len0 cap0 WS hBS).mono ?_
    rintro e u0 ⟨rfl, rfl⟩
    rw [← HF.out]
    clear hBS hWS
    have HX' := Lib.hid (HX.out.below hbS)
    have HO' := Lib.hid (HO.out.below hbS (Nat.le_refl _))
    have Hb' := Lib.hid (Hb.out.trans (hbS.mono Hb.out.size))
    clear hbS q0 q1 Hb HX HO
    have HX := HX'
    have HO := HO'
    have Hb := Hb'
    clear HX' HO' Hb'
    have q0 : WS.cell? ⟨g0, 0, none⟩ = some (.int .i64 N0) := HX.out.blk.cell 0
    have q1 : WS.cell? ⟨g0, 1, none⟩ = some (.slice a0 len0 cap0) := HX.out.blk.cell 1
    go_wp2_with fail
    refine (sane_any WS HO.out).mono ?_
    rintro e u1 ⟨rfl, hb⟩
    have HX' := Lib.hid (HX.out.below hb)
    have HO' := Lib.hid (HO.out.below hb (Nat.le_refl _))
    have Hb' := Lib.hid (Hb.out.trans (hb.mono Hb.out.size))
    clear hb q0 q1 Hb HX HO
    have HX := HX'
    have HO := HO'
    have Hb := Hb'
    clear HX' HO' Hb'
    go_wp2_with fail
    go_ret
    exact ⟨rfl, Hb.out⟩
  | true =>
    cases V0 with
    | false =>
      go_enter Tryd.func9, Tryd.ntmps9
      go_upto_region 1 with fail
      rw [HEV.out, HE0.out]
      clear HEV HE0
      have q0 : V.cell? ⟨g0, 0, none⟩ = some (.int .i64 N0) := HX.out.blk.cell 0
      have q1 : V.cell? ⟨g0, 1, none⟩ = some (.slice a0 len0 cap0) := HX.out.blk.cell 1
      go_wp2_with fail
      obtain ⟨WS, hWS⟩ : ∃ WS, WS = V.alloc (.cells #[.int .i64 N0, .slice a0 len0 cap0] 24) := ⟨_, rfl⟩
      have hbS : Below V.heap.size V WS := by rw [hWS]; exact (Below.refl _ V).alloc (Nat.le_refl _) _
      have hBS : Blk WS V.heap.size 24 #[.int .i64 N0, .slice a0 len0 cap0] := by rw [hWS]; exact heap_new V _
      rw [← hWS]
      refine (few1_any _ N0 a0 len0 cap0 WS hBS).mono ?_
      rintro e u0 ⟨rfl, rfl⟩
      rw [← HF.out]
      clear hBS hWS
      have HX' := Lib.hid (HX.out.below hbS)
      have HO' := Lib.hid (HO.out.below hbS (Nat.le_refl _))
      have Hb' := Lib.hid (Hb.out.trans (hbS.mono Hb.out.size))
      clear hbS q0 q1 Hb HX HO
      have HX := HX'
      have HO := HO'
      have Hb := Hb'
      clear HX' HO' Hb'
      have q0 : WS.cell? ⟨g0, 0, none⟩ = some (.int .i64 N0) := HX.out.blk.cell 0
      have q1 : WS.cell? ⟨g0, 1, none⟩ = some (.slice a0 len0 cap0) := HX.out.blk.cell 1
      go_wp2_with fail
      refine (runs_bad N0 a0 len0 cap0 xs0 true WS HX.out.rd (by omega) (by omega) HV0.out.symm).mono ?_
      rintro e u1 ⟨rfl, hb⟩
      have HX' := Lib.hid (HX.out.below hb)
      have HO' := Lib.hid (HO.out.below hb (Nat.le_refl _))
      have Hb' := Lib.hid (Hb.out.trans (hb.mono Hb.out.size))
      clear hb q0 q1 Hb HX HO
      have HX := HX'
      have HO := HO'
      have Hb := Hb'
      clear HX' HO' Hb'
      have q0 : u1.cell? ⟨g0, 0, none⟩ = some (.int .i64 N0) := HX.out.blk.cell 0
      have q1 : u1.cell? ⟨g0, 1, none⟩ = some (.slice a0 len0 cap0) := HX.out.blk.cell 1
      go_wp2_with fail
      refine (runs_bad N0 a0 len0 cap0 xs0 false u1 HX.out.rd (by omega) (by omega) HV0.out.symm).mono ?_
      rintro e u2 ⟨rfl, hb⟩
      have HX' := Lib.hid (HX.out.below hb)
      have HO' := Lib.hid (HO.out.below hb (Nat.le_refl _))
      have Hb' := Lib.hid (Hb.out.trans (hb.mono Hb.out.size))
      clear hb q0 q1 Hb HX HO
      have HX := HX'
      have HO := HO'
      have Hb := Hb'
      clear HX' HO' Hb'
      have q0 : u2.cell? ⟨g0, 0, none⟩ = some (.int .i64 N0) := HX.out.blk.cell 0
      have q1 : u2.cell? ⟨g0, 1, none⟩ = some (.slice a0 len0 cap0) := HX.out.blk.cell 1
      go_wp2_with fail
      refine (right_any N0 a0 len0 cap0 xs0 u2 HX.out.rd (by omega) (by omega) (by omega)).mono ?_
      rintro e u3 ⟨rfl, hb⟩
      have HX' := Lib.hid (HX.out.below hb)
      have HO' := Lib.hid (HO.out.below hb (Nat.le_refl _))
      have Hb' := Lib.hid (Hb.out.trans (hb.mono Hb.out.size))
      clear hb q0 q1 Hb HX HO
      have HX := HX'
      have HO := HO'
      have Hb := Hb'
      clear HX' HO' Hb'
      rw [← HV0.out]
      go_wp2_with fail
      refine (sane_any u3 HO.out).mono ?_
      rintro e u4 ⟨rfl, hb⟩
      have HX' := Lib.hid (HX.out.below hb)
      have HO' := Lib.hid (HO.out.below hb (Nat.le_refl _))
      have Hb' := Lib.hid (Hb.out.trans (hb.mono Hb.out.size))
      clear hb  Hb HX HO
      have HX := HX'
      have HO := HO'
      have Hb := Hb'
      clear HX' HO' Hb'
      go_wp2_with fail
      go_ret
      exact ⟨rfl, Hb.out⟩
    | true =>
      obtain ⟨M, rfl, vx⟩ := Vb.of HX.out.rd.hb HV0.out.symm
      have hM := vx.le
      have hlen8 := vx.len
      have hrl8 := HX.out.rd.hl
      have Vx := Lib.hid vx
      have hM8 : M ≤ 8 * len0 := by omega
      obtain ⟨mm, hmm⟩ : ∃ mm : Nat, ((M : Int) + 7) / 8 = (mm : Int) := ⟨(M + 7) / 8, by omega⟩
      have Hmm := Lib.hid hmm
      clear vx hlen8 hrl8 hmm
      obtain ⟨Lt, hLt⟩ : ∃ L, L = runsV xs0 M true := ⟨_, rfl⟩
      obtain ⟨Lf, hLf⟩ : ∃ L, L = runsV xs0 M false := ⟨_, rfl⟩
      have hsum := sumR_runs xs0 M
      have Hin : Hid (∀ j, j < M → inR Lt j = bitV xs0 j) := Lib.hid (fun j hj => by rw [hLt, inR_runs]; cases h : bitV xs0 j <;> simp [hj, h])
      have Hbd : Hid (∀ i, i < Lt.length → (Lt.getD i (0, 0)).1 + (Lt.getD i (0, 0)).2 ≤ M) := Lib.hid (fun i hi => by rw [hLt] at hi ⊢; exact runsV_at_le xs0 M true i hi)
      rw [← hLt, ← hLf] at hsum
      obtain ⟨St, hSt⟩ : ∃ S, S = sumR Lt := ⟨_, rfl⟩
      obtain ⟨Sf, hSf⟩ : ∃ S, S = sumR Lf := ⟨_, rfl⟩
      rw [← hSt, ← hSf] at hsum
      have HLt := Lib.hid hLt
      have HLf := Lib.hid hLf
      have HSt := Lib.hid hSt
      have HSf := Lib.hid hSf
      clear hLt hLf hSt hSf
      go_enter Tryd.func9, Tryd.ntmps9
      go_upto_region 1 with fail
      rw [HEV.out, HE0.out]
      clear HEV HE0
      have q0 : V.cell? ⟨g0, 0, none⟩ = some (.int .i64 (M : Int)) := HX.out.blk.cell 0
      have q1 : V.cell? ⟨g0, 1, none⟩ = some (.slice a0 len0 cap0) := HX.out.blk.cell 1
      go_wp2_with fail
      obtain ⟨WS, hWS⟩ : ∃ WS, WS = V.alloc (.cells #[.int .i64 (M : Int), .slice a0 len0 cap0] 24) := ⟨_, rfl⟩
      have hbS : Below V.heap.size V WS := by rw [hWS]; exact (Below.refl _ V).alloc (Nat.le_refl _) _
      have hBS : Blk WS V.heap.size 24 #[.int .i64 (M : Int), .slice a0 len0 cap0] := by rw [hWS]; exact heap_new V _
      rw [← hWS]
      refine (few1_any _ (M : Int) a0 len0 cap0 WS hBS).mono ?_
      rintro e u0 ⟨rfl, rfl⟩
      rw [← HF.out]
      clear hBS hWS
      have HX' := Lib.hid (HX.out.below hbS)
      have HO' := Lib.hid (HO.out.below hbS (Nat.le_refl _))
      have Hb' := Lib.hid (Hb.out.trans (hbS.mono Hb.out.size))
      clear hbS q0 q1 Hb HX HO
      have HX := HX'
      have HO := HO'
      have Hb := Hb'
      clear HX' HO' Hb'
      have q0 : WS.cell? ⟨g0, 0, none⟩ = some (.int .i64 (M : Int)) := HX.out.blk.cell 0
      have q1 : WS.cell? ⟨g0, 1, none⟩ = some (.slice a0 len0 cap0) := HX.out.blk.cell 1
      go_wp2_with fail
      refine (runs_ok M a0 len0 cap0 xs0 true WS HX.out.rd Vx.out).mono ?_
      rintro e u1 ⟨b3, l3, c3, rfl, hw, hb⟩
      rw [← HLt.out] at hw
      have HR := Lib.hid hw
      clear hw
      have HX' := Lib.hid (HX.out.below hb)
      have HO' := Lib.hid (HO.out.below hb (Nat.le_refl _))
      have Hb' := Lib.hid (Hb.out.trans (hb.mono Hb.out.size))
      clear hb q0 q1 Hb HX HO
      have HX := HX'
      have HO := HO'
      have Hb := Hb'
      clear HX' HO' Hb'
      have HN := HR
      clear HR
      have q0 : u1.cell? ⟨g0, 0, none⟩ = some (.int .i64 (M : Int)) := HX.out.blk.cell 0
      have q1 : u1.cell? ⟨g0, 1, none⟩ = some (.slice a0 len0 cap0) := HX.out.blk.cell 1
      go_wp2_with fail
      refine (runs_ok M a0 len0 cap0 xs0 false u1 HX.out.rd Vx.out).mono ?_
      rintro e u2 ⟨b5, l5, c5, rfl, hw, hb⟩
      rw [← HLf.out] at hw
      have HR := Lib.hid hw
      clear hw
      have HX' := Lib.hid (HX.out.below hb)
      have HO' := Lib.hid (HO.out.below hb (Nat.le_refl _))
      have HN' := Lib.hid (HN.out.belowB hb (Nat.le_refl _))
      have Hb' := Lib.hid (Hb.out.trans (hb.mono Hb.out.size))
      clear hb q0 q1 Hb HX HO HN
      have HX := HX'
      have HO := HO'
      have HN := HN'
      have Hb := Hb'
      clear HX' HO' HN' Hb'
      have HF := HR
      clear HR
      have q0 : u2.cell? ⟨g0, 0, none⟩ = some (.int .i64 (M : Int)) := HX.out.blk.cell 0
      have q1 : u2.cell? ⟨g0, 1, none⟩ = some (.slice a0 len0 cap0) := HX.out.blk.cell 1
      go_wp2_with fail
      refine (right_any (M : Int) a0 len0 cap0 xs0 u2 HX.out.rd (by omega) (by omega) (by omega)).mono ?_
      rintro e u3 ⟨rfl, hb⟩
      have HX' := Lib.hid (HX.out.below hb)
      have HO' := Lib.hid (HO.out.below hb (Nat.le_refl _))
      have HN' := Lib.hid (HN.out.belowB hb (Nat.le_refl _))
      have HF' := Lib.hid (HF.out.belowB hb (Nat.le_refl _))
      have Hb' := Lib.hid (Hb.out.trans (hb.mono Hb.out.size))
      clear hb q0 q1 Hb HX HO HN HF
      have HX := HX'
      have HO := HO'
      have HN := HN'
      have HF := HF'
      have Hb := Hb'
      clear HX' HO' HN' HF' Hb'
      rw [← HV0.out]
      have q0 : u3.cell? ⟨g0, 0, none⟩ = some (.int .i64 (M : Int)) := HX.out.blk.cell 0
      have q1 : u3.cell? ⟨g0, 1, none⟩ = some (.slice a0 len0 cap0) := HX.out.blk.cell 1
      go_wp2_with fail
      refine (rruns_any true M a0 len0 cap0 xs0 u3 HX.out.rd hM hM8).mono ?_
      rintro e u4 ⟨bq, lq, cq, rfl, hw, hb⟩
      rw [← HLt.out] at hw
      have HR := Lib.hid hw
      clear hw
      have HX' := Lib.hid (HX.out.below hb)
      have HO' := Lib.hid (HO.out.below hb (Nat.le_refl _))
      have HN' := Lib.hid (HN.out.belowB hb (Nat.le_refl _))
      have HF' := Lib.hid (HF.out.belowB hb (Nat.le_refl _))
      have Hb' := Lib.hid (Hb.out.trans (hb.mono Hb.out.size))
      clear hb q0 q1 Hb HX HO HN HF
      have HX := HX'
      have HO := HO'
      have HN := HN'
      have HF := HF'
      have Hb := Hb'
      clear HX' HO' HN' HF' Hb'
      have q0 : u4.cell? ⟨g0, 0, none⟩ = some (.int .i64 (M : Int)) := HX.out.blk.cell 0
      have q1 : u4.cell? ⟨g0, 1, none⟩ = some (.slice a0 len0 cap0) := HX.out.blk.cell 1
      go_wp2_with fail
      refine (sameR_eq _ _ b3 bq l3 c3 lq cq Lt u4 HN.out HR.out).mono ?_
      rintro e u5 ⟨rfl, hb⟩
      have HX' := Lib.hid (HX.out.below hb)
      have HO' := Lib.hid (HO.out.below hb (Nat.le_refl _))
      have HN' := Lib.hid (HN.out.belowB hb (Nat.le_refl _))
      have HF' := Lib.hid (HF.out.belowB hb (Nat.le_refl _))
      have HR' := Lib.hid (HR.out.belowB hb (Nat.le_refl _))
      have Hb' := Lib.hid (Hb.out.trans (hb.mono Hb.out.size))
      clear hb q0 q1 Hb HX HO HN HF HR
      have HX := HX'
      have HO := HO'
      have HN := HN'
      have HF := HF'
      have HR := HR'
      have Hb := Hb'
      clear HX' HO' HN' HF' HR' Hb'
      clear HR
      have q0 : u5.cell? ⟨g0, 0, none⟩ = some (.int .i64 (M : Int)) := HX.out.blk.cell 0
      have q1 : u5.cell? ⟨g0, 1, none⟩ = some (.slice a0 len0 cap0) := HX.out.blk.cell 1
      go_wp2_with fail
      refine (rruns_any false M a0 len0 cap0 xs0 u5 HX.out.rd hM hM8).mono ?_
      rintro e u6 ⟨bq, lq, cq, rfl, hw, hb⟩
      rw [← HLf.out] at hw
      have HR := Lib.hid hw
      clear hw
      have HX' := Lib.hid (HX.out.below hb)
      have HO' := Lib.hid (HO.out.below hb (Nat.le_refl _))
      have HN' := Lib.hid (HN.out.belowB hb (Nat.le_refl _))
      have HF' := Lib.hid (HF.out.belowB hb (Nat.le_refl _))
      have Hb' := Lib.hid (Hb.out.trans (hb.mono Hb.out.size))
      clear hb q0 q1 Hb HX HO HN HF
      have HX := HX'
      have HO := HO'
      have HN := HN'
      have HF := HF'
      have Hb := Hb'
      clear HX' HO' HN' HF' Hb'
      have q0 : u6.cell? ⟨g0, 0, none⟩ = some (.int .i64 (M : Int)) := HX.out.blk.cell 0
      have q1 : u6.cell? ⟨g0, 1, none⟩ = some (.slice a0 len0 cap0) := HX.out.blk.cell 1
      go_wp2_with fail
      refine (sameR_eq _ _ b5 bq l5 c5 lq cq Lf u6 HF.out HR.out).mono ?_
      rintro e u7 ⟨rfl, hb⟩
      have HX' := Lib.hid (HX.out.below hb)
      have HO' := Lib.hid (HO.out.below hb (Nat.le_refl _))
      have HN' := Lib.hid (HN.out.belowB hb (Nat.le_refl _))
      have HF' := Lib.hid (HF.out.belowB hb (Nat.le_refl _))
      have HR' := Lib.hid (HR.out.belowB hb (Nat.le_refl _))
      have Hb' := Lib.hid (Hb.out.trans (hb.mono Hb.out.size))
      clear hb q0 q1 Hb HX HO HN HF HR
      have HX := HX'
      have HO := HO'
      have HN := HN'
      have HF := HF'
      have HR := HR'
      have Hb := Hb'
      clear HX' HO' HN' HF' HR' Hb'
      clear HR
      have q0 : u7.cell? ⟨g0, 0, none⟩ = some (.int .i64 (M : Int)) := HX.out.blk.cell 0
      have q1 : u7.cell? ⟨g0, 1, none⟩ = some (.slice a0 len0 cap0) := HX.out.blk.cell 1
      go_wp2_with fail
      clear q0 q1
      have hlF := HF.out.len.1
      have hcF := HF.out.len.2.1
      have hmF := HF.out.len.2.2
      unfold maxLen at hmF
      have HlF := Lib.hid hlF
      clear hlF
      go_loopw [7, 8] (fun o p wr => ∃ (k n : Nat), o = .int .i64 (n : Int) ∧ p = .int .i64 (k : Int) ∧ k ≤ l5 ∧ n ≤ Sf ∧ Hid (n = sumR (Lf.take k)) ∧ wr = u7) (fun _ p _ => l5 - (intOf p).toNat)
      case atStart => exact ⟨0, 0, rfl, rfl, Nat.zero_le _, Nat.zero_le _, Lib.hid (by simp [sumR]), rfl⟩
      case round =>
        obtain ⟨k, n, rfl, rfl, hk, hnS, Hn, rfl⟩ := hrel
        by_cases hlt : k < l5
        · have hki : (k : Int) < (l5 : Int) := by omega
          obtain ⟨gf, rfl, -, hgf⟩ := HF.out.addr (by omega)
          obtain ⟨-, c1⟩ := HF.out.at_ k (by rw [HlF.out]; exact hlt)
          have hs := sumR_take Lf k (by rw [HlF.out]; exact hlt)
          have hle := sumR_take_le Lf (k + 1)
          rw [← HSf.out] at hle
          rw [← Hn.out] at hs
          obtain ⟨q, hq⟩ : ∃ q, q = (Lf.getD k (0, 0)).2 := ⟨_, rfl⟩
          rw [← hq] at c1 hs
          have Hs := Lib.hid hs
          rw [hs] at hle
          have hnq : IntKind.i64.wrap ((n : Int) + (q : Int)) = ((n + q : Nat) : Int) := by rw [Int.natCast_add]; exact IntWalk.i64_in _ (by omega)
          clear hs hq
          go_wp2_with fail
          go_roundw
          case rel => exact ⟨k + 1, n + q, by go_num, by go_num, by omega, hle, Lib.hid Hs.out.symm, by first | rfl | trivial⟩
          case measure => simp only [intOf]; omega
        · obtain rfl : l5 = k := by omega
          obtain rfl : Sf = n := by rw [Hn.out, List.take_of_length_le (by rw [HlF.out]; exact Nat.le_refl _), HSf.out]
          clear Hn
          clear HF HlF hcF hmF
          have q0 : wr.cell? ⟨g0, 0, none⟩ = some (.int .i64 (M : Int)) := HX.out.blk.cell 0
          have q1 : wr.cell? ⟨g0, 1, none⟩ = some (.slice a0 len0 cap0) := HX.out.blk.cell 1
          go_wp2_with fail
          refine (new_is M mm wr hM Hmm.out).mono ?_
          rintro e u8 ⟨b9, l9, c9, X9, rfl, hw, hi, hb⟩
          have HR := Lib.hid hw
          have I9 := Lib.hid hi
          clear hw hi
          have HX' := Lib.hid (HX.out.below hb)
          have HO' := Lib.hid (HO.out.below hb (Nat.le_refl _))
          have HN' := Lib.hid (HN.out.belowB hb (Nat.le_refl _))
          have Hb' := Lib.hid (Hb.out.trans (hb.mono Hb.out.size))
          clear hb q0 q1 Hb HX HO HN
          have HX := HX'
          have HO := HO'
          have HN := HN'
          have Hb := Hb'
          clear HX' HO' HN' Hb'
          have hon9 := OwnR.block HN.out
          have hb09 := Rd.block HX.out.rd
          have hO9 := HO.out.lt
          have hg09 := HX.out.blk.lt
          have hbw9 := Hb.out.size
          go_upto_region 15 with fail
          obtain ⟨g9, W9, e1, e2, hB, -, hq⟩ := boxed Hb.out (M : Int) b9 l9 c9 X9 HR.out
          rw [e2, e1]
          have HBX := Lib.hid hB
          have HG9 := Lib.hid e1
          clear e1 e2 hB
          have HX' := Lib.hid (HX.out.below hq)
          have HO' := Lib.hid (HO.out.below hq (Nat.le_refl _))
          have HN' := Lib.hid (HN.out.belowB hq (Nat.le_refl _))
          have HR' := Lib.hid (HR.out.below hq (Nat.le_refl _))
          have Hb' := Lib.hid (Hb.out.trans (hq.mono Hb.out.size))
          clear hq  Hb HX HO HN HR
          have HX := HX'
          have HO := HO'
          have HN := HN'
          have HR := HR'
          have Hb := Hb'
          clear HX' HO' HN' HR' Hb'
          have H9 := HBX
          clear HBX
          clear HR
          have hlN := HN.out.len.1
          have hcN := HN.out.len.2.1
          have hmN := HN.out.len.2.2
          unfold maxLen at hmN
          have HlN := Lib.hid hlN
          clear hlN
          go_wp2_with fail
          go_loopw [7, 10, 11] (fun o e p wr => ∃ (k n : Nat) (b l c : _) (X : List Int), o = .int .i64 (n : Int) ∧ e = .int .i64 0 ∧ p = .int .i64 (k : Int) ∧ k ≤ l3 ∧ n ≤ M ∧ Hid (n = Sf + sumR (Lt.take k)) ∧ Hid (Is M X (fun j => inR (Lt.take k) j)) ∧ Bx wr g9 (M : Int) b l c X ∧ Bx wr g0 (M : Int) a0 len0 cap0 xs0 ∧ OwnR wr 0 (.slice b3 l3 c3) Lt ∧ Ones wr ∧ Below w.heap.size w wr) (fun _ _ p _ => l3 - (intOf p).toNat)
          case atStart => exact ⟨0, Sf, b9, l9, c9, X9, rfl, rfl, rfl, Nat.zero_le _, by omega, Lib.hid (by simp [sumR]), Lib.hid (I9.out.as (fun j hj => by simp [inR])), H9.out, HX.out, HN.out.mono (Nat.zero_le _), HO.out, Hb.out⟩
          case round =>
            obtain ⟨k, n, bb, ll, cc, X, rfl, rfl, rfl, hk, hnM, Hn, HI, h9, hX, hN, hO, hbr⟩ := hrel
            clear H9 HX HN HO Hb I9
            have H9 := Lib.hid h9
            have HX := Lib.hid hX
            have HN := Lib.hid hN
            have HO := Lib.hid hO
            have Hb := Lib.hid hbr
            clear h9 hX hN hO hbr
            by_cases hlt : k < l3
            · have hki : (k : Int) < (l3 : Int) := by omega
              have hg9e := HG9.out
              obtain ⟨gn, rfl, -, hgn⟩ := HN.out.addr (by omega)
              have hgn9 : gn < g9 := Nat.lt_of_lt_of_le (hon9 _ rfl) (Nat.le_of_eq hg9e)
              obtain ⟨c0, c1⟩ := HN.out.at_ k (by rw [HlN.out]; exact hlt)
              have hs := sumR_take Lt k (by rw [HlN.out]; exact hlt)
              have hle := sumR_take_le Lt (k + 1)
              have hin := inR_take Lt k (by rw [HlN.out]; exact hlt)
              have hbd := Hbd.out k (by rw [HlN.out]; exact hlt)
              rw [← HSt.out] at hle
              obtain ⟨r, hr⟩ : ∃ r, r = Lt.getD k (0, 0) := ⟨_, rfl⟩
              rw [← hr] at c0 c1 hs hin hbd
              obtain ⟨p, q⟩ := r
              simp only at c0 c1 hs hin hbd
              have hn1 := Hn.out
              have Hs : Hid (n + q = Sf + sumR (Lt.take (k + 1))) := Lib.hid (by rw [hs, hn1]; omega)
              have hnq2 : n + q ≤ M := by rw [Hs.out]; omega
              have hnq : IntKind.i64.wrap ((n : Int) + (q : Int)) = ((n + q : Nat) : Int) := by rw [Int.natCast_add]; exact IntWalk.i64_in _ (by omega)
              obtain ⟨E, hE⟩ : ∃ E, E = p + q := ⟨_, rfl⟩
              rw [← hE] at hin hbd
              have Hin2 := Lib.hid hin
              have HE := Lib.hid hE
              have C0 := Lib.hid c0
              have C1 := Lib.hid c1
              clear hs hin hr hn1 Hn hE hle
              go_upto_region 19 with fail
              clear c1 c0
              refine wp_region_held_drew (S := But g9 wr) (by kernel_rfl) (But.refl _ _).drew (fun _ => ?_)
              have HS : Hid (But g9 wr wr.drew) := Lib.hid (But.refl _ _).drew
              refine wpAnyH_take (i := 1) (v := .slice (some ⟨gn, 0, none⟩) l3 c3) rfl (by kernel_rfl) (by kernel_rfl) (by kernel_rfl) (fun _ _ _ h => h) (Or.inl ⟨by rfl, ?_⟩) HS.out ?_
              · intro u hu; go_simp
              go_simp
              refine wpAnyH_take (i := 2) (v := .int .i64 (k : Int)) rfl (by kernel_rfl) (by kernel_rfl) (by kernel_rfl) (fun _ _ _ h => h) (Or.inl ⟨by rfl, ?_⟩) HS.out ?_
              · intro u hu; go_simp
              go_simp
              refine wpAnyH_take (i := 3) (v := .pointer (some ⟨gn, k * 2, none⟩)) rfl (by kernel_rfl) (by kernel_rfl) (by kernel_rfl) (fun _ _ _ h => h) (Or.inl ⟨by rfl, ?_⟩) HS.out ?_
              · intro u hu; go_simp
              go_simp
              refine wpAnyH_take (i := 4) (v := .pointer (some ⟨gn, k * 2, none⟩)) rfl (by kernel_rfl) (by kernel_rfl) (by kernel_rfl) (fun _ _ _ h => h) (Or.inl ⟨by rfl, ?_⟩) HS.out ?_
              · intro u hu; go_simp
              go_simp
              refine wpAnyH_take (i := 5) (v := .int .i64 (p : Int)) rfl (by kernel_rfl) (by kernel_rfl) (by kernel_rfl) (fun _ _ _ h => h) (Or.inl ⟨by rfl, ?_⟩) HS.out ?_
              · intro u hu; have : u.cell? ⟨gn, k * 2, none⟩ = some (.int .i64 (p : Int)) := (World.cell?_of_block (w := wr) (a := ⟨gn, k * 2, none⟩) (hu.others gn hgn (by omega))).trans C0.out; go_simp
              go_simp
              refine wpAnyH_take (i := 6) (v := .slice (some ⟨gn, 0, none⟩) l3 c3) rfl (by kernel_rfl) (by kernel_rfl) (by kernel_rfl) (fun _ _ _ h => h) (Or.inl ⟨by rfl, ?_⟩) HS.out ?_
              · intro u hu; go_simp
              go_simp
              refine wpAnyH_take (i := 7) (v := .int .i64 (k : Int)) rfl (by kernel_rfl) (by kernel_rfl) (by kernel_rfl) (fun _ _ _ h => h) (Or.inl ⟨by rfl, ?_⟩) HS.out ?_
              · intro u hu; go_simp
              go_simp
              refine wpAnyH_take (i := 8) (v := .pointer (some ⟨gn, k * 2, none⟩)) rfl (by kernel_rfl) (by kernel_rfl) (by kernel_rfl) (fun _ _ _ h => h) (Or.inl ⟨by rfl, ?_⟩) HS.out ?_
              · intro u hu; go_simp
              go_simp
              refine wpAnyH_take (i := 9) (v := .pointer (some ⟨gn, k * 2 + 1, none⟩)) rfl (by kernel_rfl) (by kernel_rfl) (by kernel_rfl) (fun _ _ _ h => h) (Or.inl ⟨by rfl, ?_⟩) HS.out ?_
              · intro u hu; go_simp
              go_simp
              refine wpAnyH_take (i := 10) (v := .int .i64 (q : Int)) rfl (by kernel_rfl) (by kernel_rfl) (by kernel_rfl) (fun _ _ _ h => h) (Or.inl ⟨by rfl, ?_⟩) HS.out ?_
              · intro u hu; have : u.cell? ⟨gn, k * 2 + 1, none⟩ = some (.int .i64 (q : Int)) := (World.cell?_of_block (w := wr) (a := ⟨gn, k * 2 + 1, none⟩) (hu.others gn hgn (by omega))).trans C1.out; go_simp
              go_simp
              have k0 : wr.drew.cell? ⟨g9, 0, none⟩ = some (.int .i64 (M : Int)) := H9.out.blk.cell 0
              have k1 : wr.drew.cell? ⟨g9, 1, none⟩ = some (.slice bb ll cc) := H9.out.blk.cell 1
              refine wpAnyH_ready (rs := [0]) (by kernel_rfl) (by simp) ?_
              refine AllReadyH.cons rfl (fun K hK => ?_) AllReadyH.nil
              go_simp
              clear k0 k1
              refine hK.out _ _ HS.out (fun _ => ?_)
              clear hK K
              refine wpAnyH_ready (rs := [11]) (by kernel_rfl) (by simp) ?_
              refine AllReadyH.cons rfl (fun K hK => ?_) AllReadyH.nil
              go_simp
              refine (set_own M bb ll cc X wr.drew H9.out.rd.drew p q E HI.out.v HE.out hbd).mono ?_
              rintro e u ⟨b8, l8, c8, X8, rfl, ho, hi, hb⟩
              have HS2 : Hid (But g9 wr u) := Lib.hid (HS.out.trans (But.of_below hb (by have := HS.out.size; have := H9.out.blk.lt; omega)))
              have HR8 : Hid (Own u wr.heap.size (.slice b8 l8 c8) X8) := Lib.hid ho
              have I8 := Lib.hid (hi.as (g := fun j => inR (Lt.take (k + 1)) j) (fun j hj => by rw [Hin2.out, HI.out.b j hj]; by_cases h1 : p ≤ j <;> by_cases h2 : j < E <;> simp [h1, h2]))
              have HB8 : Hid (Blk u g9 24 #[.int .i64 (M : Int), .slice bb ll cc]) := Lib.hid ((show Blk wr.drew g9 24 _ from H9.out.blk).below hb H9.out.blk.lt)
              clear HS ho hi hb
              have HS := HS2
              clear HS2
              refine hK.out _ _ HS.out (fun _ => ?_)
              clear hK K
              refine wpAnyH_take (i := 12) (v := .tuple #[.agg #[.int .i64 (M : Int), .slice b8 l8 c8], .int .i64 0]) rfl (by kernel_rfl) (by kernel_rfl) (by kernel_rfl) (fun _ _ _ h => h) (Or.inl ⟨by rfl, ?_⟩) HS.out ?_
              · intro u hu; go_simp
              go_simp
              refine wpAnyH_take (i := 13) (v := .agg #[.int .i64 (M : Int), .slice b8 l8 c8]) rfl (by kernel_rfl) (by kernel_rfl) (by kernel_rfl) (fun _ _ _ h => h) (Or.inl ⟨by rfl, ?_⟩) HS.out ?_
              · intro u hu; go_simp
              go_simp
              refine wpAnyH_take (i := 14) (v := .int .i64 0) rfl (by kernel_rfl) (by kernel_rfl) (by kernel_rfl) (fun _ _ _ h => h) (Or.inl ⟨by rfl, ?_⟩) HS.out ?_
              · intro u hu; go_simp
              go_simp
              have f0 := HB8.out.frozen 0
              have f1 := HB8.out.frozen 1
              have k0 : u.cell? ⟨g9, 0, none⟩ = some (.int .i64 (M : Int)) := HB8.out.cell 0
              have k1 : u.cell? ⟨g9, 1, none⟩ = some (.slice bb ll cc) := HB8.out.cell 1
              refine wpAnyH_ready (rs := [15]) (by kernel_rfl) (by simp) ?_
              refine AllReadyH.cons rfl (fun K hK => ?_) AllReadyH.nil
              go_simp
              rw [cells2 HB8.out]
              obtain ⟨V2, hV, rV, bV, sV, oV⟩ := filled HB8.out #[.int .i64 (M : Int), .slice b8 l8 c8]
              rw [hV]
              clear f0 f1 k0 k1
              have HS2 : Hid (But g9 wr V2) := Lib.hid (HS.out.trans ⟨bV, fun k hk hne => oV k hne⟩)
              refine hK.out _ _ HS2.out (fun _ => ?_)
              clear hK K
              have HS := HS2
              refine wpAnyH_ready (rs := [16]) (by kernel_rfl) (by simp) ?_
              refine AllReadyH.cons rfl (fun K hK => ?_) AllReadyH.nil
              go_simp
              refine hK.out _ _ HS.out (fun _ => ?_)
              clear hK K
              refine wpAnyH_done (by kernel_rfl) ?_ _
              have h9n : Bx V2 g9 (M : Int) b8 l8 c8 X8 := ⟨rV, own_read (HR8.out.other oV H9.out.blk.lt)⟩
              have hXn : Bx V2 g0 (M : Int) a0 len0 cap0 xs0 := ⟨HS2.out.blk HX.out.blk (by omega), Rd.others HX.out.rd HS2.out.others (fun h0 x hx => by have := hb09 h0 x hx; omega)⟩
              have hNn := OwnR.others HN.out HS2.out.others (fun x hx => by cases hx; simp only; omega)
              have hOn := HO.out.but HS2.out (by omega)
              have H9n := Lib.hid h9n
              have HXn := Lib.hid hXn
              have HNn := Lib.hid hNn
              have HOn := Lib.hid hOn
              have Hbn := Lib.hid (Hb.out.trans (HS2.out.below.mono (by omega)))
              clear HS HS2 HR8 HB8 rV bV sV oV hV h9n hXn hNn hOn H9 HX HN HO Hb C0 C1 HI Hin2
              go_wp2_with fail
              go_roundw
              case rel => exact ⟨k + 1, n + q, b8, l8, c8, X8, by go_num, rfl, by go_num, by omega, hnq2, Hs, I8, H9n.out, HXn.out, HNn.out, HOn.out, Hbn.out⟩
              case measure => simp only [intOf]; omega
            · obtain rfl : l3 = k := by omega
              have hnM2 : n = M := by
                rw [Hn.out, List.take_of_length_le (by rw [HlN.out]; exact Nat.le_refl _), ← HSt.out]; omega
              have hX9 : X = xs0 := HI.out.v.ext Vx.out (fun j hj => by rw [HI.out.b j hj, List.take_of_length_le (by rw [HlN.out]; exact Nat.le_refl _)]; exact Hin.out j hj)
              subst hX9
              subst hnM2
              clear Hn HI HN
              go_wp2_with fail
              refine (sane_any wr HO.out).mono ?_
              rintro e u1 ⟨rfl, hb⟩
              have H9' := Lib.hid (H9.out.below hb)
              have HX' := Lib.hid (HX.out.below hb)
              have HO' := Lib.hid (HO.out.below hb (Nat.le_refl _))
              have Hb' := Lib.hid (Hb.out.trans (hb.mono Hb.out.size))
              clear hb  Hb H9 HX HO
              have H9 := H9'
              have HX := HX'
              have HO := HO'
              have Hb := Hb'
              clear H9' HX' HO' Hb'
              have q0 : u1.cell? ⟨g0, 0, none⟩ = some (.int .i64 (n : Int)) := HX.out.blk.cell 0
              have q1 : u1.cell? ⟨g0, 1, none⟩ = some (.slice a0 len0 cap0) := HX.out.blk.cell 1
              have r0 : u1.cell? ⟨g9, 0, none⟩ = some (.int .i64 (n : Int)) := H9.out.blk.cell 0
              have r1 : u1.cell? ⟨g9, 1, none⟩ = some (.slice bb ll cc) := H9.out.blk.cell 1
              go_wp2_with fail
              refine (same_is (n : Int) bb ll cc a0 len0 cap0 X u1 H9.out.rd HX.out.rd).mono ?_
              rintro e u2 ⟨rfl, hb⟩
              have H9' := Lib.hid (H9.out.below hb)
              have HX' := Lib.hid (HX.out.below hb)
              have HO' := Lib.hid (HO.out.below hb (Nat.le_refl _))
              have Hb' := Lib.hid (Hb.out.trans (hb.mono Hb.out.size))
              clear hb q0 q1 r0 r1 Hb H9 HX HO
              have H9 := H9'
              have HX := HX'
              have HO := HO'
              have Hb := Hb'
              clear H9' HX' HO' Hb'
              go_wp2_with fail
              go_ret
              exact ⟨rfl, Hb.out⟩
end Go.Proofs.YthognmkjoekilaaDoor.bitsRuns
