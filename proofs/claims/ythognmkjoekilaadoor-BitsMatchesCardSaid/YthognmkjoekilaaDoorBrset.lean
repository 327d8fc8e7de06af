/- The reference's Set. -/
import Derived.Test.YthognmkjoekilaaDoorBis
namespace Go.Proofs.YthognmkjoekilaaDoor
set_option linter.unusedVariables false
open Go.RowKit Go.Shelf

set_option maxRecDepth 100000 in
set_option maxHeartbeats 4000000 in
theorem rset_is (M : Nat) (a : Option Addr) (l c : Nat) (bs : List Int) (at_ m e : Nat) (on : Bool) (w : World) (hr : Rd w a l c bs) (hv : Vb M bs) (he : e = at_ + m) (hc : e ≤ M) :
    Calls Tryd.prog 23 #[.agg #[.int .i64 (M : Int), .slice a l c], .int .i64 (at_ : Int), .int .i64 (m : Int), .bool on] w fun e' w' => ∃ a' l' c' X, e' = .returned (.agg #[.int .i64 (M : Int), .slice a' l' c']) ∧ Rd w' a' l' c' X ∧ Is M X (fun j => if at_ ≤ j ∧ j < e then on else bitV bs j) ∧ Below w.heap.size w w' := by
  have hM := hv.le
  have hlen := hv.len
  have hrl := hr.hl
  obtain ⟨gf, hgf⟩ : ∃ gf : Nat → Bool, gf = fun j => if at_ ≤ j then on else bitV bs j := ⟨_, rfl⟩
  have hstart : mixL M (bitV bs) gf at_ = listV bs M := mixL_start M bs gf at_ (fun j hj => by rw [hgf]; exact if_neg (by omega))
  have hend : Is M (madeV (mixL M (bitV bs) gf e)) (fun j => if at_ ≤ j ∧ j < e then on else bitV bs j) := (made_is (mixL_len M _ _ _) hM).as (fun j hj => by rw [mixL_at M _ _ _ j hj, hgf]; by_cases h1 : at_ ≤ j <;> by_cases h2 : j < e <;> simp [h1, h2])
  obtain ⟨g, r, W, e2, e3, eV, hB, hB0, hb⟩ := boxed_two w (M : Int) 0 a none l c 0 0 bs [] hr (Rd.nil w)
  have CL := Lib.hid (list_any M a l c bs W hB.rd hM (by omega))
  have HRes := Lib.hid hB0.blk
  have HE := Lib.hid eV
  have HE2 := Lib.hid e2
  have HE3 := Lib.hid e3
  have Hb := Lib.hid hb
  have hwr : w.heap.size ≤ r := by omega
  have Hgf := Lib.hid hgf
  have Hst := Lib.hid hstart
  have Hend := Lib.hid hend
  have q0 : W.cell? ⟨g, 0, none⟩ = some (.int .i64 (M : Int)) := hB.blk.cell 0
  have q1 : W.cell? ⟨g, 1, none⟩ = some (.slice a l c) := hB.blk.cell 1
  have wE : IntKind.i64.wrap ((at_ : Int) + (m : Int)) = (e : Int) := by rw [show (at_ : Int) + (m : Int) = (e : Int) by omega]; exact IntWalk.i64_in _ (by omega)
  have hae : at_ ≤ e := by omega
  clear he hr hv hB hB0 hb eV e2 e3 hgf hstart hend hlen hrl
  go_enter Tryd.func23, Tryd.ntmps23
  go_upto_region 1 with fail
  rw [HE.out, HE3.out, HE2.out]
  go_wp2_with fail
  refine CL.out.mono ?_
  rintro e w1 ⟨va, vc, rfl, ho, hb1⟩
  rw [← Hst.out] at ho
  have HO := Lib.hid ho
  have Hb1 := Lib.hid hb1
  clear ho hb1 CL q0 q1
  go_wp2_with fail
  go_loopw [10] (fun p wr => ∃ k : Nat, p = .int .i64 (k : Int) ∧ at_ ≤ k ∧ k ≤ e ∧ OwnL wr W.heap.size (.slice va M vc) M (mixL M (bitV bs) gf k) ∧ Below W.heap.size W wr) (fun p _ => e - (intOf p).toNat)
  case atStart => exact ⟨at_, rfl, Nat.le_refl _, by omega, HO.out, Hb1.out⟩
  case round =>
    obtain ⟨k, rfl, hk0, hk, hOr, hbr⟩ := hrel
    have HOr := Lib.hid hOr
    have Hbr := Lib.hid hbr
    clear HO Hb1
    by_cases hlt : k < e
    · obtain ⟨ga, rfl, hga, hc0, hf0⟩ := hOr.cell k (by omega)
      have hki : (k : Int) < (e : Int) := by omega
      have hkM : (k : Int) < (M : Int) := by omega
      have hnext := mixL_next M (bitV bs) gf k (by omega)
      rw [mixL_at M _ _ _ k (by omega), if_neg (by omega)] at hc0
      have hgk : gf k = on := by rw [Hgf.out]; exact if_pos hk0
      rw [hgk] at hnext
      have hst := HOr.out.stored k (on)
      rw [← hnext] at hst
      have HOn := Lib.hid hst
      have Hbn := Lib.hid (Hbr.out.setCell (p := ⟨ga, k, none⟩) hga (.bool (on)))
      clear hOr hbr HOr Hbr hnext hst hgk
      go_wp2_with fail
      go_roundw
      case rel => exact ⟨k + 1, by go_num, by omega, by omega, HOn.out, Hbn.out⟩
      case measure => simp only [intOf]; omega
    · obtain rfl : e = k := by omega
      obtain ⟨-, hrl⟩ := hOr.rd
      have HRr : Hid (Blk wr r 24 #[.int .i64 0, .slice none 0 0]) := Lib.hid (HRes.out.below hbr HRes.out.lt)
      have CM := Lib.hid (made_any M va vc (mixL M (bitV bs) gf e) wr hrl hM)
      clear hOr hbr hrl
      go_wp2_with fail
      refine CM.out.mono ?_
      rintro e u ⟨x1, x2, x3, rfl, ho, hbu⟩
      have HRu : Hid (Blk u r 24 #[.int .i64 0, .slice none 0 0]) := Lib.hid (HRr.out.below hbu HRr.out.lt)
      have HOu := Lib.hid ho
      have Hbu := Lib.hid (Hbr.out.trans (hbu.mono Hbr.out.size))
      have hrr := HRr.out.lt
      clear ho hbu HRr
      have f0 := HRu.out.frozen 0
      have f1 := HRu.out.frozen 1
      have k0 : u.cell? ⟨r, 0, none⟩ = some (.int .i64 0) := HRu.out.cell 0
      have k1 : u.cell? ⟨r, 1, none⟩ = some (.slice none 0 0) := HRu.out.cell 1
      go_wp2_with fail
      rw [cells2 HRu.out]
      obtain ⟨V2, hV, rV, bV, sV, oV⟩ := filled HRu.out #[.int .i64 (M : Int), .slice x1 x2 x3]
      rw [hV]
      clear f0 f1 k0 k1
      have z0 : V2.cell? ⟨r, 0, none⟩ = some (.int .i64 (M : Int)) := (show Blk V2 _ 24 _ from rV).cell 0
      have z1 : V2.cell? ⟨r, 1, none⟩ = some (.slice x1 x2 x3) := (show Blk V2 _ 24 _ from rV).cell 1
      have HZ : Hid (Rd V2 x1 x2 x3 (madeV (mixL M (bitV bs) gf e)) ∧ Below w.heap.size w V2) := Lib.hid ⟨own_read (HOu.out.other oV hrr), (Hb.out.trans (Hbu.out.mono Hb.out.size)).trans (bV.mono hwr)⟩
      clear HRu rV bV sV oV hV HOu Hbu
      simp [bodyPost, results, Tryd.results23, go_sem, z0, z1]
      exact ⟨_, _, _, ⟨rfl, rfl, rfl⟩, _, HZ.out.1, Hend.out, HZ.out.2⟩
end Go.Proofs.YthognmkjoekilaaDoor
