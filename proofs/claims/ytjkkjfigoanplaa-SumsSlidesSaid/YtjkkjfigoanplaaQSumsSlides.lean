/- What the statement SumsSlides calls answers true, for every input that its walk is handed. -/
import Derived.Test.YtjkkjfigoanplaaRows
import Derived.WalkKit
import Derived.ProofKit
import Derived.OpenShut
import Derived.ShutString
import Derived.ChangeOld
import Derived.Below
import Derived.SizedLaws
import Derived.Test.YtjkkjfigoanplaaSopen
import Derived.Test.YtjkkjfigoanplaaSsane
import Derived.Test.YtjkkjfigoanplaaSslid
import Derived.Test.YtjkkjfigoanplaaShand
import Derived.Test.YtjkkjfigoanplaaSwin
import Derived.Deep.RegionHeld3
import Derived.StillTailTactics
import Derived.IntWalk
import Derived.Deep.CutRange
namespace Go.Proofs.Ytjkkjfigoanplaa.sumsSlides
open Go.ChangeShapes Go.WideShapes Go.ChangeAt Go.RowKit
open Go.ChangeMaps (open_string shut_string)
set_option linter.unusedVariables false

open Go.Shelf
/-- What stands at each round: the window's rolling checksum in block g. -/
structure SlI (w2 : World) (xs : List Int) (n g k : Nat) (w : World) : Prop where
  roll : Blk w g 31 #[.int .u32 (slid xs n k).1, .int .u32 (slid xs n k).2, .int .i64 (n : Int)]
  below : Below g w2 w
theorem winV_get (xs : List Int) (n m k : Nat) (h : k < m) : ((winV xs n m).map (Value.int .u32))[k]? = some (.int .u32 (valueV (slid xs n k).1 (slid xs n k).2)) := by
  unfold winV
  simp [h]
theorem SlI.next {w2 w w' : World} {xs : List Int} {n g k : Nat} (h : SlI w2 xs n g k w) (hb : Below w.heap.size w w') : SlI w2 xs n g k w' :=
  ⟨h.roll.below hb h.roll.lt, h.below.trans (hb.mono (Nat.le_of_lt h.roll.lt))⟩
attribute [local irreducible] slideA slideB valueV
set_option maxRecDepth 100000 in
set_option maxHeartbeats 8000000 in
theorem walk (a0 : Option Addr) (len0 cap0 : Nat) (xs0 : List Int) (a1 : Int) (w : World) (w0 : Rd w a0 len0 cap0 xs0 ∧ cap0 ≤ 140737488351232) (w1 : (Lit.int .i64 a1).wf = true) :
    Calls Try.prog 10 #[.slice a0 len0 cap0, .int .i64 a1] w fun e w' => e = .returned (.bool true) ∧ Below w.heap.size w w' := by
  obtain ⟨hr, hcr⟩ := w0
  have hl := hr.hl
  have hc := hr.hc
  have hn1 := wf_i64 w1
  by_cases h600 : 600 < len0
  · have g1 : (600 : Int) < (len0 : Int) := by omega
    go_enter Try.func10, Try.ntmps10
    go_wp2_with fail
    refine (sane_any w).mono ?_
    rintro e w' ⟨rfl, hb⟩
    go_wp2_with fail
    go_ret
    exact ⟨rfl, hb⟩
  have g1 : ¬ (600 : Int) < (len0 : Int) := by omega
  by_cases hlo : a1 < 1
  · go_enter Try.func10, Try.ntmps10
    go_wp2_with fail
    refine (sane_any w).mono ?_
    rintro e w' ⟨rfl, hb⟩
    go_wp2_with fail
    go_ret
    exact ⟨rfl, hb⟩
  by_cases hhi : (len0 : Int) < a1
  · go_enter Try.func10, Try.ntmps10
    go_wp2_with fail
    refine (sane_any w).mono ?_
    rintro e w' ⟨rfl, hb⟩
    go_wp2_with fail
    go_ret
    exact ⟨rfl, hb⟩
  obtain ⟨n, rfl⟩ : ∃ n : Nat, a1 = n := ⟨a1.toNat, by omega⟩
  obtain ⟨b, off, rfl, -⟩ := hr.hr (by omega)
  obtain ⟨m, hm⟩ : ∃ m, m = len0 - n + 1 := ⟨_, rfl⟩
  have hmi : ((m : Int) != (len0 : Int) - (n : Int) + 1) = false := by simp; omega
  have hwin := windows_ok _ len0 cap0 n xs0 w hr (by omega) (by omega) (by omega)
  rw [← hm] at hwin
  have hcut := fun (w' : World) (h : Rd w' (some ⟨b, off, none⟩) len0 cap0 xs0) => h.cut 0 n (x := ⟨b, off, none⟩) (c := cap0) (by omega) (by intro; simp) (by omega) (by unfold maxLen; omega)
  have g4 : (n : Int) ≤ (cap0 : Int) := by omega
  have Hr := Lib.hid hr
  have Hwin := Lib.hid hwin
  have Hcut := Lib.hid hcut
  have Hm := Lib.hid hm
  have Hl := Lib.hid hl
  clear hr hwin hcut hm hl
  go_enter Try.func10, Try.ntmps10
  go_wp2_with fail
  refine Hwin.out.mono ?_
  rintro e w1 ⟨v, rfl, hrow, hb1⟩
  obtain ⟨va, vc, rfl, hvc, hvc2, hvg⟩ := row_slice hrow
  obtain ⟨gv, rfl, hgv0, hgv1⟩ := hvg (by have := Hm.out; omega)
  have Hrow := Lib.hid hrow
  have Hb1 := Lib.hid hb1
  have Hr1 := Lib.hid (Hr.out.below hb1 (Nat.le_refl _))
  have Hgv := Lib.hid (And.intro hgv0 hgv1)
  unfold maxLen at hvc2
  clear hrow hb1 Hwin hgv0 hgv1
  go_wp2_with fail
  refine (sum_any _ n cap0 _ w1 (Hcut.out _ Hr1.out)).mono ?_
  rintro e w2 ⟨rfl, hb2⟩
  rw [List.drop_zero]
  obtain ⟨p, hp⟩ : ∃ p, p = slid xs0 n 0 := ⟨_, rfl⟩
  have hp' : rollV (xs0.take n) = p := by rw [hp]; rfl
  rw [hp']
  obtain ⟨A, B⟩ := p
  simp only
  obtain ⟨g, W3, e1, e2, hg3, -, hq3, hg3s⟩ := fresh hb2 #[.int .u32 A, .int .u32 B, .int .i64 (n : Int)] 31
  have Hb2 := Lib.hid hb2
  have Hg : Hid (g = w2.heap.size) := Lib.hid e1.symm
  have HI : Hid (SlI w2 xs0 n g 0 W3) := Lib.hid ⟨by rw [← hp]; exact hg3, hq3⟩
  have E1 := Lib.hid e1
  have E2 := Lib.hid e2
  clear hb2 e1 e2 hp hp' hg3 hq3 hg3s
  go_wp2_with fail
  rw [E2.out, E1.out]
  clear E1 E2
  have Hrow2 := Lib.hid (row_below Hrow.out Hb2.out (Nat.le_refl _))
  have Hr2 := Lib.hid (Hr1.out.below Hb2.out (Nat.le_refl _))
  have Hbw2 : Hid (Below w.heap.size w w2) := Lib.hid (Hb1.out.trans (Hb2.out.mono Hb1.out.size))
  have Hgg : Hid (gv < g) := Lib.hid (by rw [Hg.out]; have := Hb2.out.size; have := Hgv.out; omega)
  clear Hrow Hr1 Hb1 Hb2
  go_loopw [8] (fun i wr => ∃ k : Nat, k + n ≤ len0 ∧ i = .int .i64 k ∧ SlI w2 xs0 n g k wr) (fun i _ => len0 - (intOf i).toNat)
  case atStart => exact ⟨0, by omega, rfl, HI.out⟩
  case round =>
    obtain ⟨k, hk, rfl, hI⟩ := hrel
    have hkn : (k : Int) + (n : Int) ≤ (len0 : Int) := by omega
    have hroll := hI.roll
    have hbel := hI.below
    have hbd := slid_bd xs0 n k
    have hsr := slid_roll xs0 n (by omega) k (by have := Hl.out; omega)
    have hwg := winV_get xs0 n m k (by have := Hm.out; omega)
    obtain ⟨p, hp⟩ : ∃ p, p = slid xs0 n k := ⟨_, rfl⟩
    rw [← hp] at hroll hbd hsr hwg
    obtain ⟨A, B⟩ := p
    simp only at hroll hbd hsr hwg
    obtain ⟨x1, x2, x3, x4⟩ := hbd
    have hrr := Hr2.out.below hbel (by rw [Hg.out]; exact Nat.le_refl _)
    have hww := row_cell (row_below Hrow2.out hbel (by rw [Hg.out]; exact Nat.le_refl _)) k (by have := Hm.out; omega)
    rw [hwg] at hww
    have hcut := hrr.cut k n (x := ⟨b, off + k, none⟩) (c := cap0 - k) (by omega) (fun _ => rfl) (by omega) (by unfold maxLen; omega)
    obtain ⟨V, hV⟩ : ∃ V, V = valueV A B := ⟨_, rfl⟩
    rw [← hV] at hww
    have q0 := hroll.cell 0
    have q1 := hroll.cell 1
    have q2 := hroll.cell 2
    simp only [List.getElem?_toArray, List.getElem?_cons_zero, List.getElem?_cons_succ] at q0 q1 q2
    have hck : (cap0 = k) = False := by simp; omega
    have hk0 : (0 : Int) ≤ (k : Int) := by omega
    have hkc : (k : Int) + (n : Int) ≤ (cap0 : Int) := by omega
    have hkl : (k : Int) ≤ (k : Int) + (n : Int) := by omega
    have hkm : (k : Int) < (m : Int) := by have := Hm.out; omega
    have hgs : g < wr.heap.size := hroll.lt
    have hgv : gv < wr.heap.size := by have := Hgg.out; omega
    have HI0 := Lib.hid hI
    have HV := Lib.hid hV
    have Hsr := Lib.hid hsr
    have Hc2 := Lib.hid hcut
    have Hp := Lib.hid hp
    clear hI hV hsr hcut hwg hrr hroll hbel hp HI
    go_wp2_with fail
    have hw1 : IntKind.i64.wrap ((k : Int) + (n : Int)) = (k : Int) + (n : Int) := IntWalk.i64_in _ (by omega)
    have hw2 : ((k : Int) + (n : Int)).toNat - k = n := by omega
    go_region_held3 (fun w' => w'.cell? ⟨g, 0, none⟩ = some (.int .u32 A) ∧ w'.cell? ⟨g, 1, none⟩ = some (.int .u32 B) ∧ w'.cell? ⟨g, 2, none⟩ = some (.int .i64 (n : Int)) ∧ w'.cell? ⟨gv, k, none⟩ = some (.int .u32 V))
      (first | go_keep | (go_split_ands; refine ⟨?_, ?_, ?_, ?_⟩ <;> (rw [hb4.cell (by first | (simp; done) | (simp; omega))]; assumption)) | (go_split_ands; refine ⟨?_, ?_, ?_, ?_⟩ <;> (rw [hb3.cell (by first | (simp; done) | (simp; omega))]; assumption)))
      (first | (go_at_call 24; (with_reducible refine (sum_any _ n _ _ _ (Hc2.out.below ((Below.refl wr.heap.size wr).drew) (Nat.le_refl _))).mono ?_); rintro e w4 ⟨rfl, hb3⟩; rw [← Hsr.out]; have hs4 := hb3.size; simp at hs4) | (go_at_call 26; refine (value_at _ _ _ _ x1 x2 x3 x4).mono ?_; rintro e w5 ⟨rfl, hb4⟩; rw [← HV.out]))
    have hb5 : Below wr.heap.size wr w5 := (Below.refl wr.heap.size wr).drew.trans (hb3.trans (hb4.mono hb3.size))
    have HI5 := Lib.hid (HI0.out.next hb5)
    have Hb5 : Hid (Below w.heap.size w w5) := Lib.hid (Hbw2.out.trans (HI5.out.below.mono (by rw [Hg.out]; exact Hbw2.out.size)))
    clear hb3 hb4 hb5 hs4 q0 q1 q2 hww hw1 hw2 HI0 Hc2
    try clear a_s
    by_cases hend : k + n = len0
    · have ge : ((k : Int) + (n : Int) == (len0 : Int)) = true := by simp; omega
      go_wp2_with fail
      refine (sane_any w5).mono ?_
      rintro e w6 ⟨rfl, hb6⟩
      go_wp2_with fail
      go_ret
      exact ⟨rfl, Hb5.out.trans (hb6.mono Hb5.out.size)⟩
    · have ge : ((k : Int) + (n : Int) == (len0 : Int)) = false := by simp; omega
      have hrr := Hr2.out.below HI5.out.below (by rw [Hg.out]; exact Nat.le_refl _)
      obtain ⟨b', off', e', hcell⟩ := hrr.hr (by omega)
      cases e'
      have hc1 := hcell (k + n) (by omega)
      have hc2 := hcell k (by omega)
      have hxb1 := hrr.hb (xs0.getD (k + n) 0) (by rw [getD_at _ _ (by rw [Hl.out]; omega)]; exact List.getElem_mem _)
      have hxb2 := hrr.hb (xs0.getD k 0) (by rw [getD_at _ _ (by rw [Hl.out]; omega)]; exact List.getElem_mem _)
      obtain ⟨x, hx⟩ : ∃ x, x = xs0.getD (n + k) 0 := ⟨_, rfl⟩
      obtain ⟨y, hy⟩ : ∃ y, y = xs0.getD k 0 := ⟨_, rfl⟩
      rw [Nat.add_comm k n, ← hx] at hc1 hxb1
      rw [Nat.add_comm n k] at hc1
      rw [← hy] at hc2 hxb2
      have hsl : slid xs0 n (k + 1) = (slideA A y x, slideB A B n y x) := by rw [hx, hy]; simp only [slid]; rw [← Hp.out]
      have hroll := HI5.out.roll
      rw [← Hp.out] at hroll
      simp only at hroll
      have hroll0 := hroll
      have hok : rollOk A B n = true := by unfold rollOk; simp; omega
      obtain ⟨A', hA'⟩ : ∃ A', A' = slideA A y x := ⟨_, rfl⟩
      obtain ⟨B', hB'⟩ : ∃ B', B' = slideB A B n y x := ⟨_, rfl⟩
      rw [← hA', ← hB'] at hsl
      have d1 : w5.cell? ⟨b, off + (k + n), none⟩ = some (.int .u8 x) := hc1
      have d2 : w5.cell? ⟨b, off + k, none⟩ = some (.int .u8 y) := hc2
      have q0 : w5.cell? ⟨g, 0, none⟩ = some (.int .u32 A) := hroll.cell 0
      have q1 : w5.cell? ⟨g, 1, none⟩ = some (.int .u32 B) := hroll.cell 1
      have q2 : w5.cell? ⟨g, 2, none⟩ = some (.int .i64 (n : Int)) := hroll.cell 2
      have hkl2 : (k : Int) < (len0 : Int) := by omega
      have hkl3 : (k : Int) + (n : Int) < (len0 : Int) := by omega
      have hkl4 : (0 : Int) ≤ (k : Int) + (n : Int) := by omega
      have hw3 : ((k : Int) + (n : Int)).toNat = k + n := by omega
      have hbs : b < w5.heap.size := World.block_lt_of_cell? w5 _ hc1
      have hgs5 : g < w5.heap.size := hroll.lt
      have hw4 := IntWalk.i64_in
      clear hw4
      have Hsl := Lib.hid hsl
      have HA' := Lib.hid (And.intro hA' hB')
      have Hok := Lib.hid hok
      clear hc1 hc2 hx hy hsl hroll hcell hrr hA' hB' hok
      go_wp2_with fail
      have hw1 : IntKind.i64.wrap ((k : Int) + (n : Int)) = (k : Int) + (n : Int) := IntWalk.i64_in _ (by omega)
      have Hroll5 := Lib.hid hroll0
      have Hd := Lib.hid (And.intro d1 d2)
      clear q0 q1 q2 d1 d2 hroll0
      go_cut [9, 10] from 47 to 96 (fun sv fv wx => fv = .int .i64 0 ∧ ∃ gs, sv = .pointer (some ⟨gs, 0, none⟩) ∧ Blk wx gs 31 #[.int .u32 A', .int .u32 B', .int .i64 (n : Int)] ∧ Below w5.heap.size w5 wx ∧ w5.heap.size ≤ gs)
      case first =>
        refine wp_region_held_drew (S := Below w5.heap.size w5) (by kernel_rfl) (Below.refl _ _).drew (fun _ => ?_)
        have HS : Hid (Below w5.heap.size w5 w5.drew) := Lib.hid (Below.refl _ _).drew
        refine wpAnyH_take (i := 0) (v := .agg (#[.int .u32 A, .int .u32 B, .int .i64 (n : Int)])) rfl (by kernel_rfl) (by kernel_rfl) (by kernel_rfl) (fun _ _ _ h => h) (load_yields (by rfl) 31 (.tmp 7) rfl g rfl 31 (#[.int .u32 A, .int .u32 B, .int .i64 (n : Int)]) (0, 0) _ (fun u hu => Hroll5.out.below hu hgs5) Try.underlying31 rfl Try.sizeRoll') HS.out ?_
        go_simp
        refine wpAnyH_take (i := 1) (v := .slice (some ⟨b, off, none⟩) len0 cap0) rfl (by kernel_rfl) (by kernel_rfl) (by kernel_rfl) (fun _ _ _ h => h) (Or.inl ⟨by rfl, ?_⟩) HS.out ?_
        · intro u hu; go_simp
        go_simp
        refine wpAnyH_take (i := 2) (v := .int .i64 k) rfl (by kernel_rfl) (by kernel_rfl) (by kernel_rfl) (fun _ _ _ h => h) (Or.inl ⟨by rfl, ?_⟩) HS.out ?_
        · intro u hu; go_simp
        go_simp
        refine wpAnyH_take (i := 3) (v := .pointer (some ⟨b, off + k, none⟩)) rfl (by kernel_rfl) (by kernel_rfl) (by kernel_rfl) (fun _ _ _ h => h) (Or.inl ⟨by rfl, ?_⟩) HS.out ?_
        · intro u hu; go_simp
        go_simp
        refine wpAnyH_take (i := 4) (v := .int .u8 y) rfl (by kernel_rfl) (by kernel_rfl) (by kernel_rfl) (fun _ _ _ h => h) (Or.inl ⟨by rfl, ?_⟩) HS.out ?_
        · intro u hu; have := (hu.cell (p := ⟨b, off + k, none⟩) hbs).trans Hd.out.2; go_simp
        go_simp
        refine wpAnyH_take (i := 5) (v := .slice (some ⟨b, off, none⟩) len0 cap0) rfl (by kernel_rfl) (by kernel_rfl) (by kernel_rfl) (fun _ _ _ h => h) (Or.inl ⟨by rfl, ?_⟩) HS.out ?_
        · intro u hu; go_simp
        go_simp
        refine wpAnyH_take (i := 6) (v := .int .i64 k) rfl (by kernel_rfl) (by kernel_rfl) (by kernel_rfl) (fun _ _ _ h => h) (Or.inl ⟨by rfl, ?_⟩) HS.out ?_
        · intro u hu; go_simp
        go_simp
        refine wpAnyH_take (i := 7) (v := .int .i64 n) rfl (by kernel_rfl) (by kernel_rfl) (by kernel_rfl) (fun _ _ _ h => h) (Or.inl ⟨by rfl, ?_⟩) HS.out ?_
        · intro u hu; go_simp
        go_simp
        refine wpAnyH_take (i := 8) (v := .int .i64 ((k : Int) + (n : Int))) rfl (by kernel_rfl) (by kernel_rfl) (by kernel_rfl) (fun _ _ _ h => h) (Or.inl ⟨by rfl, ?_⟩) HS.out ?_
        · intro u hu; go_simp
        go_simp
        refine wpAnyH_take (i := 9) (v := .pointer (some ⟨b, off + (k + n), none⟩)) rfl (by kernel_rfl) (by kernel_rfl) (by kernel_rfl) (fun _ _ _ h => h) (Or.inl ⟨by rfl, ?_⟩) HS.out ?_
        · intro u hu; go_simp
        go_simp
        refine wpAnyH_take (i := 10) (v := .int .u8 x) rfl (by kernel_rfl) (by kernel_rfl) (by kernel_rfl) (fun _ _ _ h => h) (Or.inl ⟨by rfl, ?_⟩) HS.out ?_
        · intro u hu; have := (hu.cell (p := ⟨b, off + (k + n), none⟩) hbs).trans Hd.out.1; go_simp
        go_simp
        refine wpAnyH_ready (rs := [11, 15]) (by kernel_rfl) (by simp) ?_
        refine AllReadyH.cons rfl (fun K hK => ?_) (AllReadyH.cons rfl (fun K hK => ?_) AllReadyH.nil)
        · go_simp
          refine (slideE_ok A B n y x _ x1 x3 (by omega) (by omega) (by omega) (by omega) Hok.out).mono ?_
          rintro e w6 ⟨rfl, hb6⟩
          rw [← HA'.out.1, ← HA'.out.2]
          have HS' : Hid (Below w5.heap.size w5 w6) := Lib.hid (HS.out.trans hb6)
          clear HS hb6
          have HS := HS'
          clear HS'
          refine hK.out _ _ HS.out (fun _ => ?_)
          clear hK K
          refine wpAnyH_take (i := 12) (v := .tuple #[.agg #[.int .u32 A', .int .u32 B', .int .i64 (n : Int)], .int .i64 0]) rfl (by kernel_rfl) (by kernel_rfl) (by kernel_rfl) (fun _ _ _ h => h) (Or.inl ⟨by rfl, ?_⟩) HS.out ?_
          · intro u hu; go_simp
          go_simp
          refine wpAnyH_take (i := 13) (v := .agg #[.int .u32 A', .int .u32 B', .int .i64 (n : Int)]) rfl (by kernel_rfl) (by kernel_rfl) (by kernel_rfl) (fun _ _ _ h => h) (Or.inl ⟨by rfl, ?_⟩) HS.out ?_
          · intro u hu; go_simp
          go_simp
          refine wpAnyH_take (i := 14) (v := .int .i64 0) rfl (by kernel_rfl) (by kernel_rfl) (by kernel_rfl) (fun _ _ _ h => h) (Or.inl ⟨by rfl, ?_⟩) HS.out ?_
          · intro u hu; go_simp
          go_simp
          refine wpAnyH_ready (rs := [15]) (by kernel_rfl) (by simp) ?_
          refine AllReadyH.cons rfl (fun K hK => ?_) AllReadyH.nil
          go_simp
          obtain ⟨w7, hw7⟩ : ∃ w7, w7 = w6.alloc (.cells #[.int .u32 0, .int .u32 0, .int .i64 0] 31) := ⟨_, rfl⟩
          rw [← hw7]
          have hz7 : Blk w7 w6.heap.size 31 #[.int .u32 0, .int .u32 0, .int .i64 0] := by rw [hw7]; exact heap_new w6 _
          have HS' : Hid (Below w5.heap.size w5 w7) := Lib.hid (by rw [hw7]; exact HS.out.alloc HS.out.size _)
          have hgs : w5.heap.size ≤ w6.heap.size := HS.out.size
          obtain ⟨gs, hgse⟩ : ∃ gs, gs = w6.heap.size := ⟨_, rfl⟩
          rw [← hgse] at hz7 hgs ⊢
          have HZ := Lib.hid hz7
          clear HS hw7 hz7 hgse
          have HS := HS'
          clear HS'
          refine hK.out _ _ HS.out (fun _ => ?_)
          clear hK K
          refine wpAnyH_ready (rs := [16]) (by kernel_rfl) (by simp) ?_
          refine AllReadyH.cons rfl (fun K hK => ?_) AllReadyH.nil
          rw [if_pos (by rfl)]
          refine wp_store_row 31 (.tmp 9) (.tmp 92) rfl gs #[.int .u32 A', .int .u32 B', .int .i64 (n : Int)] rfl rfl 31 #[.int .u32 0, .int .u32 0, .int .i64 0] HZ.out (Try.sizeRoll _ _ _) rfl (oneRoll _ _ _) ?_
          have hz8 := HZ.out.setRow #[.int .u32 A', .int .u32 B', .int .i64 (n : Int)]
          have HS' := HS.out.trans (below_setRow _ w5.heap.size gs #[.int .u32 A', .int .u32 B', .int .i64 (n : Int)] hgs)
          refine hK.out _ _ HS' (fun _ => ?_)
          clear hK K
          have HS2 := Lib.hid HS'
          have HZ8 := Lib.hid hz8
          clear HS HS' hz8 HZ
          refine wpAnyH_ready (rs := [17]) (by kernel_rfl) (by simp) ?_
          refine AllReadyH.cons rfl (fun K hK => ?_) AllReadyH.nil
          go_simp
          refine hK.out _ _ HS2.out (fun _ => ?_)
          clear hK K
          refine wpAnyH_done (by kernel_rfl) ?_ _
          go_wp2_with fail
          go_meet
          exact ⟨rfl, gs, rfl, HZ8.out, HS2.out, hgs⟩
        · go_simp
          obtain ⟨w7, hw7⟩ : ∃ w7, w7 = (w5.alloc (.cells #[.int .u32 0, .int .u32 0, .int .i64 0] 31)).drew := ⟨_, rfl⟩
          rw [← hw7]
          have hz7 : Blk w7 w5.heap.size 31 #[.int .u32 0, .int .u32 0, .int .i64 0] := by rw [hw7]; exact heap_new w5 _
          have HS' : Hid (Below w5.heap.size w5 w7) := Lib.hid (by rw [hw7]; exact ((Below.refl w5.heap.size w5).alloc (Nat.le_refl _) _).drew)
          obtain ⟨gs, hgse⟩ : ∃ gs, gs = w5.heap.size := ⟨_, rfl⟩
          have hgs : w5.heap.size ≤ gs := by omega
          rw [← hgse] at hz7 ⊢
          have HZ := Lib.hid hz7
          have Hgse := Lib.hid hgse
          clear HS hw7 hz7 hgse
          have HS := HS'
          clear HS'
          refine hK.out _ _ HS.out (fun _ => ?_)
          clear hK K
          refine wpAnyH_ready (rs := [11]) (by kernel_rfl) (by simp) ?_
          refine AllReadyH.cons rfl (fun K hK => ?_) AllReadyH.nil
          go_simp
          refine (slideE_ok A B n y x _ x1 x3 (by omega) (by omega) (by omega) (by omega) Hok.out).mono ?_
          rintro e w6 ⟨rfl, hb6⟩
          rw [← HA'.out.1, ← HA'.out.2]
          have HZ' := Lib.hid (HZ.out.below hb6 HZ.out.lt)
          have HS' : Hid (Below w5.heap.size w5 w6) := Lib.hid (HS.out.trans (hb6.mono HS.out.size))
          clear HS hb6 HZ
          have HS := HS'
          have HZ := HZ'
          clear HS' HZ'
          refine hK.out _ _ HS.out (fun _ => ?_)
          clear hK K
          refine wpAnyH_take (i := 12) (v := .tuple #[.agg #[.int .u32 A', .int .u32 B', .int .i64 (n : Int)], .int .i64 0]) rfl (by kernel_rfl) (by kernel_rfl) (by kernel_rfl) (fun _ _ _ h => h) (Or.inl ⟨by rfl, ?_⟩) HS.out ?_
          · intro u hu; go_simp
          go_simp
          refine wpAnyH_take (i := 13) (v := .agg #[.int .u32 A', .int .u32 B', .int .i64 (n : Int)]) rfl (by kernel_rfl) (by kernel_rfl) (by kernel_rfl) (fun _ _ _ h => h) (Or.inl ⟨by rfl, ?_⟩) HS.out ?_
          · intro u hu; go_simp
          go_simp
          refine wpAnyH_take (i := 14) (v := .int .i64 0) rfl (by kernel_rfl) (by kernel_rfl) (by kernel_rfl) (fun _ _ _ h => h) (Or.inl ⟨by rfl, ?_⟩) HS.out ?_
          · intro u hu; go_simp
          go_simp
          refine wpAnyH_ready (rs := [16]) (by kernel_rfl) (by simp) ?_
          refine AllReadyH.cons rfl (fun K hK => ?_) AllReadyH.nil
          rw [if_pos (by rfl)]
          refine wp_store_row 31 (.tmp 9) (.tmp 92) rfl gs #[.int .u32 A', .int .u32 B', .int .i64 (n : Int)] rfl rfl 31 #[.int .u32 0, .int .u32 0, .int .i64 0] HZ.out (Try.sizeRoll _ _ _) rfl (oneRoll _ _ _) ?_
          have hz8 := HZ.out.setRow #[.int .u32 A', .int .u32 B', .int .i64 (n : Int)]
          have HS' := HS.out.trans (below_setRow _ w5.heap.size gs #[.int .u32 A', .int .u32 B', .int .i64 (n : Int)] hgs)
          refine hK.out _ _ HS' (fun _ => ?_)
          clear hK K
          have HS2 := Lib.hid HS'
          have HZ8 := Lib.hid hz8
          clear HS HS' hz8 HZ
          refine wpAnyH_ready (rs := [17]) (by kernel_rfl) (by simp) ?_
          refine AllReadyH.cons rfl (fun K hK => ?_) AllReadyH.nil
          go_simp
          refine hK.out _ _ HS2.out (fun _ => ?_)
          clear hK K
          refine wpAnyH_done (by kernel_rfl) ?_ _
          go_wp2_with fail
          go_meet
          exact ⟨rfl, gs, rfl, HZ8.out, HS2.out, hgs⟩
      case rest =>
        obtain ⟨rfl, gs, rfl, hz, hb, hgs⟩ := hcut
        have hgc : Blk wc g 31 #[.int .u32 A, .int .u32 B, .int .i64 (n : Int)] := Hroll5.out.below hb hgs5
        have q0 := hz.cell 0
        have q1 := hz.cell 1
        have q2 := hz.cell 2
        simp only [List.getElem?_toArray, List.getElem?_cons_zero, List.getElem?_cons_succ] at q0 q1 q2
        have Hgc := Lib.hid hgc
        have Hb := Lib.hid hb
        have Hz := Lib.hid hz
        clear hgc hb hz
        go_wp2_with (refine wpList_store_row rfl 31 (.tmp 7) (.tmp 96) rfl g #[.int .u32 A', .int .u32 B', .int .i64 (n : Int)] rfl rfl 31 #[.int .u32 A, .int .u32 B, .int .i64 (n : Int)] Hgc.out (Try.sizeRoll _ _ _) rfl (oneRoll _ _ _) ?_)
        go_roundw
        case rel =>
          exact ⟨k + 1, by omega, by go_num, by rw [Hsl.out]; exact setRow_heap _ _ _ _ _ _ Hgc.out, (HI5.out.below.trans (Hb.out.mono (Nat.le_of_lt hgs5))).trans (below_setRow _ _ _ _ (Nat.le_refl _))⟩
        case measure => simp [intOf]; omega
end Go.Proofs.Ytjkkjfigoanplaa.sumsSlides
