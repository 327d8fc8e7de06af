/- What the statement SumsProofs calls answers true, for every input that its walk is handed. -/
import Derived.Test.YtjkkjfigoanplaaRows
import Derived.WalkKit
import Derived.ProofKit
import Derived.OpenShut
import Derived.ShutString
import Derived.ChangeOld
import Derived.Below
import Derived.SizedLaws
import Derived.Test.YtjkkjfigoanplaaSstr
import Derived.Test.YtjkkjfigoanplaaSclimbp
import Derived.Test.YtjkkjfigoanplaaScheck
import Derived.Test.YtjkkjfigoanplaaSprove
namespace Go.Proofs.Ytjkkjfigoanplaa.sumsProofs
open Go.ChangeShapes Go.WideShapes Go.ChangeAt Go.RowKit
open Go.ChangeMaps (open_string shut_string)
set_option linter.unusedVariables false

open Go.Shelf
theorem lvs_len (ps : List Pc) : (lvs ps).length = ps.length := by unfold lvs; simp
theorem place_ok (n i : Nat) (h : i < n) (hm : n ≤ 4096) : placeE n i = 0 := by
  unfold placeE; rw [if_neg (by omega), if_neg (by omega)]
theorem proofs_above (l : List (List Int)) (i : Nat) (x : List Int) (h : i < l.length) (hm : l.length ≤ 4096) :
    aboveE l.length i x (proveV l i).reverse = 0 ∧ aboveD l.length i x (proveV l i).reverse = rootV (l.set i x) := by
  obtain ⟨ms, h1, h2⟩ := climb_prove l.length l i x (Nat.le_refl _) h hm
  unfold aboveE aboveD
  rw [if_neg (by simp [place_ok _ _ h hm]), if_neg (by simp [place_ok _ _ h hm]), Int.toNat_natCast, Int.toNat_natCast, h1]
  exact ⟨rfl, h2⟩
theorem rootR_some (l : List (List Int)) (h : 0 < l.length) (hm : l.length ≤ 4096) : rootR l = rootV l ∧ rootE l = 0 := by
  unfold rootR rootE
  rw [if_neg (by omega), if_neg (by omega), if_neg (by omega)]
  exact ⟨rfl, rfl⟩
theorem rootV_len (l : List (List Int)) : (rootV l).length = 16 := (rootV_dig l).1
theorem Try.infoL : (Try.prog.info? 22).map (fun i => (i.zero, i.size, i.bytes)) = some (some (.slice none 0 0), 1, 24) := by kernel_rfl
def pcV (p : Pc) : Value := .slice p.a p.len p.cap
theorem lvs_set (ps : List Pc) (i : Nat) (p : Pc) : lvs (ps.set i p) = (lvs ps).set i p.xs := by unfold lvs; rw [List.map_set]
/-- A row of slices reads as parts. -/
theorem row_parts {w : World} {B g n cap : Nat} {ps : List Pc} (h : w.ownsRow B 22 1 (.slice (some ⟨g, 0, none⟩) n cap) n (ps.map pcV)) (hp : ∀ p ∈ ps, Rd w p.a p.len p.cap p.xs) : RdP w (some ⟨g, 0, none⟩) n cap ps := by
  have hn : ps.length = n := by have := h.1; simpa using this
  obtain ⟨a', c', e, h1, h2, -⟩ := row_slice h
  simp only [Value.slice.injEq] at e
  obtain ⟨rfl, -, rfl⟩ := e
  refine ⟨hn, h1, h2, hp, fun _ => ⟨g, 0, rfl, fun i hi => ?_⟩⟩
  rw [Nat.zero_add, row_cell h i (by omega), List.getElem?_map, List.getElem?_eq_getElem hi]
  rfl
attribute [local irreducible] digestV rootV rootR rootE aboveD aboveE checkE proveV lvs
set_option maxRecDepth 100000 in
set_option maxHeartbeats 8000000 in
theorem walk (a0 : Option Addr) (len0 cap0 : Nat) (xs0 : List Pc) (a1 : Int) (a2 : Option Addr) (len2 cap2 : Nat) (xs2 : List Int) (w : World) (w0 : RdP w a0 len0 cap0 xs0 ∧ ∀ x ∈ xs0, x.cap ≤ 140737488351232) (w1 : (Lit.int .i64 a1).wf = true) (w2 : Rd w a2 len2 cap2 xs2 ∧ cap2 ≤ 140737488351232) :
    Calls Try.prog 13 #[.slice a0 len0 cap0, .int .i64 a1, .slice a2 len2 cap2] w fun e w' => e = .returned (.bool true) ∧ Below w.heap.size w w' := by
  obtain ⟨hr0, hcap⟩ := w0
  obtain ⟨hr2, hcap2⟩ := w2
  have hi1 := wf_i64 w1
  have hl0 := hr0.hl
  have hcc := hr0.hc
  have hm0 := hr0.hm
  unfold maxLen at hm0
  have hsm := small_any a0 len0 cap0 xs0 w hr0 hcap
  have Hsm := Lib.hid hsm
  have Hr0 := Lib.hid hr0
  have Hr2 := Lib.hid hr2
  have Hcap := Lib.hid hcap
  have Hl := Lib.hid hl0
  clear hsm hr0 hcap hl0 hr2 w1
  go_enter Try.func13, Try.ntmps13
  go_wp2_with fail
  refine Hsm.out.mono ?_
  rintro e u ⟨b, rfl, hB, rfl⟩
  cases b with
  | false =>
    clear hB Hsm
    go_wp2_with fail
    refine (sane_any _).mono ?_
    rintro e w' ⟨rfl, hb⟩
    go_wp2_with fail
    go_ret
    exact ⟨rfl, hb⟩
  | true =>
  clear Hsm
  by_cases h1 : (1000 : Int) < (len2 : Int)
  · clear hB
    go_wp2_with fail
    refine (sane_any _).mono ?_
    rintro e w' ⟨rfl, hb⟩
    go_wp2_with fail
    go_ret
    exact ⟨rfl, hb⟩
  by_cases h2 : len0 = 0
  · clear hB
    subst h2
    go_wp2_with fail
    refine (sane_any _).mono ?_
    rintro e w' ⟨rfl, hb⟩
    go_wp2_with fail
    go_ret
    exact ⟨rfl, hb⟩
  have h2' : ((len0 : Int) == 0) = false := by simpa using h2
  by_cases h3 : (4096 : Int) < (len0 : Int)
  · clear hB
    go_wp2_with fail
    refine (sane_any _).mono ?_
    rintro e w' ⟨rfl, hb⟩
    go_wp2_with fail
    go_ret
    exact ⟨rfl, hb⟩
  by_cases h4 : a1 < 0
  · clear hB
    go_wp2_with fail
    refine (sane_any _).mono ?_
    rintro e w' ⟨rfl, hb⟩
    go_wp2_with fail
    go_ret
    exact ⟨rfl, hb⟩
  by_cases h5 : (len0 : Int) ≤ a1
  · clear hB
    go_wp2_with fail
    refine (sane_any _).mono ?_
    rintro e w' ⟨rfl, hb⟩
    go_wp2_with fail
    go_ret
    exact ⟨rfl, hb⟩
  obtain ⟨j, rfl⟩ : ∃ n : Nat, a1 = n := ⟨a1.toNat, by omega⟩
  have hjl : j < len0 := by omega
  have hm4 : len0 ≤ 4096 := by omega
  have hl := Hl.out
  obtain ⟨l, hlv⟩ : ∃ l, l = lvs xs0 := ⟨_, rfl⟩
  have hll : l.length = len0 := by rw [hlv, lvs_len, hl]
  have hs : ∀ p ∈ xs0, p.len ≤ 140737488354000 := fun p hp => by have h1 := Hcap.out p hp; have h2 := (Hr0.out.hb p hp).hc; omega
  obtain ⟨hRR, hRE⟩ := rootR_some l (by omega) (by omega)
  obtain ⟨RT, hRT⟩ : ∃ r, r = rootV l := ⟨_, rfl⟩
  have hRTl : RT.length = 16 := by rw [hRT]; exact rootV_len l
  have C1 : Hid (∀ u, Below w.heap.size w u → Calls Try.prog 43 #[.slice a0 len0 cap0] u fun e w' => e = .returned (.tuple #[.agg (digC RT), .int .i64 0]) ∧ Below u.heap.size u w') := Lib.hid (fun u hu => by
    have h := rootE_any a0 len0 cap0 xs0 u (Hr0.out.below hu (Nat.le_refl _)) hs
    rw [← hlv, hRR, hRE, ← hRT] at h
    exact h)
  obtain ⟨P, hP⟩ : ∃ P, P = (proveV l j).reverse := ⟨_, rfl⟩
  obtain ⟨np, hnp⟩ : ∃ n, n = (proveV l j).length := ⟨_, rfl⟩
  have C2 : Hid (∀ u, Below w.heap.size w u → Calls Try.prog 45 #[.slice a0 len0 cap0, .int .i64 j] u fun e w' => ∃ a cap, e = .returned (.tuple #[.slice a np cap, .int .i64 0]) ∧ RdG w' a np cap P ∧ Below u.heap.size u w') := Lib.hid (fun u hu => by
    have h := prove_ok a0 len0 cap0 j xs0 u (Hr0.out.below hu (Nat.le_refl _)) hs hm4 hjl
    rw [← hlv, ← hnp, ← hP] at h
    refine Calls.mono h ?_
    rintro e w' ⟨v, rfl, hr, hb⟩
    obtain ⟨a, cap, rfl, hg⟩ := own_rdg hr (fun d hd => proveL_dig l.length l j d (by rw [hP] at hd; unfold proveV at hd; exact List.mem_reverse.1 hd)) (by rw [hP, List.length_reverse, hnp])
    exact ⟨a, cap, rfl, hg, hb⟩)
  obtain ⟨b, off, rfl, hcell0⟩ := Hr0.out.hr (by omega)
  have hd0 := hcell0 j (by omega)
  have hp0 := Hr0.out.hb xs0[j] (List.getElem_mem _)
  have hb0 := World.block_lt_of_cell? w _ hd0
  have hself : l.set j (xs0[j]).xs = l := by
    have : (xs0[j]).xs = l[j]'(by omega) := by subst hlv; unfold lvs; simp
    rw [this, List.set_getElem_self]
  have hs0 := hs xs0[j] (List.getElem_mem _)
  obtain ⟨p, hpk⟩ : ∃ p, p = xs0[j] := ⟨_, rfl⟩
  rw [← hpk] at hd0 hp0 hself hs0
  obtain ⟨pa, pl, pc, px⟩ := p
  simp only at hd0 hp0 hself hs0 hb0
  obtain ⟨A1, A2⟩ := proofs_above l j px (by omega) (by omega)
  rw [hself, ← hP, ← hRT, hll] at A2
  rw [← hP, hll] at A1
  have C3 : Hid (∀ u a cap, Below w.heap.size w u → RdG u a np cap P → Calls Try.prog 50 #[.agg (digC RT), .int .i64 len0, .int .i64 j, .slice pa pl pc, .slice a np cap] u fun e w' => e = .returned (.int .i64 0) ∧ Below u.heap.size u w') := Lib.hid (fun u a cap hu hg => by
    have h := check_any RT hRTl len0 j pa pl pc px a np cap P u (hp0.below hu (Nat.le_refl _)) hs0 hg
    rw [A1, A2, show checkE RT RT 0 = 0 from by unfold checkE; simp] at h
    exact h)
  obtain ⟨B1, B2⟩ := proofs_above l j xs2 (by omega) (by omega)
  rw [← hP, hll] at B1 B2
  obtain ⟨D, hD⟩ : ∃ D, D = rootV (l.set j xs2) := ⟨_, rfl⟩
  rw [← hD] at B2
  have hDl : D.length = 16 := by rw [hD]; exact rootV_len _
  have C4 : Hid (∀ u a cap, Below w.heap.size w u → RdG u a np cap P → Calls Try.prog 48 #[.int .i64 len0, .int .i64 j, .slice a2 len2 cap2, .slice a np cap] u fun e w' => e = .returned (.tuple #[.agg (digC D), .int .i64 0]) ∧ Below u.heap.size u w') := Lib.hid (fun u a cap hu hg => by
    have h := above_any len0 j a2 len2 cap2 xs2 a np cap P u (Hr2.out.below hu (Nat.le_refl _)) (by have := Hr2.out.hc; omega) hg
    rw [B1, B2] at h
    exact h)
  obtain ⟨qs, hqs⟩ : ∃ qs, qs = xs0.set j ⟨a2, len2, cap2, xs2⟩ := ⟨_, rfl⟩
  have hql : lvs qs = l.set j xs2 := by rw [hqs, lvs_set, ← hlv]
  obtain ⟨hQR, hQE⟩ := rootR_some (l.set j xs2) (by rw [List.length_set]; omega) (by rw [List.length_set]; omega)
  have hqm : ∀ p ∈ qs, p = ⟨a2, len2, cap2, xs2⟩ ∨ p ∈ xs0 := fun p hp => by
    rw [hqs] at hp
    rcases List.mem_or_eq_of_mem_set hp with h | h
    · exact .inr h
    · exact .inl h
  have C5 : Hid (∀ u g cap, RdP u (some ⟨g, 0, none⟩) len0 cap qs → Calls Try.prog 43 #[.slice (some ⟨g, 0, none⟩) len0 cap] u fun e w' => e = .returned (.tuple #[.agg (digC D), .int .i64 0]) ∧ Below u.heap.size u w') := Lib.hid (fun u g cap hg => by
    have h := rootE_any _ len0 cap qs u hg (fun p hp => by
      rcases hqm p hp with rfl | h
      · have := Hr2.out.hc; show len2 ≤ _; omega
      · exact hs p h)
    rw [hql, hQR, hQE, ← hD] at h
    exact h)
  have hqr : ∀ u, Below w.heap.size w u → ∀ p ∈ qs, Rd u p.a p.len p.cap p.xs := fun u hu p hp => by
    rcases hqm p hp with rfl | h
    · exact Hr2.out.below hu (Nat.le_refl _)
    · exact (Hr0.out.hb p h).below hu (Nat.le_refl _)
  have hcells : ∀ u, Below w.heap.size w u → ∀ k v, (xs0.map pcV)[k]? = some v → u.cell? ((⟨b, off, none⟩ : Addr).add k) = some v := fun u hu k v hv => by
    rw [List.getElem?_map] at hv
    obtain ⟨p, hp, rfl⟩ := Option.map_eq_some_iff.1 hv
    obtain ⟨hk, rfl⟩ := List.getElem?_eq_some_iff.1 hp
    have h1 := hcell0 k hk
    have h2 := World.block_lt_of_cell? w _ h1
    rw [addr_add]
    exact (hu.cell (p := ⟨b, off + k, none⟩) h2).trans h1
  have hqset : (xs0.map pcV).set j (.slice a2 len2 cap2) = qs.map pcV := by rw [hqs, List.map_set]; rfl
  have HQR := Lib.hid hqr
  have HQ := Lib.hid (And.intro hcells hqset)
  have HD0 := Lib.hid hd0
  have HRTl := Lib.hid hRTl
  have HDl := Lib.hid hDl
  have hj0 : (0 : Int) ≤ (j : Int) := by omega
  clear hB hl hlv hll hs hRR hRE hRT hP hnp hcell0 hd0 hp0 hself hs0 hpk A1 A2 B1 B2 hD hqs hql hQR hQE hqm hqr hcells hqset hRTl hDl
  go_wp2_with fail
  refine (C1.out w (Below.refl _ w)).mono ?_
  rintro e w1 ⟨rfl, hb1⟩
  obtain ⟨w2, e1, hz2, g7, W3, e2, e3, hg7, hb3, hq3, -⟩ := freshD hb1 RT HRTl.out
  have Hg7 := Lib.hid hg7
  have Hb3 := Lib.hid hb3
  have He1 := Lib.hid e1
  have He2 := Lib.hid e2
  have He3 := Lib.hid e3
  have Hz := Lib.hid hz2
  have z1 := Try.sizeDig RT HRTl.out
  have z2 := zsize RT HRTl.out
  have z3 := digC_one RT
  clear hb1 e1 hz2 e2 e3 hg7 hb3 hq3 C1
  go_upto_region 4 with (rw [He1.out]; refine wpList_store_row rfl 47 (.tmp 7) (.tmp 48) rfl w1.heap.size (digC RT) rfl rfl 47 (digC (List.replicate 16 0)) Hz.out z1 z2 z3 ?_)
  rw [He3.out, He2.out]
  have Z1 := Lib.hid z1
  clear He1 He2 He3 Hz z1 z2 z3
  go_wp2_with fail
  refine (C2.out W3 Hb3.out).mono ?_
  rintro e w4 ⟨ap, pcap, rfl, hP4, hb4⟩
  have Hg74 := Lib.hid (Hg7.out.below hb4 Hg7.out.lt)
  have Hb4 : Hid (Below w.heap.size w w4) := Lib.hid (Hb3.out.trans (hb4.mono Hb3.out.size))
  have HP4 := Lib.hid hP4
  clear hb4 hP4 Hg7 Hb3 C2
  have l7 := Hg74.out.lt
  have d4 := Lib.hid ((Hb4.out.cell (p := ⟨b, off + j, none⟩) hb0).trans HD0.out)
  have hb04 : b < w4.heap.size := Nat.lt_of_lt_of_le hb0 Hb4.out.size
  go_upto_region 5 with fail
  refine wp_region_held_drew (S := Below w4.heap.size w4) (by kernel_rfl) (Below.refl _ _).drew (fun _ => ?_)
  have HS : Hid (Below w4.heap.size w4 w4.drew) := Lib.hid (Below.refl _ _).drew
  refine wpAnyH_take (i := 0) (v := .int .i64 0) rfl (by kernel_rfl) (by kernel_rfl) (by kernel_rfl) (fun _ _ _ h => h) (Or.inl ⟨by rfl, ?_⟩) HS.out ?_
  · intro u hu; go_simp
  go_simp
  refine wpAnyH_take (i := 1) (v := .bool false) rfl (by kernel_rfl) (by kernel_rfl) (by kernel_rfl) (fun _ _ _ h => h) (Or.inl ⟨by rfl, ?_⟩) HS.out ?_
  · intro u hu; go_simp
  go_simp
  refine wpAnyH_take (i := 2) (v := .bool false) rfl (by kernel_rfl) (by kernel_rfl) (by kernel_rfl) (fun _ _ _ h => h) (Or.inl ⟨by rfl, ?_⟩) HS.out ?_
  · intro u hu; go_simp
  go_simp
  refine wpAnyH_take (i := 3) (v := .int .i64 0) rfl (by kernel_rfl) (by kernel_rfl) (by kernel_rfl) (fun _ _ _ h => h) (Or.inl ⟨by rfl, ?_⟩) HS.out ?_
  · intro u hu; go_simp
  go_simp
  refine wpAnyH_take (i := 4) (v := .bool false) rfl (by kernel_rfl) (by kernel_rfl) (by kernel_rfl) (fun _ _ _ h => h) (Or.inl ⟨by rfl, ?_⟩) HS.out ?_
  · intro u hu; go_simp
  go_simp
  refine wpAnyH_take (i := 5) (v := .bool false) rfl (by kernel_rfl) (by kernel_rfl) (by kernel_rfl) (fun _ _ _ h => h) (Or.inl ⟨by rfl, ?_⟩) HS.out ?_
  · intro u hu; go_simp
  go_simp
  refine wpAnyH_take (i := 6) (v := .bool false) rfl (by kernel_rfl) (by kernel_rfl) (by kernel_rfl) (fun _ _ _ h => h) (Or.inl ⟨by rfl, ?_⟩) HS.out ?_
  · intro u hu; go_simp
  go_simp
  refine wpAnyH_take (i := 7) (v := .agg (digC RT)) rfl (by kernel_rfl) (by kernel_rfl) (by kernel_rfl) (fun _ _ _ h => h) (load_yields (by rfl) 47 (.tmp 7) rfl g7 rfl 47 (digC RT) (0, 0) _ (fun u hu => Hg74.out.below hu l7) Try.underlying47 rfl Z1.out) HS.out ?_
  go_simp
  refine wpAnyH_take (i := 8) (v := .slice (some ⟨b, off, none⟩) len0 cap0) rfl (by kernel_rfl) (by kernel_rfl) (by kernel_rfl) (fun _ _ _ h => h) (Or.inl ⟨by rfl, ?_⟩) HS.out ?_
  · intro u hu; go_simp
  go_simp
  refine wpAnyH_take (i := 9) (v := .int .i64 len0) rfl (by kernel_rfl) (by kernel_rfl) (by kernel_rfl) (fun _ _ _ h => h) (Or.inl ⟨by rfl, ?_⟩) HS.out ?_
  · intro u hu; go_simp
  go_simp
  refine wpAnyH_take (i := 10) (v := .int .i64 j) rfl (by kernel_rfl) (by kernel_rfl) (by kernel_rfl) (fun _ _ _ h => h) (Or.inl ⟨by rfl, ?_⟩) HS.out ?_
  · intro u hu; go_simp
  go_simp
  refine wpAnyH_take (i := 11) (v := .slice (some ⟨b, off, none⟩) len0 cap0) rfl (by kernel_rfl) (by kernel_rfl) (by kernel_rfl) (fun _ _ _ h => h) (Or.inl ⟨by rfl, ?_⟩) HS.out ?_
  · intro u hu; go_simp
  go_simp
  refine wpAnyH_take (i := 12) (v := .int .i64 j) rfl (by kernel_rfl) (by kernel_rfl) (by kernel_rfl) (fun _ _ _ h => h) (Or.inl ⟨by rfl, ?_⟩) HS.out ?_
  · intro u hu; go_simp
  go_simp
  refine wpAnyH_take (i := 13) (v := .pointer (some ⟨b, off + j, none⟩)) rfl (by kernel_rfl) (by kernel_rfl) (by kernel_rfl) (fun _ _ _ h => h) (Or.inl ⟨by rfl, ?_⟩) HS.out ?_
  · intro u hu; go_simp
  go_simp
  refine wpAnyH_take (i := 14) (v := .slice pa pl pc) rfl (by kernel_rfl) (by kernel_rfl) (by kernel_rfl) (fun _ _ _ h => h) (Or.inl ⟨by rfl, ?_⟩) HS.out ?_
  · intro u hu; have := (hu.cell (p := ⟨b, off + j, none⟩) hb04).trans d4.out; go_simp
  go_simp
  refine wpAnyH_take (i := 15) (v := .slice ap np pcap) rfl (by kernel_rfl) (by kernel_rfl) (by kernel_rfl) (fun _ _ _ h => h) (Or.inl ⟨by rfl, ?_⟩) HS.out ?_
  · intro u hu; go_simp
  go_simp
  refine wpAnyH_ready (rs := [16]) (by kernel_rfl) (by simp) ?_
  refine AllReadyH.cons rfl (fun K hK => ?_) AllReadyH.nil
  go_simp
  refine (C3.out _ ap pcap (Hb4.out.trans (HS.out.mono Hb4.out.size)) (HP4.out.below HS.out (Nat.le_refl _))).mono ?_
  rintro e w5 ⟨rfl, hb⟩
  have HS' : Hid (Below w4.heap.size w4 w5) := Lib.hid (HS.out.trans (hb.mono HS.out.size))
  clear HS hb
  have HS := HS'
  clear HS'
  refine hK.out _ _ HS.out (fun _ => ?_)
  clear hK K
  refine wpAnyH_take (i := 17) (v := .bool false) rfl (by kernel_rfl) (by kernel_rfl) (by kernel_rfl) (fun _ _ _ h => h) (Or.inl ⟨by rfl, ?_⟩) HS.out ?_
  · intro u hu; go_simp
  go_simp
  refine wpAnyH_ready (rs := [18]) (by kernel_rfl) (by simp) ?_
  refine AllReadyH.cons rfl (fun K hK => ?_) AllReadyH.nil
  go_simp
  refine hK.out _ _ HS.out (fun _ => ?_)
  clear hK K
  refine wpAnyH_done (by kernel_rfl) ?_ _
  have Hb5 : Hid (Below w.heap.size w w5) := Lib.hid (Hb4.out.trans (HS.out.mono Hb4.out.size))
  have HP5 := Lib.hid (HP4.out.below HS.out (Nat.le_refl _))
  clear Hg74 HP4 d4 HS Hb4 C3 Z1
  obtain ⟨i0, hi, hz0, hz1, hz2⟩ := info_parts Try.infoL
  have HI0 := Lib.hid (And.intro hi (And.intro hz0 (And.intro hz1 hz2)))
  have hpcl : (xs0.map pcV).length = len0 := by rw [List.length_map, Hl.out]
  have Hpcl := Lib.hid hpcl
  clear hi hz0 hz1 hz2 hpcl
  go_upto_region 9 with (at_builtin; refine wpList_append_own w5 rfl (.tmp 75) (.tmp 76) 55 rfl w5.heap.size 22 i0 (.slice none 0 0) 1 24 Try.underlying55 HI0.out.1 HI0.out.2.1 HI0.out.2.2.1 HI0.out.2.2.2 rfl (by decide) (.slice none 0 0) 0 [] rfl (World.ownsRow_nil _ _ _ _) ⟨b, off, none⟩ len0 cap0 (xs0.map pcV) rfl (by rw [Hpcl.out, Nat.mul_one]) (HQ.out.1 w5 Hb5.out) (fun v hv => by obtain ⟨p, -, rfl⟩ := List.mem_map.1 hv; rfl) (by unfold maxLen; omega) (by omega) (Nat.le_refl _) ?_; intro v6 w6 hrow6 hg6 _)
  rw [Nat.zero_add, List.nil_append] at hrow6
  obtain ⟨a6, c6, rfl, hc6, hc62, hg6e⟩ := row_slice hrow6
  obtain ⟨g6, rfl, hg60, hg61⟩ := hg6e (by omega)
  have hb6 : Below w5.heap.size w5 w6 := (Below.refl w5.heap.size w5).grown hg6 (Nat.le_refl _) (fun k hk => by cases hk)
  obtain ⟨y6, d6⟩ : ∃ y, w6.cell? ⟨g6, j, none⟩ = some y :=
    ⟨_, by rw [row_cell hrow6 j (by omega), List.getElem?_eq_getElem (by rw [Hpcl.out]; exact hjl)]⟩
  have f6 : w6.frozen? ⟨g6, j, none⟩ = false := hrow6.frozenAt j
  obtain ⟨W7, hW7⟩ : ∃ W, W = w6.setCell ⟨g6, j, none⟩ (.slice a2 len2 cap2) := ⟨_, rfl⟩
  have hrow7 : W7.ownsRow w5.heap.size 22 1 (.slice (some ⟨g6, 0, none⟩) len0 c6) len0 (qs.map pcV) := by
    rw [hW7, ← HQ.out.2]; exact (hrow6.stored j (.slice a2 len2 cap2)).1
  have hb57 : Below w5.heap.size w5 W7 := by rw [hW7]; exact hb6.setCell hg60 _
  have hb7 : Below w.heap.size w W7 := Hb5.out.trans (hb57.mono Hb5.out.size)
  have hq7 := row_parts hrow7 (HQR.out W7 hb7)
  have Hq7 := Lib.hid hq7
  have Hb7 := Lib.hid hb7
  have HP7 := Lib.hid (HP5.out.below hb57 (Nat.le_refl _))
  have HW7 := Lib.hid hW7
  have hc63 : len0 ≤ c6 := hc6
  clear hg6e hb6 hrow6 hrow7 hb57 hb7 hq7 hW7 hg6 HI0 Hpcl HQ HQR HP5 Hb5 HD0 hc62 hc6 hg60 hg61
  go_upto_region 10 with fail
  rw [← HW7.out]
  clear HW7 d6 f6
  go_wp2_with fail
  refine (C4.out W7 ap pcap Hb7.out HP7.out).mono ?_
  rintro e w8 ⟨rfl, hb8⟩
  obtain ⟨w9, e1, hz9, g12, W10, e2, e3, hg12, hb10, hq10, -⟩ := freshD hb8 D HDl.out
  have Hg12 := Lib.hid hg12
  have Hq10 := Lib.hid (Hq7.out.below hb10 (Nat.le_refl _))
  have Hb10 : Hid (Below w.heap.size w W10) := Lib.hid (Hb7.out.trans (hb10.mono Hb7.out.size))
  have He1 := Lib.hid e1
  have He2 := Lib.hid e2
  have He3 := Lib.hid e3
  have Hz := Lib.hid hz9
  have z1 := Try.sizeDig D HDl.out
  have z2 := zsize D HDl.out
  have z3 := digC_one D
  clear hb8 e1 hz9 e2 e3 hg12 hb10 hq10 C4 Hq7 Hb7 HP7
  go_upto_region 11 with (rw [He1.out]; refine wpList_store_row rfl 47 (.tmp 12) (.tmp 89) rfl w8.heap.size (digC D) rfl rfl 47 (digC (List.replicate 16 0)) Hz.out z1 z2 z3 ?_)
  rw [He3.out, He2.out]
  clear He1 He2 He3 Hz
  have Z1 := Lib.hid z1
  have Z2 := Lib.hid z2
  have Z3 := Lib.hid z3
  clear z1 z2 z3
  go_wp2_with fail
  refine (C5.out W10 g6 c6 Hq10.out).mono ?_
  rintro e w11 ⟨rfl, hb11⟩
  obtain ⟨w12, e1, hz12, g14, W13, e2, e3, hg14, hb13, hq13, -⟩ := freshD hb11 D HDl.out
  have Hg14 := Lib.hid hg14
  have Hg123 := Lib.hid (Hg12.out.below hb13 Hg12.out.lt)
  have Hb13 : Hid (Below w.heap.size w W13) := Lib.hid (Hb10.out.trans (hb13.mono Hb10.out.size))
  have He1 := Lib.hid e1
  have He2 := Lib.hid e2
  have He3 := Lib.hid e3
  have Hz := Lib.hid hz12
  clear hb11 e1 hz12 e2 e3 hg14 hb13 hq13 C5 Hq10 Hb10 Hg12
  go_upto_region 12 with (rw [He1.out]; refine wpList_store_row rfl 47 (.tmp 14) (.tmp 94) rfl w11.heap.size (digC D) rfl rfl 47 (digC (List.replicate 16 0)) Hz.out Z1.out Z2.out Z3.out ?_)
  rw [He3.out, He2.out]
  clear He1 He2 He3 Hz Z2 Z3
  have l1 := Hg123.out.lt
  have l2 := Hg14.out.lt
  go_wp2_with fail
  refine (sane_any W13).mono ?_
  rintro e w14 ⟨rfl, hb14⟩
  have Hg1214 := Lib.hid (Hg123.out.below hb14 l1)
  have Hg1414 := Lib.hid (Hg14.out.below hb14 l2)
  have hE := eqIn_dig w14 D D HDl.out HDl.out
  rw [beq_self_eq_true] at hE
  have Hb14 : Hid (Below w.heap.size w w14) := Lib.hid (Hb13.out.trans (hb14.mono Hb13.out.size))
  clear hb14
  go_wp2_with (first
    | (refine list_load rfl 47 (.tmp 12) rfl g12 rfl 47 (digC D) (0, 0) _ Hg1214.out Try.underlying47 rfl Z1.out ?_)
    | (refine list_load rfl 47 (.tmp 14) rfl g14 rfl 47 (digC D) (0, 0) _ Hg1414.out Try.underlying47 rfl Z1.out ?_))
  go_ret
  exact ⟨rfl, Hb14.out⟩
end Go.Proofs.Ytjkkjfigoanplaa.sumsProofs
