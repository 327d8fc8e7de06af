/- join: what a function answers of each two bytes. -/
import Derived.Test.YtknacgdjodmaiaaDoorBfindf
import Derived.Deep.DeepCutAuto
namespace Go.Proofs.YtknacgdjodmaiaaDoor
set_option linter.unusedVariables false
open Go.RowKit Go.Shelf

/-- The first k bytes joined, the others clear. -/
def joinN (φ : Int → Int → Int) (xs ys : List Int) (n k : Nat) : List Int := (List.range n).map fun i => if i < k then φ (xs.getD i 0) (ys.getD i 0) else 0
theorem joinN_len (φ : Int → Int → Int) (xs ys : List Int) (n k : Nat) : (joinN φ xs ys n k).length = n := by simp [joinN]
theorem joinN_zero (φ : Int → Int → Int) (xs ys : List Int) (n : Nat) : joinN φ xs ys n 0 = List.replicate n 0 := by
  apply List.ext_getElem (by simp [joinN])
  intro i h1 h2
  simp [joinN]
theorem joinN_next (φ : Int → Int → Int) (xs ys : List Int) (n k : Nat) (hk : k < n) : joinN φ xs ys n (k + 1) = (joinN φ xs ys n k).set k (φ (xs.getD k 0) (ys.getD k 0)) := by
  apply List.ext_getElem (by simp [joinN])
  intro i h1 h2
  rw [List.getElem_set]
  simp only [joinN, List.getElem_map, List.getElem_range]
  by_cases hik : k = i
  · subst hik; simp
  · rw [if_neg hik]
    by_cases h3 : i < k
    · rw [if_pos (by omega), if_pos h3]
    · rw [if_neg (by omega), if_neg h3]
set_option maxRecDepth 100000 in
set_option maxHeartbeats 4000000 in
theorem join_any (φ : Int → Int → Int) (f : FuncId) (a b : Option Addr) (n ca m cb : Nat) (xs ys : List Int) (w : World) (hx : Rd w a n ca xs) (hy : Rd w b m cb ys) (hnm : n ≤ m) (hn9 : n ≤ 9000)
    (hent : ∀ (args : Array Value) (w : World), (callFunc f args).run Tryd.prog w = .ok (.enter f args) w)
    (hf : ∀ x y, (0 ≤ x ∧ x ≤ 255) → (0 ≤ y ∧ y ≤ 255) → ∀ W, Calls Tryd.prog f #[.int .u8 x, .int .u8 y] W fun e w' => e = .returned (.int .u8 (φ x y)) ∧ W = w')
    (hφ : ∀ x y, (0 ≤ x ∧ x ≤ 255) → (0 ≤ y ∧ y ≤ 255) → 0 ≤ φ x y ∧ φ x y ≤ 255) :
    Calls Tryd.prog 71 #[.slice a n ca, .slice b m cb, .func (.func f) #[] #[]] w fun e w' => ∃ a', e = .returned (.slice (some a') n n) ∧ Own w' w.heap.size (.slice (some a') n n) (joinN φ xs ys n n) ∧ Below w.heap.size w w' := by
  obtain ⟨w1, hmk, ho, hb⟩ := make_bytes n hn9 w w.heap.size (Nat.le_refl _)
  rw [← joinN_zero φ xs ys n] at ho
  have hc := hx.hc
  have hm := hx.hm
  have hc2 := hy.hc
  have hm2 := hy.hm
  unfold maxLen at hm hm2
  have HX := Lib.hid hx
  have HY := Lib.hid hy
  have HO := Lib.hid ho
  have Hb := Lib.hid hb
  clear hx hy ho hb
  go_enter Tryd.func71, Tryd.ntmps71
  go_wp2_with fail
  go_loopw [14] (fun p wr => ∃ k : Nat, p = .int .i64 (k : Int) ∧ k ≤ n ∧ Own wr w.heap.size (.slice (some ⟨w.heap.size, 0, none⟩) n n) (joinN φ xs ys n k) ∧ Below w.heap.size w wr) (fun p _ => n - (intOf p).toNat)
  case atStart => exact ⟨0, rfl, Nat.zero_le _, HO.out, Hb.out⟩
  case round =>
    obtain ⟨k, rfl, hk, hOr, hbr⟩ := hrel
    have HOr := Lib.hid hOr
    have Hbr := Lib.hid hbr
    clear hOr hbr HO Hb
    by_cases hlt : k < n
    · obtain ⟨ba, oa, rfl, hcx⟩ := HX.out.hr (by omega)
      obtain ⟨bb, ob, rfl, hcy⟩ := HY.out.hr (by omega)
      have hcx := hcx k hlt
      have hcy := hcy k (by omega)
      have hbal := World.block_lt_of_cell? w _ hcx
      have hbbl := World.block_lt_of_cell? w _ hcy
      have hXb := HX.out.hb _ (getD_mem (bs := xs) (i := k) (by have := HX.out.hl; omega))
      have hYb := HY.out.hb _ (getD_mem (bs := ys) (i := k) (by have := HY.out.hl; omega))
      have hnext := joinN_next φ xs ys n k hlt
      have hcell : ∃ v, wr.cell? ⟨w.heap.size, k, none⟩ = some v := by
        have h1 := HOr.out.1
        rw [joinN_len] at h1
        refine ⟨.int .u8 ((joinN φ xs ys n k)[k]'(by rw [joinN_len]; exact hlt)), ?_⟩
        rw [h1.cellAt k (by omega), List.getElem?_map, List.getElem?_eq_getElem (by rw [joinN_len]; exact hlt)]
        rfl
      have hfro : wr.frozen? ⟨w.heap.size, k, none⟩ = false := by have h1 := HOr.out.1; rw [joinN_len] at h1; exact h1.frozenAt k
      obtain ⟨v0, hcell⟩ := hcell
      have hcell9 : wr.drew.cell? ⟨w.heap.size, k, none⟩ = some v0 := hcell
      have hfro9 : wr.drew.frozen? ⟨w.heap.size, k, none⟩ = false := hfro
      obtain ⟨X, hXv⟩ : ∃ X, X = xs.getD k 0 := ⟨_, rfl⟩
      obtain ⟨Y, hYv⟩ : ∃ Y, Y = ys.getD k 0 := ⟨_, rfl⟩
      rw [← hXv] at hXb hcx hnext
      rw [← hYv] at hYb hcy hnext
      have hki : (k : Int) < (n : Int) := by omega
      have hki2 : (k : Int) < (m : Int) := by omega
      have Hnext := Lib.hid hnext
      have hφb := Lib.hid (hφ X Y hXb hYb)
      clear hnext hXv hYv hcell hfro hmk
      · go_wp2_with fail
        refine wp_region_held_drew (S := Below w.heap.size w) (by kernel_rfl) (Hbr.out.drew) (fun _ => ?_)
        have HS : Hid (Below w.heap.size w wr.drew) := Lib.hid Hbr.out.drew
        refine wpAnyH_take (i := 0) (v := .slice (some ⟨w.heap.size, 0, none⟩) n n) rfl (by kernel_rfl) (by kernel_rfl) (by kernel_rfl) (fun _ _ _ h => h) (Or.inl ⟨by rfl, ?_⟩) HS.out ?_
        · intro u hu; go_simp
        go_simp
        refine wpAnyH_take (i := 1) (v := .int .i64 (k : Int)) rfl (by kernel_rfl) (by kernel_rfl) (by kernel_rfl) (fun _ _ _ h => h) (Or.inl ⟨by rfl, ?_⟩) HS.out ?_
        · intro u hu; go_simp
        go_simp
        refine wpAnyH_take (i := 2) (v := .func (.func f) #[] #[]) rfl (by kernel_rfl) (by kernel_rfl) (by kernel_rfl) (fun _ _ _ h => h) (Or.inl ⟨by rfl, ?_⟩) HS.out ?_
        · intro u hu; go_simp
        go_simp
        refine wpAnyH_take (i := 3) (v := .slice (some ⟨ba, oa, none⟩) n ca) rfl (by kernel_rfl) (by kernel_rfl) (by kernel_rfl) (fun _ _ _ h => h) (Or.inl ⟨by rfl, ?_⟩) HS.out ?_
        · intro u hu; go_simp
        go_simp
        refine wpAnyH_take (i := 4) (v := .int .i64 (k : Int)) rfl (by kernel_rfl) (by kernel_rfl) (by kernel_rfl) (fun _ _ _ h => h) (Or.inl ⟨by rfl, ?_⟩) HS.out ?_
        · intro u hu; go_simp
        go_simp
        refine wpAnyH_take (i := 5) (v := .pointer (some ⟨ba, oa + k, none⟩)) rfl (by kernel_rfl) (by kernel_rfl) (by kernel_rfl) (fun _ _ _ h => h) (Or.inl ⟨by rfl, ?_⟩) HS.out ?_
        · intro u hu; go_simp
        go_simp
        refine wpAnyH_take (i := 6) (v := .int .u8 X) rfl (by kernel_rfl) (by kernel_rfl) (by kernel_rfl) (fun _ _ _ h => h) (Or.inl ⟨by rfl, ?_⟩) HS.out ?_
        · intro u hu; have := (hu.cell (p := ⟨ba, oa + k, none⟩) hbal).trans hcx; go_simp
        go_simp
        refine wpAnyH_take (i := 7) (v := .slice (some ⟨bb, ob, none⟩) m cb) rfl (by kernel_rfl) (by kernel_rfl) (by kernel_rfl) (fun _ _ _ h => h) (Or.inl ⟨by rfl, ?_⟩) HS.out ?_
        · intro u hu; go_simp
        go_simp
        refine wpAnyH_take (i := 8) (v := .int .i64 (k : Int)) rfl (by kernel_rfl) (by kernel_rfl) (by kernel_rfl) (fun _ _ _ h => h) (Or.inl ⟨by rfl, ?_⟩) HS.out ?_
        · intro u hu; go_simp
        go_simp
        refine wpAnyH_take (i := 9) (v := .pointer (some ⟨bb, ob + k, none⟩)) rfl (by kernel_rfl) (by kernel_rfl) (by kernel_rfl) (fun _ _ _ h => h) (Or.inl ⟨by rfl, ?_⟩) HS.out ?_
        · intro u hu; go_simp
        go_simp
        refine wpAnyH_take (i := 10) (v := .int .u8 Y) rfl (by kernel_rfl) (by kernel_rfl) (by kernel_rfl) (fun _ _ _ h => h) (Or.inl ⟨by rfl, ?_⟩) HS.out ?_
        · intro u hu; have := (hu.cell (p := ⟨bb, ob + k, none⟩) hbbl).trans hcy; go_simp
        go_simp
        refine wpAnyH_ready (rs := [11]) (by kernel_rfl) (by simp) ?_
        refine AllReadyH.cons rfl (fun K hK => ?_) AllReadyH.nil
        go_simp
        refine (hf X Y hXb hYb wr.drew).mono ?_
        rintro e u ⟨rfl, rfl⟩
        refine hK.out _ _ HS.out (fun _ => ?_)
        clear hK K
        refine wpAnyH_take (i := 12) (v := .pointer (some ⟨w.heap.size, k, none⟩)) rfl (by kernel_rfl) (by kernel_rfl) (by kernel_rfl) (fun _ _ _ h => h) (Or.inl ⟨by rfl, ?_⟩) HS.out ?_
        · intro u hu; go_simp
        go_simp
        refine wpAnyH_ready (rs := [13]) (by kernel_rfl) (by simp) ?_
        refine AllReadyH.cons rfl (fun K hK => ?_) AllReadyH.nil
        go_simp
        have HS2 : Hid (Below w.heap.size w (wr.drew.setCell ⟨w.heap.size, k, none⟩ (.int .u8 (φ X Y)))) := Lib.hid (HS.out.setCell (Nat.le_refl _) _)
        refine hK.out _ _ HS2.out (fun _ => ?_)
        clear hK K
        refine wpAnyH_done (by kernel_rfl) ?_ _
        have hst := (show Own wr.drew w.heap.size (.slice (some ⟨w.heap.size, 0, none⟩) n n) (joinN φ xs ys n k) from HOr.out).stored (by rw [joinN_len]) k (φ X Y) hφb.out
        rw [← Hnext.out] at hst
        have HOn := Lib.hid hst
        have HS := Lib.hid HS2.out
        clear HS2 hst hcell9 hfro9 HOr Hbr
        go_wp2_with fail
        go_roundw
        case rel => exact ⟨k + 1, by go_num, by omega, HOn.out, HS.out⟩
        case measure => simp [intOf]; omega
    · obtain rfl : k = n := by omega
      clear hmk
      go_wp2_with fail
      refine bodyPost_ret (results_tmp rfl _ _ _) rfl ?_
      exact ⟨_, rfl, HOr.out, Hbr.out⟩
end Go.Proofs.YtknacgdjodmaiaaDoor
