/- Size answers as the chapter says. -/
import Derived.Test.YtmfijcniaehooaaWready
import Derived.Deep.RegionHeld3
namespace Go.Proofs.Ytmfijcniaehooaa
set_option linter.unusedVariables false
open Go.RowKit

/-- The least and the greatest number of bytes of a field. -/
def loV (k width : Int) : Int := if k = 3 ∨ k = 5 then 1 else width
def hiV (k width : Int) : Int := if k = 3 then 9 else if k = 5 then ((varV width).length : Int) + width else width
def loL : List Fld → Int
  | [] => 0
  | f :: fs => loV f.kind f.width + loL fs
def hiL : List Fld → Int
  | [] => 0
  | f :: fs => hiV f.kind f.width + hiL fs
theorem loL_snoc (fs : List Fld) (f : Fld) : loL (fs ++ [f]) = loL fs + loV f.kind f.width := by
  induction fs with
  | nil => simp [loL]
  | cons g fs ih => simp only [List.cons_append, loL, ih]; omega
theorem hiL_snoc (fs : List Fld) (f : Fld) : hiL (fs ++ [f]) = hiL fs + hiV f.kind f.width := by
  induction fs with
  | nil => simp [hiL]
  | cons g fs ih => simp only [List.cons_append, hiL, ih]; omega
theorem size_bd {f : Fld} (h : ¬ fldBad f) : 0 ≤ loV f.kind f.width ∧ loV f.kind f.width ≤ 4105 ∧ 0 ≤ hiV f.kind f.width ∧ hiV f.kind f.width ≤ 4105 := by
  obtain ⟨h1, h2, h3, h4⟩ := fld_bd h
  have hv : (varV f.width).length ≤ 9 := by
    unfold varV; split
    · simp
    · exact (varB_len _).2
  unfold loV hiV
  (repeat' split) <;> omega
theorem sizeL_bd (fs : List Fld) (h : ∀ f ∈ fs, ¬ fldBad f) : 0 ≤ loL fs ∧ loL fs ≤ fs.length * 4105 ∧ 0 ≤ hiL fs ∧ hiL fs ≤ fs.length * 4105 := by
  induction fs with
  | nil => simp [loL, hiL]
  | cons f fs ih =>
    have h1 := size_bd (h f (by simp))
    have h2 := ih (fun g hg => h g (by simp [hg]))
    simp only [loL, hiL, List.length_cons]
    omega
/-- What Size answers. -/
def sizeV (fs : List Fld) : Int × Int × Int := if checkV fs ≠ 0 then (0, 0, checkV fs) else (loL fs, hiL fs, 0)

section
variable (width : Int) (w : World)
theorem same_any : Calls Try.prog 86 #[.int .i64 width] w fun e w' => e = .returned (.tuple #[.int .i64 width, .int .i64 width]) ∧ w = w' := by
  go_enter Try.func86, Try.ntmps86
  go_wp2
  go_ret2
  exact ⟨rfl, rfl⟩
theorem var9_any : Calls Try.prog 92 #[.int .i64 width] w fun e w' => e = .returned (.tuple #[.int .i64 1, .int .i64 9]) ∧ w = w' := by
  go_enter Try.func92, Try.ntmps92
  go_wp2
  go_ret2
  exact ⟨rfl, rfl⟩
theorem textSize_any (h1 : 0 ≤ width) (h2 : width ≤ 4096) : Calls Try.prog 98 #[.int .i64 width] w fun e w' => e = .returned (.tuple #[.int .i64 1, .int .i64 (((varV width).length : Int) + width)]) ∧ Below w.heap.size w w' := by
  have hv : (varV width).length ≤ 9 := by
    unfold varV; split
    · simp
    · exact (varB_len _).2
  go_enter Try.func98, Try.ntmps98
  go_wp2_with fail
  refine (var_any width w (by omega)).mono ?_
  rintro e w1 ⟨v, rfl, ho, hb⟩
  obtain ⟨a, c, rfl, -⟩ := ho.rd
  have Hb := Lib.hid hb
  clear hb ho
  go_wp2
  go_ret2
  exact ⟨rfl, Hb.out⟩
theorem fSize_1 : fSize 1 = 86 := by unfold fSize; rfl
theorem fSize_2 : fSize 2 = 86 := by unfold fSize; rfl
theorem fSize_3 : fSize 3 = 92 := by unfold fSize; rfl
theorem fSize_4 : fSize 4 = 86 := by unfold fSize; rfl
theorem fSize_5 : fSize 5 = 98 := by unfold fSize; rfl
theorem size1_any (k : Int) (k1 : 1 ≤ k) (k5 : k ≤ 5) (h1 : 0 ≤ width) (h2 : width ≤ 4096) : Calls Try.prog (fSize k) #[.int .i64 width] w fun e w' => e = .returned (.tuple #[.int .i64 (loV k width), .int .i64 (hiV k width)]) ∧ Below w.heap.size w w' := by
  have : k = 1 ∨ k = 2 ∨ k = 3 ∨ k = 4 ∨ k = 5 := by omega
  rcases this with rfl | rfl | rfl | rfl | rfl
  · rw [fSize_1]; exact (same_any width w).mono (by rintro e w' ⟨rfl, rfl⟩; exact ⟨by simp [loV, hiV], Below.refl _ _⟩)
  · rw [fSize_2]; exact (same_any width w).mono (by rintro e w' ⟨rfl, rfl⟩; exact ⟨by simp [loV, hiV], Below.refl _ _⟩)
  · rw [fSize_3]; exact (var9_any width w).mono (by rintro e w' ⟨rfl, rfl⟩; exact ⟨by simp [loV, hiV], Below.refl _ _⟩)
  · rw [fSize_4]; exact (same_any width w).mono (by rintro e w' ⟨rfl, rfl⟩; exact ⟨by simp [loV, hiV], Below.refl _ _⟩)
  · rw [fSize_5]; exact (textSize_any width w h1 h2).mono (by rintro e w' ⟨rfl, hb⟩; exact ⟨by simp [loV, hiV], hb⟩)
theorem enters_size (k : Int) (h1 : 1 ≤ k) (h5 : k ≤ 5) (args : Array Value) (w : World) : (callFunc (fSize k) args).run Try.prog w = .ok (.enter (fSize k) args) w := by
  have : k = 1 ∨ k = 2 ∨ k = 3 ∨ k = 4 ∨ k = 5 := by omega
  rcases this with rfl | rfl | rfl | rfl | rfl
  · rw [fSize_1]; exact enters_some (fn := Try.f86) (by kernel_rfl) (by kernel_rfl) (by kernel_rfl) args w
  · rw [fSize_2]; exact enters_some (fn := Try.f86) (by kernel_rfl) (by kernel_rfl) (by kernel_rfl) args w
  · rw [fSize_3]; exact enters_some (fn := Try.f92) (by kernel_rfl) (by kernel_rfl) (by kernel_rfl) args w
  · rw [fSize_4]; exact enters_some (fn := Try.f86) (by kernel_rfl) (by kernel_rfl) (by kernel_rfl) args w
  · rw [fSize_5]; exact enters_some (fn := Try.f98) (by kernel_rfl) (by kernel_rfl) (by kernel_rfl) args w
end
attribute [irreducible] loV hiV

set_option maxRecDepth 100000 in
set_option maxHeartbeats 4000000 in
theorem size_ok (a : Option Addr) (len cap : Nat) (fs : List Fld) (w : World) (h : RdF w a len cap fs) (hch : checkV fs = 0) :
    Calls Try.prog 39 #[.slice a len cap] w fun e w' => e = .returned (.tuple #[.int .i64 (loL fs), .int .i64 (hiL fs), .int .i64 0]) ∧ Below w.heap.size w w' := by
  have hc := h.hc
  have hm := h.hm
  have hl := h.hl
  unfold maxLen at hm
  have Hl := Lib.hid hl
  have H := Lib.hid h
  have Hch := Lib.hid hch
  have h64 : len ≤ 64 := by have := (checkV_ok hch).1; omega
  clear h hl hch
  go_enter Try.func39, Try.ntmps39
  go_wp2_with fail
  refine (check_any _ _ _ fs _ H.out).mono ?_
  rintro e w1 ⟨rfl, hb1⟩
  rw [Hch.out]
  have Hb1 := Lib.hid hb1
  clear hb1
  go_wp2_with (first
    | (go_at_call 70; refine (kinds_any _).mono ?_; rintro e w1 ⟨rfl, rfl⟩)
    | (refine wpList_store_newAt (by rfl) 121 (.tmp 6) (.tmp 16) rfl kindTab (w1.heap.size + 1) (by simp) rfl rfl 121 _ Try.sizeKinds (by kernel_rfl) (by kernel_rfl) ?_))
  obtain ⟨W0, hW0⟩ : ∃ W0, W0 = (w1.alloc (.cells kindTab 121)).alloc (.cells kindTab 121) := ⟨_, rfl⟩
  rw [← hW0]
  have hT0 : IsTab W0 (w1.heap.size + 1) := by
    rw [hW0]; have := heap_alloc_last (w1.alloc (.cells kindTab 121)) (.cells kindTab 121); simpa [IsTab] using this
  have hS1 := Hb1.out.size
  have hB0 : Below w.heap.size w W0 := by rw [hW0]; exact (Hb1.out.alloc hS1 _).alloc (by simp; omega) _
  have hS0 : w1.heap.size + 2 ≤ W0.heap.size := by rw [hW0]; simp
  clear hW0
  have HT0 := Lib.hid hT0
  have HB0 := Lib.hid hB0
  clear hT0 hB0
  go_loopw [2, 3, 19] (fun lo hi i wr => ∃ k : Nat, k ≤ len ∧ i = .int .i64 k ∧ lo = .int .i64 (loL (fs.take k)) ∧ hi = .int .i64 (hiL (fs.take k)) ∧ Below W0.heap.size W0 wr)
      (fun _ _ i _ => len - (intOf i).toNat)
  case atStart => exact ⟨0, Nat.zero_le _, rfl, rfl, rfl, Below.refl _ _⟩
  case round =>
    obtain ⟨k, hk, rfl, rfl, rfl, hb⟩ := hrel
    have hbd := sizeL_bd (fs.take k) (fun f hf => (checkV_ok Hch.out).2 f (List.mem_of_mem_take hf))
    have hkl : (fs.take k).length ≤ k := List.length_take_le _ _
    obtain ⟨lo, hlo⟩ : ∃ n, n = loL (fs.take k) := ⟨_, rfl⟩
    obtain ⟨hi, hhi⟩ : ∃ n, n = hiL (fs.take k) := ⟨_, rfl⟩
    rw [← hlo, ← hhi] at hbd ⊢
    obtain ⟨b1, b2, b3, b4⟩ := hbd
    have b5 : lo ≤ 262720 := by omega
    have b6 : hi ≤ 262720 := by omega
    by_cases hlt : k < len
    · have hbw : Below w.heap.size w wr := HB0.out.trans (hb.mono (by omega))
      have hS := hb.size
      have hF := H.out.below hbw (Nat.le_refl _)
      obtain ⟨b, off, rfl, hcell⟩ := hF.hr (by omega)
      obtain ⟨c0, c1, c2⟩ := hcell k hlt
      have hblt := World.block_lt_of_cell? wr _ c0
      have hTr := HT0.out.below hb (by omega)
      have hl1 := Hl.out
      have hgd : fs.getD k default = fs[k]'(by omega) := by simp [List.getD, hl1, hlt]
      obtain ⟨f, hf⟩ : ∃ f, f = fs.getD k default := ⟨_, rfl⟩
      rw [← hf] at c0 c1 c2 hgd
      have hfm : f ∈ fs := by rw [hgd]; exact List.getElem_mem _
      have hts : fs.take (k + 1) = fs.take k ++ [f] := by rw [List.take_succ_eq_append_getElem (by omega), hgd]
      have hlo2 : loL (fs.take (k + 1)) = lo + loV f.kind f.width := by rw [hts, loL_snoc, hlo]
      have hhi2 : hiL (fs.take (k + 1)) = hi + hiV f.kind f.width := by rw [hts, hiL_snoc, hhi]
      have hok := (checkV_ok Hch.out).2 f hfm
      obtain ⟨g1, g5, g6, g7⟩ := fld_bd hok
      obtain ⟨q1, q2, q3, q4⟩ := size_bd hok
      obtain ⟨t0, t1, t2, t3, t4, t5⟩ := hTr.cells f.kind g1 g5
      have hTlt : w1.heap.size + 1 < wr.heap.size := by omega
      have hent := enters_size f.kind g1 g5
      have Hlo := Lib.hid hlo2
      have Hhi := Lib.hid hhi2
      have Hb := Lib.hid hb
      have Hbw := Lib.hid hbw
      clear hF hcell hfm hl1 hlo hhi hlo2 hhi2 hts hok hgd hf hb hbw hTr hkl
      have hk0 : (0 : Int) ≤ (k : Int) := by omega
      have hk1 : (k : Int) < (len : Int) := by omega
      have g1' : (0 : Int) ≤ f.kind := by omega
      have g5' : f.kind < 6 := by omega
      go_wp2_with fail
      go_region_held3 (fun w' => w'.cell? ⟨wr.heap.size, 1, none⟩ = some (.int .i64 f.kind) ∧ w'.cell? ⟨wr.heap.size, 2, none⟩ = some (.int .i64 f.width) ∧ w'.cell? ⟨w1.heap.size + 1, f.kind.toNat * 6 + 3, none⟩ = some (.func (.func (fSize f.kind)) #[] #[]))
        (first | go_keep | (go_split_ands; refine ⟨?_, ?_, ?_⟩ <;> (rw [hb3.cell (by first | (simp; done) | (simp; omega))]; assumption)))
        ((go_at_fn (fSize f.kind); refine (size1_any f.width _ f.kind g1 g5 g6 g7).mono ?_; rintro e w2 ⟨rfl, hb3⟩))
      have hsz2 := hb3.size
      simp at hsz2
      have hb4 : Below wr.heap.size wr w2 := ((Below.refl wr.heap.size wr).alloc (Nat.le_refl _) (.cells #[.string f.name, .int .i64 f.kind, .int .i64 f.width] 101)).drew.trans (hb3.mono (by simp))
      have Hb4 : Hid (Below W0.heap.size W0 w2) := Lib.hid (Hb.out.trans (hb4.mono hS))
      clear hb3 hb4 c0 c1 c2 t0 t1 t2 t3 t4 t5
      go_wp2
      go_roundw
      case rel => exact ⟨k + 1, by omega, by go_num, by rw [Hlo.out], by rw [Hhi.out], Hb4.out⟩
      case measure => simp [intOf]; omega
    · obtain rfl : k = len := by omega
      have ht : fs.take k = fs := List.take_of_length_le (by rw [Hl.out]; omega)
      rw [ht] at hlo hhi
      have Hlo := Lib.hid hlo
      have Hhi := Lib.hid hhi
      have Hbw : Hid (Below w.heap.size w wr) := Lib.hid (HB0.out.trans (hb.mono (by omega)))
      clear hb hlo hhi ht hkl
      go_wp2
      go_ret3
      rw [← Hlo.out, ← Hhi.out]
      exact ⟨rfl, Hbw.out⟩

set_option maxRecDepth 100000 in
set_option maxHeartbeats 400000 in
theorem size_any (a : Option Addr) (len cap : Nat) (fs : List Fld) (w : World) (h : RdF w a len cap fs) :
    Calls Try.prog 39 #[.slice a len cap] w fun e w' => e = .returned (.tuple #[.int .i64 (sizeV fs).1, .int .i64 (sizeV fs).2.1, .int .i64 (sizeV fs).2.2]) ∧ Below w.heap.size w w' := by
  rcases checkV_01 fs with hch | hch
  · have : sizeV fs = (loL fs, hiL fs, 0) := by unfold sizeV; rw [if_neg (by simp [hch])]
    rw [this]
    exact size_ok a len cap fs w h hch
  · have : sizeV fs = (0, 0, 1) := by unfold sizeV; rw [if_pos (by simp [hch]), hch]
    rw [this]
    have H := Lib.hid h
    have Hch := Lib.hid hch
    clear h hch this
    go_enter Try.func39, Try.ntmps39
    go_wp2_with fail
    refine (check_any _ _ _ fs _ H.out).mono ?_
    rintro e w1 ⟨rfl, hb1⟩
    rw [Hch.out]
    have Hb1 := Lib.hid hb1
    clear hb1
    go_wp2
    go_ret3
    exact ⟨rfl, Hb1.out⟩
end Go.Proofs.Ytmfijcniaehooaa
