/- Check answers as the chapter says. -/
import Derived.Test.YtmfijcniaehooaaWfields
namespace Go.Proofs.Ytmfijcniaehooaa
set_option linter.unusedVariables false
open Go.RowKit

def narrow (k : Int) : Int := if k = 1 ∨ k = 2 then 1 else 0
def wide (k : Int) : Int := if k = 1 ∨ k = 2 then 8 else if k = 3 then 0 else 4096
def hasB (k : Int) : Bool := decide (4 ≤ k)
def fSize (k : Int) : Nat := if k = 3 then 92 else if k = 5 then 98 else 86
def fWrite (k : Int) : Nat := if k = 1 then 87 else if k = 2 then 90 else if k = 3 then 93 else if k = 4 then 95 else 99
def fRead (k : Int) : Nat := if k = 1 then 88 else if k = 2 then 91 else if k = 3 then 94 else if k = 4 then 96 else 100
/-- The row of a kind. -/
def kindVal (k : Int) : Value := .agg #[.int .i64 (narrow k), .int .i64 (wide k), .bool (hasB k), .func (.func (fSize k)) #[] #[], .func (.func (fWrite k)) #[] #[], .func (.func (fRead k)) #[] #[]]

/-- In w the block T is the table of kinds. -/
def IsTab (w : World) (T : Nat) : Prop := w.heap[T]? = some (.cells kindTab 121 (0, 0))
theorem IsTab.below {w w' : World} {B T : Nat} (h : IsTab w T) (hb : Below B w w') (hT : T < B) : IsTab w' T := (hb.block T hT).trans h
theorem IsTab.cells {w : World} {T : Nat} (h : IsTab w T) (k : Int) (h1 : 1 ≤ k) (h5 : k ≤ 5) :
    w.cell? ⟨T, k.toNat * 6, none⟩ = some (.int .i64 (narrow k)) ∧ w.cell? ⟨T, k.toNat * 6 + 1, none⟩ = some (.int .i64 (wide k)) ∧ w.cell? ⟨T, k.toNat * 6 + 2, none⟩ = some (.bool (hasB k)) ∧
    w.cell? ⟨T, k.toNat * 6 + 3, none⟩ = some (.func (.func (fSize k)) #[] #[]) ∧ w.cell? ⟨T, k.toNat * 6 + 4, none⟩ = some (.func (.func (fWrite k)) #[] #[]) ∧ w.cell? ⟨T, k.toNat * 6 + 5, none⟩ = some (.func (.func (fRead k)) #[] #[]) := by
  have hc : ∀ o, w.cell? ⟨T, o, none⟩ = kindTab[o]? := fun o => cell_of_row w T o kindTab _ _ h
  simp only [hc]
  have : k = 1 ∨ k = 2 ∨ k = 3 ∨ k = 4 ∨ k = 5 := by omega
  rcases this with rfl | rfl | rfl | rfl | rfl <;> (refine ⟨?_, ?_, ?_, ?_, ?_, ?_⟩ <;> rfl)
theorem RdF.take {w : World} {b off len cap : Nat} {fs : List Fld} (h : RdF w (some ⟨b, off, none⟩) len cap fs) (k : Nat) (hk : k ≤ len) : RdF w (some ⟨b, off, none⟩) k cap (fs.take k) := by
  have hl := h.hl
  have hc := h.hc
  refine ⟨by simp [hl]; omega, by omega, h.hm, fun f hf => h.hb f (List.mem_of_mem_take hf), (by intro e; cases e), fun h0 => ?_⟩
  obtain ⟨b', off', e, hcell⟩ := h.hr (by omega)
  cases e
  refine ⟨b, off, rfl, fun i hi => ?_⟩
  have := hcell i (by omega)
  have e : (fs.take k).getD i default = fs.getD i default := by simp [List.getD, hi]
  rw [e]
  exact this

/-- Does a field break the rules by itself? -/
def fldBad (f : Fld) : Prop := f.kind < 1 ∨ 5 < f.kind ∨ f.width < narrow f.kind ∨ wide f.kind < f.width ∨ f.name.toList.isEmpty = true
instance (f : Fld) : Decidable (fldBad f) := by unfold fldBad; infer_instance
/-- The error of the fields behind prev. -/
def chkL : List Fld → List Fld → Int
  | _, [] => 0
  | prev, f :: rest => if fldBad f ∨ hasName f.name prev = true then 1 else chkL (prev ++ [f]) rest
/-- What Check answers. -/
def checkV (fs : List Fld) : Int := if 64 < fs.length then 1 else chkL [] fs
attribute [irreducible] narrow wide hasB fSize fWrite fRead

set_option maxRecDepth 100000 in
set_option maxHeartbeats 1000000 in
theorem check_ok (a : Option Addr) (len cap : Nat) (fs : List Fld) (w : World) (h : RdF w a len cap fs) (h64 : len ≤ 64) (h0 : 0 < len) :
    Calls Try.prog 40 #[.slice a len cap] w fun e w' => e = .returned (.int .i64 (chkL [] fs)) ∧ Below w.heap.size w w' := by
  have hc := h.hc
  have hm := h.hm
  have hl := h.hl
  unfold maxLen at hm
  obtain ⟨b, off, rfl, hcell⟩ := h.hr h0
  have hbk := World.block_lt_of_cell? w _ (hcell 0 h0).1
  have Hl := Lib.hid hl
  have H := Lib.hid h
  clear h hcell hl
  go_enter Try.func40, Try.ntmps40
  go_wp2_with (first
    | (go_at_call 70; refine (kinds_any _).mono ?_; rintro e w1 ⟨rfl, rfl⟩)
    | (refine wpList_store_newAt (by rfl) 121 (.tmp 3) (.tmp 11) rfl kindTab (w.heap.size + 1) (by simp) rfl rfl 121 _ Try.sizeKinds (by kernel_rfl) (by kernel_rfl) ?_))
  obtain ⟨W0, hW0⟩ : ∃ W0, W0 = (w.alloc (.cells kindTab 121)).alloc (.cells kindTab 121) := ⟨_, rfl⟩
  rw [← hW0]
  have hT0 : IsTab W0 (w.heap.size + 1) := by
    rw [hW0]; have := heap_alloc_last (w.alloc (.cells kindTab 121)) (.cells kindTab 121); simpa [IsTab] using this
  have hB0 : Below w.heap.size w W0 := by rw [hW0]; exact ((Below.refl _ w).alloc (Nat.le_refl _) _).alloc (by simp) _
  have hS0 : w.heap.size + 2 ≤ W0.heap.size := by rw [hW0]; simp
  have HW0 : Hid (W0 = (w.alloc (.cells kindTab 121)).alloc (.cells kindTab 121)) := Lib.hid hW0
  clear hW0
  have HT0 := Lib.hid hT0
  have HB0 := Lib.hid hB0
  clear hT0 hB0
  go_loopw [4, 5, 6, 7, 14] (fun _ _ _ _ i wr => ∃ k : Nat, k ≤ len ∧ i = .int .i64 k ∧ chkL [] fs = chkL (fs.take k) (fs.drop k) ∧ Below W0.heap.size W0 wr)
      (fun _ _ _ _ i _ => len - (intOf i).toNat)
  case atStart => exact ⟨0, Nat.zero_le _, rfl, rfl, Below.refl _ _⟩
  case round =>
    obtain ⟨k, hk, rfl, hv, hb⟩ := hrel
    by_cases hlt : k < len
    · have hbw : Below w.heap.size w wr := HB0.out.trans (hb.mono (by omega))
      have hS := hb.size
      have hF := H.out.below hbw (Nat.le_refl _)
      obtain ⟨b', off', e', hcell⟩ := hF.hr h0
      cases e'
      obtain ⟨c0, c1, c2⟩ := hcell k hlt
      have hTr := HT0.out.below hb (by omega)
      have hpre := hF.take k (by omega)
      obtain ⟨f, hf⟩ : ∃ f, f = fs.getD k default := ⟨_, rfl⟩
      rw [← hf] at c0 c1 c2
      have hok : f.Ok := by
        rw [hf]
        have : fs.getD k default = fs[k]'(by rw [Hl.out]; exact hlt) := by simp [List.getD, Hl.out, hlt]
        rw [this]
        exact H.out.hb _ (List.getElem_mem _)
      have hd : fs.drop k = f :: fs.drop (k + 1) := by
        rw [List.drop_eq_getElem_cons (by rw [Hl.out]; exact hlt), hf]
        simp [List.getD, Hl.out, hlt]
      have ht : fs.take (k + 1) = fs.take k ++ [f] := by
        rw [List.take_succ_eq_append_getElem (by rw [Hl.out]; exact hlt), hf]
        simp [List.getD, Hl.out, hlt]
      obtain ⟨k1, k2, w1, w2⟩ := hok
      rw [hd, chkL, ← ht] at hv
      have Hv := Lib.hid hv
      have Hb := Lib.hid hb
      have Hbw := Lib.hid hbw
      have Hpre := Lib.hid hpre
      clear hv hd hf ht hb hbw hpre hF hcell
      by_cases hA : f.kind < 1 ∨ 5 < f.kind
      · have Hf : Hid (chkL [] fs = 1) := Lib.hid (by rw [Hv.out, if_pos]; left; unfold fldBad; omega)
        rcases hA with hA | hA
        all_goals
          go_wp2
          go_ret
          exact ⟨ret_int Hf.out.symm, (Hbw.out.alloc Hbw.out.size _)⟩
      · have g1 : 1 ≤ f.kind := by omega
        have g5 : f.kind ≤ 5 := by omega
        obtain ⟨t0, t1, t2, t3, t4, t5⟩ := hTr.cells f.kind g1 g5
        have hTlt : w.heap.size + 1 < wr.heap.size := by omega
        clear hA hTr
        by_cases hB : f.width < narrow f.kind ∨ wide f.kind < f.width
        · have Hf : Hid (chkL [] fs = 1) := Lib.hid (by rw [Hv.out, if_pos]; left; unfold fldBad; omega)
          rcases hB with hB | hB
          all_goals
            go_wp2
            all_goals
              go_ret
              exact ⟨ret_int Hf.out.symm, ((Hbw.out.alloc Hbw.out.size _).alloc (by have := Hbw.out.size; simp; omega) _)⟩
        · have n1 : narrow f.kind ≤ f.width := by omega
          have n2 : f.width ≤ wide f.kind := by omega
          clear hB
          by_cases hC : f.name.toList.isEmpty = true
          · have Hf : Hid (chkL [] fs = 1) := Lib.hid (by rw [Hv.out, if_pos]; left; unfold fldBad; exact .inr (.inr (.inr (.inr hC))))
            go_wp2
            go_ret
            exact ⟨ret_int Hf.out.symm, ((Hbw.out.alloc Hbw.out.size _).alloc (by have := Hbw.out.size; simp; omega) _)⟩
          · have hC' : f.name.toList.isEmpty = false := by simpa using hC
            have Hg : Hid (¬ fldBad f) := Lib.hid (by unfold fldBad; rw [hC']; simp; omega)
            clear hC
            go_wp2_with fail
            refine (contains_any _ k cap (fs.take k) f.name wr.heap.size _ (Hpre.out.below (((Below.refl _ wr).alloc (Nat.le_refl _) _).alloc (by simp) _) (Nat.le_refl _)) (by simp [World.cell?_alloc_past, World.cell?_alloc_at])).mono ?_
            rintro e w2 ⟨rfl, hb2⟩
            have hb3 : Below W0.heap.size W0 w2 := (((Hb.out.alloc hS _).alloc (by simp; omega) _)).trans (hb2.mono (by simp; omega))
            have Hb3 := Lib.hid hb3
            have Hbw3 : Hid (Below w.heap.size w w2) := Lib.hid (HB0.out.trans (hb3.mono (by omega)))
            clear hb2 hb3 c0 c1 c2 t0 t1 t2 t3 t4 t5
            cases hq : hasName f.name (fs.take k)
            · have Hf : Hid (chkL [] fs = chkL (fs.take (k + 1)) (fs.drop (k + 1))) := Lib.hid (by rw [Hv.out, if_neg]; rintro (h | h); exact Hg.out h; simp [hq] at h)
              clear hq
              go_wp2
              go_roundw
              case rel => exact ⟨k + 1, by omega, by go_num, Hf.out, Hb3.out⟩
              case measure => simp [intOf]; omega
            · have Hf : Hid (chkL [] fs = 1) := Lib.hid (by rw [Hv.out, if_pos]; right; exact hq)
              clear hq
              go_wp2
              go_ret
              exact ⟨ret_int Hf.out.symm, Hbw3.out⟩
    · have Hf : Hid (chkL [] fs = 0) := Lib.hid (by rw [hv, List.drop_of_length_le (by rw [Hl.out]; omega), chkL])
      have hbw : Below w.heap.size w wr := HB0.out.trans (hb.mono (by omega))
      have Hbw := Lib.hid hbw
      clear hv hb hbw
      go_wp2
      go_ret
      exact ⟨ret_int Hf.out.symm, Hbw.out⟩

set_option maxRecDepth 100000 in
set_option maxHeartbeats 1000000 in
theorem check_any (a : Option Addr) (len cap : Nat) (fs : List Fld) (w : World) (h : RdF w a len cap fs) :
    Calls Try.prog 40 #[.slice a len cap] w fun e w' => e = .returned (.int .i64 (checkV fs)) ∧ Below w.heap.size w w' := by
  have hc := h.hc
  have hm := h.hm
  have hl := h.hl
  unfold maxLen at hm
  by_cases h64 : 64 < len
  · have Hv : Hid (checkV fs = 1) := Lib.hid (by unfold checkV; rw [if_pos (by omega)])
    clear h hl
    go_enter Try.func40, Try.ntmps40
    go_wp2
    go_ret
    exact ⟨ret_int Hv.out.symm, Below.refl _ _⟩
  · by_cases h0 : 0 < len
    · have hv : checkV fs = chkL [] fs := by unfold checkV; rw [if_neg (by omega)]
      rw [hv]
      exact check_ok a len cap fs w h (by omega) h0
    · obtain rfl : len = 0 := by omega
      obtain rfl : fs = [] := by simpa using hl
      clear h hl
      go_enter Try.func40, Try.ntmps40
      go_wp2_with (first
        | (go_at_call 70; refine (kinds_any _).mono ?_; rintro e w1 ⟨rfl, rfl⟩)
        | (refine wpList_store_newAt (by rfl) 121 (.tmp 3) (.tmp 11) rfl kindTab (w.heap.size + 1) (by simp) rfl rfl 121 _ Try.sizeKinds (by kernel_rfl) (by kernel_rfl) ?_))
      refine wp_loop_rounds 1 ?_
      rw [rounds_succ]
      go_wp2
      go_ret
      exact ⟨rfl, ((Below.refl _ w).alloc (Nat.le_refl _) _).alloc (by simp) _⟩
end Go.Proofs.Ytmfijcniaehooaa
