/- A field of any kind is read as the chapter says. -/
import Derived.Test.YtmfijcniaehooaaWread1
namespace Go.Proofs.Ytmfijcniaehooaa
set_option linter.unusedVariables false
open Go.RowKit
/-- What reading a text of at most width bytes gives: the error, the bytes, how far it goes on. -/
def text5 (xs : List Int) (p : Nat) (width : Int) : Int × List Int × Nat :=
  if (toVarV (xs.drop p)).2.2 ≠ 0 then ((toVarV (xs.drop p)).2.2, [], 0)
  else if width < (toVarV (xs.drop p)).1 then (24, [], 0)
  else if aheadE ((xs.length : Int) - (p + (toVarV (xs.drop p)).2.1.toNat : Nat)) (toVarV (xs.drop p)).1 ≠ 0 then (aheadE ((xs.length : Int) - (p + (toVarV (xs.drop p)).2.1.toNat : Nat)) (toVarV (xs.drop p)).1, [], 0)
  else (0, aheadB xs (p + (toVarV (xs.drop p)).2.1.toNat) (toVarV (xs.drop p)).1, (toVarV (xs.drop p)).2.1.toNat + (toVarV (xs.drop p)).1.toNat)
section
variable {w : World} {R p len cap : Nat} {a : Option Addr} {xs : List Int} (h : IsR w R p a len cap xs) (width : Int) (hbig : len ≤ 140737488355328)
include h hbig
set_option maxRecDepth 100000 in
set_option maxHeartbeats 1000000 in
theorem rd5_any : Calls Try.prog 100 #[.pointer (some ⟨R, 0, none⟩), .int .i64 width] w
    (Read1 w R a len cap xs p (text5 xs p width).1 0 (text5 xs p width).2.1 (text5 xs p width).2.2) := by
  have H := Lib.hid h
  have hR := h.lt
  have hp := h.hp
  have hl := h.rd.hl
  have hbv := toVarV_bd (xs.drop p) (fun x hx => h.rd.hb x (List.mem_of_mem_drop hx))
  rw [List.length_drop] at hbv
  clear h
  have hb0 : Below w.heap.size w (w.alloc (.cells #[.int .i64 0, .slice none 0 0] 52)) := (Below.refl _ w).alloc (Nat.le_refl _) _
  have H1 := Lib.hid (H.out.below hb0 (Nat.le_refl _))
  have Hb0 := Lib.hid hb0
  clear hb0
  rcases hv : toVarV (xs.drop p) with ⟨n, st, er⟩
  rw [hv] at hbv
  have HV := Lib.hid hv
  obtain ⟨b1, b2, b3, b4, b5, b6⟩ := hbv
  simp only at b1 b2 b3 b4 b5 b6
  by_cases her : er = 0
  · subst her
    obtain ⟨u, rfl⟩ := Int.eq_ofNat_of_zero_le b3
    by_cases hw : width < n
    · have ht : text5 xs p width = (24, [], 0) := by unfold text5; rw [hv]; simp [hw]
      rw [ht]
      clear ht hv b6 hl
      go_enter Try.func100, Try.ntmps100
      go_wp2_with fail
      refine (rvar_any H1.out).mono ?_
      rintro e w1 ⟨rfl, hm⟩
      rw [HV.out] at hm ⊢
      have hg := hm.grown.block w.heap.size (by simp) (by simp; omega)
      rw [heap_alloc_last] at hg
      have Hm := Lib.hid (Moved.pre Hb0.out hm)
      have hsz1 := hm.grown.size
      simp at hsz1
      clear hm
      go_wp2_with fail
      refine (mustInt_ok w1 n).mono ?_
      rintro e w2 ⟨rfl, rfl⟩
      go_wp2
      exact ⟨rfl, .inr ⟨by simp, rfl, Hm.out.grown⟩⟩
    · have hpu : p + u ≤ len := by omega
      obtain ⟨er2, hv2⟩ : ∃ er2, er2 = aheadE ((xs.length : Int) - (p + u : Nat)) n := ⟨_, rfl⟩
      have HV2 := Lib.hid hv2
      by_cases her2 : er2 = 0
      · subst her2
        have ht : text5 xs p width = (0, aheadB xs (p + u) n, u + n.toNat) := by
          unfold text5; rw [hv]; simp only [Int.toNat_natCast]; rw [if_neg (by simp), if_neg hw, if_neg (fun hh => hh hv2.symm)]
        have hst : stepV 0 n = n.toNat := by unfold stepV; simp
        rw [ht]
        clear ht hv b6 hl hv2
        go_enter Try.func100, Try.ntmps100
        go_wp2_with fail
        refine (rvar_any H1.out).mono ?_
        rintro e w1 ⟨rfl, hm⟩
        rw [HV.out] at hm ⊢
        have hg := hm.grown.block w.heap.size (by simp) (by simp; omega)
        rw [heap_alloc_last] at hg
        have Hm := Lib.hid (Moved.pre Hb0.out hm)
        have hsz1 := hm.grown.size
        simp at hsz1
        clear hm
        go_wp2_with fail
        refine (mustInt_ok w1 n).mono ?_
        rintro e w2 ⟨rfl, rfl⟩
        go_wp2_with fail
        refine (bytes_any Hm.out.isR n b2 hbig).mono ?_
        rintro e w2 ⟨v, rfl, ho, hm⟩
        simp only [Int.toNat_natCast] at hm ho ⊢
        rw [← HV2.out] at hm ⊢
        rw [hst] at hm
        obtain ⟨a1, c1, rfl, hr⟩ := ho.rd
        have hg2 := (hm.grown.block w.heap.size (by omega) (by simp; omega)).trans hg
        have Hm2 := Lib.hid (Hm.out.trans hm)
        have Ho := Lib.hid ho
        clear hm ho hr hg hst
        go_wp2_with fail
        refine (mustBytes_ok w2 a1 _ c1).mono ?_
        rintro e w3 ⟨rfl, rfl⟩
        go_wp2_with (refine wpList_store_row rfl 52 (.tmp 4) (.tmp 21) rfl w.heap.size #[.int .i64 0, .slice a1 (aheadB xs (p + u) n).length c1] rfl rfl 52 #[.int .i64 0, .slice none 0 0] hg2 (Try.sizeDatum _ _) rfl (oneDatum _ _ _ _) ?_)
        refine bodyPost_ret (v := .agg #[.int .i64 0, .slice a1 (aheadB xs (p + u) n).length c1]) ?_ rfl ?_
        · exact results_cell_row rfl _ _ w.heap.size 52 #[.int .i64 0, .slice a1 (aheadB xs (p + u) n).length c1] (0, 0) _ rfl (setRow_heap _ _ _ _ _ _ hg2) Try.underlying52 rfl (Try.sizeDatum _ _)
        · have ho2 := Ho.out.setRow (g := w.heap.size) (by omega) #[.int .i64 0, .slice a1 (aheadB xs (p + u) n).length c1]
          exact .inl ⟨rfl, a1, _, c1, rfl, ho2.mono (by omega), by rw [← Nat.add_assoc]; exact Moved.low H.out Hm2.out (below_setRow' _ _ _ _ (Nat.le_refl _))⟩
      · have ht : text5 xs p width = (er2, [], 0) := by
          unfold text5; rw [hv]; simp only [Int.toNat_natCast]; rw [if_neg (by simp), if_neg hw, if_pos (by rw [← hv2]; exact her2), ← hv2]
        rw [ht]
        have Her := Lib.hid her2
        clear ht hv b6 hl hv2 her2
        go_enter Try.func100, Try.ntmps100
        go_wp2_with fail
        refine (rvar_any H1.out).mono ?_
        rintro e w1 ⟨rfl, hm⟩
        rw [HV.out] at hm ⊢
        have hg := hm.grown.block w.heap.size (by simp) (by simp; omega)
        rw [heap_alloc_last] at hg
        have Hm := Lib.hid (Moved.pre Hb0.out hm)
        have hsz1 := hm.grown.size
        simp at hsz1
        clear hm
        go_wp2_with fail
        refine (mustInt_ok w1 n).mono ?_
        rintro e w2 ⟨rfl, rfl⟩
        go_wp2_with fail
        refine (bytes_any Hm.out.isR n b2 hbig).mono ?_
        rintro e w2 ⟨v, rfl, ho, hm⟩
        simp only [Int.toNat_natCast] at hm ho ⊢
        rw [← HV2.out] at hm ⊢
        obtain ⟨a1, c1, rfl, hr⟩ := ho.rd
        have Hm2 := Lib.hid (Hm.out.trans hm)
        clear hm ho hr hg
        go_wp2_with fail
        refine (mustBytes_bad w2 a1 _ c1 er2 Her.out).mono ?_
        rintro e w3 ⟨rfl, rfl⟩
        unfold pan
        go_wp2
        exact ⟨rfl, .inr ⟨Her.out, rfl, Hm2.out.grown⟩⟩
  · have ht : text5 xs p width = (er, [], 0) := by unfold text5; rw [hv]; simp [her]
    rw [ht]
    have Her := Lib.hid her
    clear ht hv b6 her hl
    go_enter Try.func100, Try.ntmps100
    go_wp2_with fail
    refine (rvar_any H1.out).mono ?_
    rintro e w1 ⟨rfl, hm⟩
    rw [HV.out] at hm ⊢
    have hg := hm.grown.block w.heap.size (by simp) (by simp; omega)
    rw [heap_alloc_last] at hg
    have Hm := Lib.hid (Moved.pre Hb0.out hm)
    have hsz1 := hm.grown.size
    simp at hsz1
    clear hm
    go_wp2_with fail
    refine (mustInt_bad w1 n er Her.out).mono ?_
    rintro e w2 ⟨rfl, rfl⟩
    unfold pan
    go_wp2
    exact ⟨rfl, .inr ⟨Her.out, rfl, Hm.out.grown⟩⟩
end
/-- What reading a field of the kind k gives: the error, the number, the bytes, how far it goes on. -/
def oneV (k width : Int) (xs : List Int) (p : Nat) : Int × Int × List Int × Nat :=
  if k = 1 then ((rfixV xs p width false).2.1, (rfixV xs p width false).1, [], (rfixV xs p width false).2.2)
  else if k = 2 then ((rfixV xs p width true).2.1, (rfixV xs p width true).1, [], (rfixV xs p width true).2.2)
  else if k = 3 then ((toVarV (xs.drop p)).2.2, (toVarV (xs.drop p)).1, [], (toVarV (xs.drop p)).2.1.toNat)
  else if k = 4 then (aheadE ((xs.length : Int) - p) width, 0, aheadB xs p width, stepV (aheadE ((xs.length : Int) - p) width) width)
  else ((text5 xs p width).1, 0, (text5 xs p width).2.1, (text5 xs p width).2.2)
theorem fRead_1 : fRead 1 = 88 := by unfold fRead; rfl
theorem fRead_2 : fRead 2 = 91 := by unfold fRead; rfl
theorem fRead_3 : fRead 3 = 94 := by unfold fRead; rfl
theorem fRead_4 : fRead 4 = 96 := by unfold fRead; rfl
theorem fRead_5 : fRead 5 = 100 := by unfold fRead; rfl
/-- A field is read by its kind's function. -/
theorem read_any {w : World} {R p len cap : Nat} {a : Option Addr} {xs : List Int} (h : IsR w R p a len cap xs) (k width : Int) (k1 : 1 ≤ k) (k5 : k ≤ 5) (hw1 : -9223372036854775808 ≤ width) (hw2 : width ≤ 9223372036854775807) (hbig : len ≤ 140737488355328) :
    Calls Try.prog (fRead k) #[.pointer (some ⟨R, 0, none⟩), .int .i64 width] w (Read1 w R a len cap xs p (oneV k width xs p).1 (oneV k width xs p).2.1 (oneV k width xs p).2.2.1 (oneV k width xs p).2.2.2) := by
  have : k = 1 ∨ k = 2 ∨ k = 3 ∨ k = 4 ∨ k = 5 := by omega
  rcases this with rfl | rfl | rfl | rfl | rfl
  · rw [fRead_1]; exact rd1_any h width hw1 hw2
  · rw [fRead_2]; exact rd2_any h width hw1 hw2
  · rw [fRead_3]; exact rd3_any h width
  · rw [fRead_4]; exact rd4_any h width hw2 hbig
  · rw [fRead_5]; exact rd5_any h width hbig
end Go.Proofs.Ytmfijcniaehooaa
