/- Pack answers as the chapter says. -/
import Derived.Test.YtmfijcniaehooaaWpack1
import Derived.StillTailTactics
import Derived.Deep.RegionHeld3
import Derived.Deep.RegionWith
import Derived.BigRegion
namespace Go.Proofs.Ytmfijcniaehooaa
set_option linter.unusedVariables false
open Go.RowKit

/-- An item: its number; its slice, and the bytes there. -/
structure Itm where
  n : Int
  a : Option Addr
  len : Nat
  cap : Nat
  xs : List Int
instance : Inhabited Itm := ⟨⟨0, none, 0, 0, []⟩⟩
def Itm.val (x : Itm) : Value := .agg #[.int .i64 x.n, .slice x.a x.len x.cap]
structure Itm.Ok (w : World) (x : Itm) : Prop where
  n1 : -9223372036854775808 ≤ x.n
  n2 : x.n ≤ 9223372036854775807
  r : Rd w x.a x.len x.cap x.xs
/-- The slice (a, len, cap) reads in w as the items xs. -/
structure RdI (w : World) (a : Option Addr) (len cap : Nat) (xs : List Itm) : Prop where
  hl : xs.length = len
  hc : len ≤ cap
  hm : cap ≤ maxLen
  hb : ∀ x ∈ xs, x.Ok w
  hn : a = none → cap = 0
  hr : 0 < len → ∃ b off, a = some ⟨b, off, none⟩ ∧ ∀ i, i < len →
    w.cell? ⟨b, off + i * 2, none⟩ = some (.int .i64 (xs.getD i default).n) ∧ w.cell? ⟨b, off + i * 2 + 1, none⟩ = some (.slice (xs.getD i default).a (xs.getD i default).len (xs.getD i default).cap)
theorem RdI.below {w w' : World} {B : Nat} {a : Option Addr} {len cap : Nat} {xs : List Itm} (h : RdI w a len cap xs) (hb : Below B w w') (hB : w.heap.size ≤ B) : RdI w' a len cap xs := by
  refine ⟨h.hl, h.hc, h.hm, fun x hx => ⟨(h.hb x hx).n1, (h.hb x hx).n2, (h.hb x hx).r.below hb hB⟩, h.hn, fun h0 => ?_⟩
  obtain ⟨b, off, ha, hc⟩ := h.hr h0
  refine ⟨b, off, ha, fun i hi => ?_⟩
  have hk : ∀ {p : Addr} {v : Value}, w.cell? p = some v → w'.cell? p = some v := fun {p v} h => (hb.cell (Nat.lt_of_lt_of_le (World.block_lt_of_cell? w _ h) hB)).trans h
  exact ⟨hk (hc i hi).1, hk (hc i hi).2⟩
theorem Own.mono {w : World} {B B' : Nat} {v : Value} {xs : List Int} (h : Own w B v xs) (hB : B' ≤ B) : Own w B' v xs := by
  refine ⟨⟨h.1.1, ?_⟩, h.2⟩
  rcases h.1.2 with hn | ⟨g, cap, cur, rfl, hg0, rest⟩
  · exact .inl hn
  · exact .inr ⟨g, cap, cur, rfl, Nat.le_trans hB hg0, rest⟩

/-- The bytes of the items by the fields, behind acc. -/
def packL : List Fld → List Itm → List Int → Int × List Int
  | [], _, acc => (0, acc)
  | _ :: _, [], acc => (0, acc)
  | f :: fs, x :: xs, acc => if packE f.kind x.n f.width x.xs ≠ 0 then (packE f.kind x.n f.width x.xs, []) else packL fs xs (acc ++ packB f.kind x.n f.width x.xs)
/-- What Pack answers. -/
def packV (fs : List Fld) (xs : List Itm) : Int × List Int :=
  if checkV fs ≠ 0 then (checkV fs, []) else if xs.length ≠ fs.length then (1, []) else packL fs xs []

theorem chkL_ok (fs : List Fld) : ∀ prev, chkL prev fs = 0 → ∀ f ∈ fs, ¬ fldBad f := by
  induction fs with
  | nil => intro prev _ f hf; simp at hf
  | cons g fs ih =>
    intro prev h f hf
    rw [chkL] at h
    split at h
    · simp at h
    · rename_i hg
      rcases List.mem_cons.1 hf with rfl | hf
      · exact fun hb => hg (.inl hb)
      · exact ih _ h f hf
theorem chkL_01 (fs : List Fld) : ∀ prev, chkL prev fs = 0 ∨ chkL prev fs = 1 := by
  induction fs with
  | nil => intro prev; left; rfl
  | cons g fs ih =>
    intro prev
    rw [chkL]
    split
    · right; rfl
    · exact ih _
theorem checkV_01 (fs : List Fld) : checkV fs = 0 ∨ checkV fs = 1 := by
  unfold checkV; split
  · right; rfl
  · exact chkL_01 fs []
theorem checkV_ok {fs : List Fld} (h : checkV fs = 0) : fs.length ≤ 64 ∧ ∀ f ∈ fs, ¬ fldBad f := by
  unfold checkV at h
  split at h
  · simp at h
  · exact ⟨by omega, chkL_ok fs [] h⟩
theorem fld_bd {f : Fld} (h : ¬ fldBad f) : 1 ≤ f.kind ∧ f.kind ≤ 5 ∧ 0 ≤ f.width ∧ f.width ≤ 4096 := by
  unfold fldBad at h
  have hn : 0 ≤ narrow f.kind := by unfold narrow; split <;> omega
  have hw : wide f.kind ≤ 4096 := by unfold wide; (repeat' split) <;> omega
  omega
theorem fixedB_len (n width : Int) (s : Bool) : (fixedB n width s).length ≤ 8 := by
  unfold fixedB
  split
  · rename_i h
    rw [bytesOf_length]
    unfold fixedE at h
    split at h
    · simp at h
    · omega
  · simp
theorem packB_len {f : Fld} (h : ¬ fldBad f) (n : Int) (xs : List Int) : (packB f.kind n f.width xs).length ≤ 4105 := by
  have hf := fld_bd h
  have h1 := fixedB_len n f.width false
  have h2 := fixedB_len n f.width true
  unfold packB
  split
  · simp
  · split
    · omega
    · split
      · omega
      · split
        · unfold varV; split
          · simp
          · have := varB_len n; omega
        · split
          · unfold wr4B; split
            · omega
            · simp
          · unfold wr5B; split
            · simp
            · unfold textV; split
              · simp
              · have := varB_len (xs.length : Int); rw [List.length_append]; omega

set_option maxRecDepth 100000 in
set_option maxHeartbeats 1000000 in
theorem pack_ok (a : Option Addr) (len cap : Nat) (fs : List Fld) (w : World) (h : RdF w a len cap fs) (a2 : Option Addr) (cap2 : Nat) (xs : List Itm) (h2 : RdI w a2 len cap2 xs) (hch : checkV fs = 0) (h0 : 0 < len) :
    Calls Try.prog 42 #[.slice a len cap, .slice a2 len cap2] w fun e w' => ∃ v, e = .returned (.tuple #[v, .int .i64 (packL fs xs []).1]) ∧ Own w' w.heap.size v (packL fs xs []).2 ∧ Below w.heap.size w w' := by
  have hc := h.hc
  have hm := h.hm
  have hl := h.hl
  have hc2 := h2.hc
  have hm2 := h2.hm
  unfold maxLen at hm hm2
  obtain ⟨b, off, rfl, hcell⟩ := h.hr h0
  have hbk := World.block_lt_of_cell? w _ (hcell 0 h0).1
  obtain ⟨b2, off2, rfl, hcell2⟩ := h2.hr h0
  have hbk2 := World.block_lt_of_cell? w _ (hcell2 0 h0).1
  have Hl := Lib.hid hl
  have H := Lib.hid h
  have H2 := Lib.hid h2
  have Hch := Lib.hid hch
  have h64 : len ≤ 64 := by have := (checkV_ok hch).1; omega
  clear h hcell hl h2 hcell2 hch
  go_enter Try.func42, Try.ntmps42
  go_wp2_with fail
  refine (check_any _ _ _ fs _ H.out).mono ?_
  rintro e w1 ⟨rfl, hb1⟩
  rw [Hch.out]
  have Hb1 := Lib.hid hb1
  clear hb1
  go_wp2_with (first
    | (go_at_call 70; refine (kinds_any _).mono ?_; rintro e w1 ⟨rfl, rfl⟩)
    | (refine wpList_store_newAt (by rfl) 121 (.tmp 7) (.tmp 23) rfl kindTab (w1.heap.size + 1) (by simp) rfl rfl 121 _ Try.sizeKinds (by kernel_rfl) (by kernel_rfl) ?_))
  obtain ⟨W0, hW0⟩ : ∃ W0, W0 = (w1.alloc (.cells kindTab 121)).alloc (.cells kindTab 121) := ⟨_, rfl⟩
  rw [← hW0]
  have hT0 : IsTab W0 (w1.heap.size + 1) := by
    rw [hW0]; have := heap_alloc_last (w1.alloc (.cells kindTab 121)) (.cells kindTab 121); simpa [IsTab] using this
  have hS1 := Hb1.out.size
  have hB0 : Below w.heap.size w W0 := by rw [hW0]; exact (Hb1.out.alloc hS1 _).alloc (by simp; omega) _
  have hS0 : w1.heap.size + 2 ≤ W0.heap.size := by rw [hW0]; simp
  clear hW0
  have HT0 := Lib.hid hT0
  have HB0 := Lib.hid hB0
  clear hT0 hB0
  go_loopw [8, 9, 10, 11, 12, 26] (fun v _ _ _ _ i wr => ∃ (k : Nat) (acc : List Int), k ≤ len ∧ i = .int .i64 k ∧ Own wr W0.heap.size v acc ∧ acc.length ≤ k * 4105 ∧ packL fs xs [] = packL (fs.drop k) (xs.drop k) acc ∧ Below W0.heap.size W0 wr)
      (fun _ _ _ _ _ i _ => len - (intOf i).toNat)
  case atStart => exact ⟨0, [], Nat.zero_le _, rfl, Own.nil _ _, by simp, rfl, Below.refl _ _⟩
  case round =>
    obtain ⟨k, acc, hk, rfl, hown, hal, hv, hb⟩ := hrel
    by_cases hlt : k < len
    · have hbw : Below w.heap.size w wr := HB0.out.trans (hb.mono (by omega))
      have hS := hb.size
      have hF := H.out.below hbw (Nat.le_refl _)
      have hI := H2.out.below hbw (Nat.le_refl _)
      obtain ⟨b', off', e', hcell⟩ := hF.hr h0
      cases e'
      obtain ⟨c0, c1, c2⟩ := hcell k hlt
      obtain ⟨b', off', e', hcell2⟩ := hI.hr h0
      cases e'
      obtain ⟨d0, d1⟩ := hcell2 k hlt
      have hTr := HT0.out.below hb (by omega)
      have hl1 := Hl.out
      have hl2 := H2.out.hl
      obtain ⟨f, hf⟩ : ∃ f, f = fs.getD k default := ⟨_, rfl⟩
      obtain ⟨x, hx⟩ : ∃ x, x = xs.getD k default := ⟨_, rfl⟩
      rw [← hf] at c0 c1 c2
      rw [← hx] at d0 d1
      have hfm : f ∈ fs := by
        rw [hf]
        have : fs.getD k default = fs[k]'(by omega) := by simp [List.getD, hl1, hlt]
        rw [this]; exact List.getElem_mem _
      have hxm : x ∈ xs := by
        rw [hx]
        have : xs.getD k default = xs[k]'(by omega) := by simp [List.getD, hl2, hlt]
        rw [this]; exact List.getElem_mem _
      have hd : fs.drop k = f :: fs.drop (k + 1) := by
        rw [List.drop_eq_getElem_cons (by omega), hf]
        simp [List.getD, hl1, hlt]
      have hd2 : xs.drop k = x :: xs.drop (k + 1) := by
        rw [List.drop_eq_getElem_cons (by omega), hx]
        simp [List.getD, hl2, hlt]
      have hok := (checkV_ok Hch.out).2 f hfm
      obtain ⟨g1, g5, g6, g7⟩ := fld_bd hok
      have hpl := packB_len hok x.n x.xs
      obtain ⟨n1, n2, hrd⟩ := hI.hb x hxm
      obtain ⟨t0, t1, t2, t3, t4, t5⟩ := hTr.cells f.kind g1 g5
      have hTlt : w1.heap.size + 1 < wr.heap.size := by omega
      rw [hd, hd2, packL] at hv
      have Hv := Lib.hid hv
      have Hb := Lib.hid hb
      have Hbw := Lib.hid hbw
      have Ho := Lib.hid hown
      have Hrd := Lib.hid hrd
      have Hal := Lib.hid hal
      have Hpl := Lib.hid hpl
      clear hv hd hd2 hf hx hb hbw hF hI hcell hcell2 hfm hxm hown hrd hTr hl1 hl2 hok hpl hal
      have hb2lt : b2 < wr.heap.size := by omega
      have hblt : b < wr.heap.size := by omega
      have hk0 : (0 : Int) ≤ (k : Int) := by omega
      have hk1 : (k : Int) < (len : Int) := by omega
      have g1' : (0 : Int) ≤ f.kind := by omega
      have g5' : f.kind < 6 := by omega
      go_wp2
      go_region_held3 (fun w' => w'.cell? ⟨wr.heap.size, 1, none⟩ = some (.int .i64 f.kind) ∧ w'.cell? ⟨wr.heap.size, 2, none⟩ = some (.int .i64 f.width) ∧ w'.cell? ⟨w1.heap.size + 1, f.kind.toNat * 6, none⟩ = some (.int .i64 (narrow f.kind))
         ∧ w'.cell? ⟨w1.heap.size + 1, f.kind.toNat * 6 + 1, none⟩ = some (.int .i64 (wide f.kind)) ∧ w'.cell? ⟨w1.heap.size + 1, f.kind.toNat * 6 + 2, none⟩ = some (.bool (hasB f.kind))
         ∧ w'.cell? ⟨w1.heap.size + 1, f.kind.toNat * 6 + 3, none⟩ = some (.func (.func (fSize f.kind)) #[] #[]) ∧ w'.cell? ⟨w1.heap.size + 1, f.kind.toNat * 6 + 4, none⟩ = some (.func (.func (fWrite f.kind)) #[] #[]) ∧ w'.cell? ⟨w1.heap.size + 1, f.kind.toNat * 6 + 5, none⟩ = some (.func (.func (fRead f.kind)) #[] #[])
         ∧ w'.cell? ⟨b2, off2 + k * 2, none⟩ = some (.int .i64 x.n) ∧ w'.cell? ⟨b2, off2 + k * 2 + 1, none⟩ = some (.slice x.a x.len x.cap))
        (first | go_keep | (go_split_ands; refine ⟨?_, ?_, ?_, ?_, ?_, ?_, ?_, ?_, ?_, ?_⟩ <;> (rw [hb3.cell (by first | (simp; done) | (simp; omega))]; assumption)))
        ((go_at_call 73; refine (pack_any _ _ _ _ _ x.xs _ (Hrd.out.below ((Below.refl wr.heap.size wr).alloc (Nat.le_refl _) (.cells #[.string f.name, .int .i64 f.kind, .int .i64 f.width] 101)).drew (Nat.le_refl _)) n1 n2 f.kind g1 g5).mono ?_; rintro e w2 ⟨a3, l3, c3, rfl, hr3, hb3⟩))
      have hsz2 := hb3.size
      simp at hsz2
      have hb4 : Below wr.heap.size wr w2 := ((Below.refl wr.heap.size wr).alloc (Nat.le_refl _) (.cells #[.string f.name, .int .i64 f.kind, .int .i64 f.width] 101)).drew.trans (hb3.mono (by simp))
      have Hown2 : Hid (Own w2 W0.heap.size u8 acc) := Lib.hid (Ho.out.below hb4 (Nat.le_refl _))
      have Hb4 : Hid (Below W0.heap.size W0 w2) := Lib.hid (Hb.out.trans (hb4.mono hS))
      have Hbw4 : Hid (Below w.heap.size w w2) := Lib.hid (Hbw.out.trans (hb4.mono Hbw.out.size))
      have Hr3 := Lib.hid hr3
      clear hb3 hb4 hr3 c0 c1 c2 d0 d1 t0 t1 t2 t3 t4 t5
      have hal := Hal.out
      have hpl := Hpl.out
      by_cases hE : packE f.kind x.n f.width x.xs = 0
      · have Hv2 : Hid (packL fs xs [] = packL (fs.drop (k + 1)) (xs.drop (k + 1)) (acc ++ packB f.kind x.n f.width x.xs)) := Lib.hid (by rw [Hv.out, if_neg (by simp [hE])])
        have hE' : packE f.kind x.n f.width x.xs = 0 := hE
        rw [hE]
        clear hE hE'
        have hl3 : c3 ≤ maxLen := Hr3.out.hm
        have hl4 : (packB f.kind x.n f.width x.xs).length = l3 := Hr3.out.hl
        have hl5 : acc.length + l3 ≤ 140737488355328 := by omega
        have hl6 : (acc ++ packB f.kind x.n f.width x.xs).length ≤ (k + 1) * 4105 := by rw [List.length_append]; omega
        have Hl6 := Lib.hid hl6
        have hb0 : W0.heap.size ≤ w2.heap.size := by omega
        clear hl4 hl3 hl6 hal hpl
        go_wp2_with (refine wpList_append_rd rfl (.tmp 48) (.tmp 49) 22 rfl W0.heap.size Try.infoB Try.underlying22 _ acc rfl Hown2.out _ _ _ _ rfl Hr3.out hl5 hb0 ?_; intro v' w3 ho3 hg3)
        have hlt3 := Hown2.out.1.lt
        have Hb5 : Hid (Below W0.heap.size W0 w3) := Lib.hid (Hb4.out.grown hg3 hb0 (fun k hk => (hlt3 k hk).1))
        clear hg3 hlt3
        go_roundw
        case rel => exact ⟨k + 1, acc ++ packB f.kind x.n f.width x.xs, by omega, by go_num, ho3, Hl6.out, Hv2.out, Hb5.out⟩
        case measure => simp [intOf]; omega
      · have Hv2 : Hid (packL fs xs [] = (packE f.kind x.n f.width x.xs, [])) := Lib.hid (by rw [Hv.out, if_pos hE])
        have hE' : (packE f.kind x.n f.width x.xs != 0) = true := by simpa using hE
        clear hE hal hpl
        go_wp2
        go_ret2
        rw [Hv2.out]
        exact ⟨_, rfl, Own.nil _ _, Hbw4.out⟩
    · have hv2 : packL fs xs [] = (0, acc) := by
        rw [hv, List.drop_of_length_le (by rw [Hl.out]; omega), packL]
      have Hv := Lib.hid hv2
      have Ho := Lib.hid hown
      have Hbw : Hid (Below w.heap.size w wr) := Lib.hid (HB0.out.trans (hb.mono (by omega)))
      have hsz0 := HB0.out.size
      clear hv hv2 hown hb hal
      go_wp2
      go_ret2
      rw [Hv.out]
      exact ⟨_, rfl, Ho.out.mono hsz0, Hbw.out⟩

set_option maxRecDepth 100000 in
set_option maxHeartbeats 1000000 in
theorem packAll_any (a : Option Addr) (len cap : Nat) (fs : List Fld) (w : World) (h : RdF w a len cap fs) (a2 : Option Addr) (len2 cap2 : Nat) (xs : List Itm) (h2 : RdI w a2 len2 cap2 xs) :
    Calls Try.prog 42 #[.slice a len cap, .slice a2 len2 cap2] w fun e w' => ∃ v, e = .returned (.tuple #[v, .int .i64 (packV fs xs).1]) ∧ Own w' w.heap.size v (packV fs xs).2 ∧ Below w.heap.size w w' := by
  have hl := h.hl
  have hl2 := h2.hl
  have hm := h.hm
  have hm2 := h2.hm
  have hc := h.hc
  have hc2 := h2.hc
  unfold maxLen at hm hm2
  rcases checkV_01 fs with hch | hch
  · by_cases hne : len2 = len
    · subst hne
      have hv : packV fs xs = packL fs xs [] := by unfold packV; rw [if_neg (by simp [hch]), if_neg (by omega)]
      rw [hv]
      by_cases h0 : 0 < len2
      · exact pack_ok a len2 cap fs w h a2 cap2 xs h2 hch h0
      · obtain rfl : len2 = 0 := by omega
        obtain rfl : fs = [] := by simpa using hl
        obtain rfl : xs = [] := by simpa using hl2
        have H := Lib.hid h
        have Hch := Lib.hid hch
        clear h hl h2 hl2 hch hv
        go_enter Try.func42, Try.ntmps42
        go_wp2_with fail
        refine (check_any _ _ _ [] _ H.out).mono ?_
        rintro e w1 ⟨rfl, hb1⟩
        rw [Hch.out]
        have hs1 := hb1.size
        have Hb1 := Lib.hid hb1
        clear hb1
        go_wp2_with (first
          | (go_at_call 70; refine (kinds_any _).mono ?_; rintro e w1 ⟨rfl, rfl⟩)
          | (refine wpList_store_newAt (by rfl) 121 (.tmp 7) (.tmp 23) rfl kindTab (w1.heap.size + 1) (by simp) rfl rfl 121 _ Try.sizeKinds (by kernel_rfl) (by kernel_rfl) ?_))
        refine wp_loop_rounds 1 ?_
        rw [rounds_succ]
        go_wp2
        go_ret2
        exact ⟨_, rfl, Own.nil _ _, (Hb1.out.alloc hs1 _).alloc (by simp; omega) _⟩
    · have hv : packV fs xs = (1, []) := by unfold packV; rw [if_neg (by simp [hch]), if_pos (by omega)]
      rw [hv]
      have H := Lib.hid h
      have Hch := Lib.hid hch
      have hne' : ((len2 : Int) != (len : Int)) = true := by simp; omega
      clear h hl h2 hl2 hch hv hne
      go_enter Try.func42, Try.ntmps42
      go_wp2_with fail
      refine (check_any _ _ _ fs _ H.out).mono ?_
      rintro e w1 ⟨rfl, hb1⟩
      rw [Hch.out]
      have Hb1 := Lib.hid hb1
      clear hb1
      go_wp2
      go_ret2
      exact ⟨_, rfl, Own.nil _ _, Hb1.out⟩
  · have hv : packV fs xs = (1, []) := by unfold packV; rw [if_pos (by simp [hch]), hch]
    rw [hv]
    have H := Lib.hid h
    have Hch := Lib.hid hch
    clear h hl h2 hl2 hch hv
    go_enter Try.func42, Try.ntmps42
    go_wp2_with fail
    refine (check_any _ _ _ fs _ H.out).mono ?_
    rintro e w1 ⟨rfl, hb1⟩
    rw [Hch.out]
    have Hb1 := Lib.hid hb1
    clear hb1
    go_wp2
    go_ret2
    exact ⟨_, rfl, Own.nil _ _, Hb1.out⟩
end Go.Proofs.Ytmfijcniaehooaa
