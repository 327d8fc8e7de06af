import Derived.Test.YtmfijcniaehooaaWread1
import Derived.Laws.BytesArg
import Derived.Deep.DeepMust
import Derived.Deep.AppendLies
import Derived.Deep.QuietTactic
import Derived.BigQuiet
import Derived.RegionTactic
import Derived.ChangeAlike
import Derived.Test.YtmfijcniaehooaaWsize
import Derived.Test.YtmfijcniaehooaaLmc
import Derived.Deep.DeepCutAuto
import Derived.Deep.RegionHeld3
import Derived.StillTailTactics
import Derived.Test.YtmfijcniaehooaaRows
import Derived.WalkKit
import Derived.WalkSpells
import Derived.WalkLawsBesides
import Derived.Test.YtmfijcniaehooaaWback
import Derived.Test.YtmfijcniaehooaaWpackall
import Derived.Test.YtmfijcniaehooaaWtotext
import Derived.Deep.RegionHeldLaw
import Derived.Test.YtmfijcniaehooaaRcheck
import Derived.Laws.AppendOwnNone
import Derived.Deep.CutRange
/- The reference's Var, and whether two rows of bytes are the same, told in plain values. -/
namespace Go.Proofs.Ytmfijcniaehooaa
set_option linter.unusedVariables false
open Go.RowKit

theorem Rd.convAny {w : World} {a : Option Addr} {len cap : Nat} {xs : List Int} (h : Rd w a len cap xs) : (convert 22 9 (.slice a len cap)).run Try.prog w = .ok (.string (strOfNums xs)) w := by
  by_cases h0 : 0 < len
  · obtain ⟨b, off, rfl, hc⟩ := h.hr h0
    exact run_convert_bytes_arg w 22 5 Try.underlying22 Try.underlying5 b off len cap xs h.hl hc 9 Try.underlying9
  · obtain rfl : len = 0 := by omega
    obtain rfl : xs = [] := List.eq_nil_of_length_eq_zero h.hl
    rcases a with _ | ad
    · exact run_convert_bytes_nil w 22 5 Try.underlying22 Try.underlying5 0 cap 9 Try.underlying9
    · rw [run_convert_bytes_string w 22 9 5 (some ad) 0 cap Try.underlying22 Try.underlying5 Try.underlying9]
      have hl := run_loadCells_list (P := Try.prog) w ad [] (fun j v hj => by simp at hj)
      rw [run_bytesToString w ad 0 cap [] (by simpa using hl)]
      rfl
theorem strOfNums_inj {xs ys : List Int} (hx : ∀ n ∈ xs, 0 ≤ n ∧ n ≤ 255) (hy : ∀ n ∈ ys, 0 ≤ n ∧ n ≤ 255) (h : strOfNums xs = strOfNums ys) : xs = ys := by
  have h1 : xs.map (fun n => UInt8.ofNat n.toNat) = ys.map (fun n => UInt8.ofNat n.toNat) := by
    rw [← strOfNums_data, ← strOfNums_data, h]
  clear h
  induction xs generalizing ys with
  | nil => cases ys with
    | nil => rfl
    | cons y ys => simp at h1
  | cons x xs ih => cases ys with
    | nil => simp at h1
    | cons y ys =>
      simp only [List.map_cons, List.cons.injEq] at h1
      have a := hx x (by simp)
      have b := hy y (by simp)
      have e : (UInt8.ofNat x.toNat).toNat = (UInt8.ofNat y.toNat).toNat := by rw [h1.1]
      simp only [UInt8.toNat_ofNat'] at e
      have hxy : x = y := by omega
      rw [hxy, ih (fun n hn => hx n (by simp [hn])) (fun n hn => hy n (by simp [hn])) h1.2]
theorem sameBytes_any (a : Option Addr) (len cap : Nat) (xs : List Int) (a2 : Option Addr) (len2 cap2 : Nat) (ys : List Int) (w : World) (h : Rd w a len cap xs) (h2 : Rd w a2 len2 cap2 ys) :
    Calls Try.prog 18 #[.slice a len cap, .slice a2 len2 cap2] w fun e w' => e = .returned (.bool (decide (xs = ys))) ∧ w = w' := by
  have k1 := h.convAny
  have k2 := h2.convAny
  have he : ((strOfNums xs).toList == (strOfNums ys).toList) = decide (xs = ys) := by
    by_cases hxy : xs = ys
    · subst hxy; simp
    · rw [decide_eq_false hxy]
      have : strOfNums xs ≠ strOfNums ys := fun hh => hxy (strOfNums_inj h.hb h2.hb hh)
      rw [beq_eq_false_iff_ne]
      intro hh
      rw [ByteArray.toList_eq, ByteArray.toList_eq] at hh
      exact this (ByteArray.ext (Array.toList_inj.1 hh))
  have He := Lib.hid he
  clear he h h2
  go_enter Try.func18, Try.ntmps18
  go_wp2
  go_ret
  rw [← He.out]
  exact ⟨rfl, rfl⟩
theorem Try.sizeRaw (u v x : Value) : (Try.prog.info? 28).map (·.size) = some (#[u, v, x] : Array Value).size := by kernel_rfl
theorem oneRaw (n m : Int) (a : Option Addr) (l c : Nat) : (#[.slice a l c, .int .i64 n, .int .i64 m] : Array Value).all (fun x => x.oneCell') = true := by kernel_rfl
theorem own_snoc {W W' : World} {B : Nat} {v v' : Value} {acc : List Int} {x : Int} (ho : Own W B v acc) (h0 : 0 ≤ x) (h1 : x ≤ 255) (h : W'.ownsRow B 5 1 v' (acc.length + 1) (acc.map (Value.int .u8) ++ [.int .u8 x])) : Own W' B v' (acc ++ [x]) := by
  refine ⟨by simpa using h, fun n hn => ?_⟩
  rcases List.mem_append.1 hn with hn | hn
  · exact ho.2 n hn
  · obtain rfl : n = x := by simpa using hn
    exact ⟨h0, h1⟩
set_option maxRecDepth 100000 in
set_option maxHeartbeats 1000000 in
theorem refVar_any (n : Int) (w : World) (h2 : n ≤ 9223372036854775807) :
    Calls Try.prog 26 #[.int .i64 n] w fun e w' => ∃ v, e = .returned (.agg #[v, .int .i64 (varV n).length, .int .i64 (varE n)]) ∧ Own w' w.heap.size v (varV n) ∧ Below w.heap.size w w' := by
  have hg0 := heap_alloc_last w (.cells #[.slice none 0 0, .int .i64 0, .int .i64 0] 28)
  by_cases h : n < 0
  · have hE : varE n = 24 := by unfold varE; rw [if_pos h]
    have hV : varV n = [] := by unfold varV; rw [if_pos h]
    rw [hE, hV]
    have Hg := Lib.hid hg0
    clear hE hV hg0
    go_enter Try.func26, Try.ntmps26
    go_wp2_with (refine wpList_store_row rfl 28 (.tmp 2) (.tmp 6) rfl w.heap.size #[.slice none 0 0, .int .i64 0, .int .i64 24] rfl rfl 28 #[.slice none 0 0, .int .i64 0, .int .i64 0] Hg.out (Try.sizeRaw _ _ _) rfl (oneRaw _ _ _ _ _) ?_)
    refine bodyPost_ret (v := .agg #[.slice none 0 0, .int .i64 0, .int .i64 24]) ?_ rfl ?_
    · exact results_cell_row rfl _ _ w.heap.size 28 #[.slice none 0 0, .int .i64 0, .int .i64 24] (0, 0) _ rfl (setRow_heap _ _ _ _ _ _ Hg.out) Try.underlying28 rfl (Try.sizeRaw _ _ _)
    · exact ⟨_, rfl, Own.nil _ _, ((Below.refl _ w).alloc (Nat.le_refl _) _).trans (below_setRow' _ _ _ _ (Nat.le_refl _))⟩
  · have hE : varE n = 0 := by unfold varE; rw [if_neg h]
    have hV : varV n = varB n := by unfold varV; rw [if_neg h]
    rw [hE, hV]
    have HI := Lib.hid (info_parts Try.infoB)
    obtain ⟨W0, hW0⟩ : ∃ W0, W0 = w.alloc (.cells #[.slice none 0 0, .int .i64 0, .int .i64 0] 28) := ⟨_, rfl⟩
    have hs0 : W0.heap.size = w.heap.size + 1 := by rw [hW0]; simp
    have Hb0 : Hid (Below w.heap.size w W0) := Lib.hid (by rw [hW0]; exact (Below.refl _ w).alloc (Nat.le_refl _) _)
    rw [← hW0] at hg0
    have HW0 := Lib.hid hW0
    have Hg := Lib.hid hg0
    have hvl := (varB_len n).2
    have Hvl := Lib.hid hvl
    have h0 : 0 ≤ n := by omega
    clear hE hV hg0 h hvl hW0
    go_enter Try.func26, Try.ntmps26
    go_wp2_with fail
    rw [← HW0.out]
    clear HW0
    go_loopw [0, 3] (fun s0 s3 wr => ∃ (m : Int) (f : Nat) (acc : List Int), s0 = .int .i64 m ∧ 0 ≤ m ∧ m < 128 ^ (f + 1) ∧ m ≤ 9223372036854775807 ∧ Own wr W0.heap.size s3 acc ∧ varB n = acc ++ varL f m ∧ Below W0.heap.size W0 wr) (fun s0 _ _ => (intOf s0).toNat)
    case atStart => exact ⟨n, 8, [], rfl, h0, by have : (128 : Int) ^ (8 + 1) = 9223372036854775808 := by decide
                                                 omega, h2, Own.nil _ _, rfl, Below.refl _ _⟩
    case round =>
      obtain ⟨m, f, acc, rfl, hm0, hm1, hm2, hown, hx, hb⟩ := hrel
      have hvl := Hvl.out
      rw [hx, List.length_append] at hvl
      have hvl2 := (varL_len f m).1
      have hB := hb.size
      have Hb := Lib.hid hb
      have Ho := Lib.hid hown
      have hal : acc.length + 1 ≤ 9 := by omega
      by_cases hbig : 128 ≤ m
      · obtain ⟨f, rfl⟩ : ∃ f', f = f' + 1 := by
          cases f with
          | zero => simp at hm1; omega
          | succ f => exact ⟨f, rfl⟩
        have hstep : varL (f + 1) m = (128 + m % 128) :: varL f (m / 128) := by rw [varL, if_pos hbig]
        have Hx : Hid (varB n = (acc ++ [128 + m % 128]) ++ varL f (m / 128)) := Lib.hid (by rw [hx, hstep]; simp)
        have Hp : Hid (m / 128 < 128 ^ (f + 1)) := Lib.hid (by rw [Int.pow_succ] at hm1; omega)
        clear hx hstep hm1 hvl hvl2 hb hown
        go_wp2_with (at_builtin; go_must (obtain ⟨i0, hi, hz0, hz1, hz2⟩ := HI.out; refine wpList_append_lies _ rfl _ _ 22 rfl W0.heap.size 5 i0 (.int .u8 0) 1 1 Try.underlying22 hi hz0 hz1 hz2 rfl (by decide) _ _ _ rfl (Ho.out.1.alloc _) ⟨wr.heap.size, 0, none⟩ 1 1 [.int .u8 (128 + m % 128)] rfl rfl (World.news_of_block (cs := #[.int .u8 (128 + m % 128)]) (t := 5) (fr := (0, 0)) (heap_alloc_new wr _)) (by simp [Value.oneCell']) (by omega) (by unfold maxLen; omega) (by omega) (by simp; omega) (wr.heap.size + 1) (by simp) ?_; clear hi hz0 hz1 hz2; intro g cap w3 hown hgrow hat hlt))
        have hb3 := (Hb.out.alloc hB (.cells #[.int .u8 (128 + m % 128)] 5)).grown hgrow (by simp; omega) (fun k hk => (Ho.out.1.lt k hk).1)
        have ho3 := own_snoc Ho.out (by omega : 0 ≤ 128 + m % 128) (by omega) hown
        have Hb3 := Lib.hid hb3
        have Ho3 := Lib.hid ho3
        clear hb3 ho3 hown hgrow
        go_roundw
        case rel => exact ⟨m / 128, f, acc ++ [128 + m % 128], rfl, by omega, Hp.out, by omega, Ho3.out, Hx.out, Hb3.out⟩
        case measure => simp [intOf]; omega
      · have hx' : varB n = acc ++ [m] := by
          rw [hx]; cases f with
          | zero => rfl
          | succ f => rw [varL, if_neg hbig]
        have Hx := Lib.hid hx'
        have hlen : (varB n).length = acc.length + 1 := by rw [hx']; simp
        obtain ⟨a1, c1, rfl, _⟩ := Ho.out.rd
        have Hlen := Lib.hid hlen
        clear hx hx' hm1 hvl hvl2 hb hown hlen
        go_wp2_with (first
          | (at_builtin; obtain ⟨i0, hi, hz0, hz1, hz2⟩ := HI.out; refine wpList_append_lies _ rfl _ _ 22 rfl W0.heap.size 5 i0 (.int .u8 0) 1 1 Try.underlying22 hi hz0 hz1 hz2 rfl (by decide) _ _ _ rfl (Ho.out.1.alloc _) ⟨wr.heap.size, 0, none⟩ 1 1 [.int .u8 m] rfl rfl (World.news_of_block (cs := #[.int .u8 m]) (t := 5) (fr := (0, 0)) (heap_alloc_new wr _)) (by simp [Value.oneCell']) (by omega) (by unfold maxLen; omega) (by omega) (by simp; omega) (wr.heap.size + 1) (by simp) ?_; clear hi hz0 hz1 hz2; intro g cap w3 hown hgrow hat hlt; have hb3 := (Hb.out.alloc hB (.cells #[.int .u8 m] 5)).grown hgrow (by simp; omega) (fun k hk => (Ho.out.1.lt k hk).1); have hg3 := (hb3.block w.heap.size (by omega)).trans Hg.out)
          | (refine wpList_store_row rfl 28 (.tmp 2) (.tmp 26) rfl w.heap.size #[.slice (some ⟨g, 0, none⟩) (acc.length + 1) cap, .int .i64 ((acc.length : Int) + 1), .int .i64 0] rfl rfl 28 #[.slice none 0 0, .int .i64 0, .int .i64 0] hg3 (Try.sizeRaw _ _ _) rfl (oneRaw _ _ _ _ _) ?_))
        have ho3 := own_snoc Ho.out hm0 (by omega) hown
        refine bodyPost_ret (v := .agg #[.slice (some ⟨g, 0, none⟩) (acc.length + 1) cap, .int .i64 ((acc.length : Int) + 1), .int .i64 0]) ?_ rfl ?_
        · exact results_cell_row rfl _ _ w.heap.size 28 #[.slice (some ⟨g, 0, none⟩) (acc.length + 1) cap, .int .i64 ((acc.length : Int) + 1), .int .i64 0] (0, 0) _ rfl (setRow_heap _ _ _ _ _ _ hg3) Try.underlying28 rfl (Try.sizeRaw _ _ _)
        · refine ⟨.slice (some ⟨g, 0, none⟩) (acc.length + 1) cap, ?_, ?_, (Hb0.out.trans (hb3.mono (by omega))).trans (below_setRow' _ _ _ _ (Nat.le_refl _))⟩
          · rw [Hlen.out]; rfl
          · rw [Hx.out]; exact (ho3.setRow (by omega) _).mono (by omega)
end Go.Proofs.Ytmfijcniaehooaa

/- Whether bytes begin with others. -/
namespace Go.Proofs.Ytmfijcniaehooaa
set_option linter.unusedVariables false
open Go.RowKit

theorem Rd.takeL {w : World} {a : Option Addr} {len cap : Nat} {xs : List Int} (h : Rd w a len cap xs) (m : Nat) (hm : m ≤ len) : Rd w a m cap (xs.take m) := by
  have hl := h.hl
  have hc := h.hc
  refine ⟨by simp [hl]; omega, by omega, h.hm, fun n hn => h.hb n (List.mem_of_mem_take hn), h.hn, fun h0 => ?_⟩
  obtain ⟨b, off, rfl, hcell⟩ := h.hr (by omega)
  refine ⟨b, off, rfl, fun i hi => ?_⟩
  rw [hcell i (by omega), getD_at _ _ (by omega), getD_at _ _ (by simp [hl]; omega)]
  simp
theorem Own.rdzL {w : World} {B m : Nat} {v : Value} {xs : List Int} (h : Own w B v xs) (hm : xs.length = m) : ∃ a cap, v = .slice a m cap ∧ Rd w a m cap xs := by subst hm; exact h.rd
theorem Rd.drewN {w : World} {a : Option Addr} {len cap : Nat} {xs : List Int} (h : Rd w a len cap xs) (n : Nat) : Rd (w.drewN n) a len cap xs := ⟨h.hl, h.hc, h.hm, h.hb, h.hn, h.hr⟩
theorem Rd.drew {w : World} {a : Option Addr} {len cap : Nat} {xs : List Int} (h : Rd w a len cap xs) : Rd w.drew a len cap xs := ⟨h.hl, h.hc, h.hm, h.hb, h.hn, h.hr⟩
theorem str_eq {xs ys : List Int} (hx : ∀ n ∈ xs, 0 ≤ n ∧ n ≤ 255) (hy : ∀ n ∈ ys, 0 ≤ n ∧ n ≤ 255) : ((strOfNums xs).toList == (strOfNums ys).toList) = decide (xs = ys) := by
  by_cases hxy : xs = ys
  · subst hxy; simp
  · rw [decide_eq_false hxy]
    have : strOfNums xs ≠ strOfNums ys := fun hh => hxy (strOfNums_inj hx hy hh)
    rw [beq_eq_false_iff_ne]
    intro hh
    rw [ByteArray.toList_eq, ByteArray.toList_eq] at hh
    exact this (ByteArray.ext (Array.toList_inj.1 hh))
set_option maxRecDepth 100000 in
set_option maxHeartbeats 1000000 in
theorem begins_any (a : Option Addr) (len cap : Nat) (xs : List Int) (a2 : Option Addr) (len2 cap2 : Nat) (ys : List Int) (w : World) (h : Rd w a len cap xs) (h2 : Rd w a2 len2 cap2 ys) :
    Calls Try.prog 56 #[.slice a len cap, .slice a2 len2 cap2] w fun e w' => e = .returned (.bool (decide (ys <+: xs))) ∧ ∃ n, w' = w.drewN n := by
  have hl := h.hl
  have hl2 := h2.hl
  have hm := h.hm
  have hc := h.hc
  have hm2 := h2.hm
  unfold maxLen at hm hm2
  have hc2 := h2.hc
  by_cases hle : len2 ≤ len
  · have k1 := fun n => ((h.takeL len2 hle).drewN n).convAny
    have k2 := fun n => (h2.drewN n).convAny
    have he := str_eq (h.takeL len2 hle).hb h2.hb
    have hp : decide (xs.take len2 = ys) = decide (ys <+: xs) := by
      rw [decide_eq_decide, List.prefix_iff_eq_take, hl2]
      exact ⟨fun h => h.symm, fun h => h.symm⟩
    rw [hp] at he
    have He := Lib.hid he
    have hd : decide ((len2 : Int) ≤ (len : Int)) = true := by simp; omega
    clear he hp h h2 hl hl2
    have hle' : len2 ≤ cap := by omega
    go_enter Try.func56, Try.ntmps56
    go_wp2
    go_quiet (fail)
    go_wp2
    go_ret
    rw [← He.out]
    exact ⟨rfl, _, rfl⟩
  · have hp : decide (ys <+: xs) = false := by
      rw [decide_eq_false_iff_not]
      intro hh
      have := hh.length_le
      omega
    rw [hp]
    have hd : decide ((len2 : Int) ≤ (len : Int)) = false := by simp; omega
    clear h h2 hl hl2 hp
    go_enter Try.func56, Try.ntmps56
    go_wp2
    go_quiet (fail)
    go_wp2
    go_ret
    exact ⟨rfl, _, rfl⟩
end Go.Proofs.Ytmfijcniaehooaa

/- The reference's Size, of a layout that is valid. -/
namespace Go.Proofs.Ytmfijcniaehooaa
set_option linter.unusedVariables false
open Go.RowKit

theorem Try.sizeSizes (u v : Value) : (Try.prog.info? 57).map (·.size) = some (#[u, v] : Array Value).size := by kernel_rfl
theorem oneSizes (u v : Int) : (#[.int .i64 u, .int .i64 v] : Array Value).all (fun x => x.oneCell') = true := by kernel_rfl
theorem sizes_set {w : World} {g i : Nat} {t : TypeId} {cs : Array Value} (h : w.heap[g]? = some (.cells cs t (0, 0))) (x : Value) (B : Nat) (hB : B ≤ g) :
    ∃ W, w.setCell ⟨g, i, none⟩ x = W ∧ W.heap[g]? = some (.cells (cs.setIfInBounds i x) t (0, 0)) ∧ Below B w W ∧ (∀ k, k ≠ g → W.heap[k]? = w.heap[k]?) :=
  ⟨_, rfl, heap_setCell_same _ _ _ _ _ _ h, (Below.refl B w).setCell (p := ⟨g, i, none⟩) hB x, fun k hk => heap_setCell_other w ⟨g, i, none⟩ k x hk⟩
theorem run_field_raw1 (a : Option Addr) (l c : Nat) (z e : Int) (w : World) : (Instr.field 28 (.agg #[.slice a l c, .int .i64 z, .int .i64 e]) 1).run Try.prog w = .ok (.int .i64 z) w := by kernel_rfl
theorem varV_len9 (n : Int) (h : 0 ≤ n) (h4 : n ≤ 4096) : (varV n).length ≤ 9 := by
  unfold varV; split
  · simp
  · exact (varB_len _).2
set_option maxRecDepth 100000 in
set_option maxHeartbeats 8000000 in
theorem refSize_ok (a : Option Addr) (len cap : Nat) (fs : List Fld) (w : World) (h : RdF w a len cap fs) (hch : checkV fs = 0) :
    Calls Try.prog 41 #[.slice a len cap] w fun e w' => e = .returned (.agg #[.int .i64 (loL fs), .int .i64 (hiL fs)]) ∧ Below w.heap.size w w' := by
  have hc := h.hc
  have hm := h.hm
  have hl := h.hl
  unfold maxLen at hm
  have h64 : len ≤ 64 := by have := (checkV_ok hch).1; omega
  obtain ⟨Wa, hWa⟩ : ∃ Wa, Wa = w.alloc (.cells #[.int .i64 0, .int .i64 0] 57) := ⟨_, rfl⟩
  have hsa : Wa.heap.size = w.heap.size + 1 := by rw [hWa]; simp
  have h2a : Wa.heap[w.heap.size]? = some (.cells #[.int .i64 0, .int .i64 0] 57 (0, 0)) := by rw [hWa, heap_alloc_last]
  obtain ⟨W0, hW0⟩ : ∃ W0, W0 = Wa.alloc (.cells #[.int .i64 0, .int .i64 0] 57) := ⟨_, rfl⟩
  have hs0 : W0.heap.size = w.heap.size + 2 := by rw [hW0]; simp [hsa]
  have h30 : W0.heap[w.heap.size + 1]? = some (.cells #[.int .i64 0, .int .i64 0] 57 (0, 0)) := by rw [hW0, ← hsa, heap_alloc_last]
  have h20 : W0.heap[w.heap.size]? = some (.cells #[.int .i64 0, .int .i64 0] 57 (0, 0)) := by rw [hW0, heap_alloc_old _ _ _ (by omega)]; exact h2a
  have hb0 : Below w.heap.size w W0 := by rw [hW0, hWa]; exact ((Below.refl _ w).alloc (Nat.le_refl _) _).alloc (by simp) _
  have Hl := Lib.hid hl
  have H := Lib.hid h
  have Hch := Lib.hid hch
  have HWa := Lib.hid hWa
  have HW0 := Lib.hid hW0
  have H30 := Lib.hid h30
  have H20 := Lib.hid h20
  have Hb0 := Lib.hid hb0
  have Hsa := Lib.hid hsa
  clear h hl hch hWa hW0 hsa h2a hs0 h30 h20 hb0
  go_enter Try.func41, Try.ntmps41
  go_upto_region 1 with fail
  rw [← HWa.out]
  go_upto_region 2 with fail
  rw [← HW0.out, Hsa.out]
  clear HWa HW0 Hsa
  go_wp2_with fail
  go_loopw [4] (fun i wr => ∃ k : Nat, k ≤ len ∧ i = .int .i64 k ∧ wr.heap[w.heap.size + 1]? = some (.cells #[.int .i64 (loL (fs.take k)), .int .i64 (hiL (fs.take k))] 57 (0, 0)) ∧ wr.heap[w.heap.size]? = some (.cells #[.int .i64 0, .int .i64 0] 57 (0, 0)) ∧ Below w.heap.size w wr) (fun i _ => len - (intOf i).toNat)
  case atStart => exact ⟨0, Nat.zero_le _, rfl, H30.out, H20.out, Hb0.out⟩
  case round =>
    obtain ⟨k, hk, rfl, h3, h2, hb⟩ := hrel
    have hbd := sizeL_bd (fs.take k) (fun f hf => (checkV_ok Hch.out).2 f (List.mem_of_mem_take hf))
    have hkl : (fs.take k).length ≤ k := List.length_take_le _ _
    obtain ⟨lo, hlo⟩ : ∃ n, n = loL (fs.take k) := ⟨_, rfl⟩
    obtain ⟨hi, hhi⟩ : ∃ n, n = hiL (fs.take k) := ⟨_, rfl⟩
    rw [← hlo, ← hhi] at hbd h3
    obtain ⟨b1, b2, b3, b4⟩ := hbd
    have b5 : lo ≤ 262720 := by omega
    have b6 : hi ≤ 262720 := by omega
    have H3 := Lib.hid h3
    have H2 := Lib.hid h2
    have Hb := Lib.hid hb
    clear H30 H20 Hb0
    by_cases hlt : k < len
    · have hF := H.out.below hb (Nat.le_refl _)
      obtain ⟨b, off, rfl, hcell⟩ := hF.hr (by omega)
      obtain ⟨c0, c1, c2⟩ := hcell k hlt
      have hblt : b < w.heap.size := by
        obtain ⟨b', off', e', hc'⟩ := H.out.hr (by omega)
        cases e'
        exact World.block_lt_of_cell? w _ (hc' k hlt).1
      have hl1 := Hl.out
      have hgd : fs.getD k default = fs[k]'(by omega) := by simp [List.getD, hl1, hlt]
      obtain ⟨f, hf⟩ : ∃ f, f = fs.getD k default := ⟨_, rfl⟩
      rw [← hf] at c0 c1 c2 hgd
      have hfm : f ∈ fs := by rw [hgd]; exact List.getElem_mem _
      have hts : fs.take (k + 1) = fs.take k ++ [f] := by rw [List.take_succ_eq_append_getElem (by omega), hgd]
      have hlo2 : loL (fs.take (k + 1)) = lo + loV f.kind f.width := by rw [hts, loL_snoc, hlo]
      have hhi2 : hiL (fs.take (k + 1)) = hi + hiV f.kind f.width := by rw [hts, hiL_snoc, hhi]
      have hok := (checkV_ok Hch.out).2 f hfm
      obtain ⟨g1, g5, g6, g7⟩ := fld_bd hok
      obtain ⟨nm, kd, wd⟩ := f
      simp only at hlo2 hhi2 g1 g5 g6 g7 c0 c1 c2
      have Hlo := Lib.hid hlo2
      have Hhi := Lib.hid hhi2
      clear hF hcell hfm hl1 hlo hhi hlo2 hhi2 hts hok hgd hf hb hkl h3 h2
      have x0 : wr.cell? ⟨w.heap.size + 1, 0, none⟩ = some (.int .i64 lo) := by rw [cell_of_row _ _ _ _ _ _ H3.out]; rfl
      have x1 : wr.cell? ⟨w.heap.size + 1, 1, none⟩ = some (.int .i64 hi) := by rw [cell_of_row _ _ _ _ _ _ H3.out]; rfl
      have y0 := frozen_of_row wr (w.heap.size + 1) 0 _ _ H3.out
      have y1 := frozen_of_row wr (w.heap.size + 1) 1 _ _ H3.out
      by_cases q1 : kd = 1
      · subst q1
        have e1 : loV 1 wd = wd := by unfold loV; simp
        have e2 : hiV 1 wd = wd := by unfold hiV; simp
        obtain ⟨V1, v1, hv1, bv1, kv1⟩ := sizes_set (i := 0) H3.out (.int .i64 (lo + wd)) w.heap.size (by omega)
        obtain ⟨V2, v2, hv2, bv2, kv2⟩ := sizes_set (i := 1) hv1 (.int .i64 (hi + wd)) w.heap.size (by omega)
        have HN3 : Hid (V2.heap[w.heap.size + 1]? = some (.cells #[.int .i64 (loL (fs.take (k + 1))), .int .i64 (hiL (fs.take (k + 1)))] 57 (0, 0))) := Lib.hid (by rw [Hlo.out, Hhi.out, e1, e2]; exact hv2)
        have HN2 : Hid (V2.heap[w.heap.size]? = some (.cells #[.int .i64 0, .int .i64 0] 57 (0, 0))) := Lib.hid ((kv2 _ (by omega)).trans ((kv1 _ (by omega)).trans H2.out))
        have HNB : Hid (Below w.heap.size w V2) := Lib.hid ((Hb.out.trans bv1).trans bv2)
        have x1v : V1.cell? ⟨w.heap.size + 1, 1, none⟩ = some (.int .i64 hi) := by rw [cell_of_row _ _ _ _ _ _ hv1]; rfl
        have y1v := frozen_of_row V1 (w.heap.size + 1) 1 _ _ hv1
        have c2v : V1.cell? ⟨b, off + k * 3 + 2, none⟩ = some (.int .i64 wd) := (bv1.cell (p := ⟨b, off + k * 3 + 2, none⟩) hblt).trans c2
        have E1 := Lib.hid v1
        have E2 := Lib.hid v2
        clear v1 bv1 kv1 v2 hv2 bv2 kv2 H3 H2 Hb e1 e2
        clear hv1
        go_upto_region 6 with fail
        go_still_tail 9, (by kernel_rfl)
        change wpList _ _ _ _ _ wr.drew
        have x0d : wr.drew.cell? ⟨w.heap.size + 1, 0, none⟩ = some (.int .i64 lo) := x0
        have y0d : wr.drew.frozen? ⟨w.heap.size + 1, 0, none⟩ = false := y0
        go_upto_region 7 with fail
        rw [E1.out]
        clear E1 x0 x1 y0 y1 x0d y0d
        obtain ⟨U1, hU1⟩ : ∃ U, U = V1.drew := ⟨_, rfl⟩
        rw [← hU1]
        have x1d : U1.cell? ⟨w.heap.size + 1, 1, none⟩ = some (.int .i64 hi) := by rw [hU1]; exact x1v
        have y1d : U1.frozen? ⟨w.heap.size + 1, 1, none⟩ = false := by rw [hU1]; exact y1v
        have c2d : U1.cell? ⟨b, off + k * 3 + 2, none⟩ = some (.int .i64 wd) := by rw [hU1]; exact c2v
        have HU1 := Lib.hid hU1
        clear hU1
        go_still_tail 9, (by kernel_rfl)
        change wpList _ _ _ _ _ U1.drew
        have x1e : U1.drew.cell? ⟨w.heap.size + 1, 1, none⟩ = some (.int .i64 hi) := x1d
        have y1e : U1.drew.frozen? ⟨w.heap.size + 1, 1, none⟩ = false := y1d
        have E3 : Hid (U1.setCell ⟨w.heap.size + 1, 1, none⟩ (.int .i64 (hi + wd)) = V2.drew) := Lib.hid (by rw [HU1.out, ← E2.out]; rfl)
        go_wp2_with fail
        rw [E3.out]
        go_roundw
        case rel => exact ⟨k + 1, by omega, by go_num, HN3.out, HN2.out, HNB.out.drew.drew⟩
        case measure => simp [intOf]; omega
      by_cases q2 : kd = 2
      · subst q2
        have e1 : loV 2 wd = wd := by unfold loV; simp
        have e2 : hiV 2 wd = wd := by unfold hiV; simp
        obtain ⟨V1, v1, hv1, bv1, kv1⟩ := sizes_set (i := 0) H3.out (.int .i64 (lo + wd)) w.heap.size (by omega)
        obtain ⟨V2, v2, hv2, bv2, kv2⟩ := sizes_set (i := 1) hv1 (.int .i64 (hi + wd)) w.heap.size (by omega)
        have HN3 : Hid (V2.heap[w.heap.size + 1]? = some (.cells #[.int .i64 (loL (fs.take (k + 1))), .int .i64 (hiL (fs.take (k + 1)))] 57 (0, 0))) := Lib.hid (by rw [Hlo.out, Hhi.out, e1, e2]; exact hv2)
        have HN2 : Hid (V2.heap[w.heap.size]? = some (.cells #[.int .i64 0, .int .i64 0] 57 (0, 0))) := Lib.hid ((kv2 _ (by omega)).trans ((kv1 _ (by omega)).trans H2.out))
        have HNB : Hid (Below w.heap.size w V2) := Lib.hid ((Hb.out.trans bv1).trans bv2)
        have x1v : V1.cell? ⟨w.heap.size + 1, 1, none⟩ = some (.int .i64 hi) := by rw [cell_of_row _ _ _ _ _ _ hv1]; rfl
        have y1v := frozen_of_row V1 (w.heap.size + 1) 1 _ _ hv1
        have c2v : V1.cell? ⟨b, off + k * 3 + 2, none⟩ = some (.int .i64 wd) := (bv1.cell (p := ⟨b, off + k * 3 + 2, none⟩) hblt).trans c2
        have E1 := Lib.hid v1
        have E2 := Lib.hid v2
        clear v1 bv1 kv1 v2 hv2 bv2 kv2 H3 H2 Hb e1 e2
        clear hv1
        go_upto_region 6 with fail
        go_still_tail 9, (by kernel_rfl)
        change wpList _ _ _ _ _ wr.drew
        have x0d : wr.drew.cell? ⟨w.heap.size + 1, 0, none⟩ = some (.int .i64 lo) := x0
        have y0d : wr.drew.frozen? ⟨w.heap.size + 1, 0, none⟩ = false := y0
        go_upto_region 7 with fail
        rw [E1.out]
        clear E1 x0 x1 y0 y1 x0d y0d
        obtain ⟨U1, hU1⟩ : ∃ U, U = V1.drew := ⟨_, rfl⟩
        rw [← hU1]
        have x1d : U1.cell? ⟨w.heap.size + 1, 1, none⟩ = some (.int .i64 hi) := by rw [hU1]; exact x1v
        have y1d : U1.frozen? ⟨w.heap.size + 1, 1, none⟩ = false := by rw [hU1]; exact y1v
        have c2d : U1.cell? ⟨b, off + k * 3 + 2, none⟩ = some (.int .i64 wd) := by rw [hU1]; exact c2v
        have HU1 := Lib.hid hU1
        clear hU1
        go_still_tail 9, (by kernel_rfl)
        change wpList _ _ _ _ _ U1.drew
        have x1e : U1.drew.cell? ⟨w.heap.size + 1, 1, none⟩ = some (.int .i64 hi) := x1d
        have y1e : U1.drew.frozen? ⟨w.heap.size + 1, 1, none⟩ = false := y1d
        have E3 : Hid (U1.setCell ⟨w.heap.size + 1, 1, none⟩ (.int .i64 (hi + wd)) = V2.drew) := Lib.hid (by rw [HU1.out, ← E2.out]; rfl)
        go_wp2_with fail
        rw [E3.out]
        go_roundw
        case rel => exact ⟨k + 1, by omega, by go_num, HN3.out, HN2.out, HNB.out.drew.drew⟩
        case measure => simp [intOf]; omega
      by_cases q3 : kd = 3
      · subst q3
        have e1 : loV 3 wd = 1 := by unfold loV; simp
        have e2 : hiV 3 wd = 9 := by unfold hiV; simp
        obtain ⟨V1, v1, hv1, bv1, kv1⟩ := sizes_set (i := 0) H3.out (.int .i64 (lo + 1)) w.heap.size (by omega)
        obtain ⟨V2, v2, hv2, bv2, kv2⟩ := sizes_set (i := 1) hv1 (.int .i64 (hi + 9)) w.heap.size (by omega)
        have HN3 : Hid (V2.heap[w.heap.size + 1]? = some (.cells #[.int .i64 (loL (fs.take (k + 1))), .int .i64 (hiL (fs.take (k + 1)))] 57 (0, 0))) := Lib.hid (by rw [Hlo.out, Hhi.out, e1, e2]; exact hv2)
        have HN2 : Hid (V2.heap[w.heap.size]? = some (.cells #[.int .i64 0, .int .i64 0] 57 (0, 0))) := Lib.hid ((kv2 _ (by omega)).trans ((kv1 _ (by omega)).trans H2.out))
        have HNB : Hid (Below w.heap.size w V2) := Lib.hid ((Hb.out.trans bv1).trans bv2)
        have x1v : V1.cell? ⟨w.heap.size + 1, 1, none⟩ = some (.int .i64 hi) := by rw [cell_of_row _ _ _ _ _ _ hv1]; rfl
        have y1v := frozen_of_row V1 (w.heap.size + 1) 1 _ _ hv1
        have E1 := Lib.hid v1
        have E2 := Lib.hid v2
        clear v1 hv1 bv1 kv1 v2 hv2 bv2 kv2 H3 H2 Hb e1 e2
        go_upto_region 10 with fail
        rw [E1.out]
        clear E1 x0 x1 y0 y1 c0 c1 c2
        go_wp2_with fail
        rw [E2.out]
        go_roundw
        case rel => exact ⟨k + 1, by omega, by go_num, HN3.out, HN2.out, HNB.out⟩
        case measure => simp [intOf]; omega
      by_cases q4 : kd = 4
      · subst q4
        have e1 : loV 4 wd = wd := by unfold loV; simp
        have e2 : hiV 4 wd = wd := by unfold hiV; simp
        obtain ⟨V1, v1, hv1, bv1, kv1⟩ := sizes_set (i := 0) H3.out (.int .i64 (lo + wd)) w.heap.size (by omega)
        obtain ⟨V2, v2, hv2, bv2, kv2⟩ := sizes_set (i := 1) hv1 (.int .i64 (hi + wd)) w.heap.size (by omega)
        have HN3 : Hid (V2.heap[w.heap.size + 1]? = some (.cells #[.int .i64 (loL (fs.take (k + 1))), .int .i64 (hiL (fs.take (k + 1)))] 57 (0, 0))) := Lib.hid (by rw [Hlo.out, Hhi.out, e1, e2]; exact hv2)
        have HN2 : Hid (V2.heap[w.heap.size]? = some (.cells #[.int .i64 0, .int .i64 0] 57 (0, 0))) := Lib.hid ((kv2 _ (by omega)).trans ((kv1 _ (by omega)).trans H2.out))
        have HNB : Hid (Below w.heap.size w V2) := Lib.hid ((Hb.out.trans bv1).trans bv2)
        have x1v : V1.cell? ⟨w.heap.size + 1, 1, none⟩ = some (.int .i64 hi) := by rw [cell_of_row _ _ _ _ _ _ hv1]; rfl
        have y1v := frozen_of_row V1 (w.heap.size + 1) 1 _ _ hv1
        have c2v : V1.cell? ⟨b, off + k * 3 + 2, none⟩ = some (.int .i64 wd) := (bv1.cell (p := ⟨b, off + k * 3 + 2, none⟩) hblt).trans c2
        have E1 := Lib.hid v1
        have E2 := Lib.hid v2
        clear v1 bv1 kv1 v2 hv2 bv2 kv2 H3 H2 Hb e1 e2
        clear hv1
        go_upto_region 6 with fail
        go_still_tail 9, (by kernel_rfl)
        change wpList _ _ _ _ _ wr.drew
        have x0d : wr.drew.cell? ⟨w.heap.size + 1, 0, none⟩ = some (.int .i64 lo) := x0
        have y0d : wr.drew.frozen? ⟨w.heap.size + 1, 0, none⟩ = false := y0
        go_upto_region 7 with fail
        rw [E1.out]
        clear E1 x0 x1 y0 y1 x0d y0d
        obtain ⟨U1, hU1⟩ : ∃ U, U = V1.drew := ⟨_, rfl⟩
        rw [← hU1]
        have x1d : U1.cell? ⟨w.heap.size + 1, 1, none⟩ = some (.int .i64 hi) := by rw [hU1]; exact x1v
        have y1d : U1.frozen? ⟨w.heap.size + 1, 1, none⟩ = false := by rw [hU1]; exact y1v
        have c2d : U1.cell? ⟨b, off + k * 3 + 2, none⟩ = some (.int .i64 wd) := by rw [hU1]; exact c2v
        have HU1 := Lib.hid hU1
        clear hU1
        go_still_tail 9, (by kernel_rfl)
        change wpList _ _ _ _ _ U1.drew
        have x1e : U1.drew.cell? ⟨w.heap.size + 1, 1, none⟩ = some (.int .i64 hi) := x1d
        have y1e : U1.drew.frozen? ⟨w.heap.size + 1, 1, none⟩ = false := y1d
        have E3 : Hid (U1.setCell ⟨w.heap.size + 1, 1, none⟩ (.int .i64 (hi + wd)) = V2.drew) := Lib.hid (by rw [HU1.out, ← E2.out]; rfl)
        go_wp2_with fail
        rw [E3.out]
        go_roundw
        case rel => exact ⟨k + 1, by omega, by go_num, HN3.out, HN2.out, HNB.out.drew.drew⟩
        case measure => simp [intOf]; omega
      by_cases q5 : kd = 5
      · subst q5
        have e1 : loV 5 wd = 1 := by unfold loV; simp
        have e2 : hiV 5 wd = ((varV wd).length : Int) + wd := by unfold hiV; simp
        have hn9 := varV_len9 wd g6 (by omega)
        obtain ⟨n5, hn5⟩ : ∃ n : Int, n = ((varV wd).length : Int) := ⟨_, rfl⟩
        have hn5a : 0 ≤ n5 ∧ n5 ≤ 9 := by omega
        rw [← hn5] at e2
        obtain ⟨hn5b, hn5c⟩ := hn5a
        obtain ⟨V1, v1, hv1, bv1, kv1⟩ := sizes_set (i := 0) H3.out (.int .i64 (lo + 1)) w.heap.size (by omega)
        have x1v : V1.cell? ⟨w.heap.size + 1, 1, none⟩ = some (.int .i64 hi) := by rw [cell_of_row _ _ _ _ _ _ hv1]; rfl
        have c2v : V1.cell? ⟨b, off + k * 3 + 2, none⟩ = some (.int .i64 wd) := (bv1.cell (p := ⟨b, off + k * 3 + 2, none⟩) hblt).trans c2
        have hs1 : w.heap.size + 1 < V1.heap.size := (Array.getElem?_eq_some_iff.1 hv1).1
        have H31 := Lib.hid hv1
        have H21 : Hid (V1.heap[w.heap.size]? = some (.cells #[.int .i64 0, .int .i64 0] 57 (0, 0))) := Lib.hid ((kv1 _ (by omega)).trans H2.out)
        have Hb1 : Hid (Below w.heap.size w V1) := Lib.hid (Hb.out.trans bv1)
        have hw1 : IntKind.i64.wrap (hi + n5) = hi + n5 := by rw [IntKind.wrap_i64]; omega
        have hw2 : IntKind.i64.wrap (hi + n5 + wd) = hi + n5 + wd := by rw [IntKind.wrap_i64]; omega
        have E1 := Lib.hid v1
        have EE := Lib.hid (And.intro e1 (And.intro e2 hn5))
        clear v1 hv1 bv1 kv1 H3 H2 Hb e1 e2 hn9 hn5
        go_upto_region 13 with fail
        rw [E1.out]
        clear E1 x0 x1 y0 y1 c0 c1 c2
        refine wp_region_held_drew (S := Below w.heap.size V1) (by kernel_rfl) (Below.refl _ _).drew (fun _ => ?_)
        have HS0 : Hid (Below w.heap.size V1 V1.drew) := Lib.hid (Below.refl _ _).drew
        refine wpAnyH_take (i := 0) (v := .pointer (some ⟨w.heap.size + 1, 1, none⟩)) rfl (by kernel_rfl) (by kernel_rfl) (by kernel_rfl) (fun _ _ _ h => h) (Or.inl ⟨by rfl, ?_⟩) HS0.out ?_
        · intro u hu; go_simp
        go_simp
        refine wpAnyH_take (i := 2) (v := .slice (some ⟨b, off, none⟩) len cap) rfl (by kernel_rfl) (by kernel_rfl) (by kernel_rfl) (fun _ _ _ h => h) (Or.inl ⟨by rfl, ?_⟩) HS0.out ?_
        · intro u hu; go_simp
        go_simp
        refine wpAnyH_take (i := 3) (v := .int .i64 k) rfl (by kernel_rfl) (by kernel_rfl) (by kernel_rfl) (fun _ _ _ h => h) (Or.inl ⟨by rfl, ?_⟩) HS0.out ?_
        · intro u hu; go_simp
        go_simp
        refine wpAnyH_take (i := 4) (v := .pointer (some ⟨b, off + k * 3, none⟩)) rfl (by kernel_rfl) (by kernel_rfl) (by kernel_rfl) (fun _ _ _ h => h) (Or.inl ⟨by rfl, ?_⟩) HS0.out ?_
        · intro u hu; go_simp
        go_simp
        refine wpAnyH_take (i := 5) (v := .pointer (some ⟨b, off + k * 3 + 2, none⟩)) rfl (by kernel_rfl) (by kernel_rfl) (by kernel_rfl) (fun _ _ _ h => h) (Or.inl ⟨by rfl, ?_⟩) HS0.out ?_
        · intro u hu; go_simp
        go_simp
        refine wpAnyH_take (i := 6) (v := .int .i64 wd) rfl (by kernel_rfl) (by kernel_rfl) (by kernel_rfl) (fun _ _ _ h => h) (Or.inl ⟨by rfl, ?_⟩) HS0.out ?_
        · intro u hu; have q := (hu.cell (p := ⟨b, off + k * 3 + 2, none⟩) hblt).trans c2v; go_simp
        go_simp
        refine wpAnyH_take (i := 10) (v := .slice (some ⟨b, off, none⟩) len cap) rfl (by kernel_rfl) (by kernel_rfl) (by kernel_rfl) (fun _ _ _ h => h) (Or.inl ⟨by rfl, ?_⟩) HS0.out ?_
        · intro u hu; go_simp
        go_simp
        refine wpAnyH_take (i := 11) (v := .int .i64 k) rfl (by kernel_rfl) (by kernel_rfl) (by kernel_rfl) (fun _ _ _ h => h) (Or.inl ⟨by rfl, ?_⟩) HS0.out ?_
        · intro u hu; go_simp
        go_simp
        refine wpAnyH_take (i := 12) (v := .pointer (some ⟨b, off + k * 3, none⟩)) rfl (by kernel_rfl) (by kernel_rfl) (by kernel_rfl) (fun _ _ _ h => h) (Or.inl ⟨by rfl, ?_⟩) HS0.out ?_
        · intro u hu; go_simp
        go_simp
        refine wpAnyH_take (i := 13) (v := .pointer (some ⟨b, off + k * 3 + 2, none⟩)) rfl (by kernel_rfl) (by kernel_rfl) (by kernel_rfl) (fun _ _ _ h => h) (Or.inl ⟨by rfl, ?_⟩) HS0.out ?_
        · intro u hu; go_simp
        go_simp
        refine wpAnyH_take (i := 14) (v := .int .i64 wd) rfl (by kernel_rfl) (by kernel_rfl) (by kernel_rfl) (fun _ _ _ h => h) (Or.inl ⟨by rfl, ?_⟩) HS0.out ?_
        · intro u hu; have q := (hu.cell (p := ⟨b, off + k * 3 + 2, none⟩) hblt).trans c2v; go_simp
        go_simp
        refine wpAnyH_ready (rs := [1, 7]) (by kernel_rfl) (by simp) ?_
        refine AllReadyH.cons rfl (fun K hK => ?_) (AllReadyH.cons rfl (fun K hK => ?_) AllReadyH.nil)
        · have x1d : V1.drew.cell? ⟨w.heap.size + 1, 1, none⟩ = some (.int .i64 hi) := x1v
          go_simp
          refine hK.out _ _ HS0.out (fun _ => ?_)
          clear hK K
          refine wpAnyH_ready (rs := [7]) (by kernel_rfl) (by simp) ?_
          refine AllReadyH.cons rfl (fun K hK => ?_) AllReadyH.nil
          go_simp
          refine (refVar_any wd _ (by omega)).mono ?_
          rintro e w2 ⟨v, rfl, ho, hb⟩
          obtain ⟨va, vc, rfl, -⟩ := ho.rd
          have hbd : Below V1.heap.size V1 w2 := (show Below V1.heap.size V1 V1.drew from (Below.refl _ _).drew).trans hb
          have HS2 : Hid (Below w.heap.size V1 w2) := Lib.hid (hbd.mono (by omega))
          have H32 := Lib.hid ((hbd.block _ hs1).trans H31.out)
          have H22 := Lib.hid ((hbd.block _ (by omega)).trans H21.out)
          have x1w : w2.cell? ⟨w.heap.size + 1, 1, none⟩ = some (.int .i64 hi) := by rw [cell_of_row _ _ _ _ _ _ H32.out]; rfl
          have y1w := frozen_of_row w2 (w.heap.size + 1) 1 _ _ H32.out
          have hf := fun W => run_field_raw1 va (varV wd).length vc (varV wd).length (varE wd) W
          rw [← EE.out.2.2] at hf
          clear ho hb hbd
          refine hK.out _ _ HS2.out (fun _ => ?_)
          clear hK K
          rw [← EE.out.2.2]
          refine wpAnyH_take (i := 8) (v := .int .i64 n5) rfl (by kernel_rfl) (by kernel_rfl) (by kernel_rfl) (fun _ _ _ h => h) (Or.inl ⟨by rfl, ?_⟩) HS2.out ?_
          · intro u hu; have q := hf u; go_simp
          go_simp
          refine wpAnyH_ready (rs := [9]) (by kernel_rfl) (by simp) ?_
          refine AllReadyH.cons rfl (fun K hK => ?_) AllReadyH.nil
          go_simp
          refine hK.out _ _ HS2.out (fun _ => ?_)
          clear hK K
          refine wpAnyH_ready (rs := [15]) (by kernel_rfl) (by simp) ?_
          refine AllReadyH.cons rfl (fun K hK => ?_) AllReadyH.nil
          go_simp
          refine hK.out _ _ HS2.out (fun _ => ?_)
          clear hK K
          refine wpAnyH_ready (rs := [16]) (by kernel_rfl) (by simp) ?_
          refine AllReadyH.cons rfl (fun K hK => ?_) AllReadyH.nil
          go_simp
          refine hK.out _ _ HS2.out (fun _ => ?_)
          clear hK K
          obtain ⟨V2, v2, hv2, bv2, kv2⟩ := sizes_set (i := 1) H32.out (.int .i64 (hi + n5 + wd)) w.heap.size (by omega)
          have HS3 : Hid (Below w.heap.size V1 V2) := Lib.hid (HS2.out.trans bv2)
          have HN3 : Hid (V2.heap[w.heap.size + 1]? = some (.cells #[.int .i64 (loL (fs.take (k + 1))), .int .i64 (hiL (fs.take (k + 1)))] 57 (0, 0))) := Lib.hid (by rw [Hlo.out, Hhi.out, EE.out.1, EE.out.2.1, show hi + (n5 + wd) = hi + n5 + wd by omega]; exact hv2)
          have HN2 : Hid (V2.heap[w.heap.size]? = some (.cells #[.int .i64 0, .int .i64 0] 57 (0, 0))) := Lib.hid ((kv2 _ (by omega)).trans H22.out)
          have HNB : Hid (Below w.heap.size w V2) := Lib.hid (Hb1.out.trans HS3.out)
          have E2 := Lib.hid v2
          clear v2 hv2 bv2 kv2
          refine wpAnyH_ready (rs := [17]) (by kernel_rfl) (by simp) ?_
          refine AllReadyH.cons rfl (fun K hK => ?_) AllReadyH.nil
          go_simp
          try rw [hw1, hw2]
          rw [E2.out]
          refine hK.out _ _ HS3.out (fun _ => ?_)
          clear hK K
          refine wpAnyH_done (by kernel_rfl) ?_ _
          go_wp2_with fail
          go_roundw
          case rel => exact ⟨k + 1, by omega, by go_num, HN3.out, HN2.out, HNB.out⟩
          case measure => simp [intOf]; omega
        · go_simp
          refine (refVar_any wd _ (by omega)).mono ?_
          rintro e w2 ⟨v, rfl, ho, hb⟩
          obtain ⟨va, vc, rfl, -⟩ := ho.rd
          have hbd : Below V1.heap.size V1 w2 := (show Below V1.heap.size V1 V1.drew from (Below.refl _ _).drew).trans hb
          have HS2 : Hid (Below w.heap.size V1 w2) := Lib.hid (hbd.mono (by omega))
          have H32 := Lib.hid ((hbd.block _ hs1).trans H31.out)
          have H22 := Lib.hid ((hbd.block _ (by omega)).trans H21.out)
          have x1w : w2.cell? ⟨w.heap.size + 1, 1, none⟩ = some (.int .i64 hi) := by rw [cell_of_row _ _ _ _ _ _ H32.out]; rfl
          have y1w := frozen_of_row w2 (w.heap.size + 1) 1 _ _ H32.out
          have hf := fun W => run_field_raw1 va (varV wd).length vc (varV wd).length (varE wd) W
          rw [← EE.out.2.2] at hf
          clear ho hb hbd
          refine hK.out _ _ HS2.out (fun _ => ?_)
          clear hK K
          rw [← EE.out.2.2]
          refine wpAnyH_take (i := 8) (v := .int .i64 n5) rfl (by kernel_rfl) (by kernel_rfl) (by kernel_rfl) (fun _ _ _ h => h) (Or.inl ⟨by rfl, ?_⟩) HS2.out ?_
          · intro u hu; have q := hf u; go_simp
          go_simp
          refine wpAnyH_ready (rs := [1]) (by kernel_rfl) (by simp) ?_
          refine AllReadyH.cons rfl (fun K hK => ?_) AllReadyH.nil
          go_simp
          refine hK.out _ _ HS2.out (fun _ => ?_)
          clear hK K
          refine wpAnyH_ready (rs := [9]) (by kernel_rfl) (by simp) ?_
          refine AllReadyH.cons rfl (fun K hK => ?_) AllReadyH.nil
          go_simp
          refine hK.out _ _ HS2.out (fun _ => ?_)
          clear hK K
          refine wpAnyH_ready (rs := [15]) (by kernel_rfl) (by simp) ?_
          refine AllReadyH.cons rfl (fun K hK => ?_) AllReadyH.nil
          go_simp
          refine hK.out _ _ HS2.out (fun _ => ?_)
          clear hK K
          refine wpAnyH_ready (rs := [16]) (by kernel_rfl) (by simp) ?_
          refine AllReadyH.cons rfl (fun K hK => ?_) AllReadyH.nil
          go_simp
          refine hK.out _ _ HS2.out (fun _ => ?_)
          clear hK K
          obtain ⟨V2, v2, hv2, bv2, kv2⟩ := sizes_set (i := 1) H32.out (.int .i64 (hi + n5 + wd)) w.heap.size (by omega)
          have HS3 : Hid (Below w.heap.size V1 V2) := Lib.hid (HS2.out.trans bv2)
          have HN3 : Hid (V2.heap[w.heap.size + 1]? = some (.cells #[.int .i64 (loL (fs.take (k + 1))), .int .i64 (hiL (fs.take (k + 1)))] 57 (0, 0))) := Lib.hid (by rw [Hlo.out, Hhi.out, EE.out.1, EE.out.2.1, show hi + (n5 + wd) = hi + n5 + wd by omega]; exact hv2)
          have HN2 : Hid (V2.heap[w.heap.size]? = some (.cells #[.int .i64 0, .int .i64 0] 57 (0, 0))) := Lib.hid ((kv2 _ (by omega)).trans H22.out)
          have HNB : Hid (Below w.heap.size w V2) := Lib.hid (Hb1.out.trans HS3.out)
          have E2 := Lib.hid v2
          clear v2 hv2 bv2 kv2
          refine wpAnyH_ready (rs := [17]) (by kernel_rfl) (by simp) ?_
          refine AllReadyH.cons rfl (fun K hK => ?_) AllReadyH.nil
          go_simp
          try rw [hw1, hw2]
          rw [E2.out]
          refine hK.out _ _ HS3.out (fun _ => ?_)
          clear hK K
          refine wpAnyH_done (by kernel_rfl) ?_ _
          go_wp2_with fail
          go_roundw
          case rel => exact ⟨k + 1, by omega, by go_num, HN3.out, HN2.out, HNB.out⟩
          case measure => simp [intOf]; omega
      omega
    · obtain rfl : k = len := by omega
      have ht : fs.take k = fs := List.take_of_length_le (by rw [Hl.out]; omega)
      rw [ht] at hlo hhi
      have x0 : wr.cell? ⟨w.heap.size + 1, 0, none⟩ = some (.int .i64 lo) := by rw [cell_of_row _ _ _ _ _ _ H3.out]; rfl
      have x1 : wr.cell? ⟨w.heap.size + 1, 1, none⟩ = some (.int .i64 hi) := by rw [cell_of_row _ _ _ _ _ _ H3.out]; rfl
      have Hlo := Lib.hid hlo
      have Hhi := Lib.hid hhi
      clear hb hlo hhi ht hkl h3 h2
      go_wp2_with (refine wpList_store_row rfl 57 (.tmp 2) (.tmp 68) rfl w.heap.size #[.int .i64 lo, .int .i64 hi] rfl rfl 57 #[.int .i64 0, .int .i64 0] H2.out (Try.sizeSizes _ _) rfl (oneSizes _ _) ?_)
      refine bodyPost_ret (v := .agg #[.int .i64 lo, .int .i64 hi]) ?_ rfl ⟨by rw [Hlo.out, Hhi.out], Hb.out.trans (below_setRow' _ _ _ _ (Nat.le_refl _))⟩
      exact results_cell_row rfl _ _ w.heap.size 57 #[.int .i64 lo, .int .i64 hi] (0, 0) _ rfl (setRow_heap _ _ _ _ _ _ H2.out) Try.underlying57 rfl (Try.sizeSizes _ _)
end Go.Proofs.Ytmfijcniaehooaa

/- The reference's ToVar, told in plain values. -/
namespace Go.Proofs.Ytmfijcniaehooaa
set_option linter.unusedVariables false
open Go.RowKit

theorem Try.sizeNum (u v x : Value) : (Try.prog.info? 34).map (·.size) = some (#[u, v, x] : Array Value).size := by kernel_rfl
theorem oneNum (n m k : Int) : (#[.int .i64 n, .int .i64 m, .int .i64 k] : Array Value).all (fun x => x.oneCell') = true := by kernel_rfl
/-- A number of the reference. -/
def num (p : Int × Int × Int) : Ending := .returned (.agg #[.int .i64 p.1, .int .i64 p.2.1, .int .i64 p.2.2])
theorem num_eq {a b c : Int} {p : Int × Int × Int} (h : p = (a, b, c)) : Ending.returned (.agg #[.int .i64 a, .int .i64 b, .int .i64 c]) = num p := by rw [h]; rfl
theorem add_step7 (a c : Int) (k : Nat) (hk : k ≤ 8) (ha : 0 ≤ a) (ha' : a < 128 ^ k) (hx : 0 ≤ c) (hx' : c ≤ 127) :
    wrap64 (a + wrap64 (c * 2 ^ (7 * k))) = a + c * 128 ^ k ∧ 0 ≤ a + c * 128 ^ k ∧ a + c * 128 ^ k < 128 ^ (k + 1) := by
  have hp := pow7_bd k hk
  have h1 : (0 : Int) ≤ c * 128 ^ k := Int.mul_nonneg hx (by omega)
  have h2 : c * 128 ^ k ≤ 127 * 128 ^ k := Int.mul_le_mul_of_nonneg_right hx' (by omega)
  have e2 : wrap64 (c * 128 ^ k) = c * 128 ^ k := by unfold wrap64; omega
  rw [Int.pow_succ, two_128, e2]
  refine ⟨?_, by omega, by omega⟩
  unfold wrap64; omega
set_option maxRecDepth 100000 in
set_option maxHeartbeats 1000000 in
theorem refToVar_any (a : Option Addr) (len cap : Nat) (xs : List Int) (w : World) (h : Rd w a len cap xs) :
    Calls Try.prog 28 #[.slice a len cap] w fun e w' => e = num (toVarV xs) ∧ Below w.heap.size w w' := by
  obtain ⟨hl, hc, hm, hb, hn, hr⟩ := h
  unfold maxLen at hm
  have hg0 := heap_alloc_last w (.cells #[.int .i64 0, .int .i64 0, .int .i64 0] 34)
  obtain ⟨W0, hW0⟩ : ∃ W0, W0 = w.alloc (.cells #[.int .i64 0, .int .i64 0, .int .i64 0] 34) := ⟨_, rfl⟩
  have hs0 : W0.heap.size = w.heap.size + 1 := by rw [hW0]; simp
  have hb0 : Below w.heap.size w W0 := by rw [hW0]; exact (Below.refl _ w).alloc (Nat.le_refl _) _
  rw [← hW0] at hg0
  have Hb0 := Lib.hid hb0
  have HW0 := Lib.hid hW0
  have Hg := Lib.hid hg0
  have Hr := Lib.hid hr
  have Hb := Lib.hid hb
  clear hg0 hW0 hb0 hr hn hb
  go_enter Try.func28, Try.ntmps28
  go_wp2_with fail
  rw [← HW0.out]
  clear HW0
  go_loopw [3, 4] (fun t i wr => ∃ (k : Nat) (acc : Int), k ≤ 9 ∧ k ≤ len ∧ i = .int .i64 k ∧ t = .int .i64 acc ∧ 0 ≤ acc ∧ acc < 128 ^ k ∧ toVarV xs = tvL k acc ((xs.take 9).drop k) ∧ wr = W0) (fun _ i _ => 9 - (intOf i).toNat)
  case atStart => exact ⟨0, 0, by decide, Nat.zero_le _, rfl, rfl, by omega, by decide, rfl, rfl⟩
  case round =>
    obtain ⟨k, acc, hk9, hkl, rfl, rfl, ha0, ha1, hv, rfl⟩ := hrel
    by_cases h9 : k = 9
    · have Hf : Hid (toVarV xs = (0, 0, 4)) := Lib.hid (by rw [hv, List.drop_of_length_le (by simp; omega), tvL])
      clear hv
      subst h9
      go_wp2_with (refine wpList_store_row rfl 34 (.tmp 2) (.tmp 44) rfl w.heap.size #[.int .i64 0, .int .i64 0, .int .i64 4] rfl rfl 34 #[.int .i64 0, .int .i64 0, .int .i64 0] Hg.out (Try.sizeNum _ _ _) rfl (oneNum _ _ _) ?_)
      refine bodyPost_ret (v := .agg #[.int .i64 0, .int .i64 0, .int .i64 4]) ?_ rfl ?_
      · exact results_cell_row rfl _ _ w.heap.size 34 #[.int .i64 0, .int .i64 0, .int .i64 4] (0, 0) _ rfl (setRow_heap _ _ _ _ _ _ Hg.out) Try.underlying34 rfl (Try.sizeNum _ _ _)
      · exact ⟨num_eq Hf.out, Hb0.out.trans (below_setRow' _ _ _ _ (Nat.le_refl _))⟩
    · by_cases hlt : k < len
      · obtain ⟨b, off, rfl, hcell⟩ := Hr.out (by omega)
        have hcw := World.block_lt_of_cell? w _ (hcell 0 (by omega))
        have hc' : wr.cell? ⟨b, off + k, none⟩ = some (.int .u8 (xs.getD k 0)) := by rw [Hb0.out.cell (by exact hcw)]; exact hcell k hlt
        have hxb := Hb.out (xs.getD k 0) (by rw [getD_at _ _ (by omega)]; exact List.getElem_mem _)
        obtain ⟨x, hx⟩ : ∃ x, x = xs.getD k 0 := ⟨_, rfl⟩
        rw [← hx] at hc' hxb
        have hd : (xs.take 9).drop k = x :: (xs.take 9).drop (k + 1) := by
          rw [List.drop_eq_getElem_cons (by simp; omega)]
          simp only [List.getElem_take, List.cons.injEq, and_true]
          rw [hx, getD_at _ _ (by omega)]
        rw [hd] at hv
        have Hv := Lib.hid hv
        have hor := add_step7 acc (x % 128) k (by omega) ha0 ha1 (by omega) (by omega)
        clear hv hd hx hcell hl
        by_cases hB : x < 128
        · by_cases hA : x = 0 ∧ 0 < k
          · have Hf : Hid (toVarV xs = (0, 0, 4)) := Lib.hid (by rw [Hv.out, tvL, if_pos hA])
            obtain ⟨hA1, hA2⟩ := hA
            subst hA1
            clear hor
            go_wp2_with (refine wpList_store_row rfl 34 (.tmp 2) (.tmp 39) rfl w.heap.size #[.int .i64 0, .int .i64 0, .int .i64 4] rfl rfl 34 #[.int .i64 0, .int .i64 0, .int .i64 0] Hg.out (Try.sizeNum _ _ _) rfl (oneNum _ _ _) ?_)
            refine bodyPost_ret (v := .agg #[.int .i64 0, .int .i64 0, .int .i64 4]) ?_ rfl ?_
            · exact results_cell_row rfl _ _ w.heap.size 34 #[.int .i64 0, .int .i64 0, .int .i64 4] (0, 0) _ rfl (setRow_heap _ _ _ _ _ _ Hg.out) Try.underlying34 rfl (Try.sizeNum _ _ _)
            · exact ⟨num_eq Hf.out, Hb0.out.trans (below_setRow' _ _ _ _ (Nat.le_refl _))⟩
          · have Hf : Hid (toVarV xs = (acc + x % 128 * 128 ^ k, (k : Int) + 1, 0)) := Lib.hid (by rw [Hv.out, tvL, if_neg hA, if_pos hB])
            have Ho := Lib.hid hor.1
            clear hor
            by_cases hx0 : x = 0
            · have hk0 : k ≤ 0 := by omega
              have e0 : (x == 0) = true := by simp [hx0]
              clear hx0 hA
              go_wp2_with (refine wpList_store_row rfl 34 (.tmp 2) (.tmp 43) rfl w.heap.size #[.int .i64 (wrap64 (acc + wrap64 (x % 128 * 2 ^ (7 * k)))), .int .i64 ((k : Int) + 1), .int .i64 0] rfl rfl 34 #[.int .i64 0, .int .i64 0, .int .i64 0] Hg.out (Try.sizeNum _ _ _) rfl (oneNum _ _ _) ?_)
              refine bodyPost_ret (v := .agg #[.int .i64 (wrap64 (acc + wrap64 (x % 128 * 2 ^ (7 * k)))), .int .i64 ((k : Int) + 1), .int .i64 0]) ?_ rfl ?_
              · exact results_cell_row rfl _ _ w.heap.size 34 #[.int .i64 (wrap64 (acc + wrap64 (x % 128 * 2 ^ (7 * k)))), .int .i64 ((k : Int) + 1), .int .i64 0] (0, 0) _ rfl (setRow_heap _ _ _ _ _ _ Hg.out) Try.underlying34 rfl (Try.sizeNum _ _ _)
              · exact ⟨num_eq (by rw [Hf.out, Ho.out]), Hb0.out.trans (below_setRow' _ _ _ _ (Nat.le_refl _))⟩
            · clear hA
              go_wp2_with (refine wpList_store_row rfl 34 (.tmp 2) (.tmp 43) rfl w.heap.size #[.int .i64 (wrap64 (acc + wrap64 (x % 128 * 2 ^ (7 * k)))), .int .i64 ((k : Int) + 1), .int .i64 0] rfl rfl 34 #[.int .i64 0, .int .i64 0, .int .i64 0] Hg.out (Try.sizeNum _ _ _) rfl (oneNum _ _ _) ?_)
              refine bodyPost_ret (v := .agg #[.int .i64 (wrap64 (acc + wrap64 (x % 128 * 2 ^ (7 * k)))), .int .i64 ((k : Int) + 1), .int .i64 0]) ?_ rfl ?_
              · exact results_cell_row rfl _ _ w.heap.size 34 #[.int .i64 (wrap64 (acc + wrap64 (x % 128 * 2 ^ (7 * k)))), .int .i64 ((k : Int) + 1), .int .i64 0] (0, 0) _ rfl (setRow_heap _ _ _ _ _ _ Hg.out) Try.underlying34 rfl (Try.sizeNum _ _ _)
              · exact ⟨num_eq (by rw [Hf.out, Ho.out]), Hb0.out.trans (below_setRow' _ _ _ _ (Nat.le_refl _))⟩
        · have Hf : Hid (toVarV xs = tvL (k + 1) (acc + x % 128 * 128 ^ k) ((xs.take 9).drop (k + 1))) := Lib.hid (by rw [Hv.out, tvL, if_neg (by omega), if_neg hB])
          have Ho := Lib.hid hor
          clear hor
          go_wp2
          go_roundw
          case rel => exact ⟨k + 1, acc + x % 128 * 128 ^ k, by omega, by omega, by go_num, by rw [Ho.out.1], Ho.out.2.1, Ho.out.2.2, Hf.out, by first | trivial | rfl⟩
          case measure => simp [intOf]; omega
      · have Hf : Hid (toVarV xs = (0, 0, 4)) := Lib.hid (by rw [hv, List.drop_of_length_le (by simp; omega), tvL])
        clear hv
        go_wp2_with (refine wpList_store_row rfl 34 (.tmp 2) (.tmp 13) rfl w.heap.size #[.int .i64 0, .int .i64 0, .int .i64 4] rfl rfl 34 #[.int .i64 0, .int .i64 0, .int .i64 0] Hg.out (Try.sizeNum _ _ _) rfl (oneNum _ _ _) ?_)
        refine bodyPost_ret (v := .agg #[.int .i64 0, .int .i64 0, .int .i64 4]) ?_ rfl ?_
        · exact results_cell_row rfl _ _ w.heap.size 34 #[.int .i64 0, .int .i64 0, .int .i64 4] (0, 0) _ rfl (setRow_heap _ _ _ _ _ _ Hg.out) Try.underlying34 rfl (Try.sizeNum _ _ _)
        · exact ⟨num_eq Hf.out, Hb0.out.trans (below_setRow' _ _ _ _ (Nat.le_refl _))⟩
end Go.Proofs.Ytmfijcniaehooaa

/- Fold and Unfold answer as the chapter says. -/
namespace Go.Proofs.Ytmfijcniaehooaa
set_option linter.unusedVariables false
open Go.RowKit

/-- The plain value of Fold. -/
def foldV (n : Int) : Int × Int :=
  if 4611686018427387903 < n ∨ n < -4611686018427387904 then (0, 24) else if n < 0 then (-2 * n - 1, 0) else (2 * n, 0)

theorem fold_any (n : Int) (w : World) (h1 : -9223372036854775808 ≤ n) (h2 : n ≤ 9223372036854775807) :
    Calls Try.prog 29 #[.int .i64 n] w fun e w' => e = .returned (.tuple #[.int .i64 (foldV n).1, .int .i64 (foldV n).2]) ∧ w = w' := by
  unfold foldV
  by_cases hb : 4611686018427387903 < n
  · rw [if_pos (.inl hb)]
    go_enter Try.func29, Try.ntmps29
    go_wp2
    go_ret2
    exact ⟨rfl, rfl⟩
  · by_cases hs : n < -4611686018427387904
    · rw [if_pos (.inr hs)]
      go_enter Try.func29, Try.ntmps29
      go_wp2
      go_ret2
      exact ⟨rfl, rfl⟩
    · rw [if_neg (by omega)]
      by_cases h0 : n < 0
      · rw [if_pos h0]
        have e2 : wrap64 (wrap64 (-2 * n) - 1) = -2 * n - 1 := by unfold wrap64; omega
        go_enter Try.func29, Try.ntmps29
        go_wp2
        go_ret2
        exact ⟨by first | rfl | (simp; done) | (simp [e2]; done), rfl⟩
      · rw [if_neg h0]
        have e1 : IntKind.i64.wrap (2 * n) = 2 * n := by rw [IntKind.wrap_i64]; omega
        go_enter Try.func29, Try.ntmps29
        go_wp2
        go_ret2
        exact ⟨by first | rfl | (simp [e1]; done), rfl⟩
/-- The plain value of Unfold. -/
def unfoldV (n : Int) : Int × Int := if n < 0 then (0, 24) else if n % 2 = 1 then (-(n / 2) - 1, 0) else (n / 2, 0)
theorem unfold_any (n : Int) (w : World) (h1 : -9223372036854775808 ≤ n) (h2 : n ≤ 9223372036854775807) :
    Calls Try.prog 31 #[.int .i64 n] w fun e w' => e = .returned (.tuple #[.int .i64 (unfoldV n).1, .int .i64 (unfoldV n).2]) ∧ w = w' := by
  unfold unfoldV
  by_cases h0 : n < 0
  · rw [if_pos h0]
    go_enter Try.func31, Try.ntmps31
    go_wp2
    go_ret2
    exact ⟨rfl, rfl⟩
  · rw [if_neg h0]
    have t1 : n.tmod 2 = n % 2 := Int.tmod_eq_emod_of_nonneg (by omega)
    have t2 : n.tdiv 2 = n / 2 := Int.tdiv_eq_ediv_of_nonneg (by omega)
    by_cases h3 : n % 2 = 1
    · rw [if_pos h3]
      have e1 : IntKind.i64.wrap (-(n / 2)) = -(n / 2) := by rw [IntKind.wrap_i64]; omega
      have e2 : IntKind.i64.wrap (-(n / 2) - 1) = -(n / 2) - 1 := by rw [IntKind.wrap_i64]; omega
      have e3 : IntKind.i64.wrap (n / 2) = n / 2 := by rw [IntKind.wrap_i64]; omega
      have e4 : IntKind.i64.wrap (n % 2) = n % 2 := by rw [IntKind.wrap_i64]; omega
      go_enter Try.func31, Try.ntmps31
      go_wp2
      go_ret2
      exact ⟨by first | rfl | (simp [e1, e2, e3]; done), rfl⟩
    · rw [if_neg h3]
      have e3 : IntKind.i64.wrap (n / 2) = n / 2 := by rw [IntKind.wrap_i64]; omega
      have e4 : IntKind.i64.wrap (n % 2) = n % 2 := by rw [IntKind.wrap_i64]; omega
      go_enter Try.func31, Try.ntmps31
      go_wp2
      go_ret2
      exact ⟨by first | rfl | (simp [e3]; done), rfl⟩
end Go.Proofs.Ytmfijcniaehooaa

/- The reference's Fold and Unfold, told in plain values. -/
namespace Go.Proofs.Ytmfijcniaehooaa
set_option linter.unusedVariables false
open Go.RowKit

theorem refFold_any (n : Int) (w : World) (h1 : -9223372036854775808 ≤ n) (h2 : n ≤ 9223372036854775807) :
    Calls Try.prog 30 #[.int .i64 n] w fun e w' => e = num ((foldV n).1, 0, (foldV n).2) ∧ Below w.heap.size w w' := by
  by_cases hb : 4611686018427387903 < n ∨ n < -4611686018427387904
  · have hv : foldV n = (0, 24) := by unfold foldV; rw [if_pos hb]
    have Hv := Lib.hid hv
    clear hv
    rcases hb with hb | hb
    · have hb2 : ¬ n < -4611686018427387904 := by omega
      have hb3 : 4611686018427387904 ≤ n := by omega
      go_enter Try.func30, Try.ntmps30
      go_wp2_with fail
      refine bodyPost_ret (results_cell_row rfl _ _ w.heap.size 34 _ (0, 0) _ rfl (heap_alloc_last w _) Try.underlying34 rfl (Try.sizeNum _ _ _)) rfl ⟨?_, (Below.refl _ w).alloc (Nat.le_refl _) _⟩
      exact num_eq (by rw [Hv.out])
    · go_enter Try.func30, Try.ntmps30
      go_wp2_with fail
      refine bodyPost_ret (results_cell_row rfl _ _ w.heap.size 34 _ (0, 0) _ rfl (heap_alloc_last w _) Try.underlying34 rfl (Try.sizeNum _ _ _)) rfl ⟨?_, (Below.refl _ w).alloc (Nat.le_refl _) _⟩
      exact num_eq (by rw [Hv.out])
  · have hb2 : ¬ n < -4611686018427387904 := by omega
    have hb3 : ¬ 4611686018427387904 ≤ n := by omega
    by_cases h0 : n < 0
    · have hv : foldV n = (-2 * n - 1, 0) := by unfold foldV; rw [if_neg hb, if_pos h0]
      have Hv := Lib.hid hv
      have h0' : ¬ 0 ≤ n := by omega
      have He : Hid (wrap64 (wrap64 (-(2 * n)) - 1) = -2 * n - 1) := Lib.hid (by unfold wrap64; omega)
      clear hv hb
      go_enter Try.func30, Try.ntmps30
      go_wp2_with fail
      refine bodyPost_ret (results_cell_row rfl _ _ w.heap.size 34 _ (0, 0) _ rfl (heap_alloc_last w _) Try.underlying34 rfl (Try.sizeNum _ _ _)) rfl ⟨?_, (Below.refl _ w).alloc (Nat.le_refl _) _⟩
      exact num_eq (by rw [Hv.out, He.out])
    · have hv : foldV n = (2 * n, 0) := by unfold foldV; rw [if_neg hb, if_neg h0]
      have Hv := Lib.hid hv
      have h0' : 0 ≤ n := by omega
      clear hv hb
      go_enter Try.func30, Try.ntmps30
      go_wp2_with fail
      refine bodyPost_ret (results_cell_row rfl _ _ w.heap.size 34 _ (0, 0) _ rfl (heap_alloc_last w _) Try.underlying34 rfl (Try.sizeNum _ _ _)) rfl ⟨?_, (Below.refl _ w).alloc (Nat.le_refl _) _⟩
      exact num_eq (by rw [Hv.out])
theorem refUnfold_any (n : Int) (w : World) (h1 : -9223372036854775808 ≤ n) (h2 : n ≤ 9223372036854775807) :
    Calls Try.prog 32 #[.int .i64 n] w fun e w' => e = num ((unfoldV n).1, 0, (unfoldV n).2) ∧ Below w.heap.size w w' := by
  by_cases h0 : n < 0
  · have Hv : Hid (unfoldV n = (0, 24)) := Lib.hid (by unfold unfoldV; rw [if_pos h0])
    go_enter Try.func32, Try.ntmps32
    go_wp2_with fail
    refine bodyPost_ret (results_cell_row rfl _ _ w.heap.size 34 _ (0, 0) _ rfl (heap_alloc_last w _) Try.underlying34 rfl (Try.sizeNum _ _ _)) rfl ⟨?_, (Below.refl _ w).alloc (Nat.le_refl _) _⟩
    exact num_eq (by rw [Hv.out])
  · have t1 : n.tmod 2 = n % 2 := Int.tmod_eq_emod_of_nonneg (by omega)
    have t2 : n.tdiv 2 = n / 2 := Int.tdiv_eq_ediv_of_nonneg (by omega)
    by_cases h3 : n % 2 = 1
    · have Hv : Hid (unfoldV n = (-(n / 2) - 1, 0)) := Lib.hid (by unfold unfoldV; rw [if_neg h0, if_pos h3])
      have h4 : ¬ n % 2 = 0 := by omega
      go_enter Try.func32, Try.ntmps32
      go_wp2_with fail
      refine bodyPost_ret (results_cell_row rfl _ _ w.heap.size 34 _ (0, 0) _ rfl (heap_alloc_last w _) Try.underlying34 rfl (Try.sizeNum _ _ _)) rfl ⟨?_, (Below.refl _ w).alloc (Nat.le_refl _) _⟩
      exact num_eq (by rw [Hv.out])
    · have Hv : Hid (unfoldV n = (n / 2, 0)) := Lib.hid (by unfold unfoldV; rw [if_neg h0, if_neg h3])
      have h4 : n % 2 = 0 := by omega
      clear h3
      go_enter Try.func32, Try.ntmps32
      go_wp2_with fail
      refine bodyPost_ret (results_cell_row rfl _ _ w.heap.size 34 _ (0, 0) _ rfl (heap_alloc_last w _) Try.underlying34 rfl (Try.sizeNum _ _ _)) rfl ⟨?_, (Below.refl _ w).alloc (Nat.le_refl _) _⟩
      exact num_eq (by rw [Hv.out])
end Go.Proofs.Ytmfijcniaehooaa

/- The reference's Fits and Width, told in plain values. -/
namespace Go.Proofs.Ytmfijcniaehooaa
set_option linter.unusedVariables false
open Go.RowKit

/-- Whether a number can be written in a width. -/
def fitsV (n w : Int) (s : Bool) : Bool := decide (widthV n s ≠ 0 ∧ widthV n s ≤ w)
theorem fits_u (n w : Int) (h2 : n ≤ 9223372036854775807) (w1 : 1 ≤ w) (w8 : w ≤ 8) : fitsV n w false = decide (0 ≤ n ∧ (w = 8 ∨ n < 256 ^ w.toNat)) := by
  unfold fitsV
  congr 1
  have hd : widthV n false = (if n < 0 then 0 else if n < 256 then 1 else if n < 65536 then 2 else if n < 16777216 then 3 else if n < 4294967296 then 4
      else if n < 1099511627776 then 5 else if n < 281474976710656 then 6 else if n < 72057594037927936 then 7 else 8) := by unfold widthV; simp
  rw [hd]
  have : w = 1 ∨ w = 2 ∨ w = 3 ∨ w = 4 ∨ w = 5 ∨ w = 6 ∨ w = 7 ∨ w = 8 := by omega
  rcases this with rfl | rfl | rfl | rfl | rfl | rfl | rfl | rfl <;> simp only [Int.reduceToNat, Int.reducePow, eq_iff_iff] <;> (repeat' split) <;> omega
theorem fits_s (n w : Int) (h1 : -9223372036854775808 ≤ n) (h2 : n ≤ 9223372036854775807) (w1 : 1 ≤ w) (w8 : w ≤ 8) : fitsV n w true = decide (w = 8 ∨ (-(256 ^ w.toNat / 2) ≤ n ∧ n < 256 ^ w.toNat / 2)) := by
  unfold fitsV
  congr 1
  have hm : (0 ≤ n ∧ mag n = n) ∨ (n < 0 ∧ mag n = -n - 1) := by unfold mag; split <;> omega
  have hd : widthV n true = (if mag n < 128 then 1 else if mag n < 32768 then 2 else if mag n < 8388608 then 3 else if mag n < 2147483648 then 4
      else if mag n < 549755813888 then 5 else if mag n < 140737488355328 then 6 else if mag n < 36028797018963968 then 7 else 8) := by unfold widthV; simp
  rw [hd]
  generalize mag n = m at *
  have : w = 1 ∨ w = 2 ∨ w = 3 ∨ w = 4 ∨ w = 5 ∨ w = 6 ∨ w = 7 ∨ w = 8 := by omega
  rcases this with rfl | rfl | rfl | rfl | rfl | rfl | rfl | rfl <;> simp only [Int.reduceToNat, Int.reducePow, Int.reduceDiv, eq_iff_iff] <;> (repeat' split) <;> omega
theorem ret_bool {b c : Bool} (h : b = true ↔ c = true) : Ending.returned (.bool b) = .returned (.bool c) := by rw [Bool.eq_iff_iff.2 h]
theorem fits_1_false (n : Int) (w : World) (h1 : -9223372036854775808 ≤ n) (h2 : n ≤ 9223372036854775807) :
    Calls Try.prog 65 #[.int .i64 n, .int .i64 1, .bool false] w fun e w' => e = .returned (.bool (fitsV n 1 false)) ∧ w = w' := by
  have Hf := Lib.hid (fits_u n 1 h2 (by decide) (by decide))
  go_enter Try.func65, Try.ntmps65
  go_wp2
  all_goals (go_ret; refine ⟨?_, rfl⟩; rw [Hf.out]; refine ret_bool ?_; simp; try omega)
theorem fits_1_true (n : Int) (w : World) (h1 : -9223372036854775808 ≤ n) (h2 : n ≤ 9223372036854775807) :
    Calls Try.prog 65 #[.int .i64 n, .int .i64 1, .bool true] w fun e w' => e = .returned (.bool (fitsV n 1 true)) ∧ w = w' := by
  have Hf := Lib.hid (fits_s n 1 h1 h2 (by decide) (by decide))
  go_enter Try.func65, Try.ntmps65
  go_wp2
  all_goals (go_ret; refine ⟨?_, rfl⟩; rw [Hf.out]; refine ret_bool ?_; simp; try omega)
theorem fits_2_false (n : Int) (w : World) (h1 : -9223372036854775808 ≤ n) (h2 : n ≤ 9223372036854775807) :
    Calls Try.prog 65 #[.int .i64 n, .int .i64 2, .bool false] w fun e w' => e = .returned (.bool (fitsV n 2 false)) ∧ w = w' := by
  have Hf := Lib.hid (fits_u n 2 h2 (by decide) (by decide))
  go_enter Try.func65, Try.ntmps65
  go_wp2
  all_goals (go_ret; refine ⟨?_, rfl⟩; rw [Hf.out]; refine ret_bool ?_; simp; try omega)
theorem fits_2_true (n : Int) (w : World) (h1 : -9223372036854775808 ≤ n) (h2 : n ≤ 9223372036854775807) :
    Calls Try.prog 65 #[.int .i64 n, .int .i64 2, .bool true] w fun e w' => e = .returned (.bool (fitsV n 2 true)) ∧ w = w' := by
  have Hf := Lib.hid (fits_s n 2 h1 h2 (by decide) (by decide))
  go_enter Try.func65, Try.ntmps65
  go_wp2
  all_goals (go_ret; refine ⟨?_, rfl⟩; rw [Hf.out]; refine ret_bool ?_; simp; try omega)
theorem fits_3_false (n : Int) (w : World) (h1 : -9223372036854775808 ≤ n) (h2 : n ≤ 9223372036854775807) :
    Calls Try.prog 65 #[.int .i64 n, .int .i64 3, .bool false] w fun e w' => e = .returned (.bool (fitsV n 3 false)) ∧ w = w' := by
  have Hf := Lib.hid (fits_u n 3 h2 (by decide) (by decide))
  go_enter Try.func65, Try.ntmps65
  go_wp2
  all_goals (go_ret; refine ⟨?_, rfl⟩; rw [Hf.out]; refine ret_bool ?_; simp; try omega)
theorem fits_3_true (n : Int) (w : World) (h1 : -9223372036854775808 ≤ n) (h2 : n ≤ 9223372036854775807) :
    Calls Try.prog 65 #[.int .i64 n, .int .i64 3, .bool true] w fun e w' => e = .returned (.bool (fitsV n 3 true)) ∧ w = w' := by
  have Hf := Lib.hid (fits_s n 3 h1 h2 (by decide) (by decide))
  go_enter Try.func65, Try.ntmps65
  go_wp2
  all_goals (go_ret; refine ⟨?_, rfl⟩; rw [Hf.out]; refine ret_bool ?_; simp; try omega)
theorem fits_4_false (n : Int) (w : World) (h1 : -9223372036854775808 ≤ n) (h2 : n ≤ 9223372036854775807) :
    Calls Try.prog 65 #[.int .i64 n, .int .i64 4, .bool false] w fun e w' => e = .returned (.bool (fitsV n 4 false)) ∧ w = w' := by
  have Hf := Lib.hid (fits_u n 4 h2 (by decide) (by decide))
  go_enter Try.func65, Try.ntmps65
  go_wp2
  all_goals (go_ret; refine ⟨?_, rfl⟩; rw [Hf.out]; refine ret_bool ?_; simp; try omega)
theorem fits_4_true (n : Int) (w : World) (h1 : -9223372036854775808 ≤ n) (h2 : n ≤ 9223372036854775807) :
    Calls Try.prog 65 #[.int .i64 n, .int .i64 4, .bool true] w fun e w' => e = .returned (.bool (fitsV n 4 true)) ∧ w = w' := by
  have Hf := Lib.hid (fits_s n 4 h1 h2 (by decide) (by decide))
  go_enter Try.func65, Try.ntmps65
  go_wp2
  all_goals (go_ret; refine ⟨?_, rfl⟩; rw [Hf.out]; refine ret_bool ?_; simp; try omega)
theorem fits_5_false (n : Int) (w : World) (h1 : -9223372036854775808 ≤ n) (h2 : n ≤ 9223372036854775807) :
    Calls Try.prog 65 #[.int .i64 n, .int .i64 5, .bool false] w fun e w' => e = .returned (.bool (fitsV n 5 false)) ∧ w = w' := by
  have Hf := Lib.hid (fits_u n 5 h2 (by decide) (by decide))
  go_enter Try.func65, Try.ntmps65
  go_wp2
  all_goals (go_ret; refine ⟨?_, rfl⟩; rw [Hf.out]; refine ret_bool ?_; simp; try omega)
theorem fits_5_true (n : Int) (w : World) (h1 : -9223372036854775808 ≤ n) (h2 : n ≤ 9223372036854775807) :
    Calls Try.prog 65 #[.int .i64 n, .int .i64 5, .bool true] w fun e w' => e = .returned (.bool (fitsV n 5 true)) ∧ w = w' := by
  have Hf := Lib.hid (fits_s n 5 h1 h2 (by decide) (by decide))
  go_enter Try.func65, Try.ntmps65
  go_wp2
  all_goals (go_ret; refine ⟨?_, rfl⟩; rw [Hf.out]; refine ret_bool ?_; simp; try omega)
theorem fits_6_false (n : Int) (w : World) (h1 : -9223372036854775808 ≤ n) (h2 : n ≤ 9223372036854775807) :
    Calls Try.prog 65 #[.int .i64 n, .int .i64 6, .bool false] w fun e w' => e = .returned (.bool (fitsV n 6 false)) ∧ w = w' := by
  have Hf := Lib.hid (fits_u n 6 h2 (by decide) (by decide))
  go_enter Try.func65, Try.ntmps65
  go_wp2
  all_goals (go_ret; refine ⟨?_, rfl⟩; rw [Hf.out]; refine ret_bool ?_; simp; try omega)
theorem fits_6_true (n : Int) (w : World) (h1 : -9223372036854775808 ≤ n) (h2 : n ≤ 9223372036854775807) :
    Calls Try.prog 65 #[.int .i64 n, .int .i64 6, .bool true] w fun e w' => e = .returned (.bool (fitsV n 6 true)) ∧ w = w' := by
  have Hf := Lib.hid (fits_s n 6 h1 h2 (by decide) (by decide))
  go_enter Try.func65, Try.ntmps65
  go_wp2
  all_goals (go_ret; refine ⟨?_, rfl⟩; rw [Hf.out]; refine ret_bool ?_; simp; try omega)
theorem fits_7_false (n : Int) (w : World) (h1 : -9223372036854775808 ≤ n) (h2 : n ≤ 9223372036854775807) :
    Calls Try.prog 65 #[.int .i64 n, .int .i64 7, .bool false] w fun e w' => e = .returned (.bool (fitsV n 7 false)) ∧ w = w' := by
  have Hf := Lib.hid (fits_u n 7 h2 (by decide) (by decide))
  go_enter Try.func65, Try.ntmps65
  go_wp2
  all_goals (go_ret; refine ⟨?_, rfl⟩; rw [Hf.out]; refine ret_bool ?_; simp; try omega)
theorem fits_7_true (n : Int) (w : World) (h1 : -9223372036854775808 ≤ n) (h2 : n ≤ 9223372036854775807) :
    Calls Try.prog 65 #[.int .i64 n, .int .i64 7, .bool true] w fun e w' => e = .returned (.bool (fitsV n 7 true)) ∧ w = w' := by
  have Hf := Lib.hid (fits_s n 7 h1 h2 (by decide) (by decide))
  go_enter Try.func65, Try.ntmps65
  go_wp2
  all_goals (go_ret; refine ⟨?_, rfl⟩; rw [Hf.out]; refine ret_bool ?_; simp; try omega)
theorem fits_8_false (n : Int) (w : World) (h1 : -9223372036854775808 ≤ n) (h2 : n ≤ 9223372036854775807) :
    Calls Try.prog 65 #[.int .i64 n, .int .i64 8, .bool false] w fun e w' => e = .returned (.bool (fitsV n 8 false)) ∧ w = w' := by
  have Hf := Lib.hid (fits_u n 8 h2 (by decide) (by decide))
  go_enter Try.func65, Try.ntmps65
  go_wp2
  all_goals (go_ret; refine ⟨?_, rfl⟩; rw [Hf.out]; refine ret_bool ?_; simp; try omega)
theorem fits_8_true (n : Int) (w : World) (h1 : -9223372036854775808 ≤ n) (h2 : n ≤ 9223372036854775807) :
    Calls Try.prog 65 #[.int .i64 n, .int .i64 8, .bool true] w fun e w' => e = .returned (.bool (fitsV n 8 true)) ∧ w = w' := by
  have Hf := Lib.hid (fits_s n 8 h1 h2 (by decide) (by decide))
  go_enter Try.func65, Try.ntmps65
  go_wp2
  all_goals (go_ret; refine ⟨?_, rfl⟩; rw [Hf.out]; refine ret_bool ?_; simp; try omega)
theorem refFits_any (n k : Int) (s : Bool) (w : World) (h1 : -9223372036854775808 ≤ n) (h2 : n ≤ 9223372036854775807) (k1 : 1 ≤ k) (k8 : k ≤ 8) :
    Calls Try.prog 65 #[.int .i64 n, .int .i64 k, .bool s] w fun e w' => e = .returned (.bool (fitsV n k s)) ∧ w = w' := by
  have : k = 1 ∨ k = 2 ∨ k = 3 ∨ k = 4 ∨ k = 5 ∨ k = 6 ∨ k = 7 ∨ k = 8 := by omega
  rcases this with rfl | rfl | rfl | rfl | rfl | rfl | rfl | rfl <;> cases s
  · exact fits_1_false n w h1 h2
  · exact fits_1_true n w h1 h2
  · exact fits_2_false n w h1 h2
  · exact fits_2_true n w h1 h2
  · exact fits_3_false n w h1 h2
  · exact fits_3_true n w h1 h2
  · exact fits_4_false n w h1 h2
  · exact fits_4_true n w h1 h2
  · exact fits_5_false n w h1 h2
  · exact fits_5_true n w h1 h2
  · exact fits_6_false n w h1 h2
  · exact fits_6_true n w h1 h2
  · exact fits_7_false n w h1 h2
  · exact fits_7_true n w h1 h2
  · exact fits_8_false n w h1 h2
  · exact fits_8_true n w h1 h2
end Go.Proofs.Ytmfijcniaehooaa

/- The reference's Suits, of a field of a layout that is valid. -/
namespace Go.Proofs.Ytmfijcniaehooaa
set_option linter.unusedVariables false
open Go.RowKit

/-- Whether an item suits. -/
def suitsV (k n width : Int) (xs : List Int) : Bool := decide (packE k n width xs = 0)
theorem suits_num (k n wd : Int) (xs : List Int) (s : Bool) (hk : (k = 1 ∧ s = false) ∨ (k = 2 ∧ s = true)) (w1 : 1 ≤ wd) (w8 : wd ≤ 8) : suitsV k n wd xs = (decide (xs.length = 0) && fitsV n wd s) := by
  unfold suitsV packE fitsV fixedE
  by_cases h : xs.length = 0
  · rcases hk with ⟨rfl, rfl⟩ | ⟨rfl, rfl⟩
    · rw [if_neg (by omega), if_pos rfl, if_neg (by omega)]
      by_cases hw : widthV n false = 0 ∨ wd < widthV n false
      · rw [if_pos hw]; simp [h]; omega
      · rw [if_neg hw]; simp [h]; omega
    · rw [if_neg (by omega), if_neg (by omega), if_pos rfl, if_neg (by omega)]
      by_cases hw : widthV n true = 0 ∨ wd < widthV n true
      · rw [if_pos hw]; simp [h]; omega
      · rw [if_neg hw]; simp [h]; omega
  · rw [if_pos (by rcases hk with ⟨rfl, _⟩ | ⟨rfl, _⟩ <;> omega)]
    simp [h]
theorem suits_var (n wd : Int) (xs : List Int) : suitsV 3 n wd xs = (decide (xs.length = 0) && decide (0 ≤ n)) := by
  unfold suitsV packE varE
  by_cases h : xs.length = 0
  · rw [if_neg (by omega), if_neg (by omega), if_neg (by omega), if_pos rfl]
    by_cases hn : n < 0
    · rw [if_pos hn]; simp [h]; omega
    · rw [if_neg hn]; simp [h]; omega
  · rw [if_pos (by omega)]; simp [h]
theorem suits_bytes (n wd : Int) (xs : List Int) : suitsV 4 n wd xs = (decide (n = 0) && decide ((xs.length : Int) = wd)) := by
  unfold suitsV packE wr4E
  by_cases h : n = 0
  · rw [if_neg (by omega), if_neg (by omega), if_neg (by omega), if_neg (by omega), if_pos rfl]
    by_cases hn : (xs.length : Int) = wd
    · rw [if_pos hn]; simp [h, hn]
    · rw [if_neg hn]; simp [h, hn]
  · rw [if_pos (by omega)]; simp [h]
theorem suits_text (n wd : Int) (xs : List Int) (hw : wd ≤ 4096) : suitsV 5 n wd xs = (decide (n = 0) && decide ((xs.length : Int) ≤ wd)) := by
  unfold suitsV packE wr5E textE
  by_cases h : n = 0
  · rw [if_neg (by omega), if_neg (by omega), if_neg (by omega), if_neg (by omega), if_neg (by omega)]
    by_cases hn : wd < xs.length
    · rw [if_pos hn]; simp [h]; omega
    · rw [if_neg hn, if_neg (by omega)]; simp [h]; omega
  · rw [if_pos (by omega)]; simp [h]
set_option maxRecDepth 100000 in
set_option maxHeartbeats 1000000 in
theorem suits_1 (nm : ByteArray) (wd n : Int) (a : Option Addr) (len cap : Nat) (xs : List Int) (w : World) (hl : xs.length = len) (hlm : len ≤ 9223372036854775807) (hn1 : -9223372036854775808 ≤ n) (hn2 : n ≤ 9223372036854775807) (w1 : 1 ≤ wd) (w8 : wd ≤ 8) :
    Calls Try.prog 74 #[.agg #[.string nm, .int .i64 1, .int .i64 wd], .agg #[.int .i64 n, .slice a len cap]] w fun e w' => e = .returned (.bool (suitsV 1 n wd xs)) ∧ Below w.heap.size w w' := by
  obtain ⟨W0, hW0⟩ : ∃ W0, W0 = (w.alloc (.cells #[.string nm, .int .i64 1, .int .i64 wd] 101)).alloc (.cells #[.int .i64 n, .slice a len cap] 52) := ⟨_, rfl⟩
  have hF : W0.heap[w.heap.size]? = some (.cells #[.string nm, .int .i64 1, .int .i64 wd] 101 (0, 0)) := by rw [hW0, heap_alloc_old _ _ _ (by simp), heap_alloc_last]
  have hX : W0.heap[w.heap.size + 1]? = some (.cells #[.int .i64 n, .slice a len cap] 52 (0, 0)) := by
    rw [hW0]; have := heap_alloc_last (w.alloc (.cells #[.string nm, .int .i64 1, .int .i64 wd] 101)) (.cells #[.int .i64 n, .slice a len cap] 52); simpa using this
  have Hb := Lib.hid (show Below w.heap.size w W0 by rw [hW0]; exact ((Below.refl _ w).alloc (Nat.le_refl _) _).alloc (by simp) _)
  have f1 : W0.cell? ⟨w.heap.size, 1, none⟩ = some (.int .i64 1) := by rw [cell_of_row _ _ _ _ _ _ hF]; rfl
  have f2 : W0.cell? ⟨w.heap.size, 2, none⟩ = some (.int .i64 wd) := by rw [cell_of_row _ _ _ _ _ _ hF]; rfl
  have x0 : W0.cell? ⟨w.heap.size + 1, 0, none⟩ = some (.int .i64 n) := by rw [cell_of_row _ _ _ _ _ _ hX]; rfl
  have x1 : W0.cell? ⟨w.heap.size + 1, 1, none⟩ = some (.slice a len cap) := by rw [cell_of_row _ _ _ _ _ _ hX]; rfl
  rw [suits_num 1 n wd xs false (by decide) w1 w8, hl]
  have HW0 := Lib.hid hW0
  clear hW0 hF hX hl
  by_cases h0 : len = 0
  · subst h0
    go_enter Try.func74, Try.ntmps74
    go_upto_region 1 with fail
    rw [← HW0.out]
    go_wp2_with fail
    refine (refFits_any n wd false _ hn1 hn2 w1 w8).mono ?_
    rintro e w2 ⟨rfl, rfl⟩
    go_wp2_with fail
    go_ret
    exact ⟨by simp, Hb.out⟩
  · have h0b : ((len : Int) == 0) = false := by simpa using h0
    have h0d : decide (len = 0) = false := by simpa using h0
    rw [h0d, Bool.false_and]
    go_enter Try.func74, Try.ntmps74
    go_upto_region 1 with fail
    rw [← HW0.out]
    go_wp2_with fail
    go_ret
    exact ⟨rfl, Hb.out⟩
set_option maxRecDepth 100000 in
set_option maxHeartbeats 1000000 in
theorem suits_2 (nm : ByteArray) (wd n : Int) (a : Option Addr) (len cap : Nat) (xs : List Int) (w : World) (hl : xs.length = len) (hlm : len ≤ 9223372036854775807) (hn1 : -9223372036854775808 ≤ n) (hn2 : n ≤ 9223372036854775807) (w1 : 1 ≤ wd) (w8 : wd ≤ 8) :
    Calls Try.prog 74 #[.agg #[.string nm, .int .i64 2, .int .i64 wd], .agg #[.int .i64 n, .slice a len cap]] w fun e w' => e = .returned (.bool (suitsV 2 n wd xs)) ∧ Below w.heap.size w w' := by
  obtain ⟨W0, hW0⟩ : ∃ W0, W0 = (w.alloc (.cells #[.string nm, .int .i64 2, .int .i64 wd] 101)).alloc (.cells #[.int .i64 n, .slice a len cap] 52) := ⟨_, rfl⟩
  have hF : W0.heap[w.heap.size]? = some (.cells #[.string nm, .int .i64 2, .int .i64 wd] 101 (0, 0)) := by rw [hW0, heap_alloc_old _ _ _ (by simp), heap_alloc_last]
  have hX : W0.heap[w.heap.size + 1]? = some (.cells #[.int .i64 n, .slice a len cap] 52 (0, 0)) := by
    rw [hW0]; have := heap_alloc_last (w.alloc (.cells #[.string nm, .int .i64 2, .int .i64 wd] 101)) (.cells #[.int .i64 n, .slice a len cap] 52); simpa using this
  have Hb := Lib.hid (show Below w.heap.size w W0 by rw [hW0]; exact ((Below.refl _ w).alloc (Nat.le_refl _) _).alloc (by simp) _)
  have f1 : W0.cell? ⟨w.heap.size, 1, none⟩ = some (.int .i64 2) := by rw [cell_of_row _ _ _ _ _ _ hF]; rfl
  have f2 : W0.cell? ⟨w.heap.size, 2, none⟩ = some (.int .i64 wd) := by rw [cell_of_row _ _ _ _ _ _ hF]; rfl
  have x0 : W0.cell? ⟨w.heap.size + 1, 0, none⟩ = some (.int .i64 n) := by rw [cell_of_row _ _ _ _ _ _ hX]; rfl
  have x1 : W0.cell? ⟨w.heap.size + 1, 1, none⟩ = some (.slice a len cap) := by rw [cell_of_row _ _ _ _ _ _ hX]; rfl
  rw [suits_num 2 n wd xs true (by decide) w1 w8, hl]
  have HW0 := Lib.hid hW0
  clear hW0 hF hX hl
  by_cases h0 : len = 0
  · subst h0
    go_enter Try.func74, Try.ntmps74
    go_upto_region 1 with fail
    rw [← HW0.out]
    go_wp2_with fail
    refine (refFits_any n wd true _ hn1 hn2 w1 w8).mono ?_
    rintro e w2 ⟨rfl, rfl⟩
    go_wp2_with fail
    go_ret
    exact ⟨by simp, Hb.out⟩
  · have h0b : ((len : Int) == 0) = false := by simpa using h0
    have h0d : decide (len = 0) = false := by simpa using h0
    rw [h0d, Bool.false_and]
    go_enter Try.func74, Try.ntmps74
    go_upto_region 1 with fail
    rw [← HW0.out]
    go_wp2_with fail
    go_ret
    exact ⟨rfl, Hb.out⟩
set_option maxRecDepth 100000 in
set_option maxHeartbeats 1000000 in
theorem suits_3 (nm : ByteArray) (wd n : Int) (a : Option Addr) (len cap : Nat) (xs : List Int) (w : World) (hl : xs.length = len) (hlm : len ≤ 9223372036854775807)  :
    Calls Try.prog 74 #[.agg #[.string nm, .int .i64 3, .int .i64 wd], .agg #[.int .i64 n, .slice a len cap]] w fun e w' => e = .returned (.bool (suitsV 3 n wd xs)) ∧ Below w.heap.size w w' := by
  obtain ⟨W0, hW0⟩ : ∃ W0, W0 = (w.alloc (.cells #[.string nm, .int .i64 3, .int .i64 wd] 101)).alloc (.cells #[.int .i64 n, .slice a len cap] 52) := ⟨_, rfl⟩
  have hF : W0.heap[w.heap.size]? = some (.cells #[.string nm, .int .i64 3, .int .i64 wd] 101 (0, 0)) := by rw [hW0, heap_alloc_old _ _ _ (by simp), heap_alloc_last]
  have hX : W0.heap[w.heap.size + 1]? = some (.cells #[.int .i64 n, .slice a len cap] 52 (0, 0)) := by
    rw [hW0]; have := heap_alloc_last (w.alloc (.cells #[.string nm, .int .i64 3, .int .i64 wd] 101)) (.cells #[.int .i64 n, .slice a len cap] 52); simpa using this
  have Hb := Lib.hid (show Below w.heap.size w W0 by rw [hW0]; exact ((Below.refl _ w).alloc (Nat.le_refl _) _).alloc (by simp) _)
  have f1 : W0.cell? ⟨w.heap.size, 1, none⟩ = some (.int .i64 3) := by rw [cell_of_row _ _ _ _ _ _ hF]; rfl
  have f2 : W0.cell? ⟨w.heap.size, 2, none⟩ = some (.int .i64 wd) := by rw [cell_of_row _ _ _ _ _ _ hF]; rfl
  have x0 : W0.cell? ⟨w.heap.size + 1, 0, none⟩ = some (.int .i64 n) := by rw [cell_of_row _ _ _ _ _ _ hX]; rfl
  have x1 : W0.cell? ⟨w.heap.size + 1, 1, none⟩ = some (.slice a len cap) := by rw [cell_of_row _ _ _ _ _ _ hX]; rfl
  rw [suits_var n wd xs, hl]
  have HW0 := Lib.hid hW0
  clear hW0 hF hX hl
  by_cases h0 : len = 0
  · subst h0
    by_cases hn : 0 ≤ n
    · have hd : decide (0 ≤ n) = true := by simpa using hn
      rw [hd]
      go_enter Try.func74, Try.ntmps74
      go_upto_region 1 with fail
      rw [← HW0.out]
      go_wp2_with fail
      go_ret
      exact ⟨rfl, Hb.out⟩
    · have hd : decide (0 ≤ n) = false := by simpa using hn
      rw [hd]
      go_enter Try.func74, Try.ntmps74
      go_upto_region 1 with fail
      rw [← HW0.out]
      go_wp2_with fail
      go_ret
      exact ⟨rfl, Hb.out⟩
  · have h0b : ((len : Int) == 0) = false := by simpa using h0
    have h0d : decide (len = 0) = false := by simpa using h0
    rw [h0d, Bool.false_and]
    go_enter Try.func74, Try.ntmps74
    go_upto_region 1 with fail
    rw [← HW0.out]
    go_wp2_with fail
    go_ret
    exact ⟨rfl, Hb.out⟩
set_option maxRecDepth 100000 in
set_option maxHeartbeats 1000000 in
theorem suits_4 (nm : ByteArray) (wd n : Int) (a : Option Addr) (len cap : Nat) (xs : List Int) (w : World) (hl : xs.length = len) (hlm : len ≤ 9223372036854775807)  :
    Calls Try.prog 74 #[.agg #[.string nm, .int .i64 4, .int .i64 wd], .agg #[.int .i64 n, .slice a len cap]] w fun e w' => e = .returned (.bool (suitsV 4 n wd xs)) ∧ Below w.heap.size w w' := by
  obtain ⟨W0, hW0⟩ : ∃ W0, W0 = (w.alloc (.cells #[.string nm, .int .i64 4, .int .i64 wd] 101)).alloc (.cells #[.int .i64 n, .slice a len cap] 52) := ⟨_, rfl⟩
  have hF : W0.heap[w.heap.size]? = some (.cells #[.string nm, .int .i64 4, .int .i64 wd] 101 (0, 0)) := by rw [hW0, heap_alloc_old _ _ _ (by simp), heap_alloc_last]
  have hX : W0.heap[w.heap.size + 1]? = some (.cells #[.int .i64 n, .slice a len cap] 52 (0, 0)) := by
    rw [hW0]; have := heap_alloc_last (w.alloc (.cells #[.string nm, .int .i64 4, .int .i64 wd] 101)) (.cells #[.int .i64 n, .slice a len cap] 52); simpa using this
  have Hb := Lib.hid (show Below w.heap.size w W0 by rw [hW0]; exact ((Below.refl _ w).alloc (Nat.le_refl _) _).alloc (by simp) _)
  have f1 : W0.cell? ⟨w.heap.size, 1, none⟩ = some (.int .i64 4) := by rw [cell_of_row _ _ _ _ _ _ hF]; rfl
  have f2 : W0.cell? ⟨w.heap.size, 2, none⟩ = some (.int .i64 wd) := by rw [cell_of_row _ _ _ _ _ _ hF]; rfl
  have x0 : W0.cell? ⟨w.heap.size + 1, 0, none⟩ = some (.int .i64 n) := by rw [cell_of_row _ _ _ _ _ _ hX]; rfl
  have x1 : W0.cell? ⟨w.heap.size + 1, 1, none⟩ = some (.slice a len cap) := by rw [cell_of_row _ _ _ _ _ _ hX]; rfl
  rw [suits_bytes n wd xs, hl]
  have HW0 := Lib.hid hW0
  clear hW0 hF hX hl
  by_cases h0 : n = 0
  · subst h0
    by_cases hn : (len : Int) = wd
    · have hd : decide ((len : Int) = wd) = true := by simpa using hn
      have hq : ((len : Int) == wd) = true := by simpa using hn
      rw [hd]
      go_enter Try.func74, Try.ntmps74
      go_upto_region 1 with fail
      rw [← HW0.out]
      go_wp2_with fail
      go_ret
      exact ⟨rfl, Hb.out⟩
    · have hd : decide ((len : Int) = wd) = false := by simpa using hn
      have hq : ((len : Int) == wd) = false := by simpa using hn
      rw [hd]
      go_enter Try.func74, Try.ntmps74
      go_upto_region 1 with fail
      rw [← HW0.out]
      go_wp2_with fail
      go_ret
      exact ⟨rfl, Hb.out⟩
  · have h0b : (n == 0) = false := by simpa using h0
    have h0d : decide (n = 0) = false := by simpa using h0
    rw [h0d, Bool.false_and]
    go_enter Try.func74, Try.ntmps74
    go_upto_region 1 with fail
    rw [← HW0.out]
    go_wp2_with fail
    go_ret
    exact ⟨rfl, Hb.out⟩
set_option maxRecDepth 100000 in
set_option maxHeartbeats 1000000 in
theorem suits_5 (nm : ByteArray) (wd n : Int) (a : Option Addr) (len cap : Nat) (xs : List Int) (w : World) (hl : xs.length = len) (hlm : len ≤ 9223372036854775807) (hw : wd ≤ 4096) :
    Calls Try.prog 74 #[.agg #[.string nm, .int .i64 5, .int .i64 wd], .agg #[.int .i64 n, .slice a len cap]] w fun e w' => e = .returned (.bool (suitsV 5 n wd xs)) ∧ Below w.heap.size w w' := by
  obtain ⟨W0, hW0⟩ : ∃ W0, W0 = (w.alloc (.cells #[.string nm, .int .i64 5, .int .i64 wd] 101)).alloc (.cells #[.int .i64 n, .slice a len cap] 52) := ⟨_, rfl⟩
  have hF : W0.heap[w.heap.size]? = some (.cells #[.string nm, .int .i64 5, .int .i64 wd] 101 (0, 0)) := by rw [hW0, heap_alloc_old _ _ _ (by simp), heap_alloc_last]
  have hX : W0.heap[w.heap.size + 1]? = some (.cells #[.int .i64 n, .slice a len cap] 52 (0, 0)) := by
    rw [hW0]; have := heap_alloc_last (w.alloc (.cells #[.string nm, .int .i64 5, .int .i64 wd] 101)) (.cells #[.int .i64 n, .slice a len cap] 52); simpa using this
  have Hb := Lib.hid (show Below w.heap.size w W0 by rw [hW0]; exact ((Below.refl _ w).alloc (Nat.le_refl _) _).alloc (by simp) _)
  have f1 : W0.cell? ⟨w.heap.size, 1, none⟩ = some (.int .i64 5) := by rw [cell_of_row _ _ _ _ _ _ hF]; rfl
  have f2 : W0.cell? ⟨w.heap.size, 2, none⟩ = some (.int .i64 wd) := by rw [cell_of_row _ _ _ _ _ _ hF]; rfl
  have x0 : W0.cell? ⟨w.heap.size + 1, 0, none⟩ = some (.int .i64 n) := by rw [cell_of_row _ _ _ _ _ _ hX]; rfl
  have x1 : W0.cell? ⟨w.heap.size + 1, 1, none⟩ = some (.slice a len cap) := by rw [cell_of_row _ _ _ _ _ _ hX]; rfl
  rw [suits_text n wd xs hw, hl]
  have HW0 := Lib.hid hW0
  clear hW0 hF hX hl
  by_cases h0 : n = 0
  · subst h0
    by_cases hn : (len : Int) ≤ wd
    · have hd : decide ((len : Int) ≤ wd) = true := by simpa using hn
      rw [hd]
      go_enter Try.func74, Try.ntmps74
      go_upto_region 1 with fail
      rw [← HW0.out]
      go_wp2_with fail
      go_ret
      exact ⟨rfl, Hb.out⟩
    · have hd : decide ((len : Int) ≤ wd) = false := by simpa using hn
      rw [hd]
      go_enter Try.func74, Try.ntmps74
      go_upto_region 1 with fail
      rw [← HW0.out]
      go_wp2_with fail
      go_ret
      exact ⟨rfl, Hb.out⟩
  · have h0b : (n == 0) = false := by simpa using h0
    have h0d : decide (n = 0) = false := by simpa using h0
    rw [h0d, Bool.false_and]
    go_enter Try.func74, Try.ntmps74
    go_upto_region 1 with fail
    rw [← HW0.out]
    go_wp2_with fail
    go_ret
    exact ⟨rfl, Hb.out⟩
theorem narrow_le {f : Fld} (h : ¬ fldBad f) (hk : f.kind = 1 ∨ f.kind = 2) : 1 ≤ f.width ∧ f.width ≤ 8 := by
  unfold fldBad at h
  have h1 : narrow f.kind = 1 := by unfold narrow; rw [if_pos hk]
  have h2 : wide f.kind = 8 := by unfold wide; rw [if_pos hk]
  omega
theorem suits_any (f : Fld) (h : ¬ fldBad f) (x : Itm) (w : World) (hx : x.Ok w) :
    Calls Try.prog 74 #[f.val, .agg #[.int .i64 x.n, .slice x.a x.len x.cap]] w fun e w' => e = .returned (.bool (suitsV f.kind x.n f.width x.xs)) ∧ Below w.heap.size w w' := by
  obtain ⟨k1, k5, w0, w4⟩ := fld_bd h
  have hl := hx.r.hl
  have hb : x.len ≤ 9223372036854775807 := by have h1 := hx.r.hc; have h2 := hx.r.hm; unfold maxLen at h2; omega
  have hk : f.kind = 1 ∨ f.kind = 2 ∨ f.kind = 3 ∨ f.kind = 4 ∨ f.kind = 5 := by omega
  obtain ⟨nm, kd, wd⟩ := f
  simp only at hk k1 k5 w0 w4
  unfold Fld.val
  rcases hk with rfl | rfl | rfl | rfl | rfl
  · have := narrow_le h (.inl rfl)
    exact suits_1 nm wd x.n x.a x.len x.cap x.xs w hl hb hx.n1 hx.n2 this.1 this.2
  · have := narrow_le h (.inr rfl)
    exact suits_2 nm wd x.n x.a x.len x.cap x.xs w hl hb hx.n1 hx.n2 this.1 this.2
  · exact suits_3 nm wd x.n x.a x.len x.cap x.xs w hl hb
  · exact suits_4 nm wd x.n x.a x.len x.cap x.xs w hl hb
  · exact suits_5 nm wd x.n x.a x.len x.cap x.xs w hl hb w4
end Go.Proofs.Ytmfijcniaehooaa

/- The reference's Width and Fixed, told in plain values. -/
namespace Go.Proofs.Ytmfijcniaehooaa
set_option linter.unusedVariables false
open Go.RowKit

set_option maxRecDepth 100000 in
set_option maxHeartbeats 1000000 in
theorem refWidth_any (n : Int) (s : Bool) (w : World) (h1 : -9223372036854775808 ≤ n) (h2 : n ≤ 9223372036854775807) :
    Calls Try.prog 24 #[.int .i64 n, .bool s] w fun e w' => e = .returned (.int .i64 (widthV n s)) ∧ w = w' := by
  have hbd := widthV_bd n s
  obtain ⟨L, hL⟩ : ∃ L, L = widthV n s := ⟨_, rfl⟩
  rw [← hL] at hbd
  have HL := Lib.hid hL
  rw [← hL]
  clear hL
  go_enter Try.func24, Try.ntmps24
  go_wp2_with fail
  go_loopw [5] (fun i wr => ∃ k : Nat, 1 ≤ k ∧ k ≤ 9 ∧ i = .int .i64 k ∧ (L = 0 ∨ (k : Int) ≤ L) ∧ wr = w) (fun i _ => 10 - (intOf i).toNat)
  case atStart => exact ⟨1, by decide, by decide, rfl, by omega, rfl⟩
  case round =>
    obtain ⟨k, k1, k9, rfl, hk, rfl⟩ := hrel
    by_cases h8 : k ≤ 8
    · have e1 : (k : Int) ≤ 8 := by omega
      have e2 : (1 : Int) ≤ (k : Int) := by omega
      go_wp2_with fail
      refine (refFits_any n k s wr h1 h2 e2 e1).mono ?_
      rintro e u1 ⟨rfl, rfl⟩
      by_cases hf : L ≠ 0 ∧ L ≤ (k : Int)
      · have hv : fitsV n k s = true := by unfold fitsV; rw [← HL.out]; exact decide_eq_true hf
        have hLk : L = (k : Int) := by omega
        rw [hv]
        go_wp2_with fail
        go_ret
        exact ⟨ret_int hLk.symm, rfl⟩
      · have hv : fitsV n k s = false := by unfold fitsV; rw [← HL.out]; exact decide_eq_false hf
        rw [hv]
        have hk2 : L = 0 ∨ ((k : Int) + 1) ≤ L := by omega
        have Hk2 := Lib.hid hk2
        clear hf hk hk2
        go_wp2_with fail
        go_roundw
        case rel => exact ⟨k + 1, by omega, by omega, by go_num, by have := Hk2.out; omega, by first | trivial | rfl⟩
        case measure => simp [intOf]; omega
    · obtain rfl : k = 9 := by omega
      have h0 : L = 0 := by omega
      have H0 := Lib.hid h0
      clear h0 hk hbd
      go_wp2_with fail
      go_ret
      exact ⟨ret_int H0.out.symm, rfl⟩
theorem byte_at (n : Int) (h1 : -9223372036854775808 ≤ n) (h2 : n ≤ 9223372036854775807) (i : Nat) (hi : i < 8) : IntKind.u8.wrap (IntKind.u64.wrap n / 2 ^ (8 * i)) = n / 256 ^ i % 256 := by
  have : i = 0 ∨ i = 1 ∨ i = 2 ∨ i = 3 ∨ i = 4 ∨ i = 5 ∨ i = 6 ∨ i = 7 := by omega
  rcases this with rfl | rfl | rfl | rfl | rfl | rfl | rfl | rfl <;> simp only [IntKind.wrap_u64, IntKind.wrap_u8, Nat.reduceMul, Int.reducePow] <;> omega
theorem Own.rdz {w : World} {B : Nat} {v : Value} {xs : List Int} (h : Own w B v xs) {n : Nat} (hn : xs.length = n) : ∃ a cap, v = .slice a n cap ∧ Rd w a n cap xs := by
  subst hn; exact h.rd
set_option maxRecDepth 100000 in
set_option maxHeartbeats 1000000 in
theorem refFixed_any (n k : Int) (s : Bool) (w : World) (h1 : -9223372036854775808 ≤ n) (h2 : n ≤ 9223372036854775807) :
    Calls Try.prog 17 #[.int .i64 n, .int .i64 k, .bool s] w fun e w' => ∃ v, e = .returned (.agg #[v, .int .i64 (fixedB n k s).length, .int .i64 (fixedE n k s)]) ∧ Own w' w.heap.size v (fixedB n k s) ∧ Below w.heap.size w w' := by
  by_cases hw : k < 1 ∨ 8 < k
  · have hE : fixedE n k s = 1 := by unfold fixedE; rw [if_pos hw]
    have hB : fixedB n k s = [] := by unfold fixedB; rw [hE]; rfl
    rw [hE, hB]
    clear hE hB
    have hcase : k < 1 ∨ ¬ k < 1 ∧ 8 < k := by omega
    clear hw
    rcases hcase with hw | ⟨hw, hw2⟩
    · go_enter Try.func17, Try.ntmps17
      go_wp2_with fail
      refine bodyPost_ret (results_cell_row rfl _ _ w.heap.size 28 _ (0, 0) _ rfl (heap_alloc_last w _) Try.underlying28 rfl (Try.sizeRaw _ _ _)) rfl ⟨_, rfl, Own.nil _ _, (Below.refl _ w).alloc (Nat.le_refl _) _⟩
    · go_enter Try.func17, Try.ntmps17
      go_wp2_with fail
      refine bodyPost_ret (results_cell_row rfl _ _ w.heap.size 28 _ (0, 0) _ rfl (heap_alloc_last w _) Try.underlying28 rfl (Try.sizeRaw _ _ _)) rfl ⟨_, rfl, Own.nil _ _, (Below.refl _ w).alloc (Nat.le_refl _) _⟩
  · have e1 : (1 : Int) ≤ k := by omega
    have e2 : k ≤ 8 := by omega
    have e3 : ¬ k < 1 := by omega
    have e4 : ¬ 8 < k := by omega
    by_cases hf : widthV n s ≠ 0 ∧ widthV n s ≤ k
    · have hv : fitsV n k s = true := by unfold fitsV; exact decide_eq_true hf
      have hE : fixedE n k s = 0 := by unfold fixedE; rw [if_neg hw, if_neg (by omega)]
      have hB : fixedB n k s = bytesOf k.toNat n := by unfold fixedB; rw [if_pos hE]
      rw [hE, hB]
      have Hv := Lib.hid hv
      have HI := Lib.hid (info_parts Try.infoB)
      obtain ⟨W0, hW0⟩ : ∃ W0, W0 = w.alloc (.cells #[.slice none 0 0, .int .i64 0, .int .i64 0] 28) := ⟨_, rfl⟩
      have hg0 := heap_alloc_last w (.cells #[.slice none 0 0, .int .i64 0, .int .i64 0] 28)
      have hs0 : W0.heap.size = w.heap.size + 1 := by rw [hW0]; simp
      have Hb0 : Hid (Below w.heap.size w W0) := Lib.hid (by rw [hW0]; exact (Below.refl _ w).alloc (Nat.le_refl _) _)
      rw [← hW0] at hg0
      have Hg := Lib.hid hg0
      have HW0 := Lib.hid hW0
      clear hv hE hB hf hw hg0 hW0
      go_enter Try.func17, Try.ntmps17
      go_wp2_with fail
      rw [← HW0.out]
      clear HW0
      refine (refFits_any n k s W0 h1 h2 e1 e2).mono ?_
      rintro e u1 ⟨rfl, rfl⟩
      rw [Hv.out]
      go_wp2_with fail
      go_loopw [7, 8] (fun v i wr => ∃ (j : Nat), (j : Int) ≤ k ∧ i = .int .i64 j ∧ Own wr W0.heap.size v (bytesOf j n) ∧ Below W0.heap.size W0 wr) (fun _ i _ => 9 - (intOf i).toNat)
      case atStart => exact ⟨0, by omega, rfl, Own.nil _ _, Below.refl _ _⟩
      case round =>
        obtain ⟨j, hj, rfl, hown, hb⟩ := hrel
        have hB := hb.size
        have Hb := Lib.hid hb
        have Ho := Lib.hid hown
        have hal := bytesOf_length j n
        clear hb hown
        by_cases hlt : (j : Int) < k
        · have hby := byte_at n h1 h2 j (by omega)
          have hbd1 : 0 ≤ n / 256 ^ j % 256 := by omega
          have hbd2 : n / 256 ^ j % 256 ≤ 255 := by omega
          go_wp2_with (at_builtin; obtain ⟨i0, hi, hz0, hz1, hz2⟩ := HI.out; refine wpList_append_lies _ rfl _ _ 22 rfl W0.heap.size 5 i0 (.int .u8 0) 1 1 Try.underlying22 hi hz0 hz1 hz2 rfl (by decide) _ _ _ rfl (Ho.out.1.alloc _) ⟨wr.heap.size, 0, none⟩ 1 1 [.int .u8 (n / 256 ^ j % 256)] rfl rfl (World.news_of_block (cs := #[.int .u8 (n / 256 ^ j % 256)]) (t := 5) (fr := (0, 0)) (heap_alloc_new wr _)) (by simp [Value.oneCell']) (by omega) (by unfold maxLen; omega) (by omega) (by simp; omega) (wr.heap.size + 1) (by simp) ?_; clear hi hz0 hz1 hz2; intro g cap w3 hown hgrow hat hlt2; have hb3 := (Hb.out.alloc hB (.cells #[.int .u8 (n / 256 ^ j % 256)] 5)).grown hgrow (by simp; omega) (fun k hk => (Ho.out.1.lt k hk).1); have ho3 := own_snoc Ho.out hbd1 hbd2 hown; rw [← bytesOf_snoc] at ho3; have Hb3 := Lib.hid hb3; have Ho3 := Lib.hid ho3; clear hb3 ho3 hown hgrow)
          go_roundw
          case rel => exact ⟨j + 1, by omega, by go_num, by first | exact Ho3.out | (have h3 := Ho3.out; rw [hal] at h3; exact h3), Hb3.out⟩
          case measure => simp [intOf]; omega
        · obtain rfl : k = (j : Int) := by omega
          obtain ⟨a1, c1, rfl, _⟩ := Ho.out.rdz (n := j) hal
          have Hg3 := Lib.hid ((Hb.out.block w.heap.size (by omega)).trans Hg.out)
          go_wp2_with (refine wpList_store_row rfl 28 (.tmp 6) (.tmp 38) rfl w.heap.size #[.slice a1 j c1, .int .i64 j, .int .i64 0] rfl rfl 28 #[.slice none 0 0, .int .i64 0, .int .i64 0] Hg3.out (Try.sizeRaw _ _ _) rfl (oneRaw _ _ _ _ _) ?_)
          refine bodyPost_ret (results_cell_row rfl _ _ w.heap.size 28 _ (0, 0) _ rfl (setRow_heap _ _ _ _ _ _ Hg3.out) Try.underlying28 rfl (Try.sizeRaw _ _ _)) rfl ⟨.slice a1 j c1, ?_, ?_, (Hb0.out.trans (Hb.out.mono (by omega))).trans (below_setRow' _ _ _ _ (Nat.le_refl _))⟩
          · first | rfl | (rw [Int.toNat_natCast, hal]) | (simp; omega)
          · exact (Ho.out.setRow (by omega) _).mono (by omega)
    · have hv : fitsV n k s = false := by unfold fitsV; exact decide_eq_false hf
      have hE : fixedE n k s = 24 := by unfold fixedE; rw [if_neg hw, if_pos (by omega)]
      have hB : fixedB n k s = [] := by unfold fixedB; rw [hE]; rfl
      rw [hE, hB]
      have Hv := Lib.hid hv
      clear hv hE hB hf hw
      go_enter Try.func17, Try.ntmps17
      go_wp2_with fail
      refine (refFits_any n k s _ h1 h2 e1 e2).mono ?_
      rintro e u1 ⟨rfl, rfl⟩
      rw [Hv.out]
      go_wp2_with fail
      refine bodyPost_ret (results_cell_row rfl _ _ w.heap.size 28 _ (0, 0) _ rfl (heap_alloc_last w _) Try.underlying28 rfl (Try.sizeRaw _ _ _)) rfl ⟨_, rfl, Own.nil _ _, (Below.refl _ w).alloc (Nat.le_refl _) _⟩
end Go.Proofs.Ytmfijcniaehooaa

/- The reference's Text, told in plain values. -/
namespace Go.Proofs.Ytmfijcniaehooaa
set_option linter.unusedVariables false
open Go.RowKit

theorem run_rawB (a : Option Addr) (l c : Nat) (n m : Int) (w : World) : (Instr.field 28 (.agg #[.slice a l c, .int .i64 n, .int .i64 m]) 0).run Try.prog w = .ok (.slice a l c) w := by kernel_rfl
set_option maxRecDepth 100000 in
set_option maxHeartbeats 1000000 in
theorem refText_any (a : Option Addr) (len cap : Nat) (xs : List Int) (w : World) (h : Rd w a len cap xs) :
    Calls Try.prog 34 #[.slice a len cap] w fun e w' => ∃ v, e = .returned (.agg #[v, .int .i64 (textV xs).length, .int .i64 (textE xs)]) ∧ Own w' w.heap.size v (textV xs) ∧ Below w.heap.size w w' := by
  have hl := h.hl
  have hm := h.hm
  have hc := h.hc
  unfold maxLen at hm
  have hg0 := heap_alloc_last w (.cells #[.slice none 0 0, .int .i64 0, .int .i64 0] 28)
  by_cases hbig : 65535 < len
  · have hE : textE xs = 2 := by unfold textE; rw [if_pos (by omega)]
    have hV : textV xs = [] := by unfold textV; rw [if_pos (by omega)]
    rw [hE, hV]
    have Hg := Lib.hid hg0
    clear hE hV h hl hg0
    go_enter Try.func34, Try.ntmps34
    go_wp2_with (refine wpList_store_row rfl 28 (.tmp 2) (.tmp 7) rfl w.heap.size #[.slice none 0 0, .int .i64 0, .int .i64 2] rfl rfl 28 #[.slice none 0 0, .int .i64 0, .int .i64 0] Hg.out (Try.sizeRaw _ _ _) rfl (oneRaw _ _ _ _ _) ?_)
    refine bodyPost_ret (v := .agg #[.slice none 0 0, .int .i64 0, .int .i64 2]) ?_ rfl ?_
    · exact results_cell_row rfl _ _ w.heap.size 28 #[.slice none 0 0, .int .i64 0, .int .i64 2] (0, 0) _ rfl (setRow_heap _ _ _ _ _ _ Hg.out) Try.underlying28 rfl (Try.sizeRaw _ _ _)
    · exact ⟨_, rfl, Own.nil _ _, ((Below.refl _ w).alloc (Nat.le_refl _) _).trans (below_setRow' _ _ _ _ (Nat.le_refl _))⟩
  · have hE : textE xs = 0 := by unfold textE; rw [if_neg (by omega)]
    have hV : textV xs = varB len ++ xs := by unfold textV; rw [if_neg (by omega), hl]
    rw [hE, hV]
    have HE : Hid (varE len = 0 ∧ varV len = varB len) := Lib.hid (by unfold varE varV; rw [if_neg (by omega), if_neg (by omega)]; exact ⟨rfl, rfl⟩)
    obtain ⟨W0, hW0⟩ : ∃ W0, W0 = w.alloc (.cells #[.slice none 0 0, .int .i64 0, .int .i64 0] 28) := ⟨_, rfl⟩
    have hs0 : W0.heap.size = w.heap.size + 1 := by rw [hW0]; simp
    have hb0 : Below w.heap.size w W0 := by rw [hW0]; exact (Below.refl _ w).alloc (Nat.le_refl _) _
    rw [← hW0] at hg0
    have H0 := Lib.hid (h.below hb0 (Nat.le_refl _))
    have Hb0 := Lib.hid hb0
    have HW0 := Lib.hid hW0
    have Hg := Lib.hid hg0
    have Hl := Lib.hid hl
    clear hE hV hg0 hW0 hb0 h hl
    go_enter Try.func34, Try.ntmps34
    go_wp2_with fail
    rw [← HW0.out]
    clear HW0
    refine (refVar_any len W0 (by omega)).mono ?_
    rintro e w1 ⟨v, rfl, ho, hb⟩
    rw [HE.out.1]
    rw [HE.out.2] at ho ⊢
    have hvl := varB_len len
    have hsz := hb.size
    have H1 := Lib.hid (H0.out.below hb (Nat.le_refl _))
    have Ho := Lib.hid ho
    have Hb := Lib.hid hb
    obtain ⟨a1, c1, rfl, _⟩ := ho.rd
    clear ho hb HE
    have hrb := run_rawB
    go_wp2_with (first
      | (refine wpList_append_rd rfl (.tmp 11) (.tmp 12) 22 rfl W0.heap.size Try.infoB Try.underlying22 _ _ rfl Ho.out _ _ _ _ rfl H1.out (by omega) (by omega) ?_; intro v' w2 ho2 hg2; obtain ⟨a2, c2, hv2, hr2⟩ := ho2.rd; subst hv2; have Ho2 := Lib.hid ho2; have hb2 := Hb.out.grown hg2 (by omega) (fun k hk => (Ho.out.1.lt k hk).1); have Hb2 := Lib.hid hb2; have Hg2 := Lib.hid ((hb2.block w.heap.size (by omega)).trans Hg.out); clear ho2 hr2 hb2 hg2)
      | (refine wpList_store_row rfl 28 (.tmp 2) (.tmp 17) rfl w.heap.size #[.slice a2 ((varB len).length + xs.length) c2, .int .i64 (((varB len).length : Int) + (xs.length : Int)), .int .i64 0] rfl rfl 28 #[.slice none 0 0, .int .i64 0, .int .i64 0] Hg2.out (Try.sizeRaw _ _ _) rfl (oneRaw _ _ _ _ _) ?_))
    refine bodyPost_ret (v := .agg #[.slice a2 ((varB len).length + xs.length) c2, .int .i64 (((varB len).length : Int) + (xs.length : Int)), .int .i64 0]) ?_ rfl ?_
    · exact results_cell_row rfl _ _ w.heap.size 28 #[.slice a2 ((varB len).length + xs.length) c2, .int .i64 (((varB len).length : Int) + (xs.length : Int)), .int .i64 0] (0, 0) _ rfl (setRow_heap _ _ _ _ _ _ Hg2.out) Try.underlying28 rfl (Try.sizeRaw _ _ _)
    · refine ⟨.slice a2 ((varB len).length + xs.length) c2, by simp, ?_, (Hb0.out.trans (Hb2.out.mono (by omega))).trans (below_setRow' _ _ _ _ (Nat.le_refl _))⟩
      have ho2 := Ho2.out
      rw [List.length_append] at ho2
      exact (ho2.setRow (by omega) _).mono (by omega)
end Go.Proofs.Ytmfijcniaehooaa

/- The reference's field, of an item that suits. -/
namespace Go.Proofs.Ytmfijcniaehooaa
set_option linter.unusedVariables false
open Go.RowKit

/-- What field answers. -/
def FieldPost (bs : List Int) (w : World) (e : Ending) (w' : World) : Prop := ∃ v, e = .returned v ∧ Own w' w.heap.size v bs ∧ Below w.heap.size w w'
theorem run_field_raw (a : Option Addr) (l c : Nat) (z e : Int) (w : World) : (Instr.field 28 (.agg #[.slice a l c, .int .i64 z, .int .i64 e]) 0).run Try.prog w = .ok (.slice a l c) w := by kernel_rfl
set_option maxRecDepth 100000 in
set_option maxHeartbeats 1000000 in
theorem rfield_1 (nm : ByteArray) (wd n : Int) (a : Option Addr) (len cap : Nat) (xs : List Int) (w : World) (h : Rd w a len cap xs) (hlm : len ≤ 140737488355328) (hs : suitsV 1 n wd xs = true) (hn1 : -9223372036854775808 ≤ n) (hn2 : n ≤ 9223372036854775807) (w1 : 1 ≤ wd) (w8 : wd ≤ 8) :
    Calls Try.prog 75 #[.agg #[.string nm, .int .i64 1, .int .i64 wd], .agg #[.int .i64 n, .slice a len cap]] w (FieldPost (packB 1 n wd xs) w) := by
  have hl := h.hl
  have hcc := h.hc
  obtain ⟨W0, hW0⟩ : ∃ W0, W0 = (w.alloc (.cells #[.string nm, .int .i64 1, .int .i64 wd] 101)).alloc (.cells #[.int .i64 n, .slice a len cap] 52) := ⟨_, rfl⟩
  have hF : W0.heap[w.heap.size]? = some (.cells #[.string nm, .int .i64 1, .int .i64 wd] 101 (0, 0)) := by rw [hW0, heap_alloc_old _ _ _ (by simp), heap_alloc_last]
  have hX : W0.heap[w.heap.size + 1]? = some (.cells #[.int .i64 n, .slice a len cap] 52 (0, 0)) := by
    rw [hW0]; have := heap_alloc_last (w.alloc (.cells #[.string nm, .int .i64 1, .int .i64 wd] 101)) (.cells #[.int .i64 n, .slice a len cap] 52); simpa using this
  have Hb := Lib.hid (show Below w.heap.size w W0 by rw [hW0]; exact ((Below.refl _ w).alloc (Nat.le_refl _) _).alloc (by simp) _)
  have f1 : W0.cell? ⟨w.heap.size, 1, none⟩ = some (.int .i64 1) := by rw [cell_of_row _ _ _ _ _ _ hF]; rfl
  have f2 : W0.cell? ⟨w.heap.size, 2, none⟩ = some (.int .i64 wd) := by rw [cell_of_row _ _ _ _ _ _ hF]; rfl
  have x0 : W0.cell? ⟨w.heap.size + 1, 0, none⟩ = some (.int .i64 n) := by rw [cell_of_row _ _ _ _ _ _ hX]; rfl
  have x1 : W0.cell? ⟨w.heap.size + 1, 1, none⟩ = some (.slice a len cap) := by rw [cell_of_row _ _ _ _ _ _ hX]; rfl
  have HR := Lib.hid (h.below Hb.out (Nat.le_refl _))
  have hq : xs.length = 0 := by rw [suits_num 1 n wd xs false (by decide) w1 w8] at hs; simp at hs; rw [hs.1]; rfl
  have hB : packB 1 n wd xs = fixedB n wd false := by unfold packB; rw [if_neg (by omega), if_pos rfl]
  rw [hB]
  clear hq hB
  have HW0 := Lib.hid hW0
  clear hW0 hF hX hl h hs
  go_enter Try.func75, Try.ntmps75
  go_upto_region 1 with fail
  rw [← HW0.out]
  go_wp2_with fail
  refine (refFixed_any n wd false W0 hn1 hn2).mono ?_
  rintro e w2 ⟨v, rfl, ho, hb⟩
  obtain ⟨va, vc, rfl, -⟩ := ho.rd
  have Ho := Lib.hid (ho.mono Hb.out.size)
  have Hb2 := Lib.hid (Hb.out.trans (hb.mono Hb.out.size))
  clear ho hb
  have hf := run_field_raw va (fixedB n wd false).length vc (fixedB n wd false).length (fixedE n wd false)
  go_wp2_with fail
  go_ret
  exact ⟨_, rfl, Ho.out, Hb2.out⟩
set_option maxRecDepth 100000 in
set_option maxHeartbeats 1000000 in
theorem rfield_2 (nm : ByteArray) (wd n : Int) (a : Option Addr) (len cap : Nat) (xs : List Int) (w : World) (h : Rd w a len cap xs) (hlm : len ≤ 140737488355328) (hs : suitsV 2 n wd xs = true) (hn1 : -9223372036854775808 ≤ n) (hn2 : n ≤ 9223372036854775807) (w1 : 1 ≤ wd) (w8 : wd ≤ 8) :
    Calls Try.prog 75 #[.agg #[.string nm, .int .i64 2, .int .i64 wd], .agg #[.int .i64 n, .slice a len cap]] w (FieldPost (packB 2 n wd xs) w) := by
  have hl := h.hl
  have hcc := h.hc
  obtain ⟨W0, hW0⟩ : ∃ W0, W0 = (w.alloc (.cells #[.string nm, .int .i64 2, .int .i64 wd] 101)).alloc (.cells #[.int .i64 n, .slice a len cap] 52) := ⟨_, rfl⟩
  have hF : W0.heap[w.heap.size]? = some (.cells #[.string nm, .int .i64 2, .int .i64 wd] 101 (0, 0)) := by rw [hW0, heap_alloc_old _ _ _ (by simp), heap_alloc_last]
  have hX : W0.heap[w.heap.size + 1]? = some (.cells #[.int .i64 n, .slice a len cap] 52 (0, 0)) := by
    rw [hW0]; have := heap_alloc_last (w.alloc (.cells #[.string nm, .int .i64 2, .int .i64 wd] 101)) (.cells #[.int .i64 n, .slice a len cap] 52); simpa using this
  have Hb := Lib.hid (show Below w.heap.size w W0 by rw [hW0]; exact ((Below.refl _ w).alloc (Nat.le_refl _) _).alloc (by simp) _)
  have f1 : W0.cell? ⟨w.heap.size, 1, none⟩ = some (.int .i64 2) := by rw [cell_of_row _ _ _ _ _ _ hF]; rfl
  have f2 : W0.cell? ⟨w.heap.size, 2, none⟩ = some (.int .i64 wd) := by rw [cell_of_row _ _ _ _ _ _ hF]; rfl
  have x0 : W0.cell? ⟨w.heap.size + 1, 0, none⟩ = some (.int .i64 n) := by rw [cell_of_row _ _ _ _ _ _ hX]; rfl
  have x1 : W0.cell? ⟨w.heap.size + 1, 1, none⟩ = some (.slice a len cap) := by rw [cell_of_row _ _ _ _ _ _ hX]; rfl
  have HR := Lib.hid (h.below Hb.out (Nat.le_refl _))
  have hq : xs.length = 0 := by rw [suits_num 2 n wd xs true (by decide) w1 w8] at hs; simp at hs; rw [hs.1]; rfl
  have hB : packB 2 n wd xs = fixedB n wd true := by unfold packB; rw [if_neg (by omega), if_neg (by omega), if_pos rfl]
  rw [hB]
  clear hq hB
  have HW0 := Lib.hid hW0
  clear hW0 hF hX hl h hs
  go_enter Try.func75, Try.ntmps75
  go_upto_region 1 with fail
  rw [← HW0.out]
  go_wp2_with fail
  refine (refFixed_any n wd true W0 hn1 hn2).mono ?_
  rintro e w2 ⟨v, rfl, ho, hb⟩
  obtain ⟨va, vc, rfl, -⟩ := ho.rd
  have Ho := Lib.hid (ho.mono Hb.out.size)
  have Hb2 := Lib.hid (Hb.out.trans (hb.mono Hb.out.size))
  clear ho hb
  have hf := run_field_raw va (fixedB n wd true).length vc (fixedB n wd true).length (fixedE n wd true)
  go_wp2_with fail
  go_ret
  exact ⟨_, rfl, Ho.out, Hb2.out⟩
set_option maxRecDepth 100000 in
set_option maxHeartbeats 1000000 in
theorem rfield_3 (nm : ByteArray) (wd n : Int) (a : Option Addr) (len cap : Nat) (xs : List Int) (w : World) (h : Rd w a len cap xs) (hlm : len ≤ 140737488355328) (hs : suitsV 3 n wd xs = true) (hn2 : n ≤ 9223372036854775807) :
    Calls Try.prog 75 #[.agg #[.string nm, .int .i64 3, .int .i64 wd], .agg #[.int .i64 n, .slice a len cap]] w (FieldPost (packB 3 n wd xs) w) := by
  have hl := h.hl
  have hcc := h.hc
  obtain ⟨W0, hW0⟩ : ∃ W0, W0 = (w.alloc (.cells #[.string nm, .int .i64 3, .int .i64 wd] 101)).alloc (.cells #[.int .i64 n, .slice a len cap] 52) := ⟨_, rfl⟩
  have hF : W0.heap[w.heap.size]? = some (.cells #[.string nm, .int .i64 3, .int .i64 wd] 101 (0, 0)) := by rw [hW0, heap_alloc_old _ _ _ (by simp), heap_alloc_last]
  have hX : W0.heap[w.heap.size + 1]? = some (.cells #[.int .i64 n, .slice a len cap] 52 (0, 0)) := by
    rw [hW0]; have := heap_alloc_last (w.alloc (.cells #[.string nm, .int .i64 3, .int .i64 wd] 101)) (.cells #[.int .i64 n, .slice a len cap] 52); simpa using this
  have Hb := Lib.hid (show Below w.heap.size w W0 by rw [hW0]; exact ((Below.refl _ w).alloc (Nat.le_refl _) _).alloc (by simp) _)
  have f1 : W0.cell? ⟨w.heap.size, 1, none⟩ = some (.int .i64 3) := by rw [cell_of_row _ _ _ _ _ _ hF]; rfl
  have f2 : W0.cell? ⟨w.heap.size, 2, none⟩ = some (.int .i64 wd) := by rw [cell_of_row _ _ _ _ _ _ hF]; rfl
  have x0 : W0.cell? ⟨w.heap.size + 1, 0, none⟩ = some (.int .i64 n) := by rw [cell_of_row _ _ _ _ _ _ hX]; rfl
  have x1 : W0.cell? ⟨w.heap.size + 1, 1, none⟩ = some (.slice a len cap) := by rw [cell_of_row _ _ _ _ _ _ hX]; rfl
  have HR := Lib.hid (h.below Hb.out (Nat.le_refl _))
  have hq : xs.length = 0 := by rw [suits_var n wd xs] at hs; simp at hs; rw [hs.1]; rfl
  have hB : packB 3 n wd xs = varV n := by unfold packB; rw [if_neg (by omega), if_neg (by omega), if_neg (by omega), if_pos rfl]
  rw [hB]
  clear hq hB
  have HW0 := Lib.hid hW0
  clear hW0 hF hX hl h hs
  go_enter Try.func75, Try.ntmps75
  go_upto_region 1 with fail
  rw [← HW0.out]
  go_wp2_with fail
  refine (refVar_any n W0 hn2).mono ?_
  rintro e w2 ⟨v, rfl, ho, hb⟩
  obtain ⟨va, vc, rfl, -⟩ := ho.rd
  have Ho := Lib.hid (ho.mono Hb.out.size)
  have Hb2 := Lib.hid (Hb.out.trans (hb.mono Hb.out.size))
  clear ho hb
  have hf := run_field_raw va (varV n).length vc (varV n).length (varE n)
  go_wp2_with fail
  go_ret
  exact ⟨_, rfl, Ho.out, Hb2.out⟩
set_option maxRecDepth 100000 in
set_option maxHeartbeats 1000000 in
theorem rfield_4 (nm : ByteArray) (wd n : Int) (a : Option Addr) (len cap : Nat) (xs : List Int) (w : World) (h : Rd w a len cap xs) (hlm : len ≤ 140737488355328) (hs : suitsV 4 n wd xs = true)  :
    Calls Try.prog 75 #[.agg #[.string nm, .int .i64 4, .int .i64 wd], .agg #[.int .i64 n, .slice a len cap]] w (FieldPost (packB 4 n wd xs) w) := by
  have hl := h.hl
  have hcc := h.hc
  obtain ⟨W0, hW0⟩ : ∃ W0, W0 = (w.alloc (.cells #[.string nm, .int .i64 4, .int .i64 wd] 101)).alloc (.cells #[.int .i64 n, .slice a len cap] 52) := ⟨_, rfl⟩
  have hF : W0.heap[w.heap.size]? = some (.cells #[.string nm, .int .i64 4, .int .i64 wd] 101 (0, 0)) := by rw [hW0, heap_alloc_old _ _ _ (by simp), heap_alloc_last]
  have hX : W0.heap[w.heap.size + 1]? = some (.cells #[.int .i64 n, .slice a len cap] 52 (0, 0)) := by
    rw [hW0]; have := heap_alloc_last (w.alloc (.cells #[.string nm, .int .i64 4, .int .i64 wd] 101)) (.cells #[.int .i64 n, .slice a len cap] 52); simpa using this
  have Hb := Lib.hid (show Below w.heap.size w W0 by rw [hW0]; exact ((Below.refl _ w).alloc (Nat.le_refl _) _).alloc (by simp) _)
  have f1 : W0.cell? ⟨w.heap.size, 1, none⟩ = some (.int .i64 4) := by rw [cell_of_row _ _ _ _ _ _ hF]; rfl
  have f2 : W0.cell? ⟨w.heap.size, 2, none⟩ = some (.int .i64 wd) := by rw [cell_of_row _ _ _ _ _ _ hF]; rfl
  have x0 : W0.cell? ⟨w.heap.size + 1, 0, none⟩ = some (.int .i64 n) := by rw [cell_of_row _ _ _ _ _ _ hX]; rfl
  have x1 : W0.cell? ⟨w.heap.size + 1, 1, none⟩ = some (.slice a len cap) := by rw [cell_of_row _ _ _ _ _ _ hX]; rfl
  have HR := Lib.hid (h.below Hb.out (Nat.le_refl _))
  have hq : n = 0 ∧ (xs.length : Int) = wd := by rw [suits_bytes n wd xs] at hs; simpa using hs
  have hB : packB 4 n wd xs = xs := by unfold packB wr4B; rw [if_neg (by omega), if_neg (by omega), if_neg (by omega), if_neg (by omega), if_pos rfl, if_pos hq.2]
  rw [hB]
  clear hq hB
  obtain ⟨W3, hW3⟩ : ∃ W3, W3 = W0.alloc (.cells #[] 5) := ⟨_, rfl⟩
  have HO : Hid (Own W3 W0.heap.size (.slice (some ⟨W0.heap.size, 0, none⟩) 0 0) []) := Lib.hid (by have := World.ownsRow_made (base := W0.heap.size) (e := 5) (size := 1) W0 #[] 0 (Nat.le_refl _) (by decide) rfl; rw [hW3]; exact ⟨this, by simp⟩)
  have hb3 : Below W0.heap.size W0 W3 := by rw [hW3]; exact (Below.refl _ W0).alloc (Nat.le_refl _) _
  have R3 := Lib.hid (HR.out.below hb3 (Nat.le_refl _))
  have x1e : (W0.alloc (.cells #[] 5)).cell? ⟨w.heap.size + 1, 1, none⟩ = some (.slice a len cap) := by rw [← hW3]; exact (hb3.cell (p := ⟨w.heap.size + 1, 1, none⟩) (by show w.heap.size + 1 < W0.heap.size; rw [hW0]; simp)).trans x1
  have HW3 := Lib.hid hW3
  have i1 : ([] : List Int).length + len ≤ 140737488355328 := by simp; omega
  have i2 : W0.heap.size ≤ W3.heap.size := hb3.size
  have hlen : ([] ++ xs).length = len := by rw [List.nil_append]; omega
  have Hlen := Lib.hid hlen
  have HB3 := Lib.hid hb3
  clear hW3 hb3 hlen
  have HW0 := Lib.hid hW0
  clear hW0 hF hX hl h hs
  go_enter Try.func75, Try.ntmps75
  go_upto_region 1 with fail
  rw [← HW0.out]
  go_wp2_with (rw [← HW3.out]; refine wpList_append_rd rfl (.tmp 27) (.tmp 29) 22 rfl W0.heap.size Try.infoB Try.underlying22 (.slice (some ⟨W0.heap.size, 0, none⟩) 0 0) [] rfl HO.out _ _ _ _ rfl R3.out i1 i2 ?_; intro v4 w4 ho4 hg4; obtain ⟨va, vc, hv4, hr4⟩ := ho4.rdz Hlen.out; subst hv4; have Ho4 := Lib.hid ho4; have Hb4 := Lib.hid (HB3.out.grown hg4 i2 (fun k hk => (HO.out.1.lt k hk).1)); clear ho4 hg4 hr4)
  go_ret
  exact ⟨_, rfl, Ho4.out.mono Hb.out.size, Hb.out.trans (Hb4.out.mono Hb.out.size)⟩
set_option maxRecDepth 100000 in
set_option maxHeartbeats 1000000 in
theorem rfield_5 (nm : ByteArray) (wd n : Int) (a : Option Addr) (len cap : Nat) (xs : List Int) (w : World) (h : Rd w a len cap xs) (hlm : len ≤ 140737488355328) (hs : suitsV 5 n wd xs = true) (hw : wd ≤ 4096) :
    Calls Try.prog 75 #[.agg #[.string nm, .int .i64 5, .int .i64 wd], .agg #[.int .i64 n, .slice a len cap]] w (FieldPost (packB 5 n wd xs) w) := by
  have hl := h.hl
  have hcc := h.hc
  obtain ⟨W0, hW0⟩ : ∃ W0, W0 = (w.alloc (.cells #[.string nm, .int .i64 5, .int .i64 wd] 101)).alloc (.cells #[.int .i64 n, .slice a len cap] 52) := ⟨_, rfl⟩
  have hF : W0.heap[w.heap.size]? = some (.cells #[.string nm, .int .i64 5, .int .i64 wd] 101 (0, 0)) := by rw [hW0, heap_alloc_old _ _ _ (by simp), heap_alloc_last]
  have hX : W0.heap[w.heap.size + 1]? = some (.cells #[.int .i64 n, .slice a len cap] 52 (0, 0)) := by
    rw [hW0]; have := heap_alloc_last (w.alloc (.cells #[.string nm, .int .i64 5, .int .i64 wd] 101)) (.cells #[.int .i64 n, .slice a len cap] 52); simpa using this
  have Hb := Lib.hid (show Below w.heap.size w W0 by rw [hW0]; exact ((Below.refl _ w).alloc (Nat.le_refl _) _).alloc (by simp) _)
  have f1 : W0.cell? ⟨w.heap.size, 1, none⟩ = some (.int .i64 5) := by rw [cell_of_row _ _ _ _ _ _ hF]; rfl
  have f2 : W0.cell? ⟨w.heap.size, 2, none⟩ = some (.int .i64 wd) := by rw [cell_of_row _ _ _ _ _ _ hF]; rfl
  have x0 : W0.cell? ⟨w.heap.size + 1, 0, none⟩ = some (.int .i64 n) := by rw [cell_of_row _ _ _ _ _ _ hX]; rfl
  have x1 : W0.cell? ⟨w.heap.size + 1, 1, none⟩ = some (.slice a len cap) := by rw [cell_of_row _ _ _ _ _ _ hX]; rfl
  have HR := Lib.hid (h.below Hb.out (Nat.le_refl _))
  have hq : n = 0 ∧ (xs.length : Int) ≤ wd := by rw [suits_text n wd xs hw] at hs; simpa using hs
  have hB : packB 5 n wd xs = textV xs := by unfold packB wr5B; rw [if_neg (by omega), if_neg (by omega), if_neg (by omega), if_neg (by omega), if_neg (by omega), if_neg (by omega)]
  rw [hB]
  clear hq hB
  have HW0 := Lib.hid hW0
  clear hW0 hF hX hl h hs
  go_enter Try.func75, Try.ntmps75
  go_upto_region 1 with fail
  rw [← HW0.out]
  go_wp2_with fail
  refine (refText_any a len cap xs W0 HR.out).mono ?_
  rintro e w2 ⟨v, rfl, ho, hb⟩
  obtain ⟨va, vc, rfl, -⟩ := ho.rd
  have Ho := Lib.hid (ho.mono Hb.out.size)
  have Hb2 := Lib.hid (Hb.out.trans (hb.mono Hb.out.size))
  clear ho hb
  have hf := run_field_raw va (textV xs).length vc (textV xs).length (textE xs)
  go_wp2_with fail
  go_ret
  exact ⟨_, rfl, Ho.out, Hb2.out⟩
theorem field_any (f : Fld) (h : ¬ fldBad f) (x : Itm) (w : World) (hx : x.Ok w) (hbig : x.len ≤ 140737488355328) (hs : suitsV f.kind x.n f.width x.xs = true) :
    Calls Try.prog 75 #[f.val, .agg #[.int .i64 x.n, .slice x.a x.len x.cap]] w (FieldPost (packB f.kind x.n f.width x.xs) w) := by
  obtain ⟨k1, k5, w0, w4⟩ := fld_bd h
  have hk : f.kind = 1 ∨ f.kind = 2 ∨ f.kind = 3 ∨ f.kind = 4 ∨ f.kind = 5 := by omega
  obtain ⟨nm, kd, wd⟩ := f
  simp only at hk k1 k5 w0 w4 hs
  unfold Fld.val
  rcases hk with rfl | rfl | rfl | rfl | rfl
  · have := narrow_le h (.inl rfl)
    exact rfield_1 nm wd x.n x.a x.len x.cap x.xs w hx.r hbig hs hx.n1 hx.n2 this.1 this.2
  · have := narrow_le h (.inr rfl)
    exact rfield_2 nm wd x.n x.a x.len x.cap x.xs w hx.r hbig hs hx.n1 hx.n2 this.1 this.2
  · exact rfield_3 nm wd x.n x.a x.len x.cap x.xs w hx.r hbig hs hx.n2
  · exact rfield_4 nm wd x.n x.a x.len x.cap x.xs w hx.r hbig hs
  · exact rfield_5 nm wd x.n x.a x.len x.cap x.xs w hx.r hbig hs w4
end Go.Proofs.Ytmfijcniaehooaa

/- The reference's ToText, told in plain values. -/
namespace Go.Proofs.Ytmfijcniaehooaa
set_option linter.unusedVariables false
open Go.RowKit

theorem set3 {W : World} {g : Nat} {x y z a b c : Value} {t : TypeId} (h : W.heap[g]? = some (.cells #[x, y, z] t (0, 0))) : ((W.setCell ⟨g, 0, none⟩ a).setCell ⟨g, 1, none⟩ b).setCell ⟨g, 2, none⟩ c = W.setRow g #[a, b, c] := by
  have he : (((W.setCell ⟨g, 0, none⟩ a).setCell ⟨g, 1, none⟩ b).setCell ⟨g, 2, none⟩ c).heap = (W.setRow g #[a, b, c]).heap := by
    refine Array.ext_getElem? fun i => ?_
    by_cases hi : i = g
    · subst hi
      rw [setRow_heap _ _ _ _ _ _ h]
      simp [World.setCell, Array.getElem?_modify, h]
    · rw [setRow_other _ _ _ _ hi, heap_setCell_other _ ⟨g, 2, none⟩ i c hi, heap_setCell_other _ ⟨g, 1, none⟩ i b hi, heap_setCell_other _ ⟨g, 0, none⟩ i a hi]
  have e1 : ((W.setCell ⟨g, 0, none⟩ a).setCell ⟨g, 1, none⟩ b).setCell ⟨g, 2, none⟩ c = { W with heap := (((W.setCell ⟨g, 0, none⟩ a).setCell ⟨g, 1, none⟩ b).setCell ⟨g, 2, none⟩ c).heap } := rfl
  have e2 : W.setRow g #[a, b, c] = { W with heap := (W.setRow g #[a, b, c]).heap } := rfl
  rw [e1, e2, he]
theorem cells3 {W : World} {g : Nat} {x y z : Value} {t : TypeId} (h : W.heap[g]? = some (.cells #[x, y, z] t (0, 0))) : (W.cell? ⟨g, 0, none⟩ = some x ∧ W.cell? ⟨g, 1, none⟩ = some y ∧ W.cell? ⟨g, 2, none⟩ = some z) ∧ (W.frozen? ⟨g, 0, none⟩ = false ∧ W.frozen? ⟨g, 1, none⟩ = false ∧ W.frozen? ⟨g, 2, none⟩ = false) := by
  refine ⟨⟨cell_of_row W g 0 _ _ _ h, cell_of_row W g 1 _ _ _ h, cell_of_row W g 2 _ _ _ h⟩, ?_, ?_, ?_⟩ <;> simp [World.frozen?, h]
theorem le_of_some2 {a R k : Nat} (h : a ≤ R) (hk : some R = some k) : a ≤ k := by
  have : R = k := by simpa using hk
  omega
theorem Own.rdm {w : World} {B : Nat} {v : Value} {xs : List Int} (h : Own w B v xs) {n : Nat} (hn : xs.length = n) : ∃ a cap, v = .slice a n cap ∧ Rd w a n cap xs := by
  subst hn; exact h.rd
section
variable {P : Program} {w : World} {ops : Array Oper} {o : Oper} {a : Act} {K : Act → World → Prop} {Q : Exit → Act → World → Prop} {E : Prop}
/-- Bytes appended, at a step of a region that draws its order. -/
theorem step_append_rd (hgd : o.guard = none) (s x : Operand) (t : TypeId)
    (ho : o.op = .call { callee := .builtin .append, args := #[s, x], argTypes := #[t, t] }) (base : Nat)
    (hinfo : (P.info? 5).map (fun i => (i.zero, i.size, i.bytes)) = some (some (.int .u8 0), 1, 1)) (ht : P.underlying t = some (.slice 5))
    (v : Value) (ys : List Int) (hs : a.eval s = v) (hown : Own w base v ys) (x0 : Addr) (m c : Nat) (xs : List Int) (hx : a.eval x = .slice (some x0) m c) (hrd : Rd w (some x0) m c xs)
    (hbytes : ys.length + m ≤ 140737488355328) (hbase : base ≤ w.heap.size)
    (h : ∀ v' w', Own w' base v' (ys ++ xs) → w.grownBy w' v.ownBlock → K (a.put o.dst v') w') :
    if Region.wanted o (yielded ops a.tmps) = true then Oper.wp P o a w K Q else E := by
  have hw : Region.wanted o (yielded ops a.tmps) = true := by simp [Region.wanted, hgd]
  rw [if_pos hw]
  obtain ⟨i0, hi, hz0, hz1, hz2⟩ := info_parts hinfo
  have hbd : ∀ n ∈ ys ++ xs, 0 ≤ n ∧ n ≤ 255 := by
    intro n hn
    rcases List.mem_append.1 hn with hn | hn
    · exact hown.2 n hn
    · exact hrd.hb n hn
  have hl := hrd.hl
  refine wp_append_own w s x t ho base _ i0 (.int .u8 0) 1 1 ht hi hz0 hz1 hz2 rfl (by decide) v ys.length _ hs hown.1 x0 m c (xs.map (Value.int .u8)) hx (by simp [hl]) hrd.cells (oneCells xs) (by unfold maxLen; omega) (by omega) hbase ?_
  intro v' w' ho' hg _
  exact h v' w' ⟨by rw [List.length_append, hl, List.map_append]; exact ho', hbd⟩ hg
theorem step_store_row (hgd : o.guard = none) (ty : TypeId) (x y : Operand) (ho : o.op = .store ty x y)
    (g : Nat) (cells : Array Value) (hx : a.eval x = .pointer (some ⟨g, 0, none⟩)) (hy : a.eval y = .agg cells)
    (t : TypeId) (old : Array Value) (hg : w.heap[g]? = some (.cells old t (0, 0))) (hi : (P.info? ty).map (·.size) = some cells.size)
    (hold : old.size = cells.size) (h1 : cells.all (·.oneCell') = true)
    (h : K (a.put o.dst undef) (w.setRow g cells)) : if Region.wanted o (yielded ops a.tmps) = true then Oper.wp P o a w K Q else E := by
  have hw : Region.wanted o (yielded ops a.tmps) = true := by simp [Region.wanted, hgd]
  rw [if_pos hw]
  exact wp_store_row ty x y ho g cells hx hy t old hg hi hold h1 h
end
set_option maxRecDepth 100000 in
set_option maxHeartbeats 8000000 in
theorem refToText_ok (a : Option Addr) (len cap : Nat) (xs : List Int) (w : World) (h : Rd w a len cap xs) (n u : Int) (hv : toVarV xs = (n, u, 0)) (hn0 : 0 ≤ n) (hn : n ≤ 65535) (hu : 1 ≤ u) (hu9 : u ≤ 9) (hfit : n ≤ len - u) :
    Calls Try.prog 36 #[.slice a len cap] w fun e w' => ∃ v, e = .returned (.agg #[v, .int .i64 (u + n), .int .i64 0]) ∧
      Own w' w.heap.size v ((xs.drop u.toNat).take n.toNat) ∧ Below w.heap.size w w' := by
  have hc := h.hc
  have hm := h.hm
  unfold maxLen at hm
  obtain ⟨b, off, rfl, hcell⟩ := h.hr (by omega)
  have hg0 := heap_alloc_last w (.cells #[.slice none 0 0, .int .i64 0, .int .i64 0] 28)
  obtain ⟨W0, hW0⟩ : ∃ W0, W0 = w.alloc (.cells #[.slice none 0 0, .int .i64 0, .int .i64 0] 28) := ⟨_, rfl⟩
  have hs0 : W0.heap.size = w.heap.size + 1 := by rw [hW0]; simp
  have hb0 : Below w.heap.size w W0 := by rw [hW0]; exact (Below.refl _ w).alloc (Nat.le_refl _) _
  rw [← hW0] at hg0
  have H0 := Lib.hid (h.below hb0 (Nat.le_refl _))
  have Hb0 := Lib.hid hb0
  have HW0 := Lib.hid hW0
  have Hg := Lib.hid hg0
  have HT : Hid (num (toVarV xs) = .returned (.agg #[.int .i64 n, .int .i64 u, .int .i64 0])) := Lib.hid (by rw [hv]; rfl)
  clear hg0 hW0 hb0 hv hcell h
  go_enter Try.func36, Try.ntmps36
  go_wp2_with fail
  rw [← HW0.out]
  clear HW0
  refine (refToVar_any _ _ _ xs W0 H0.out).mono ?_
  rintro e w1 ⟨rfl, hb⟩
  rw [HT.out]
  have hs1 := hb.size
  have H1 := Lib.hid (H0.out.below hb (Nat.le_refl _))
  have Hb1 := Lib.hid hb
  clear hb HT H0
  go_wp2_with fail
  obtain ⟨w2, hw2⟩ : ∃ w2, w2 = w1.alloc (.cells #[.int .i64 n, .int .i64 u, .int .i64 0] 34) := ⟨_, rfl⟩
  have hs2 : w2.heap.size = w1.heap.size + 1 := by rw [hw2]; simp
  have hb2 : Below w1.heap.size w1 w2 := by rw [hw2]; exact (Below.refl _ w1).alloc (Nat.le_refl _) _
  have hcl : ∀ j, w2.cell? ⟨w1.heap.size, j, none⟩ = #[Value.int .i64 n, .int .i64 u, .int .i64 0][j]? := fun j => by rw [hw2]; exact World.cell?_alloc_mark w1 _ _ (0, 0) j
  rw [← hw2]
  have c0 : w2.cell? ⟨w1.heap.size, 0, none⟩ = some (.int .i64 n) := hcl 0
  have c1 : w2.cell? ⟨w1.heap.size, 1, none⟩ = some (.int .i64 u) := hcl 1
  have H2 := Lib.hid ((H1.out.below hb2 (Nat.le_refl _)))
  have Hb2 := Lib.hid (Hb1.out.trans (hb2.mono hs1))
  have Hg2 := Lib.hid ((Hb2.out.block w.heap.size (by omega)).trans Hg.out)
  have hl1 : w1.heap.size < w2.heap.size := by omega
  have hlw : w.heap.size < w2.heap.size := by omega
  clear hw2 hcl hb2 H1 Hb1
  have i1 : u ≤ u + n := by omega
  have i2 : u + n ≤ (cap : Int) := by omega
  have i3 : u + n - u = n := by omega
  have i4 : (0 : Int) ≤ u := by omega
  have i5 : IntKind.i64.wrap (u + n) = u + n := by rw [IntKind.wrap_i64]; omega
  have i6 : max (u + n) 0 = u + n := by omega
  have i7 : (0 : Int) ≤ u + n := by omega
  have i8 : (u + n).toNat - u.toNat = n.toNat := by omega
  by_cases hcu : cap = u.toNat
  · have hcu2 : u.toNat = cap := hcu.symm
    have i9 : (u + n).toNat - cap = n.toNat := by omega
    have HO : Hid (Own (w2.alloc (.cells #[] 5)).drew W0.heap.size (.slice (some ⟨w1.heap.size + 1, 0, none⟩) 0 0) []) := Lib.hid (by
      have := World.ownsRow_made (base := W0.heap.size) (e := 5) (size := 1) w2 #[] 0 (by omega) (by decide) rfl
      rw [hs2] at this
      exact ⟨this.drew, by simp⟩)
    have HR : Hid (Rd (w2.alloc (.cells #[] 5)).drew (some ⟨b, off, none⟩) n.toNat 0 ((xs.drop u.toNat).take n.toNat)) := Lib.hid
      ((Rd.cut H2.out u.toNat n.toNat (by omega) (by intro h0; exfalso; omega) (by omega) (by decide)).below ((Below.refl w2.heap.size w2).alloc (Nat.le_refl _) (.cells #[] 5)).drew (Nat.le_refl _))
    have hbs : W0.heap.size ≤ (w2.alloc (.cells #[] 5)).drew.heap.size := by simp; omega
    have hnl : ([] : List Int).length + n.toNat ≤ 140737488355328 := by simp; omega
    have hlen : ([] ++ (xs.drop u.toNat).take n.toNat).length = n.toNat := by
      have := H2.out.hl
      simp; omega
    have Hlen := Lib.hid hlen
    have HG : Hid (∀ w3, (w2.alloc (.cells #[] 5)).drew.grownBy w3 (some (w1.heap.size + 1)) → (Below W0.heap.size W0 w3 ∧ w3.heap[w.heap.size]? = some (.cells #[.slice none 0 0, .int .i64 0, .int .i64 0] 28 (0, 0))) ∧ w3.cell? ⟨w1.heap.size, 0, none⟩ = some (.int .i64 n) ∧ w3.cell? ⟨w1.heap.size, 1, none⟩ = some (.int .i64 u)) := Lib.hid (fun w3 hg => by
      have hb3 := ((Hb2.out.alloc (by omega) (.cells #[] 5)).drew).grown hg (by simp; omega) (fun k hk => le_of_some2 (by omega) hk)
      have hd : Below w2.heap.size w2 (w2.alloc (.cells #[] 5)).drew := ((Below.refl w2.heap.size w2).alloc (Nat.le_refl _) (.cells #[] 5)).drew
      refine ⟨⟨hb3, (hb3.block w.heap.size (by omega)).trans Hg.out⟩, ?_, ?_⟩
      · exact ((hg.cell_far _ (by simp; omega) (by simp)).trans (hd.cell hl1)).trans c0
      · exact ((hg.cell_far _ (by simp; omega) (by simp)).trans (hd.cell hl1)).trans c1)
    clear hlen
    have hne : ¬ w1.heap.size = w.heap.size := by omega
    have hne2 : ¬ w.heap.size = w1.heap.size := by omega
    clear hcu
    go_region_held_law (fun w' => w'.cell? ⟨w1.heap.size, 0, none⟩ = some (.int .i64 n) ∧ w'.cell? ⟨w1.heap.size, 1, none⟩ = some (.int .i64 u)) (first | go_keep | (exact ⟨k0, k1⟩) | (simp [k0, k1, hne, hne2]; done)) (first
      | (refine step_append_rd rfl _ _ 22 (by rfl) W0.heap.size Try.infoB Try.underlying22 (.slice (some ⟨w1.heap.size + 1, 0, none⟩) 0 0) [] (by rfl) HO.out _ _ _ ((xs.drop u.toNat).take n.toNat) (by rfl) HR.out hnl hbs ?_; intro v' w3 ho3 hg3; obtain ⟨a3, c3, hv3, hr3⟩ := ho3.rdm Hlen.out; subst hv3; have Ho3 := Lib.hid ho3; have Hg3 := Lib.hid (HG.out w3 hg3); have k0 := Hg3.out.2.1; have k1 := Hg3.out.2.2; obtain ⟨⟨q0, q1, q2⟩, q4, q5, q6⟩ := cells3 Hg3.out.1.2; clear ho3 hr3 hg3)
      | fail)
    go_wp2_with fail
    rw [set3 Hg3.out.1.2]
    refine bodyPost_ret (v := .agg #[.slice a3 n.toNat c3, .int .i64 (u + n), .int .i64 0]) ?_ rfl ?_
    · exact results_cell_row rfl _ _ w.heap.size 28 #[.slice a3 n.toNat c3, .int .i64 (u + n), .int .i64 0] (0, 0) _ rfl (setRow_heap _ _ _ _ _ _ Hg3.out.1.2) Try.underlying28 rfl (Try.sizeRaw _ _ _)
    · refine ⟨.slice a3 n.toNat c3, rfl, ?_, (Hb0.out.trans (Hg3.out.1.1.mono (by omega))).trans (below_setRow' _ _ _ _ (Nat.le_refl _))⟩
      exact (Ho3.out.setRow (by omega) _).mono (by omega)
  · have hcu' : (cap = u.toNat) = False := by simp [hcu]
    have HO : Hid (Own (w2.alloc (.cells #[] 5)).drew W0.heap.size (.slice (some ⟨w1.heap.size + 1, 0, none⟩) 0 0) []) := Lib.hid (by
      have := World.ownsRow_made (base := W0.heap.size) (e := 5) (size := 1) w2 #[] 0 (by omega) (by decide) rfl
      rw [hs2] at this
      exact ⟨this.drew, by simp⟩)
    have HR : Hid (Rd (w2.alloc (.cells #[] 5)).drew (some ⟨b, off + u.toNat, none⟩) n.toNat (cap - u.toNat) ((xs.drop u.toNat).take n.toNat)) := Lib.hid
      ((Rd.cut H2.out u.toNat n.toNat (by omega) (by intro h0; rfl) (by omega) (by unfold maxLen; omega)).below ((Below.refl w2.heap.size w2).alloc (Nat.le_refl _) (.cells #[] 5)).drew (Nat.le_refl _))
    have hbs : W0.heap.size ≤ (w2.alloc (.cells #[] 5)).drew.heap.size := by simp; omega
    have hnl : ([] : List Int).length + n.toNat ≤ 140737488355328 := by simp; omega
    have hlen : ([] ++ (xs.drop u.toNat).take n.toNat).length = n.toNat := by
      have := H2.out.hl
      simp; omega
    have Hlen := Lib.hid hlen
    have HG : Hid (∀ w3, (w2.alloc (.cells #[] 5)).drew.grownBy w3 (some (w1.heap.size + 1)) → (Below W0.heap.size W0 w3 ∧ w3.heap[w.heap.size]? = some (.cells #[.slice none 0 0, .int .i64 0, .int .i64 0] 28 (0, 0))) ∧ w3.cell? ⟨w1.heap.size, 0, none⟩ = some (.int .i64 n) ∧ w3.cell? ⟨w1.heap.size, 1, none⟩ = some (.int .i64 u)) := Lib.hid (fun w3 hg => by
      have hb3 := ((Hb2.out.alloc (by omega) (.cells #[] 5)).drew).grown hg (by simp; omega) (fun k hk => le_of_some2 (by omega) hk)
      have hd : Below w2.heap.size w2 (w2.alloc (.cells #[] 5)).drew := ((Below.refl w2.heap.size w2).alloc (Nat.le_refl _) (.cells #[] 5)).drew
      refine ⟨⟨hb3, (hb3.block w.heap.size (by omega)).trans Hg.out⟩, ?_, ?_⟩
      · exact ((hg.cell_far _ (by simp; omega) (by simp)).trans (hd.cell hl1)).trans c0
      · exact ((hg.cell_far _ (by simp; omega) (by simp)).trans (hd.cell hl1)).trans c1)
    clear hlen
    have hne : ¬ w1.heap.size = w.heap.size := by omega
    have hne2 : ¬ w.heap.size = w1.heap.size := by omega
    go_region_held_law (fun w' => w'.cell? ⟨w1.heap.size, 0, none⟩ = some (.int .i64 n) ∧ w'.cell? ⟨w1.heap.size, 1, none⟩ = some (.int .i64 u)) (first | go_keep | (exact ⟨k0, k1⟩) | (simp [k0, k1, hne, hne2]; done)) (first
      | (refine step_append_rd rfl _ _ 22 (by rfl) W0.heap.size Try.infoB Try.underlying22 (.slice (some ⟨w1.heap.size + 1, 0, none⟩) 0 0) [] (by rfl) HO.out _ _ _ ((xs.drop u.toNat).take n.toNat) (by rfl) HR.out hnl hbs ?_; intro v' w3 ho3 hg3; obtain ⟨a3, c3, hv3, hr3⟩ := ho3.rdm Hlen.out; subst hv3; have Ho3 := Lib.hid ho3; have Hg3 := Lib.hid (HG.out w3 hg3); have k0 := Hg3.out.2.1; have k1 := Hg3.out.2.2; obtain ⟨⟨q0, q1, q2⟩, q4, q5, q6⟩ := cells3 Hg3.out.1.2; clear ho3 hr3 hg3)
      | fail)
    go_wp2_with fail
    rw [set3 Hg3.out.1.2]
    refine bodyPost_ret (v := .agg #[.slice a3 n.toNat c3, .int .i64 (u + n), .int .i64 0]) ?_ rfl ?_
    · exact results_cell_row rfl _ _ w.heap.size 28 #[.slice a3 n.toNat c3, .int .i64 (u + n), .int .i64 0] (0, 0) _ rfl (setRow_heap _ _ _ _ _ _ Hg3.out.1.2) Try.underlying28 rfl (Try.sizeRaw _ _ _)
    · refine ⟨.slice a3 n.toNat c3, rfl, ?_, (Hb0.out.trans (Hg3.out.1.1.mono (by omega))).trans (below_setRow' _ _ _ _ (Nat.le_refl _))⟩
      exact (Ho3.out.setRow (by omega) _).mono (by omega)
set_option maxRecDepth 100000 in
set_option maxHeartbeats 1000000 in
theorem refToText_bad (a : Option Addr) (len cap : Nat) (xs : List Int) (w : World) (h : Rd w a len cap xs) (n u : Int) (hv : toVarV xs = (n, u, 0)) (hn0 : 0 ≤ n) (hn : n ≤ 9223372036854775807) (hu : 1 ≤ u) (hu9 : u ≤ 9) (hlen : u ≤ len) (hbad : 65535 < n) :
    Calls Try.prog 36 #[.slice a len cap] w fun e w' => e = .returned (.agg #[.slice none 0 0, .int .i64 0, .int .i64 2]) ∧ Below w.heap.size w w' := by
  have hc := h.hc
  have hm := h.hm
  unfold maxLen at hm
  have hg0 := heap_alloc_last w (.cells #[.slice none 0 0, .int .i64 0, .int .i64 0] 28)
  obtain ⟨W0, hW0⟩ : ∃ W0, W0 = w.alloc (.cells #[.slice none 0 0, .int .i64 0, .int .i64 0] 28) := ⟨_, rfl⟩
  have hs0 : W0.heap.size = w.heap.size + 1 := by rw [hW0]; simp
  have hb0 : Below w.heap.size w W0 := by rw [hW0]; exact (Below.refl _ w).alloc (Nat.le_refl _) _
  rw [← hW0] at hg0
  have H0 := Lib.hid (h.below hb0 (Nat.le_refl _))
  have Hb0 := Lib.hid hb0
  have HW0 := Lib.hid hW0
  have Hg := Lib.hid hg0
  have HT : Hid (num (toVarV xs) = .returned (.agg #[.int .i64 n, .int .i64 u, .int .i64 0])) := Lib.hid (by rw [hv]; rfl)
  clear hg0 hW0 hb0 hv h
  go_enter Try.func36, Try.ntmps36
  go_wp2_with fail
  rw [← HW0.out]
  clear HW0
  refine (refToVar_any _ _ _ xs W0 H0.out).mono ?_
  rintro e w1 ⟨rfl, hb⟩
  rw [HT.out]
  have hs1 := hb.size
  have hb2 := hb.alloc hs1 (.cells #[.int .i64 n, .int .i64 u, .int .i64 0] 34)
  have Hg2 := Lib.hid ((hb2.block w.heap.size (by omega)).trans Hg.out)
  have Hb2 := Lib.hid (Hb0.out.trans (hb2.mono (by omega)))
  clear hb hb2 HT H0
  go_wp2_with (refine wpList_store_row rfl 28 (.tmp 2) (.tmp 15) rfl w.heap.size #[.slice none 0 0, .int .i64 0, .int .i64 2] rfl rfl 28 #[.slice none 0 0, .int .i64 0, .int .i64 0] Hg2.out (Try.sizeRaw _ _ _) rfl (oneRaw _ _ _ _ _) ?_)
  refine bodyPost_ret (v := .agg #[.slice none 0 0, .int .i64 0, .int .i64 2]) ?_ rfl ?_
  · exact results_cell_row rfl _ _ w.heap.size 28 #[.slice none 0 0, .int .i64 0, .int .i64 2] (0, 0) _ rfl (setRow_heap _ _ _ _ _ _ Hg2.out) Try.underlying28 rfl (Try.sizeRaw _ _ _)
  · exact ⟨rfl, Hb2.out.trans (below_setRow' _ _ _ _ (Nat.le_refl _))⟩
set_option maxRecDepth 100000 in
set_option maxHeartbeats 1000000 in
theorem refToText_short (a : Option Addr) (len cap : Nat) (xs : List Int) (w : World) (h : Rd w a len cap xs) (n u : Int) (hv : toVarV xs = (n, u, 0)) (hn0 : 0 ≤ n) (hn : n ≤ 65535) (hu : 1 ≤ u) (hu9 : u ≤ 9) (hlen : u ≤ len) (hbad : len - u < n) :
    Calls Try.prog 36 #[.slice a len cap] w fun e w' => e = .returned (.agg #[.slice none 0 0, .int .i64 0, .int .i64 4]) ∧ Below w.heap.size w w' := by
  have hc := h.hc
  have hm := h.hm
  unfold maxLen at hm
  have hg0 := heap_alloc_last w (.cells #[.slice none 0 0, .int .i64 0, .int .i64 0] 28)
  obtain ⟨W0, hW0⟩ : ∃ W0, W0 = w.alloc (.cells #[.slice none 0 0, .int .i64 0, .int .i64 0] 28) := ⟨_, rfl⟩
  have hs0 : W0.heap.size = w.heap.size + 1 := by rw [hW0]; simp
  have hb0 : Below w.heap.size w W0 := by rw [hW0]; exact (Below.refl _ w).alloc (Nat.le_refl _) _
  rw [← hW0] at hg0
  have H0 := Lib.hid (h.below hb0 (Nat.le_refl _))
  have Hb0 := Lib.hid hb0
  have HW0 := Lib.hid hW0
  have Hg := Lib.hid hg0
  have HT : Hid (num (toVarV xs) = .returned (.agg #[.int .i64 n, .int .i64 u, .int .i64 0])) := Lib.hid (by rw [hv]; rfl)
  clear hg0 hW0 hb0 hv h
  go_enter Try.func36, Try.ntmps36
  go_wp2_with fail
  rw [← HW0.out]
  clear HW0
  refine (refToVar_any _ _ _ xs W0 H0.out).mono ?_
  rintro e w1 ⟨rfl, hb⟩
  rw [HT.out]
  have hs1 := hb.size
  have hb2 := hb.alloc hs1 (.cells #[.int .i64 n, .int .i64 u, .int .i64 0] 34)
  have Hg2 := Lib.hid ((hb2.block w.heap.size (by omega)).trans Hg.out)
  have Hb2 := Lib.hid (Hb0.out.trans (hb2.mono (by omega)))
  clear hb hb2 HT H0
  go_wp2_with (refine wpList_store_row rfl 28 (.tmp 2) (.tmp 24) rfl w.heap.size #[.slice none 0 0, .int .i64 0, .int .i64 4] rfl rfl 28 #[.slice none 0 0, .int .i64 0, .int .i64 0] Hg2.out (Try.sizeRaw _ _ _) rfl (oneRaw _ _ _ _ _) ?_)
  refine bodyPost_ret (v := .agg #[.slice none 0 0, .int .i64 0, .int .i64 4]) ?_ rfl ?_
  · exact results_cell_row rfl _ _ w.heap.size 28 #[.slice none 0 0, .int .i64 0, .int .i64 4] (0, 0) _ rfl (setRow_heap _ _ _ _ _ _ Hg2.out) Try.underlying28 rfl (Try.sizeRaw _ _ _)
  · exact ⟨rfl, Hb2.out.trans (below_setRow' _ _ _ _ (Nat.le_refl _))⟩
set_option maxRecDepth 100000 in
set_option maxHeartbeats 1000000 in
theorem refToText_err (a : Option Addr) (len cap : Nat) (xs : List Int) (w : World) (h : Rd w a len cap xs) (hv : toVarV xs = (0, 0, 4)) :
    Calls Try.prog 36 #[.slice a len cap] w fun e w' => e = .returned (.agg #[.slice none 0 0, .int .i64 0, .int .i64 4]) ∧ Below w.heap.size w w' := by
  have hc := h.hc
  have hm := h.hm
  unfold maxLen at hm
  have hg0 := heap_alloc_last w (.cells #[.slice none 0 0, .int .i64 0, .int .i64 0] 28)
  obtain ⟨W0, hW0⟩ : ∃ W0, W0 = w.alloc (.cells #[.slice none 0 0, .int .i64 0, .int .i64 0] 28) := ⟨_, rfl⟩
  have hs0 : W0.heap.size = w.heap.size + 1 := by rw [hW0]; simp
  have hb0 : Below w.heap.size w W0 := by rw [hW0]; exact (Below.refl _ w).alloc (Nat.le_refl _) _
  rw [← hW0] at hg0
  have H0 := Lib.hid (h.below hb0 (Nat.le_refl _))
  have Hb0 := Lib.hid hb0
  have HW0 := Lib.hid hW0
  have Hg := Lib.hid hg0
  have HT : Hid (num (toVarV xs) = .returned (.agg #[.int .i64 0, .int .i64 0, .int .i64 4])) := Lib.hid (by rw [hv]; rfl)
  clear hg0 hW0 hb0 hv h
  go_enter Try.func36, Try.ntmps36
  go_wp2_with fail
  rw [← HW0.out]
  clear HW0
  refine (refToVar_any _ _ _ xs W0 H0.out).mono ?_
  rintro e w1 ⟨rfl, hb⟩
  rw [HT.out]
  have hs1 := hb.size
  have hb2 := hb.alloc hs1 (.cells #[.int .i64 0, .int .i64 0, .int .i64 4] 34)
  have Hg2 := Lib.hid ((hb2.block w.heap.size (by omega)).trans Hg.out)
  have Hb2 := Lib.hid (Hb0.out.trans (hb2.mono (by omega)))
  clear hb hb2 HT H0
  go_wp2_with (refine wpList_store_row rfl 28 (.tmp 2) (.tmp 11) rfl w.heap.size #[.slice none 0 0, .int .i64 0, .int .i64 4] rfl rfl 28 #[.slice none 0 0, .int .i64 0, .int .i64 0] Hg2.out (Try.sizeRaw _ _ _) rfl (oneRaw _ _ _ _ _) ?_)
  refine bodyPost_ret (v := .agg #[.slice none 0 0, .int .i64 0, .int .i64 4]) ?_ rfl ?_
  · exact results_cell_row rfl _ _ w.heap.size 28 #[.slice none 0 0, .int .i64 0, .int .i64 4] (0, 0) _ rfl (setRow_heap _ _ _ _ _ _ Hg2.out) Try.underlying28 rfl (Try.sizeRaw _ _ _)
  · exact ⟨rfl, Hb2.out.trans (below_setRow' _ _ _ _ (Nat.le_refl _))⟩
theorem refToText_any (a : Option Addr) (len cap : Nat) (xs : List Int) (w : World) (h : Rd w a len cap xs) :
    Calls Try.prog 36 #[.slice a len cap] w fun e w' => ∃ v, e = .returned (.agg #[v, .int .i64 (toTextV xs).2.1, .int .i64 (toTextV xs).2.2]) ∧ Own w' w.heap.size v (toTextV xs).1 ∧ Below w.heap.size w w' := by
  have hb := toVarV_bd xs h.hb
  have hl := h.hl
  rcases hv : toVarV xs with ⟨n, u, e⟩
  rw [hv] at hb
  simp only at hb
  obtain ⟨b1, b2, b3, b4, b5, ⟨rfl, b6⟩ | ⟨rfl, rfl, rfl⟩⟩ := hb
  · by_cases c1 : 65535 < n
    · have e1 : toTextV xs = ([], 0, 2) := by unfold toTextV; simp [hv, c1]
      rw [e1]
      refine (refToText_bad a len cap xs w h n u hv b1 b2 b6 b4 (by omega) c1).mono ?_
      rintro e w' ⟨rfl, hbb⟩
      exact ⟨_, rfl, Own.nil _ _, hbb⟩
    · by_cases c2 : (xs.length : Int) - u < n
      · have e1 : toTextV xs = ([], 0, 4) := by unfold toTextV; simp [hv, c1, c2]
        rw [e1]
        refine (refToText_short a len cap xs w h n u hv b1 (by omega) b6 b4 (by omega) (by omega)).mono ?_
        rintro e w' ⟨rfl, hbb⟩
        exact ⟨_, rfl, Own.nil _ _, hbb⟩
      · have e1 : toTextV xs = ((xs.drop u.toNat).take n.toNat, u + n, 0) := by unfold toTextV; simp [hv, c1, c2]
        rw [e1]
        exact refToText_ok a len cap xs w h n u hv b1 (by omega) b6 b4 (by omega)
  · have e1 : toTextV xs = ([], 0, 4) := by unfold toTextV; simp [hv]
    rw [e1]
    refine (refToText_err a len cap xs w h hv).mono ?_
    rintro e w' ⟨rfl, hbb⟩
    exact ⟨_, rfl, Own.nil _ _, hbb⟩
end Go.Proofs.Ytmfijcniaehooaa

/- The reference's Pack. -/
namespace Go.Proofs.Ytmfijcniaehooaa
set_option linter.unusedVariables false
open Go.RowKit

/-- A Raw: bytes of the call's own, how many, an error. -/
def RawPost (bs : List Int) (er : Int) (w : World) (e : Ending) (w' : World) : Prop := ∃ v, e = .returned (.agg #[v, .int .i64 bs.length, .int .i64 er]) ∧ Own w' w.heap.size v bs ∧ Below w.heap.size w w'
theorem suits_iff (k n wd : Int) (xs : List Int) : suitsV k n wd xs = true ↔ packE k n wd xs = 0 := by unfold suitsV; simp
theorem packE_24 {f : Fld} (h : ¬ fldBad f) (n : Int) (xs : List Int) (hs : suitsV f.kind n f.width xs = false) : packE f.kind n f.width xs = 24 := by
  obtain ⟨k1, k5, w0, w4⟩ := fld_bd h
  have hne : packE f.kind n f.width xs ≠ 0 := by intro e; rw [(suits_iff _ _ _ _).2 e] at hs; cases hs
  unfold packE at hne ⊢
  split
  · rfl
  · rename_i hc
    rw [if_neg hc] at hne
    split
    · rename_i h1
      rw [if_pos h1] at hne
      have := narrow_le h (.inl h1)
      unfold fixedE at hne ⊢
      rw [if_neg (by omega)] at hne ⊢
      split
      · rfl
      · rename_i hx; rw [if_neg hx] at hne; exact absurd rfl hne
    · rename_i h1
      rw [if_neg h1] at hne
      split
      · rename_i h2
        rw [if_pos h2] at hne
        have := narrow_le h (.inr h2)
        unfold fixedE at hne ⊢
        rw [if_neg (by omega)] at hne ⊢
        split
        · rfl
        · rename_i hx; rw [if_neg hx] at hne; exact absurd rfl hne
      · rename_i h2
        rw [if_neg h2] at hne
        split
        · rename_i h3
          rw [if_pos h3] at hne
          unfold varE at hne ⊢
          split
          · rfl
          · rename_i hx; rw [if_neg hx] at hne; exact absurd rfl hne
        · rename_i h3
          rw [if_neg h3] at hne
          split
          · rename_i h4
            rw [if_pos h4] at hne
            unfold wr4E at hne ⊢
            split
            · rename_i hx; rw [if_pos hx] at hne; exact absurd rfl hne
            · rfl
          · rename_i h4
            rw [if_neg h4] at hne
            unfold wr5E textE at hne ⊢
            split
            · rfl
            · rename_i hx
              rw [if_neg hx, if_neg (by omega)] at hne
              exact absurd rfl hne
section
variable {P : Program} {w : World} {ops : Array Oper} {o : Oper} {a : Act} {K : Act → World → Prop} {Q : Exit → Act → World → Prop} {E : Prop}
/-- Bytes appended, nil or not, at a step of a region that draws its order. -/
theorem step_append_any (hgd : o.guard = none) (s x : Operand) (t : TypeId)
    (ho : o.op = .call { callee := .builtin .append, args := #[s, x], argTypes := #[t, t] }) (base : Nat)
    (hinfo : (P.info? 5).map (fun i => (i.zero, i.size, i.bytes)) = some (some (.int .u8 0), 1, 1)) (ht : P.underlying t = some (.slice 5))
    (v : Value) (ys : List Int) (hs : a.eval s = v) (hown : Own w base v ys) (ad : Option Addr) (m c : Nat) (xs : List Int) (hx : a.eval x = .slice ad m c) (hrd : Rd w ad m c xs)
    (hbytes : ys.length + m ≤ 140737488355328) (hbase : base ≤ w.heap.size)
    (h : ∀ v' w', Own w' base v' (ys ++ xs) → w.grownBy w' v.ownBlock → K (a.put o.dst v') w') :
    if Region.wanted o (yielded ops a.tmps) = true then Oper.wp P o a w K Q else E := by
  cases ad with
  | some x0 => exact step_append_rd hgd s x t ho base hinfo ht v ys hs hown x0 m c xs hx hrd hbytes hbase h
  | none =>
    have hw : Region.wanted o (yielded ops a.tmps) = true := by simp [Region.wanted, hgd]
    rw [if_pos hw]
    obtain ⟨i0, hi, hz0, hz1, hz2⟩ := info_parts hinfo
    have hl := hrd.hl
    have hc0 := hrd.hn rfl
    have hcl := hrd.hc
    obtain rfl : m = 0 := by omega
    obtain rfl : xs = [] := by simpa using hl
    subst hc0
    have hrun := run_append_owned_none (P := P) (w := w) base t o.type _ i0 1 ht hi v ys.length _ hown.1
    unfold Oper.wp
    simp [execOp, ho, resolve, invoke, builtin, hs, hx, hrun, Result.andThen]
    exact h v w (by simpa using hown) ⟨rfl, rfl, rfl, Nat.le_refl _, fun _ _ _ => rfl⟩
end
set_option maxRecDepth 100000 in
set_option maxHeartbeats 8000000 in
theorem refPack_any (a : Option Addr) (len cap : Nat) (fs : List Fld) (w : World) (h : RdF w a len cap fs) (a2 : Option Addr) (len2 cap2 : Nat) (xs : List Itm) (h2 : RdI w a2 len2 cap2 xs) (hbx : ∀ x ∈ xs, x.cap ≤ 140737488351232) :
    Calls Try.prog 43 #[.slice a len cap, .slice a2 len2 cap2] w (RawPost (packV fs xs).2 (packV fs xs).1 w) := by
  have hl := h.hl
  have hl2 := h2.hl
  have hm := h.hm
  have hm2 := h2.hm
  have hc := h.hc
  have hc2 := h2.hc
  unfold maxLen at hm hm2
  obtain ⟨W0, hW0⟩ : ∃ W0, W0 = w.alloc (.cells #[.slice none 0 0, .int .i64 0, .int .i64 0] 28) := ⟨_, rfl⟩
  have hs0 : W0.heap.size = w.heap.size + 1 := by rw [hW0]; simp
  have h40 : W0.heap[w.heap.size]? = some (.cells #[.slice none 0 0, .int .i64 0, .int .i64 0] 28 (0, 0)) := by rw [hW0, heap_alloc_last]
  have hb0 : Below w.heap.size w W0 := by rw [hW0]; exact (Below.refl _ w).alloc (Nat.le_refl _) _
  have Hl := Lib.hid hl
  have Hl2 := Lib.hid hl2
  have H := Lib.hid h
  have H2 := Lib.hid h2
  have HBX := Lib.hid hbx
  have HW0 := Lib.hid hW0
  have H40 := Lib.hid h40
  have Hb0 := Lib.hid hb0
  have Hs0 := Lib.hid hs0
  have HF0 := Lib.hid (h.below hb0 (Nat.le_refl _))
  clear h h2 hbx hW0 hs0 h40 hb0 hl hl2
  go_enter Try.func43, Try.ntmps43
  go_upto_region 1 with fail
  rw [← HW0.out]
  clear HW0
  go_wp2_with fail
  refine (refCheck_any _ _ _ fs _ HF0.out).mono ?_
  rintro e w1 ⟨rfl, hb1⟩
  have H41 := Lib.hid ((hb1.block _ (by rw [Hs0.out]; omega)).trans H40.out)
  have Hb1 := Lib.hid (Hb0.out.trans (hb1.mono Hb0.out.size))
  have hs1 : w.heap.size + 1 ≤ w1.heap.size := by have := hb1.size; rw [Hs0.out] at this; exact this
  clear hb1 H40 Hb0 Hs0 HF0
  by_cases hch : checkV fs = 0
  · rw [hch]
    by_cases hll : len2 = len
    · subst hll
      have hv : packV fs xs = packL fs xs [] := by unfold packV; rw [if_neg (by simp [hch]), if_neg (by rw [Hl.out, Hl2.out]; simp)]
      rw [hv]
      have h64 : len2 ≤ 64 := by have := (checkV_ok hch).1; have := Hl.out; omega
      have Hch := Lib.hid hch
      have HPV := Lib.hid hv
      clear hv hch
      have hne : ((len2 : Int) != (len2 : Int)) = false := by simp
      go_wp2_with fail
      go_loopw [6, 7] (fun v i wr => ∃ (k : Nat) (acc : List Int), k ≤ len2 ∧ i = .int .i64 k ∧ Own wr (w.heap.size + 1) v acc ∧ acc.length ≤ k * 4105 ∧ packL fs xs [] = packL (fs.drop k) (xs.drop k) acc ∧ wr.heap[w.heap.size]? = some (.cells #[.slice none 0 0, .int .i64 0, .int .i64 0] 28 (0, 0)) ∧ Below w.heap.size w wr) (fun _ i _ => len2 - (intOf i).toNat)
      case atStart => exact ⟨0, [], Nat.zero_le _, rfl, Own.nil _ _, by simp, rfl, H41.out, Hb1.out⟩
      case round =>
        obtain ⟨k, acc, hk, rfl, hown, hal, hv, h4, hb⟩ := hrel
        obtain ⟨va, vc, rfl, -⟩ := hown.rd
        obtain ⟨al, hale⟩ : ∃ m, m = acc.length := ⟨_, rfl⟩
        rw [← hale] at hown hal ⊢
        have Ho := Lib.hid hown
        have H4 := Lib.hid h4
        have Hb := Lib.hid hb
        have Hale := Lib.hid hale
        clear hown h4 H41 Hb1 hale
        have hwl : w.heap.size < wr.heap.size := (Array.getElem?_eq_some_iff.1 H4.out).1
        by_cases hlt : k < len2
        · obtain ⟨b, off, rfl, hcell⟩ := H.out.hr (by omega)
          obtain ⟨b2, off2, rfl, hcell2⟩ := H2.out.hr (by omega)
          obtain ⟨c0, c1, c2⟩ := hcell k hlt
          obtain ⟨d0, d1⟩ := hcell2 k hlt
          have hl1 := Hl.out
          have hl2 := Hl2.out
          obtain ⟨f, hf⟩ : ∃ f, f = fs.getD k default := ⟨_, rfl⟩
          obtain ⟨x, hx⟩ : ∃ x, x = xs.getD k default := ⟨_, rfl⟩
          rw [← hf] at c0 c1 c2
          rw [← hx] at d0 d1
          have hfm : f ∈ fs := by
            rw [hf]
            have : fs.getD k default = fs[k]'(by omega) := by simp [List.getD, hl1, hlt]
            rw [this]; exact List.getElem_mem _
          have hxm : x ∈ xs := by
            rw [hx]
            have : xs.getD k default = xs[k]'(by omega) := by simp [List.getD, hl2, hlt]
            rw [this]; exact List.getElem_mem _
          have hd : fs.drop k = f :: fs.drop (k + 1) := by
            rw [List.drop_eq_getElem_cons (by omega), hf]
            simp [List.getD, hl1, hlt]
          have hd2 : xs.drop k = x :: xs.drop (k + 1) := by
            rw [List.drop_eq_getElem_cons (by omega), hx]
            simp [List.getD, hl2, hlt]
          have hok := (checkV_ok Hch.out).2 f hfm
          have hpl := packB_len hok x.n x.xs
          have hxo := H2.out.hb x hxm
          have hxl : x.len ≤ 140737488355328 := by have := HBX.out x hxm; have := hxo.r.hc; omega
          rw [hd, hd2, packL] at hv
          have HS1 := Lib.hid (fun (u : World) (hu : Below w.heap.size w u) => suits_any f hok x u ⟨hxo.n1, hxo.n2, hxo.r.below hu (Nat.le_refl _)⟩)
          have HFd := Lib.hid (fun (hs : suitsV f.kind x.n f.width x.xs = true) (u : World) (hu : Below w.heap.size w u) => field_any f hok x u ⟨hxo.n1, hxo.n2, hxo.r.below hu (Nat.le_refl _)⟩ hxl hs)
          have H24 := Lib.hid (fun hs => packE_24 hok x.n x.xs hs)
          have Hv := Lib.hid hv
          have HC := Lib.hid (And.intro c0 (And.intro c1 (And.intro c2 (And.intro d0 d1))))
          have KB : Hid (∀ u, Below w.heap.size w u → ∀ x v, w.cell? x = some v → u.cell? x = some v) := Lib.hid (fun u hu x v h => (hu.cell (p := x) (World.block_lt_of_cell? w _ h)).trans h)
          have Hal := Lib.hid hal
          have Hpl := Lib.hid hpl
          clear hv hd hd2 hf hx hfm hxm hl1 hl2 hok hpl hal c0 c1 c2 d0 d1 hcell hcell2 hxo
          unfold Fld.val at HS1 HFd
          obtain ⟨nm, kd, wd⟩ := f
          obtain ⟨xn, xa, xl, xc, xx⟩ := x
          simp only at HS1 HFd H24 Hv HC Hpl hxl
          go_upto_region 10 with fail
          refine wp_region_held_drew (S := Below w.heap.size wr) (by kernel_rfl) (Below.refl _ _).drew (fun _ => ?_)
          have HS0 : Hid (Below w.heap.size wr wr.drew) := Lib.hid (Below.refl _ _).drew
          refine wpAnyH_take (i := 0) (v := .slice (some ⟨b, off, none⟩) len2 cap) rfl (by kernel_rfl) (by kernel_rfl) (by kernel_rfl) (fun _ _ _ h => h) (Or.inl ⟨by rfl, ?_⟩) HS0.out ?_
          · intro u hu; go_simp
          go_simp
          refine wpAnyH_take (i := 1) (v := .int .i64 k) rfl (by kernel_rfl) (by kernel_rfl) (by kernel_rfl) (fun _ _ _ h => h) (Or.inl ⟨by rfl, ?_⟩) HS0.out ?_
          · intro u hu; go_simp
          go_simp
          refine wpAnyH_take (i := 2) (v := .pointer (some ⟨b, off + k * 3, none⟩)) rfl (by kernel_rfl) (by kernel_rfl) (by kernel_rfl) (fun _ _ _ h => h) (Or.inl ⟨by rfl, ?_⟩) HS0.out ?_
          · intro u hu; go_simp
          go_simp
          refine wpAnyH_take (i := 3) (v := .agg #[.string nm, .int .i64 kd, .int .i64 wd]) rfl (by kernel_rfl) (by kernel_rfl) (by kernel_rfl) (fun _ _ _ h => h) (Or.inl ⟨by rfl, ?_⟩) HS0.out ?_
          · intro u hu; have q0 := KB.out u (Hb.out.trans hu) _ _ HC.out.1; have q1 := KB.out u (Hb.out.trans hu) _ _ HC.out.2.1; have q2 := KB.out u (Hb.out.trans hu) _ _ HC.out.2.2.1; go_simp
          go_simp
          refine wpAnyH_take (i := 4) (v := .slice (some ⟨b2, off2, none⟩) len2 cap2) rfl (by kernel_rfl) (by kernel_rfl) (by kernel_rfl) (fun _ _ _ h => h) (Or.inl ⟨by rfl, ?_⟩) HS0.out ?_
          · intro u hu; go_simp
          go_simp
          refine wpAnyH_take (i := 5) (v := .int .i64 k) rfl (by kernel_rfl) (by kernel_rfl) (by kernel_rfl) (fun _ _ _ h => h) (Or.inl ⟨by rfl, ?_⟩) HS0.out ?_
          · intro u hu; go_simp
          go_simp
          refine wpAnyH_take (i := 6) (v := .pointer (some ⟨b2, off2 + k * 2, none⟩)) rfl (by kernel_rfl) (by kernel_rfl) (by kernel_rfl) (fun _ _ _ h => h) (Or.inl ⟨by rfl, ?_⟩) HS0.out ?_
          · intro u hu; go_simp
          go_simp
          refine wpAnyH_take (i := 7) (v := .agg #[.int .i64 xn, .slice xa xl xc]) rfl (by kernel_rfl) (by kernel_rfl) (by kernel_rfl) (fun _ _ _ h => h) (Or.inl ⟨by rfl, ?_⟩) HS0.out ?_
          · intro u hu; have q0 := KB.out u (Hb.out.trans hu) _ _ HC.out.2.2.2.1; have q1 := KB.out u (Hb.out.trans hu) _ _ HC.out.2.2.2.2; go_simp
          go_simp
          refine wpAnyH_ready (rs := [8]) (by kernel_rfl) (by simp) ?_
          refine AllReadyH.cons rfl (fun K hK => ?_) AllReadyH.nil
          go_simp
          refine (HS1.out _ (Hb.out.trans HS0.out)).mono ?_
          rintro e w2 ⟨rfl, hb2⟩
          have hbd2 : Below wr.heap.size wr w2 := (show Below wr.heap.size wr wr.drew from (Below.refl _ _).drew).trans hb2
          have HS2 : Hid (Below w.heap.size wr w2) := Lib.hid (hbd2.mono (by omega))
          have Ho2 := Lib.hid (Ho.out.below hbd2 (Nat.le_refl _))
          have H42 := Lib.hid ((hbd2.block _ hwl).trans H4.out)
          have Hb2 := Lib.hid (Hb.out.trans HS2.out)
          have hs12 : wr.heap.size ≤ w2.heap.size := hbd2.size
          clear hb2 hbd2 HS0
          refine hK.out _ _ HS2.out (fun _ => ?_)
          clear hK K
          obtain ⟨sb, hsb⟩ : ∃ s, s = suitsV kd xn wd xx := ⟨_, rfl⟩
          rw [← hsb]
          refine wpAnyH_ready (rs := [9]) (by kernel_rfl) (by simp) ?_
          refine AllReadyH.cons rfl (fun K hK => ?_) AllReadyH.nil
          go_simp
          refine hK.out _ _ HS2.out (fun _ => ?_)
          clear hK K
          refine wpAnyH_done (by kernel_rfl) ?_ _
          clear hsb HS2 Ho H4 HS1
          cases hsu : suitsV kd xn wd xx with
          | false =>
            have HV2 : Hid (packL fs xs [] = (24, [])) := Lib.hid (by rw [Hv.out, H24.out hsu]; simp)
            clear HFd Hv H24
            go_wp2_with (refine wpList_store_row rfl 28 (.tmp 4) (.tmp 36) rfl w.heap.size #[.slice none 0 0, .int .i64 0, .int .i64 24] rfl rfl 28 #[.slice none 0 0, .int .i64 0, .int .i64 0] H42.out (Try.sizeRaw _ _ _) rfl (oneRaw _ _ _ _ _) ?_)
            first | rw [HV2.out] | rw [HPV.out, HV2.out]
            refine bodyPost_ret (v := .agg #[.slice none 0 0, .int .i64 0, .int .i64 24]) ?_ rfl ⟨_, rfl, Own.nil _ _, Hb2.out.trans (below_setRow' _ _ _ _ (Nat.le_refl _))⟩
            exact results_cell_row rfl _ _ w.heap.size 28 #[.slice none 0 0, .int .i64 0, .int .i64 24] (0, 0) _ rfl (setRow_heap _ _ _ _ _ _ H42.out) Try.underlying28 rfl (Try.sizeRaw _ _ _)
          | true =>
            have HV2 : Hid (packL fs xs [] = packL (fs.drop (k + 1)) (xs.drop (k + 1)) (acc ++ packB kd xn wd xx)) := Lib.hid (by rw [Hv.out, if_neg (by simp [(suits_iff _ _ _ _).1 hsu])])
            have HFE := Lib.hid (HFd.out hsu)
            have hal := Hal.out
            have hpl := Hpl.out
            clear HFd Hv H24
            go_upto_region 12 with fail
            refine wp_region_held_drew (S := Below w.heap.size w2) (by kernel_rfl) (Below.refl _ _).drew (fun _ => ?_)
            have HS0 : Hid (Below w.heap.size w2 w2.drew) := Lib.hid (Below.refl _ _).drew
            refine wpAnyH_take (i := 0) (v := .slice va al vc) rfl (by kernel_rfl) (by kernel_rfl) (by kernel_rfl) (fun _ _ _ h => h) (Or.inl ⟨by rfl, ?_⟩) HS0.out ?_
            · intro u hu; go_simp
            go_simp
            refine wpAnyH_take (i := 1) (v := .slice (some ⟨b, off, none⟩) len2 cap) rfl (by kernel_rfl) (by kernel_rfl) (by kernel_rfl) (fun _ _ _ h => h) (Or.inl ⟨by rfl, ?_⟩) HS0.out ?_
            · intro u hu; go_simp
            go_simp
            refine wpAnyH_take (i := 2) (v := .int .i64 k) rfl (by kernel_rfl) (by kernel_rfl) (by kernel_rfl) (fun _ _ _ h => h) (Or.inl ⟨by rfl, ?_⟩) HS0.out ?_
            · intro u hu; go_simp
            go_simp
            refine wpAnyH_take (i := 3) (v := .pointer (some ⟨b, off + k * 3, none⟩)) rfl (by kernel_rfl) (by kernel_rfl) (by kernel_rfl) (fun _ _ _ h => h) (Or.inl ⟨by rfl, ?_⟩) HS0.out ?_
            · intro u hu; go_simp
            go_simp
            refine wpAnyH_take (i := 4) (v := .agg #[.string nm, .int .i64 kd, .int .i64 wd]) rfl (by kernel_rfl) (by kernel_rfl) (by kernel_rfl) (fun _ _ _ h => h) (Or.inl ⟨by rfl, ?_⟩) HS0.out ?_
            · intro u hu; have q0 := KB.out u (Hb2.out.trans hu) _ _ HC.out.1; have q1 := KB.out u (Hb2.out.trans hu) _ _ HC.out.2.1; have q2 := KB.out u (Hb2.out.trans hu) _ _ HC.out.2.2.1; go_simp
            go_simp
            refine wpAnyH_take (i := 5) (v := .slice (some ⟨b2, off2, none⟩) len2 cap2) rfl (by kernel_rfl) (by kernel_rfl) (by kernel_rfl) (fun _ _ _ h => h) (Or.inl ⟨by rfl, ?_⟩) HS0.out ?_
            · intro u hu; go_simp
            go_simp
            refine wpAnyH_take (i := 6) (v := .int .i64 k) rfl (by kernel_rfl) (by kernel_rfl) (by kernel_rfl) (fun _ _ _ h => h) (Or.inl ⟨by rfl, ?_⟩) HS0.out ?_
            · intro u hu; go_simp
            go_simp
            refine wpAnyH_take (i := 7) (v := .pointer (some ⟨b2, off2 + k * 2, none⟩)) rfl (by kernel_rfl) (by kernel_rfl) (by kernel_rfl) (fun _ _ _ h => h) (Or.inl ⟨by rfl, ?_⟩) HS0.out ?_
            · intro u hu; go_simp
            go_simp
            refine wpAnyH_take (i := 8) (v := .agg #[.int .i64 xn, .slice xa xl xc]) rfl (by kernel_rfl) (by kernel_rfl) (by kernel_rfl) (fun _ _ _ h => h) (Or.inl ⟨by rfl, ?_⟩) HS0.out ?_
            · intro u hu; have q0 := KB.out u (Hb2.out.trans hu) _ _ HC.out.2.2.2.1; have q1 := KB.out u (Hb2.out.trans hu) _ _ HC.out.2.2.2.2; go_simp
            go_simp
            refine wpAnyH_ready (rs := [9]) (by kernel_rfl) (by simp) ?_
            refine AllReadyH.cons rfl (fun K hK => ?_) AllReadyH.nil
            go_simp
            refine (HFE.out _ (Hb2.out.trans HS0.out)).mono ?_
            rintro e w3 ⟨v3, rfl, ho3, hb3⟩
            obtain ⟨v3a, v3c, rfl, hr3⟩ := ho3.rd
            obtain ⟨pl, hple⟩ : ∃ m, m = (packB kd xn wd xx).length := ⟨_, rfl⟩
            rw [← hple] at hr3 ⊢
            have hpl2 : pl ≤ 4105 := by rw [hple]; exact hpl
            have hbd3 : Below w2.heap.size w2 w3 := (show Below w2.heap.size w2 w2.drew from (Below.refl _ _).drew).trans hb3
            have HS3 : Hid (Below w.heap.size w2 w3) := Lib.hid (hbd3.mono (by omega))
            have Ho23 := Lib.hid (Ho2.out.below hbd3 (Nat.le_refl _))
            have H423 := Lib.hid ((hbd3.block _ (by omega)).trans H42.out)
            have Hr3 := Lib.hid hr3
            have hs23 : w2.heap.size ≤ w3.heap.size := hbd3.size
            clear ho3 hb3 hbd3 hr3 HS0 hple
            refine hK.out _ _ HS3.out (fun _ => ?_)
            clear hK K
            refine wpAnyH_ready (rs := [10]) (by kernel_rfl) (by simp) ?_
            refine AllReadyH.cons rfl (fun K hK => ?_) AllReadyH.nil
            refine step_append_any rfl _ _ 22 (by rfl) (w.heap.size + 1) Try.infoB Try.underlying22 (.slice va al vc) acc (by rfl) Ho23.out _ _ _ (packB kd xn wd xx) (by rfl) Hr3.out (by rw [← Hale.out]; omega) (by omega) ?_
            intro v4 w4 ho4 hg4
            have hg4b : Below (w.heap.size + 1) w3 w4 := (Below.refl (w.heap.size + 1) w3).grown hg4 (by omega) (fun k hk => (Ho23.out.1.lt k hk).1)
            have HS4 : Hid (Below w.heap.size w2 w4) := Lib.hid (HS3.out.trans (hg4b.mono (by omega)))
            have Ho3 := Lib.hid ho4
            have H43 := Lib.hid ((hg4b.block _ (by omega)).trans H423.out)
            have Hb3 := Lib.hid (Hb2.out.trans HS4.out)
            clear ho4 hg4 hg4b H423 Ho23 HS3 Hr3 Ho2 H42
            refine hK.out _ _ HS4.out (fun _ => ?_)
            clear hK K
            refine wpAnyH_ready (rs := [11]) (by kernel_rfl) (by simp) ?_
            refine AllReadyH.cons rfl (fun K hK => ?_) AllReadyH.nil
            go_simp
            refine hK.out _ _ HS4.out (fun _ => ?_)
            clear hK K
            refine wpAnyH_done (by kernel_rfl) ?_ _
            go_wp2_with fail
            go_roundw
            case rel => exact ⟨k + 1, acc ++ packB kd xn wd xx, by omega, by go_num, Ho3.out, by rw [List.length_append, ← Hale.out]; omega, HV2.out, H43.out, Hb3.out⟩
            case measure => simp [intOf]; omega
        · obtain rfl : k = len2 := by omega
          have hfin : packL fs xs [] = (0, acc) := by rw [hv, List.drop_eq_nil_of_le (by rw [Hl.out]; exact Nat.le_refl _)]; simp [packL]
          have HFin := Lib.hid hfin
          clear hv hfin hal
          go_wp2_with (refine wpList_store_row rfl 28 (.tmp 4) (.tmp 51) rfl w.heap.size #[.slice va al vc, .int .i64 al, .int .i64 0] rfl rfl 28 #[.slice none 0 0, .int .i64 0, .int .i64 0] H4.out (Try.sizeRaw _ _ _) rfl (oneRaw _ _ _ _ _) ?_)
          first | rw [HFin.out] | rw [HPV.out, HFin.out]
          refine bodyPost_ret (v := .agg #[.slice va al vc, .int .i64 al, .int .i64 0]) ?_ rfl ⟨_, by rw [Hale.out], (Ho.out.setRow (by omega) _).mono (by omega), Hb.out.trans (below_setRow' _ _ _ _ (Nat.le_refl _))⟩
          exact results_cell_row rfl _ _ w.heap.size 28 #[.slice va al vc, .int .i64 al, .int .i64 0] (0, 0) _ rfl (setRow_heap _ _ _ _ _ _ H4.out) Try.underlying28 rfl (Try.sizeRaw _ _ _)
    · have hv : packV fs xs = (1, []) := by unfold packV; rw [if_neg (by simp [hch]), if_pos (by rw [Hl.out, Hl2.out]; exact hll)]
      rw [hv]
      have hne : ((len2 : Int) != (len : Int)) = true := by simp; omega
      go_wp2_with (refine wpList_store_row rfl 28 (.tmp 4) (.tmp 19) rfl w.heap.size #[.slice none 0 0, .int .i64 0, .int .i64 1] rfl rfl 28 #[.slice none 0 0, .int .i64 0, .int .i64 0] H41.out (Try.sizeRaw _ _ _) rfl (oneRaw _ _ _ _ _) ?_)
      refine bodyPost_ret (v := .agg #[.slice none 0 0, .int .i64 0, .int .i64 1]) ?_ rfl (by rw [hv]; exact ⟨_, rfl, Own.nil _ _, Hb1.out.trans (below_setRow' _ _ _ _ (Nat.le_refl _))⟩)
      exact results_cell_row rfl _ _ w.heap.size 28 #[.slice none 0 0, .int .i64 0, .int .i64 1] (0, 0) _ rfl (setRow_heap _ _ _ _ _ _ H41.out) Try.underlying28 rfl (Try.sizeRaw _ _ _)
  · have hc1 : checkV fs = 1 := by rcases checkV_01 fs with h | h; exact absurd h hch; exact h
    have hv : packV fs xs = (1, []) := by unfold packV; rw [if_pos hch, hc1]
    rw [hv, hc1]
    go_wp2_with (refine wpList_store_row rfl 28 (.tmp 4) (.tmp 13) rfl w.heap.size #[.slice none 0 0, .int .i64 0, .int .i64 1] rfl rfl 28 #[.slice none 0 0, .int .i64 0, .int .i64 0] H41.out (Try.sizeRaw _ _ _) rfl (oneRaw _ _ _ _ _) ?_)
    refine bodyPost_ret (v := .agg #[.slice none 0 0, .int .i64 0, .int .i64 1]) ?_ rfl (by rw [hv]; exact ⟨_, rfl, Own.nil _ _, Hb1.out.trans (below_setRow' _ _ _ _ (Nat.le_refl _))⟩)
    exact results_cell_row rfl _ _ w.heap.size 28 #[.slice none 0 0, .int .i64 0, .int .i64 1] (0, 0) _ rfl (setRow_heap _ _ _ _ _ _ H41.out) Try.underlying28 rfl (Try.sizeRaw _ _ _)
end Go.Proofs.Ytmfijcniaehooaa

/- The reference's Read, told in plain values. -/
namespace Go.Proofs.Ytmfijcniaehooaa
set_option linter.unusedVariables false
open Go.RowKit

theorem add_step8 (a c : Int) (j : Nat) (hj : j < 8) (ha : 0 ≤ a) (ha' : a < 256 ^ j) (hx : 0 ≤ c) (hx' : c ≤ 255) :
    IntKind.u64.wrap (a + IntKind.u64.wrap (c * 2 ^ (8 * j))) = a + c * 256 ^ j ∧ 0 ≤ a + c * 256 ^ j ∧ a + c * 256 ^ j < 256 ^ (j + 1) := by
  have : j = 0 ∨ j = 1 ∨ j = 2 ∨ j = 3 ∨ j = 4 ∨ j = 5 ∨ j = 6 ∨ j = 7 := by omega
  rcases this with rfl | rfl | rfl | rfl | rfl | rfl | rfl | rfl <;> simp only [IntKind.wrap_u64, Nat.reduceMul, Nat.reduceAdd, Int.reducePow] at * <;> omega
set_option maxRecDepth 100000 in
set_option maxHeartbeats 4000000 in
theorem refRead_any (a : Option Addr) (len cap : Nat) (xs : List Int) (s : Bool) (w : World) (h : Rd w a len cap xs) :
    Calls Try.prog 21 #[.slice a len cap, .bool s] w fun e w' => (∃ u, e = .returned (.agg #[.int .i64 (numV s xs).1, .int .i64 u, .int .i64 (numV s xs).2])) ∧ Below w.heap.size w w' := by
  have hl := h.hl
  have hm := h.hm
  have hc := h.hc
  unfold maxLen at hm
  by_cases hbad : len < 1 ∨ 8 < len
  · have Hv : Hid (numV s xs = (0, 1)) := Lib.hid (by
      cases s
      · show toUintV xs = _; unfold toUintV; rw [if_pos (by omega)]
      · show toIntV xs = _; unfold toIntV; rw [if_pos (by omega)])
    rw [Hv.out]
    have hcase : (len : Int) < 1 ∨ ¬ (len : Int) < 1 ∧ (8 : Int) < (len : Int) := by omega
    clear hbad h hl
    rcases hcase with hw | ⟨hw, hw2⟩
    · go_enter Try.func21, Try.ntmps21
      go_wp2_with fail
      exact bodyPost_ret (results_cell_row rfl _ _ w.heap.size 34 _ (0, 0) _ rfl (heap_alloc_last w _) Try.underlying34 rfl (Try.sizeNum _ _ _)) rfl ⟨⟨_, rfl⟩, (Below.refl _ w).alloc (Nat.le_refl _) _⟩
    · go_enter Try.func21, Try.ntmps21
      go_wp2_with fail
      exact bodyPost_ret (results_cell_row rfl _ _ w.heap.size 34 _ (0, 0) _ rfl (heap_alloc_last w _) Try.underlying34 rfl (Try.sizeNum _ _ _)) rfl ⟨⟨_, rfl⟩, (Below.refl _ w).alloc (Nat.le_refl _) _⟩
  · have hlb := le_bd xs h.hb
    obtain ⟨b, off, rfl, hcell⟩ := h.hr (by omega)
    have hbk := World.block_lt_of_cell? w _ (hcell 0 (by omega))
    have Hc := Lib.hid hcell
    have Hbd := Lib.hid h.hb
    have Hl := Lib.hid hl
    have hl1 : ¬ (len : Int) < 1 := by omega
    have hl8 : ¬ (8 : Int) < (len : Int) := by omega
    clear hcell h
    go_enter Try.func21, Try.ntmps21
    go_wp2_with fail
    go_loopw [5, 6] (fun x i wr => ∃ j : Nat, j ≤ len ∧ i = .int .i64 j ∧ x = .int .u64 (le (xs.take j)) ∧ wr = w.alloc (.cells #[.int .i64 0, .int .i64 0, .int .i64 0] 34)) (fun _ i _ => 9 - (intOf i).toNat)
    case atStart => exact ⟨0, Nat.zero_le _, rfl, rfl, rfl⟩
    case round =>
      obtain ⟨j, hj, rfl, rfl, rfl⟩ := hrel
      by_cases hlt : j < len
      · have hcj := Hc.out j hlt
        have hjl : j < xs.length := by rw [Hl.out]; exact hlt
        have hx := Hbd.out (xs.getD j 0) (by rw [getD_at _ _ hjl]; exact List.getElem_mem _)
        have hbt := le_bd (xs.take j) (fun n hn => Hbd.out n (List.mem_of_mem_take hn))
        have htl : (xs.take j).length = j := by simp; omega
        rw [htl] at hbt
        have hst := add_step8 (le (xs.take j)) (xs.getD j 0) j (by omega) hbt.1 hbt.2 hx.1 hx.2
        have htk : xs.take (j + 1) = xs.take j ++ [xs.getD j 0] := by rw [List.take_succ_eq_append_getElem hjl, getD_at _ _ hjl]
        have hle : le (xs.take (j + 1)) = le (xs.take j) + xs.getD j 0 * 256 ^ j := by rw [htk, le_snoc, htl]
        have Hst := Lib.hid (hst.1.trans hle.symm)
        generalize hxx : xs.getD j 0 = x at *
        generalize hll : le (xs.take j) = acc at *
        clear hst htk hle htl hxx hll
        obtain ⟨hx1, hx2⟩ := hx
        obtain ⟨hb1, hb2⟩ := hbt
        go_wp2_with fail
        go_roundw
        case rel => exact ⟨j + 1, by omega, by go_num, by rw [← Hst.out], by first | trivial | rfl⟩
        case measure => simp [intOf]; omega
      · obtain rfl : j = len := by omega
        have htk : xs.take j = xs := List.take_of_length_le (by rw [Hl.out]; exact Nat.le_refl _)
        rw [htk]
        rw [Hl.out] at hlb
        generalize hX : le xs = X at *
        cases s
        · by_cases hbig : 9223372036854775807 < X
          · have Hv : Hid (numV false xs = (0, 24)) := Lib.hid (by show toUintV xs = _; unfold toUintV; rw [Hl.out, if_neg (by omega), hX, if_pos hbig])
            have hbig2 : 9223372036854775808 ≤ X := by omega
            go_wp2_with fail
            exact bodyPost_ret (results_cell_row rfl _ _ w.heap.size 34 _ (0, 0) _ rfl (heap_alloc_last w _) Try.underlying34 rfl (Try.sizeNum _ _ _)) rfl ⟨⟨_, by rw [Hv.out]⟩, (Below.refl _ w).alloc (Nat.le_refl _) _⟩
          · have Hv : Hid (numV false xs = (X, 0)) := Lib.hid (by show toUintV xs = _; unfold toUintV; rw [Hl.out, if_neg (by omega), hX, if_neg hbig])
            have hbig2 : ¬ 9223372036854775808 ≤ X := by omega
            obtain ⟨hX0, hX1⟩ := hlb
            clear hX1
            go_wp2_with fail
            exact bodyPost_ret (results_cell_row rfl _ _ w.heap.size 34 _ (0, 0) _ rfl (heap_alloc_last w _) Try.underlying34 rfl (Try.sizeNum _ _ _)) rfl ⟨⟨_, by rw [Hv.out]⟩, (Below.refl _ w).alloc (Nat.le_refl _) _⟩
        · have hj8 : j = 1 ∨ j = 2 ∨ j = 3 ∨ j = 4 ∨ j = 5 ∨ j = 6 ∨ j = 7 ∨ j = 8 := by omega
          obtain ⟨hX0, hX1⟩ := hlb
          rcases hj8 with rfl | rfl | rfl | rfl | rfl | rfl | rfl | rfl
          · simp only [Int.reducePow] at hX1
            by_cases hneg : X < 128
            · have Hv : Hid (numV true xs = (X, 0)) := Lib.hid (by show toIntV xs = _; unfold toIntV sle; rw [Hl.out, if_neg (by omega), hX]; simp only [Int.reducePow, Int.reduceDiv]; rw [if_pos hneg])
              have hneg2 : ¬ 128 ≤ X := by omega
              go_wp2_with fail
              exact bodyPost_ret (results_cell_row rfl _ _ w.heap.size 34 _ (0, 0) _ rfl (heap_alloc_last w _) Try.underlying34 rfl (Try.sizeNum _ _ _)) rfl ⟨⟨_, by rw [Hv.out]⟩, (Below.refl _ w).alloc (Nat.le_refl _) _⟩
            · have Hv : Hid (numV true xs = (X - 256, 0)) := Lib.hid (by show toIntV xs = _; unfold toIntV sle; rw [Hl.out, if_neg (by omega), hX]; simp only [Int.reducePow, Int.reduceDiv]; rw [if_neg hneg])
              have hneg2 : 128 ≤ X := by omega
              go_wp2_with fail
              exact bodyPost_ret (results_cell_row rfl _ _ w.heap.size 34 _ (0, 0) _ rfl (heap_alloc_last w _) Try.underlying34 rfl (Try.sizeNum _ _ _)) rfl ⟨⟨_, by rw [Hv.out]⟩, (Below.refl _ w).alloc (Nat.le_refl _) _⟩
          · simp only [Int.reducePow] at hX1
            by_cases hneg : X < 32768
            · have Hv : Hid (numV true xs = (X, 0)) := Lib.hid (by show toIntV xs = _; unfold toIntV sle; rw [Hl.out, if_neg (by omega), hX]; simp only [Int.reducePow, Int.reduceDiv]; rw [if_pos hneg])
              have hneg2 : ¬ 32768 ≤ X := by omega
              go_wp2_with fail
              exact bodyPost_ret (results_cell_row rfl _ _ w.heap.size 34 _ (0, 0) _ rfl (heap_alloc_last w _) Try.underlying34 rfl (Try.sizeNum _ _ _)) rfl ⟨⟨_, by rw [Hv.out]⟩, (Below.refl _ w).alloc (Nat.le_refl _) _⟩
            · have Hv : Hid (numV true xs = (X - 65536, 0)) := Lib.hid (by show toIntV xs = _; unfold toIntV sle; rw [Hl.out, if_neg (by omega), hX]; simp only [Int.reducePow, Int.reduceDiv]; rw [if_neg hneg])
              have hneg2 : 32768 ≤ X := by omega
              go_wp2_with fail
              exact bodyPost_ret (results_cell_row rfl _ _ w.heap.size 34 _ (0, 0) _ rfl (heap_alloc_last w _) Try.underlying34 rfl (Try.sizeNum _ _ _)) rfl ⟨⟨_, by rw [Hv.out]⟩, (Below.refl _ w).alloc (Nat.le_refl _) _⟩
          · simp only [Int.reducePow] at hX1
            by_cases hneg : X < 8388608
            · have Hv : Hid (numV true xs = (X, 0)) := Lib.hid (by show toIntV xs = _; unfold toIntV sle; rw [Hl.out, if_neg (by omega), hX]; simp only [Int.reducePow, Int.reduceDiv]; rw [if_pos hneg])
              have hneg2 : ¬ 8388608 ≤ X := by omega
              go_wp2_with fail
              exact bodyPost_ret (results_cell_row rfl _ _ w.heap.size 34 _ (0, 0) _ rfl (heap_alloc_last w _) Try.underlying34 rfl (Try.sizeNum _ _ _)) rfl ⟨⟨_, by rw [Hv.out]⟩, (Below.refl _ w).alloc (Nat.le_refl _) _⟩
            · have Hv : Hid (numV true xs = (X - 16777216, 0)) := Lib.hid (by show toIntV xs = _; unfold toIntV sle; rw [Hl.out, if_neg (by omega), hX]; simp only [Int.reducePow, Int.reduceDiv]; rw [if_neg hneg])
              have hneg2 : 8388608 ≤ X := by omega
              go_wp2_with fail
              exact bodyPost_ret (results_cell_row rfl _ _ w.heap.size 34 _ (0, 0) _ rfl (heap_alloc_last w _) Try.underlying34 rfl (Try.sizeNum _ _ _)) rfl ⟨⟨_, by rw [Hv.out]⟩, (Below.refl _ w).alloc (Nat.le_refl _) _⟩
          · simp only [Int.reducePow] at hX1
            by_cases hneg : X < 2147483648
            · have Hv : Hid (numV true xs = (X, 0)) := Lib.hid (by show toIntV xs = _; unfold toIntV sle; rw [Hl.out, if_neg (by omega), hX]; simp only [Int.reducePow, Int.reduceDiv]; rw [if_pos hneg])
              have hneg2 : ¬ 2147483648 ≤ X := by omega
              go_wp2_with fail
              exact bodyPost_ret (results_cell_row rfl _ _ w.heap.size 34 _ (0, 0) _ rfl (heap_alloc_last w _) Try.underlying34 rfl (Try.sizeNum _ _ _)) rfl ⟨⟨_, by rw [Hv.out]⟩, (Below.refl _ w).alloc (Nat.le_refl _) _⟩
            · have Hv : Hid (numV true xs = (X - 4294967296, 0)) := Lib.hid (by show toIntV xs = _; unfold toIntV sle; rw [Hl.out, if_neg (by omega), hX]; simp only [Int.reducePow, Int.reduceDiv]; rw [if_neg hneg])
              have hneg2 : 2147483648 ≤ X := by omega
              go_wp2_with fail
              exact bodyPost_ret (results_cell_row rfl _ _ w.heap.size 34 _ (0, 0) _ rfl (heap_alloc_last w _) Try.underlying34 rfl (Try.sizeNum _ _ _)) rfl ⟨⟨_, by rw [Hv.out]⟩, (Below.refl _ w).alloc (Nat.le_refl _) _⟩
          · simp only [Int.reducePow] at hX1
            by_cases hneg : X < 549755813888
            · have Hv : Hid (numV true xs = (X, 0)) := Lib.hid (by show toIntV xs = _; unfold toIntV sle; rw [Hl.out, if_neg (by omega), hX]; simp only [Int.reducePow, Int.reduceDiv]; rw [if_pos hneg])
              have hneg2 : ¬ 549755813888 ≤ X := by omega
              go_wp2_with fail
              exact bodyPost_ret (results_cell_row rfl _ _ w.heap.size 34 _ (0, 0) _ rfl (heap_alloc_last w _) Try.underlying34 rfl (Try.sizeNum _ _ _)) rfl ⟨⟨_, by rw [Hv.out]⟩, (Below.refl _ w).alloc (Nat.le_refl _) _⟩
            · have Hv : Hid (numV true xs = (X - 1099511627776, 0)) := Lib.hid (by show toIntV xs = _; unfold toIntV sle; rw [Hl.out, if_neg (by omega), hX]; simp only [Int.reducePow, Int.reduceDiv]; rw [if_neg hneg])
              have hneg2 : 549755813888 ≤ X := by omega
              go_wp2_with fail
              exact bodyPost_ret (results_cell_row rfl _ _ w.heap.size 34 _ (0, 0) _ rfl (heap_alloc_last w _) Try.underlying34 rfl (Try.sizeNum _ _ _)) rfl ⟨⟨_, by rw [Hv.out]⟩, (Below.refl _ w).alloc (Nat.le_refl _) _⟩
          · simp only [Int.reducePow] at hX1
            by_cases hneg : X < 140737488355328
            · have Hv : Hid (numV true xs = (X, 0)) := Lib.hid (by show toIntV xs = _; unfold toIntV sle; rw [Hl.out, if_neg (by omega), hX]; simp only [Int.reducePow, Int.reduceDiv]; rw [if_pos hneg])
              have hneg2 : ¬ 140737488355328 ≤ X := by omega
              go_wp2_with fail
              exact bodyPost_ret (results_cell_row rfl _ _ w.heap.size 34 _ (0, 0) _ rfl (heap_alloc_last w _) Try.underlying34 rfl (Try.sizeNum _ _ _)) rfl ⟨⟨_, by rw [Hv.out]⟩, (Below.refl _ w).alloc (Nat.le_refl _) _⟩
            · have Hv : Hid (numV true xs = (X - 281474976710656, 0)) := Lib.hid (by show toIntV xs = _; unfold toIntV sle; rw [Hl.out, if_neg (by omega), hX]; simp only [Int.reducePow, Int.reduceDiv]; rw [if_neg hneg])
              have hneg2 : 140737488355328 ≤ X := by omega
              go_wp2_with fail
              exact bodyPost_ret (results_cell_row rfl _ _ w.heap.size 34 _ (0, 0) _ rfl (heap_alloc_last w _) Try.underlying34 rfl (Try.sizeNum _ _ _)) rfl ⟨⟨_, by rw [Hv.out]⟩, (Below.refl _ w).alloc (Nat.le_refl _) _⟩
          · simp only [Int.reducePow] at hX1
            by_cases hneg : X < 36028797018963968
            · have Hv : Hid (numV true xs = (X, 0)) := Lib.hid (by show toIntV xs = _; unfold toIntV sle; rw [Hl.out, if_neg (by omega), hX]; simp only [Int.reducePow, Int.reduceDiv]; rw [if_pos hneg])
              have hneg2 : ¬ 36028797018963968 ≤ X := by omega
              go_wp2_with fail
              exact bodyPost_ret (results_cell_row rfl _ _ w.heap.size 34 _ (0, 0) _ rfl (heap_alloc_last w _) Try.underlying34 rfl (Try.sizeNum _ _ _)) rfl ⟨⟨_, by rw [Hv.out]⟩, (Below.refl _ w).alloc (Nat.le_refl _) _⟩
            · have Hv : Hid (numV true xs = (X - 72057594037927936, 0)) := Lib.hid (by show toIntV xs = _; unfold toIntV sle; rw [Hl.out, if_neg (by omega), hX]; simp only [Int.reducePow, Int.reduceDiv]; rw [if_neg hneg])
              have hneg2 : 36028797018963968 ≤ X := by omega
              go_wp2_with fail
              exact bodyPost_ret (results_cell_row rfl _ _ w.heap.size 34 _ (0, 0) _ rfl (heap_alloc_last w _) Try.underlying34 rfl (Try.sizeNum _ _ _)) rfl ⟨⟨_, by rw [Hv.out]⟩, (Below.refl _ w).alloc (Nat.le_refl _) _⟩
          · simp only [Int.reducePow] at hX1
            by_cases hneg : X < 9223372036854775808
            · have Hv : Hid (numV true xs = (X, 0)) := Lib.hid (by show toIntV xs = _; unfold toIntV sle; rw [Hl.out, if_neg (by omega), hX]; simp only [Int.reducePow, Int.reduceDiv]; rw [if_pos hneg])
              have hneg2 : ¬ 9223372036854775808 ≤ X := by omega
              have e1 : wrap64 X = X := by unfold wrap64; omega
              have e2 : IntKind.i64.wrap X = X := by rw [IntKind.wrap_i64]; omega
              go_wp2_with fail
              exact bodyPost_ret (results_cell_row rfl _ _ w.heap.size 34 _ (0, 0) _ rfl (heap_alloc_last w _) Try.underlying34 rfl (Try.sizeNum _ _ _)) rfl ⟨⟨_, by rw [Hv.out]⟩, (Below.refl _ w).alloc (Nat.le_refl _) _⟩
            · have Hv : Hid (numV true xs = (X - 18446744073709551616, 0)) := Lib.hid (by show toIntV xs = _; unfold toIntV sle; rw [Hl.out, if_neg (by omega), hX]; simp only [Int.reducePow, Int.reduceDiv]; rw [if_neg hneg])
              have hneg2 : 9223372036854775808 ≤ X := by omega
              have e1 : wrap64 X = X - 18446744073709551616 := by unfold wrap64; omega
              have e2 : IntKind.i64.wrap X = X - 18446744073709551616 := by rw [IntKind.wrap_i64]; omega
              go_wp2_with fail
              exact bodyPost_ret (results_cell_row rfl _ _ w.heap.size 34 _ (0, 0) _ rfl (heap_alloc_last w _) Try.underlying34 rfl (Try.sizeNum _ _ _)) rfl ⟨⟨_, by rw [Hv.out]⟩, (Below.refl _ w).alloc (Nat.le_refl _) _⟩
end Go.Proofs.Ytmfijcniaehooaa

/- The reference's Read, and how many bytes it used. -/
namespace Go.Proofs.Ytmfijcniaehooaa
set_option linter.unusedVariables false
open Go.RowKit

set_option maxRecDepth 100000 in
set_option maxHeartbeats 4000000 in
theorem refRead_used (a : Option Addr) (len cap : Nat) (xs : List Int) (s : Bool) (w : World) (h : Rd w a len cap xs) :
    Calls Try.prog 21 #[.slice a len cap, .bool s] w fun e w' => (∃ u, e = .returned (.agg #[.int .i64 (numV s xs).1, .int .i64 u, .int .i64 (numV s xs).2]) ∧ ((numV s xs).2 = 0 → u = len)) ∧ Below w.heap.size w w' := by
  have hl := h.hl
  have hm := h.hm
  have hc := h.hc
  unfold maxLen at hm
  by_cases hbad : len < 1 ∨ 8 < len
  · have Hv : Hid (numV s xs = (0, 1)) := Lib.hid (by
      cases s
      · show toUintV xs = _; unfold toUintV; rw [if_pos (by omega)]
      · show toIntV xs = _; unfold toIntV; rw [if_pos (by omega)])
    rw [Hv.out]
    have hcase : (len : Int) < 1 ∨ ¬ (len : Int) < 1 ∧ (8 : Int) < (len : Int) := by omega
    clear hbad h hl
    rcases hcase with hw | ⟨hw, hw2⟩
    · go_enter Try.func21, Try.ntmps21
      go_wp2_with fail
      exact bodyPost_ret (results_cell_row rfl _ _ w.heap.size 34 _ (0, 0) _ rfl (heap_alloc_last w _) Try.underlying34 rfl (Try.sizeNum _ _ _)) rfl ⟨by first | exact ⟨_, rfl, fun h => absurd h (by decide)⟩ | exact ⟨_, rfl⟩, (Below.refl _ w).alloc (Nat.le_refl _) _⟩
    · go_enter Try.func21, Try.ntmps21
      go_wp2_with fail
      exact bodyPost_ret (results_cell_row rfl _ _ w.heap.size 34 _ (0, 0) _ rfl (heap_alloc_last w _) Try.underlying34 rfl (Try.sizeNum _ _ _)) rfl ⟨by first | exact ⟨_, rfl, fun h => absurd h (by decide)⟩ | exact ⟨_, rfl⟩, (Below.refl _ w).alloc (Nat.le_refl _) _⟩
  · have hlb := le_bd xs h.hb
    obtain ⟨b, off, rfl, hcell⟩ := h.hr (by omega)
    have hbk := World.block_lt_of_cell? w _ (hcell 0 (by omega))
    have Hc := Lib.hid hcell
    have Hbd := Lib.hid h.hb
    have Hl := Lib.hid hl
    have hl1 : ¬ (len : Int) < 1 := by omega
    have hl8 : ¬ (8 : Int) < (len : Int) := by omega
    clear hcell h
    go_enter Try.func21, Try.ntmps21
    go_wp2_with fail
    go_loopw [5, 6] (fun x i wr => ∃ j : Nat, j ≤ len ∧ i = .int .i64 j ∧ x = .int .u64 (le (xs.take j)) ∧ wr = w.alloc (.cells #[.int .i64 0, .int .i64 0, .int .i64 0] 34)) (fun _ i _ => 9 - (intOf i).toNat)
    case atStart => exact ⟨0, Nat.zero_le _, rfl, rfl, rfl⟩
    case round =>
      obtain ⟨j, hj, rfl, rfl, rfl⟩ := hrel
      by_cases hlt : j < len
      · have hcj := Hc.out j hlt
        have hjl : j < xs.length := by rw [Hl.out]; exact hlt
        have hx := Hbd.out (xs.getD j 0) (by rw [getD_at _ _ hjl]; exact List.getElem_mem _)
        have hbt := le_bd (xs.take j) (fun n hn => Hbd.out n (List.mem_of_mem_take hn))
        have htl : (xs.take j).length = j := by simp; omega
        rw [htl] at hbt
        have hst := add_step8 (le (xs.take j)) (xs.getD j 0) j (by omega) hbt.1 hbt.2 hx.1 hx.2
        have htk : xs.take (j + 1) = xs.take j ++ [xs.getD j 0] := by rw [List.take_succ_eq_append_getElem hjl, getD_at _ _ hjl]
        have hle : le (xs.take (j + 1)) = le (xs.take j) + xs.getD j 0 * 256 ^ j := by rw [htk, le_snoc, htl]
        have Hst := Lib.hid (hst.1.trans hle.symm)
        generalize hxx : xs.getD j 0 = x at *
        generalize hll : le (xs.take j) = acc at *
        clear hst htk hle htl hxx hll
        obtain ⟨hx1, hx2⟩ := hx
        obtain ⟨hb1, hb2⟩ := hbt
        go_wp2_with fail
        go_roundw
        case rel => exact ⟨j + 1, by omega, by go_num, by rw [← Hst.out], by first | trivial | rfl⟩
        case measure => simp [intOf]; omega
      · obtain rfl : j = len := by omega
        have htk : xs.take j = xs := List.take_of_length_le (by rw [Hl.out]; exact Nat.le_refl _)
        rw [htk]
        rw [Hl.out] at hlb
        generalize hX : le xs = X at *
        cases s
        · by_cases hbig : 9223372036854775807 < X
          · have Hv : Hid (numV false xs = (0, 24)) := Lib.hid (by show toUintV xs = _; unfold toUintV; rw [Hl.out, if_neg (by omega), hX, if_pos hbig])
            have hbig2 : 9223372036854775808 ≤ X := by omega
            go_wp2_with fail
            exact bodyPost_ret (results_cell_row rfl _ _ w.heap.size 34 _ (0, 0) _ rfl (heap_alloc_last w _) Try.underlying34 rfl (Try.sizeNum _ _ _)) rfl ⟨⟨_, by rw [Hv.out], by first | (intro _; rfl) | (rw [Hv.out]; intro h; exact absurd h (by decide))⟩, (Below.refl _ w).alloc (Nat.le_refl _) _⟩
          · have Hv : Hid (numV false xs = (X, 0)) := Lib.hid (by show toUintV xs = _; unfold toUintV; rw [Hl.out, if_neg (by omega), hX, if_neg hbig])
            have hbig2 : ¬ 9223372036854775808 ≤ X := by omega
            obtain ⟨hX0, hX1⟩ := hlb
            clear hX1
            go_wp2_with fail
            exact bodyPost_ret (results_cell_row rfl _ _ w.heap.size 34 _ (0, 0) _ rfl (heap_alloc_last w _) Try.underlying34 rfl (Try.sizeNum _ _ _)) rfl ⟨⟨_, by rw [Hv.out], by first | (intro _; rfl) | (rw [Hv.out]; intro h; exact absurd h (by decide))⟩, (Below.refl _ w).alloc (Nat.le_refl _) _⟩
        · have hj8 : j = 1 ∨ j = 2 ∨ j = 3 ∨ j = 4 ∨ j = 5 ∨ j = 6 ∨ j = 7 ∨ j = 8 := by omega
          obtain ⟨hX0, hX1⟩ := hlb
          rcases hj8 with rfl | rfl | rfl | rfl | rfl | rfl | rfl | rfl
          · simp only [Int.reducePow] at hX1
            by_cases hneg : X < 128
            · have Hv : Hid (numV true xs = (X, 0)) := Lib.hid (by show toIntV xs = _; unfold toIntV sle; rw [Hl.out, if_neg (by omega), hX]; simp only [Int.reducePow, Int.reduceDiv]; rw [if_pos hneg])
              have hneg2 : ¬ 128 ≤ X := by omega
              go_wp2_with fail
              exact bodyPost_ret (results_cell_row rfl _ _ w.heap.size 34 _ (0, 0) _ rfl (heap_alloc_last w _) Try.underlying34 rfl (Try.sizeNum _ _ _)) rfl ⟨⟨_, by rw [Hv.out], by first | (intro _; rfl) | (rw [Hv.out]; intro h; exact absurd h (by decide))⟩, (Below.refl _ w).alloc (Nat.le_refl _) _⟩
            · have Hv : Hid (numV true xs = (X - 256, 0)) := Lib.hid (by show toIntV xs = _; unfold toIntV sle; rw [Hl.out, if_neg (by omega), hX]; simp only [Int.reducePow, Int.reduceDiv]; rw [if_neg hneg])
              have hneg2 : 128 ≤ X := by omega
              go_wp2_with fail
              exact bodyPost_ret (results_cell_row rfl _ _ w.heap.size 34 _ (0, 0) _ rfl (heap_alloc_last w _) Try.underlying34 rfl (Try.sizeNum _ _ _)) rfl ⟨⟨_, by rw [Hv.out], by first | (intro _; rfl) | (rw [Hv.out]; intro h; exact absurd h (by decide))⟩, (Below.refl _ w).alloc (Nat.le_refl _) _⟩
          · simp only [Int.reducePow] at hX1
            by_cases hneg : X < 32768
            · have Hv : Hid (numV true xs = (X, 0)) := Lib.hid (by show toIntV xs = _; unfold toIntV sle; rw [Hl.out, if_neg (by omega), hX]; simp only [Int.reducePow, Int.reduceDiv]; rw [if_pos hneg])
              have hneg2 : ¬ 32768 ≤ X := by omega
              go_wp2_with fail
              exact bodyPost_ret (results_cell_row rfl _ _ w.heap.size 34 _ (0, 0) _ rfl (heap_alloc_last w _) Try.underlying34 rfl (Try.sizeNum _ _ _)) rfl ⟨⟨_, by rw [Hv.out], by first | (intro _; rfl) | (rw [Hv.out]; intro h; exact absurd h (by decide))⟩, (Below.refl _ w).alloc (Nat.le_refl _) _⟩
            · have Hv : Hid (numV true xs = (X - 65536, 0)) := Lib.hid (by show toIntV xs = _; unfold toIntV sle; rw [Hl.out, if_neg (by omega), hX]; simp only [Int.reducePow, Int.reduceDiv]; rw [if_neg hneg])
              have hneg2 : 32768 ≤ X := by omega
              go_wp2_with fail
              exact bodyPost_ret (results_cell_row rfl _ _ w.heap.size 34 _ (0, 0) _ rfl (heap_alloc_last w _) Try.underlying34 rfl (Try.sizeNum _ _ _)) rfl ⟨⟨_, by rw [Hv.out], by first | (intro _; rfl) | (rw [Hv.out]; intro h; exact absurd h (by decide))⟩, (Below.refl _ w).alloc (Nat.le_refl _) _⟩
          · simp only [Int.reducePow] at hX1
            by_cases hneg : X < 8388608
            · have Hv : Hid (numV true xs = (X, 0)) := Lib.hid (by show toIntV xs = _; unfold toIntV sle; rw [Hl.out, if_neg (by omega), hX]; simp only [Int.reducePow, Int.reduceDiv]; rw [if_pos hneg])
              have hneg2 : ¬ 8388608 ≤ X := by omega
              go_wp2_with fail
              exact bodyPost_ret (results_cell_row rfl _ _ w.heap.size 34 _ (0, 0) _ rfl (heap_alloc_last w _) Try.underlying34 rfl (Try.sizeNum _ _ _)) rfl ⟨⟨_, by rw [Hv.out], by first | (intro _; rfl) | (rw [Hv.out]; intro h; exact absurd h (by decide))⟩, (Below.refl _ w).alloc (Nat.le_refl _) _⟩
            · have Hv : Hid (numV true xs = (X - 16777216, 0)) := Lib.hid (by show toIntV xs = _; unfold toIntV sle; rw [Hl.out, if_neg (by omega), hX]; simp only [Int.reducePow, Int.reduceDiv]; rw [if_neg hneg])
              have hneg2 : 8388608 ≤ X := by omega
              go_wp2_with fail
              exact bodyPost_ret (results_cell_row rfl _ _ w.heap.size 34 _ (0, 0) _ rfl (heap_alloc_last w _) Try.underlying34 rfl (Try.sizeNum _ _ _)) rfl ⟨⟨_, by rw [Hv.out], by first | (intro _; rfl) | (rw [Hv.out]; intro h; exact absurd h (by decide))⟩, (Below.refl _ w).alloc (Nat.le_refl _) _⟩
          · simp only [Int.reducePow] at hX1
            by_cases hneg : X < 2147483648
            · have Hv : Hid (numV true xs = (X, 0)) := Lib.hid (by show toIntV xs = _; unfold toIntV sle; rw [Hl.out, if_neg (by omega), hX]; simp only [Int.reducePow, Int.reduceDiv]; rw [if_pos hneg])
              have hneg2 : ¬ 2147483648 ≤ X := by omega
              go_wp2_with fail
              exact bodyPost_ret (results_cell_row rfl _ _ w.heap.size 34 _ (0, 0) _ rfl (heap_alloc_last w _) Try.underlying34 rfl (Try.sizeNum _ _ _)) rfl ⟨⟨_, by rw [Hv.out], by first | (intro _; rfl) | (rw [Hv.out]; intro h; exact absurd h (by decide))⟩, (Below.refl _ w).alloc (Nat.le_refl _) _⟩
            · have Hv : Hid (numV true xs = (X - 4294967296, 0)) := Lib.hid (by show toIntV xs = _; unfold toIntV sle; rw [Hl.out, if_neg (by omega), hX]; simp only [Int.reducePow, Int.reduceDiv]; rw [if_neg hneg])
              have hneg2 : 2147483648 ≤ X := by omega
              go_wp2_with fail
              exact bodyPost_ret (results_cell_row rfl _ _ w.heap.size 34 _ (0, 0) _ rfl (heap_alloc_last w _) Try.underlying34 rfl (Try.sizeNum _ _ _)) rfl ⟨⟨_, by rw [Hv.out], by first | (intro _; rfl) | (rw [Hv.out]; intro h; exact absurd h (by decide))⟩, (Below.refl _ w).alloc (Nat.le_refl _) _⟩
          · simp only [Int.reducePow] at hX1
            by_cases hneg : X < 549755813888
            · have Hv : Hid (numV true xs = (X, 0)) := Lib.hid (by show toIntV xs = _; unfold toIntV sle; rw [Hl.out, if_neg (by omega), hX]; simp only [Int.reducePow, Int.reduceDiv]; rw [if_pos hneg])
              have hneg2 : ¬ 549755813888 ≤ X := by omega
              go_wp2_with fail
              exact bodyPost_ret (results_cell_row rfl _ _ w.heap.size 34 _ (0, 0) _ rfl (heap_alloc_last w _) Try.underlying34 rfl (Try.sizeNum _ _ _)) rfl ⟨⟨_, by rw [Hv.out], by first | (intro _; rfl) | (rw [Hv.out]; intro h; exact absurd h (by decide))⟩, (Below.refl _ w).alloc (Nat.le_refl _) _⟩
            · have Hv : Hid (numV true xs = (X - 1099511627776, 0)) := Lib.hid (by show toIntV xs = _; unfold toIntV sle; rw [Hl.out, if_neg (by omega), hX]; simp only [Int.reducePow, Int.reduceDiv]; rw [if_neg hneg])
              have hneg2 : 549755813888 ≤ X := by omega
              go_wp2_with fail
              exact bodyPost_ret (results_cell_row rfl _ _ w.heap.size 34 _ (0, 0) _ rfl (heap_alloc_last w _) Try.underlying34 rfl (Try.sizeNum _ _ _)) rfl ⟨⟨_, by rw [Hv.out], by first | (intro _; rfl) | (rw [Hv.out]; intro h; exact absurd h (by decide))⟩, (Below.refl _ w).alloc (Nat.le_refl _) _⟩
          · simp only [Int.reducePow] at hX1
            by_cases hneg : X < 140737488355328
            · have Hv : Hid (numV true xs = (X, 0)) := Lib.hid (by show toIntV xs = _; unfold toIntV sle; rw [Hl.out, if_neg (by omega), hX]; simp only [Int.reducePow, Int.reduceDiv]; rw [if_pos hneg])
              have hneg2 : ¬ 140737488355328 ≤ X := by omega
              go_wp2_with fail
              exact bodyPost_ret (results_cell_row rfl _ _ w.heap.size 34 _ (0, 0) _ rfl (heap_alloc_last w _) Try.underlying34 rfl (Try.sizeNum _ _ _)) rfl ⟨⟨_, by rw [Hv.out], by first | (intro _; rfl) | (rw [Hv.out]; intro h; exact absurd h (by decide))⟩, (Below.refl _ w).alloc (Nat.le_refl _) _⟩
            · have Hv : Hid (numV true xs = (X - 281474976710656, 0)) := Lib.hid (by show toIntV xs = _; unfold toIntV sle; rw [Hl.out, if_neg (by omega), hX]; simp only [Int.reducePow, Int.reduceDiv]; rw [if_neg hneg])
              have hneg2 : 140737488355328 ≤ X := by omega
              go_wp2_with fail
              exact bodyPost_ret (results_cell_row rfl _ _ w.heap.size 34 _ (0, 0) _ rfl (heap_alloc_last w _) Try.underlying34 rfl (Try.sizeNum _ _ _)) rfl ⟨⟨_, by rw [Hv.out], by first | (intro _; rfl) | (rw [Hv.out]; intro h; exact absurd h (by decide))⟩, (Below.refl _ w).alloc (Nat.le_refl _) _⟩
          · simp only [Int.reducePow] at hX1
            by_cases hneg : X < 36028797018963968
            · have Hv : Hid (numV true xs = (X, 0)) := Lib.hid (by show toIntV xs = _; unfold toIntV sle; rw [Hl.out, if_neg (by omega), hX]; simp only [Int.reducePow, Int.reduceDiv]; rw [if_pos hneg])
              have hneg2 : ¬ 36028797018963968 ≤ X := by omega
              go_wp2_with fail
              exact bodyPost_ret (results_cell_row rfl _ _ w.heap.size 34 _ (0, 0) _ rfl (heap_alloc_last w _) Try.underlying34 rfl (Try.sizeNum _ _ _)) rfl ⟨⟨_, by rw [Hv.out], by first | (intro _; rfl) | (rw [Hv.out]; intro h; exact absurd h (by decide))⟩, (Below.refl _ w).alloc (Nat.le_refl _) _⟩
            · have Hv : Hid (numV true xs = (X - 72057594037927936, 0)) := Lib.hid (by show toIntV xs = _; unfold toIntV sle; rw [Hl.out, if_neg (by omega), hX]; simp only [Int.reducePow, Int.reduceDiv]; rw [if_neg hneg])
              have hneg2 : 36028797018963968 ≤ X := by omega
              go_wp2_with fail
              exact bodyPost_ret (results_cell_row rfl _ _ w.heap.size 34 _ (0, 0) _ rfl (heap_alloc_last w _) Try.underlying34 rfl (Try.sizeNum _ _ _)) rfl ⟨⟨_, by rw [Hv.out], by first | (intro _; rfl) | (rw [Hv.out]; intro h; exact absurd h (by decide))⟩, (Below.refl _ w).alloc (Nat.le_refl _) _⟩
          · simp only [Int.reducePow] at hX1
            by_cases hneg : X < 9223372036854775808
            · have Hv : Hid (numV true xs = (X, 0)) := Lib.hid (by show toIntV xs = _; unfold toIntV sle; rw [Hl.out, if_neg (by omega), hX]; simp only [Int.reducePow, Int.reduceDiv]; rw [if_pos hneg])
              have hneg2 : ¬ 9223372036854775808 ≤ X := by omega
              have e1 : wrap64 X = X := by unfold wrap64; omega
              have e2 : IntKind.i64.wrap X = X := by rw [IntKind.wrap_i64]; omega
              go_wp2_with fail
              exact bodyPost_ret (results_cell_row rfl _ _ w.heap.size 34 _ (0, 0) _ rfl (heap_alloc_last w _) Try.underlying34 rfl (Try.sizeNum _ _ _)) rfl ⟨⟨_, by rw [Hv.out], by first | (intro _; rfl) | (rw [Hv.out]; intro h; exact absurd h (by decide))⟩, (Below.refl _ w).alloc (Nat.le_refl _) _⟩
            · have Hv : Hid (numV true xs = (X - 18446744073709551616, 0)) := Lib.hid (by show toIntV xs = _; unfold toIntV sle; rw [Hl.out, if_neg (by omega), hX]; simp only [Int.reducePow, Int.reduceDiv]; rw [if_neg hneg])
              have hneg2 : 9223372036854775808 ≤ X := by omega
              have e1 : wrap64 X = X - 18446744073709551616 := by unfold wrap64; omega
              have e2 : IntKind.i64.wrap X = X - 18446744073709551616 := by rw [IntKind.wrap_i64]; omega
              go_wp2_with fail
              exact bodyPost_ret (results_cell_row rfl _ _ w.heap.size 34 _ (0, 0) _ rfl (heap_alloc_last w _) Try.underlying34 rfl (Try.sizeNum _ _ _)) rfl ⟨⟨_, by rw [Hv.out], by first | (intro _; rfl) | (rw [Hv.out]; intro h; exact absurd h (by decide))⟩, (Below.refl _ w).alloc (Nat.le_refl _) _⟩
end Go.Proofs.Ytmfijcniaehooaa

/- The model's do: numbers of a width. -/
namespace Go.Proofs.Ytmfijcniaehooaa
set_option linter.unusedVariables false
open Go.RowKit

theorem grown_blk' {w w1 : World} {R g : Nat} {o : Obj} (hg : w.grownBy w1 (some R)) (h : w.heap[g]? = some o) (hne : g ≠ R) : w1.heap[g]? = some o :=
  (hg.block g (Array.getElem?_eq_some_iff.1 h).1 (by intro e; exact hne (by simpa using e))).trans h
theorem Rd.take {w : World} {a : Option Addr} {len cap : Nat} {xs : List Int} (h : Rd w a len cap xs) (m : Nat) (hm : m ≤ len) : Rd w a m cap (xs.take m) := by
  have hl := h.hl
  refine ⟨by rw [List.length_take]; omega, by have := h.hc; omega, h.hm, fun n hn => h.hb n (List.mem_of_mem_take hn), h.hn, fun h0 => ?_⟩
  obtain ⟨b, off, ha, hc⟩ := h.hr (by omega)
  refine ⟨b, off, ha, fun i hi => ?_⟩
  rw [hc i (by omega)]
  congr 2
  rw [getD_at _ _ (by omega), getD_at _ _ (by rw [List.length_take]; omega)]
  simp
set_option maxRecDepth 100000 in
set_option maxHeartbeats 8000000 in
theorem do_0read {w : World} {M p len cap : Nat} {a : Option Addr} {xs : List Int} (h : IsM w M p a len cap xs) (m : Nat) (hm1 : 1 ≤ m) (hm8 : m ≤ 8) (hml : p + m ≤ len) (nn er : Int) (q : Nat) (hnn : nn = (numV false ((xs.drop p).take m)).1) (her : er = (numV false ((xs.drop p).take m)).2) (hq : (er = 0 → q = p + m) ∧ (er ≠ 0 → q = p)) :
    Calls Try.prog 55 #[.pointer (some ⟨M, 0, none⟩), .agg #[.int .i64 0, .int .i64 m]] w (ToldM w M a len cap xs nn [] er q) := by
  obtain ⟨W0, hW0⟩ : ∃ W0, W0 = (w.alloc (.cells #[.int .i64 0, .int .i64 m] 87)).alloc (.cells #[.int .i64 0, .slice none 0 0, .int .i64 0] 83) := ⟨_, rfl⟩
  have hs0 : W0.heap.size = w.heap.size + 2 := by rw [hW0]; simp
  have hF0 : W0.heap[w.heap.size]? = some (.cells #[.int .i64 0, .int .i64 m] 87 (0, 0)) := by rw [hW0, heap_alloc_old _ _ _ (by simp), heap_alloc_last]
  have h40 : W0.heap[w.heap.size + 1]? = some (.cells #[.int .i64 0, .slice none 0 0, .int .i64 0] 83 (0, 0)) := by
    rw [hW0]; have := heap_alloc_last (w.alloc (.cells #[.int .i64 0, .int .i64 m] 87)) (.cells #[.int .i64 0, .slice none 0 0, .int .i64 0] 83); simpa using this
  have hb0 : Below w.heap.size w W0 := by rw [hW0]; exact ((Below.refl _ w).alloc (Nat.le_refl _) _).alloc (by simp) _
  have H := Lib.hid h
  have H0 := Lib.hid (h.below hb0 (Nat.le_refl _))
  have HW0 := Lib.hid hW0
  have HF0 := Lib.hid hF0
  have H40 := Lib.hid h40
  have Hb0 := Lib.hid hb0
  have Hs0 := Lib.hid hs0
  have hcc := h.rd.hc
  have hcm := h.rd.hm
  have hpl := h.hp
  have hl := h.rd.hl
  have Hl := Lib.hid hl
  unfold maxLen at hcm
  have c0 := H0.out.c0
  have c1 := H0.out.c1
  clear hW0 hs0 hF0 h40 hb0 h hl
  have HNN := Lib.hid (And.intro hnn her)
  have HQ := Lib.hid hq
  have g1 : ¬ (m : Int) < 1 := by omega
  have g2 : ¬ (8 : Int) < (m : Int) := by omega
  have g3 : ¬ ((len - p : Nat) : Int) < (m : Int) := by omega
  have g4 : decide (len - p < m) = false := by simp; omega
  clear hnn her hq
  by_cases hck : p = cap
  · subst hck
    go_enter Try.func55, Try.ntmps55
    go_upto_region 1 with fail
    rw [← HW0.out]
    clear HW0
    go_wp2
    go_quiet (fail)
    obtain ⟨w1, hw1e⟩ : ∃ w1, w1 = W0.drewN nq := ⟨_, rfl⟩
    rw [← hw1e]
    have hB01 : Below W0.heap.size W0 w1 := by rw [hw1e]; exact ⟨rfl, rfl, rfl, Nat.le_refl _, fun _ _ => rfl⟩
    have hs1 : w1.heap.size = w.heap.size + 2 := by rw [hw1e]; exact Hs0.out
    have hF1 : w1.heap[w.heap.size]? = some (.cells #[.int .i64 0, .int .i64 m] 87 (0, 0)) := by rw [hw1e]; exact HF0.out
    have h41 : w1.heap[w.heap.size + 1]? = some (.cells #[.int .i64 0, .slice none 0 0, .int .i64 0] 83 (0, 0)) := by rw [hw1e]; exact H40.out
    have kc : w1.cell? ⟨w.heap.size, 0, none⟩ = some (.int .i64 0) := by rw [cell_of_row _ _ _ _ _ _ hF1]; rfl
    have wc : w1.cell? ⟨w.heap.size, 1, none⟩ = some (.int .i64 m) := by rw [cell_of_row _ _ _ _ _ _ hF1]; rfl
    have Im1 := Lib.hid (H0.out.below hB01 (Nat.le_refl _))
    have Bw1 := Lib.hid (Hb0.out.trans (hB01.mono Hb0.out.size))
    have H41 := Lib.hid h41
    have Hs1 := Lib.hid hs1
    have h0p : len - p = 0 := by omega
    have RR : Hid (Rd w1 a (len - p) 0 (xs.drop p)) := Lib.hid (by rw [h0p, List.drop_eq_nil_of_le (by rw [Hl.out]; omega)]; exact Im1.out.rd.cut0)
    clear hw1e hB01 hs1 hF1 h41 c0 c1 HF0 H40 Hb0 Hs0 H0
    exfalso
    omega
  · have hcf : (cap = p) = False := eq_false (fun e => hck e.symm)
    go_enter Try.func55, Try.ntmps55
    go_upto_region 1 with fail
    rw [← HW0.out]
    clear HW0
    go_wp2
    go_quiet (fail)
    obtain ⟨w1, hw1e⟩ : ∃ w1, w1 = W0.drewN nq := ⟨_, rfl⟩
    rw [← hw1e]
    have hB01 : Below W0.heap.size W0 w1 := by rw [hw1e]; exact ⟨rfl, rfl, rfl, Nat.le_refl _, fun _ _ => rfl⟩
    have hs1 : w1.heap.size = w.heap.size + 2 := by rw [hw1e]; exact Hs0.out
    have hF1 : w1.heap[w.heap.size]? = some (.cells #[.int .i64 0, .int .i64 m] 87 (0, 0)) := by rw [hw1e]; exact HF0.out
    have h41 : w1.heap[w.heap.size + 1]? = some (.cells #[.int .i64 0, .slice none 0 0, .int .i64 0] 83 (0, 0)) := by rw [hw1e]; exact H40.out
    have kc : w1.cell? ⟨w.heap.size, 0, none⟩ = some (.int .i64 0) := by rw [cell_of_row _ _ _ _ _ _ hF1]; rfl
    have wc : w1.cell? ⟨w.heap.size, 1, none⟩ = some (.int .i64 m) := by rw [cell_of_row _ _ _ _ _ _ hF1]; rfl
    have Im1 := Lib.hid (H0.out.below hB01 (Nat.le_refl _))
    have Bw1 := Lib.hid (Hb0.out.trans (hB01.mono Hb0.out.size))
    have H41 := Lib.hid h41
    have Hs1 := Lib.hid hs1
    have RR : Hid (Rd w1 (a.map (fun x => x.add p)) (len - p) (cap - p) (xs.drop p)) := Lib.hid (by have := Im1.out.rd.cut2 p (len - p) (by omega); rw [List.take_of_length_le (by rw [List.length_drop, Hl.out]; exact Nat.le_refl _)] at this; exact this)
    clear hw1e hB01 hs1 hF1 h41 c0 c1 HF0 H40 Hb0 Hs0 H0
    have hcm2 : m ≤ cap - p := by omega
    have hlm2 : m ≤ len - p := by omega
    have RM := Lib.hid (RR.out.take m hlm2)
    have KC : Hid (∀ u, Below w1.heap.size w1 u → ∀ x v, w1.cell? x = some v → u.cell? x = some v) := Lib.hid (fun u hu x v h => (hu.cell (p := x) (World.block_lt_of_cell? w1 _ h)).trans h)
    go_upto_region 9 with fail
    go_cut [6] from 38 to 45 (fun xv wx => ∃ g u, xv = .pointer (some ⟨g, 0, none⟩) ∧ wx.heap[g]? = some (.cells #[.int .i64 nn, .int .i64 u, .int .i64 er] 34 (0, 0)) ∧ (er = 0 → u = m) ∧ Below w1.heap.size w1 wx)
    case first =>
      refine wp_region_held_drew (S := Below w1.heap.size w1) (by kernel_rfl) (Below.refl _ _).drew (fun _ => ?_)
      have HS : Hid (Below w1.heap.size w1 w1.drew) := Lib.hid (Below.refl _ _).drew
      refine wpAnyH_take (i := 0) (v := .slice (a.map (fun x => x.add p)) (len - p) (cap - p)) rfl (by kernel_rfl) (by kernel_rfl) (by kernel_rfl) (fun _ _ _ h => h) (Or.inl ⟨by rfl, ?_⟩) HS.out ?_
      · intro u hu; go_simp
      go_simp
      refine wpAnyH_take (i := 1) (v := .pointer (some ⟨w.heap.size, 1, none⟩)) rfl (by kernel_rfl) (by kernel_rfl) (by kernel_rfl) (fun _ _ _ h => h) (Or.inl ⟨by rfl, ?_⟩) HS.out ?_
      · intro u hu; go_simp
      go_simp
      refine wpAnyH_take (i := 2) (v := .int .i64 m) rfl (by kernel_rfl) (by kernel_rfl) (by kernel_rfl) (fun _ _ _ h => h) (Or.inl ⟨by rfl, ?_⟩) HS.out ?_
      · intro u hu; have := KC.out u hu _ _ wc; go_simp
      go_simp
      refine wpAnyH_take (i := 3) (v := .slice (a.map (fun x => x.add p)) m (cap - p)) rfl (by kernel_rfl) (by kernel_rfl) (by kernel_rfl) (fun _ _ _ h => h) (Or.inl ⟨by rfl, ?_⟩) HS.out ?_
      · intro u hu; go_simp; all_goals (intro _; cases a <;> rfl)
      go_simp
      refine wpAnyH_take (i := 4) (v := .pointer (some ⟨w.heap.size, 0, none⟩)) rfl (by kernel_rfl) (by kernel_rfl) (by kernel_rfl) (fun _ _ _ h => h) (Or.inl ⟨by rfl, ?_⟩) HS.out ?_
      · intro u hu; go_simp
      go_simp
      refine wpAnyH_take (i := 5) (v := .int .i64 0) rfl (by kernel_rfl) (by kernel_rfl) (by kernel_rfl) (fun _ _ _ h => h) (Or.inl ⟨by rfl, ?_⟩) HS.out ?_
      · intro u hu; have := KC.out u hu _ _ kc; go_simp
      go_simp
      refine wpAnyH_take (i := 6) (v := .bool false) rfl (by kernel_rfl) (by kernel_rfl) (by kernel_rfl) (fun _ _ _ h => h) (Or.inl ⟨by rfl, ?_⟩) HS.out ?_
      · intro u hu; go_simp
      go_simp
      refine wpAnyH_ready (rs := [7, 8]) (by kernel_rfl) (by simp) ?_
      refine AllReadyH.cons rfl (fun K hK => ?_) (AllReadyH.cons rfl (fun K hK => ?_) AllReadyH.nil)
      · go_simp
        refine (refRead_used (a.map (fun x => x.add p)) m (cap - p) ((xs.drop p).take m) false _ (RM.out.below HS.out (Nat.le_refl _))).mono ?_
        rintro e w3 ⟨⟨u, rfl, hu⟩, hb⟩
        rw [← HNN.out.1, ← HNN.out.2]
        rw [← HNN.out.2] at hu
        have HS' : Hid (Below w1.heap.size w1 w3) := Lib.hid (HS.out.trans (hb.mono HS.out.size))
        clear HS hb
        have HS := HS'
        clear HS'
        refine hK.out _ _ HS.out (fun _ => ?_)
        clear hK K
        refine wpAnyH_ready (rs := [8]) (by kernel_rfl) (by simp) ?_
        refine AllReadyH.cons rfl (fun K hK => ?_) AllReadyH.nil
        go_simp
        obtain ⟨w7, hw7⟩ : ∃ w7, w7 = w3.alloc (.cells #[.int .i64 0, .int .i64 0, .int .i64 0] 34) := ⟨_, rfl⟩
        rw [← hw7]
        have HZ : Hid (w7.heap[w3.heap.size]? = some (.cells #[.int .i64 0, .int .i64 0, .int .i64 0] 34 (0, 0))) := Lib.hid (by rw [hw7]; exact heap_alloc_last w3 _)
        have HS' : Hid (Below w1.heap.size w1 w7) := Lib.hid (by rw [hw7]; exact HS.out.alloc HS.out.size _)
        have hgs : w1.heap.size ≤ w3.heap.size := HS.out.size
        clear HS hw7
        have HS := HS'
        clear HS'
        refine hK.out _ _ HS.out (fun _ => ?_)
        clear hK K
        refine wpAnyH_ready (rs := [9]) (by kernel_rfl) (by simp) ?_
        refine AllReadyH.cons rfl (fun K hK => ?_) AllReadyH.nil
        rw [if_pos (by rfl)]
        refine wp_store_row 34 (.tmp 6) (.tmp 45) rfl w3.heap.size #[.int .i64 nn, .int .i64 u, .int .i64 er] rfl rfl 34 #[.int .i64 0, .int .i64 0, .int .i64 0] HZ.out (Try.sizeNum _ _ _) rfl (oneNum _ _ _) ?_
        have HS' := HS.out.trans (below_setRow' _ w1.heap.size w3.heap.size #[.int .i64 nn, .int .i64 u, .int .i64 er] hgs)
        have HZ8 := setRow_heap _ _ _ #[.int .i64 nn, .int .i64 u, .int .i64 er] _ _ HZ.out
        refine hK.out _ _ HS' (fun _ => ?_)
        clear hK K
        refine wpAnyH_done (by kernel_rfl) ?_ _
        go_wp2_with fail
        go_meet
        exact ⟨w3.heap.size, u, rfl, HZ8, hu, HS'⟩
      · go_simp
        obtain ⟨w7, hw7⟩ : ∃ w7, w7 = (w1.alloc (.cells #[.int .i64 0, .int .i64 0, .int .i64 0] 34)).drew := ⟨_, rfl⟩
        rw [← hw7]
        have HZ0 : Hid (w7.heap[w1.heap.size]? = some (.cells #[.int .i64 0, .int .i64 0, .int .i64 0] 34 (0, 0))) := Lib.hid (by rw [hw7]; exact heap_alloc_last w1 _)
        have hs7 : w1.heap.size < w7.heap.size := by rw [hw7]; show w1.heap.size < (w1.alloc _).heap.size; simp
        have HS' : Hid (Below w1.heap.size w1 w7) := Lib.hid (by rw [hw7]; exact ((Below.refl _ w1).alloc (Nat.le_refl _) _).drew)
        have hgs : w1.heap.size ≤ w1.heap.size := Nat.le_refl _
        clear HS hw7
        have HS := HS'
        clear HS'
        refine hK.out _ _ HS.out (fun _ => ?_)
        clear hK K
        refine wpAnyH_ready (rs := [7]) (by kernel_rfl) (by simp) ?_
        refine AllReadyH.cons rfl (fun K hK => ?_) AllReadyH.nil
        go_simp
        refine (refRead_used (a.map (fun x => x.add p)) m (cap - p) ((xs.drop p).take m) false _ (RM.out.below HS.out (Nat.le_refl _))).mono ?_
        rintro e w3 ⟨⟨u, rfl, hu⟩, hb⟩
        rw [← HNN.out.1, ← HNN.out.2]
        rw [← HNN.out.2] at hu
        have HZ : Hid (w3.heap[w1.heap.size]? = some (.cells #[.int .i64 0, .int .i64 0, .int .i64 0] 34 (0, 0))) := Lib.hid ((hb.block _ hs7).trans HZ0.out)
        have HS' : Hid (Below w1.heap.size w1 w3) := Lib.hid (HS.out.trans (hb.mono HS.out.size))
        clear HS hb HZ0
        have HS := HS'
        clear HS'
        refine hK.out _ _ HS.out (fun _ => ?_)
        clear hK K
        refine wpAnyH_ready (rs := [9]) (by kernel_rfl) (by simp) ?_
        refine AllReadyH.cons rfl (fun K hK => ?_) AllReadyH.nil
        rw [if_pos (by rfl)]
        refine wp_store_row 34 (.tmp 6) (.tmp 45) rfl w1.heap.size #[.int .i64 nn, .int .i64 u, .int .i64 er] rfl rfl 34 #[.int .i64 0, .int .i64 0, .int .i64 0] HZ.out (Try.sizeNum _ _ _) rfl (oneNum _ _ _) ?_
        have HS' := HS.out.trans (below_setRow' _ w1.heap.size w1.heap.size #[.int .i64 nn, .int .i64 u, .int .i64 er] hgs)
        have HZ8 := setRow_heap _ _ _ #[.int .i64 nn, .int .i64 u, .int .i64 er] _ _ HZ.out
        refine hK.out _ _ HS' (fun _ => ?_)
        clear hK K
        refine wpAnyH_done (by kernel_rfl) ?_ _
        go_wp2_with fail
        go_meet
        exact ⟨w1.heap.size, u, rfl, HZ8, hu, HS'⟩
    case rest =>
      obtain ⟨g, u, rfl, hg, hu, hbc⟩ := hcut
      have e0 : wc.cell? ⟨g, 0, none⟩ = some (.int .i64 nn) := by rw [cell_of_row _ _ _ _ _ _ hg]; rfl
      have e1 : wc.cell? ⟨g, 1, none⟩ = some (.int .i64 u) := by rw [cell_of_row _ _ _ _ _ _ hg]; rfl
      have e2 : wc.cell? ⟨g, 2, none⟩ = some (.int .i64 er) := by rw [cell_of_row _ _ _ _ _ _ hg]; rfl
      have Imc := Lib.hid (Im1.out.below hbc (Nat.le_refl _))
      have Bwc := Lib.hid (Bw1.out.trans (hbc.mono Bw1.out.size))
      have H4c := Lib.hid ((hbc.block _ (by have := Hs1.out; omega)).trans H41.out)
      have HU := Lib.hid hu
      have HG := Lib.hid hg
      have hgw : g ≠ M := by rintro rfl; have := Imc.out.blk.symm.trans hg; simp at this
      clear hbc hu hg RM KC RR H41 Im1 Bw1
      go_wp2_with fail
      refine (took_any Imc.out u er q (fun h => ⟨m, HU.out h, by omega, HQ.out.1 h⟩) (fun h => HQ.out.2 h)).mono ?_
      rintro e w4 ⟨rfl, hm⟩
      have hg4 := grown_blk' hm.grown HG.out hgw
      have f0 : w4.cell? ⟨g, 0, none⟩ = some (.int .i64 nn) := by rw [cell_of_row _ _ _ _ _ _ hg4]; rfl
      have f2 : w4.cell? ⟨g, 2, none⟩ = some (.int .i64 er) := by rw [cell_of_row _ _ _ _ _ _ hg4]; rfl
      have H44 := Lib.hid (grown_blk' hm.grown H4c.out (by rintro rfl; have := Imc.out.blk.symm.trans H4c.out; simp at this))
      have Hm4 := Lib.hid (MovedM.pre Bwc.out hm)
      clear hm e0 e1 e2 hg4 H4c
      go_wp2_with (refine wpList_store_row rfl 83 (.tmp 4) (.tmp 56) rfl (w.heap.size + 1) #[.int .i64 nn, .slice none 0 0, .int .i64 er] rfl rfl 83 #[.int .i64 0, .slice none 0 0, .int .i64 0] H44.out (Try.sizeTold _ _ _) rfl (oneTold _ _ _ _ _) ?_)
      refine bodyPost_ret (v := .agg #[.int .i64 nn, .slice none 0 0, .int .i64 er]) ?_ rfl ?_
      · exact results_cell_row rfl _ _ (w.heap.size + 1) 83 #[.int .i64 nn, .slice none 0 0, .int .i64 er] (0, 0) _ rfl (setRow_heap _ _ _ _ _ _ H44.out) Try.underlying83 rfl (Try.sizeTold _ _ _)
      · exact ⟨_, _, _, rfl, Own.nil _ _, MovedM.low H.out Hm4.out (below_setRow' _ _ _ _ (by omega))⟩
set_option maxRecDepth 100000 in
set_option maxHeartbeats 8000000 in
theorem do_1read {w : World} {M p len cap : Nat} {a : Option Addr} {xs : List Int} (h : IsM w M p a len cap xs) (m : Nat) (hm1 : 1 ≤ m) (hm8 : m ≤ 8) (hml : p + m ≤ len) (nn er : Int) (q : Nat) (hnn : nn = (numV true ((xs.drop p).take m)).1) (her : er = (numV true ((xs.drop p).take m)).2) (hq : (er = 0 → q = p + m) ∧ (er ≠ 0 → q = p)) :
    Calls Try.prog 55 #[.pointer (some ⟨M, 0, none⟩), .agg #[.int .i64 1, .int .i64 m]] w (ToldM w M a len cap xs nn [] er q) := by
  obtain ⟨W0, hW0⟩ : ∃ W0, W0 = (w.alloc (.cells #[.int .i64 1, .int .i64 m] 87)).alloc (.cells #[.int .i64 0, .slice none 0 0, .int .i64 0] 83) := ⟨_, rfl⟩
  have hs0 : W0.heap.size = w.heap.size + 2 := by rw [hW0]; simp
  have hF0 : W0.heap[w.heap.size]? = some (.cells #[.int .i64 1, .int .i64 m] 87 (0, 0)) := by rw [hW0, heap_alloc_old _ _ _ (by simp), heap_alloc_last]
  have h40 : W0.heap[w.heap.size + 1]? = some (.cells #[.int .i64 0, .slice none 0 0, .int .i64 0] 83 (0, 0)) := by
    rw [hW0]; have := heap_alloc_last (w.alloc (.cells #[.int .i64 1, .int .i64 m] 87)) (.cells #[.int .i64 0, .slice none 0 0, .int .i64 0] 83); simpa using this
  have hb0 : Below w.heap.size w W0 := by rw [hW0]; exact ((Below.refl _ w).alloc (Nat.le_refl _) _).alloc (by simp) _
  have H := Lib.hid h
  have H0 := Lib.hid (h.below hb0 (Nat.le_refl _))
  have HW0 := Lib.hid hW0
  have HF0 := Lib.hid hF0
  have H40 := Lib.hid h40
  have Hb0 := Lib.hid hb0
  have Hs0 := Lib.hid hs0
  have hcc := h.rd.hc
  have hcm := h.rd.hm
  have hpl := h.hp
  have hl := h.rd.hl
  have Hl := Lib.hid hl
  unfold maxLen at hcm
  have c0 := H0.out.c0
  have c1 := H0.out.c1
  clear hW0 hs0 hF0 h40 hb0 h hl
  have HNN := Lib.hid (And.intro hnn her)
  have HQ := Lib.hid hq
  have g1 : ¬ (m : Int) < 1 := by omega
  have g2 : ¬ (8 : Int) < (m : Int) := by omega
  have g3 : ¬ ((len - p : Nat) : Int) < (m : Int) := by omega
  have g4 : decide (len - p < m) = false := by simp; omega
  clear hnn her hq
  by_cases hck : p = cap
  · subst hck
    go_enter Try.func55, Try.ntmps55
    go_upto_region 1 with fail
    rw [← HW0.out]
    clear HW0
    go_wp2
    go_quiet (fail)
    obtain ⟨w1, hw1e⟩ : ∃ w1, w1 = W0.drewN nq := ⟨_, rfl⟩
    rw [← hw1e]
    have hB01 : Below W0.heap.size W0 w1 := by rw [hw1e]; exact ⟨rfl, rfl, rfl, Nat.le_refl _, fun _ _ => rfl⟩
    have hs1 : w1.heap.size = w.heap.size + 2 := by rw [hw1e]; exact Hs0.out
    have hF1 : w1.heap[w.heap.size]? = some (.cells #[.int .i64 1, .int .i64 m] 87 (0, 0)) := by rw [hw1e]; exact HF0.out
    have h41 : w1.heap[w.heap.size + 1]? = some (.cells #[.int .i64 0, .slice none 0 0, .int .i64 0] 83 (0, 0)) := by rw [hw1e]; exact H40.out
    have kc : w1.cell? ⟨w.heap.size, 0, none⟩ = some (.int .i64 1) := by rw [cell_of_row _ _ _ _ _ _ hF1]; rfl
    have wc : w1.cell? ⟨w.heap.size, 1, none⟩ = some (.int .i64 m) := by rw [cell_of_row _ _ _ _ _ _ hF1]; rfl
    have Im1 := Lib.hid (H0.out.below hB01 (Nat.le_refl _))
    have Bw1 := Lib.hid (Hb0.out.trans (hB01.mono Hb0.out.size))
    have H41 := Lib.hid h41
    have Hs1 := Lib.hid hs1
    have h0p : len - p = 0 := by omega
    have RR : Hid (Rd w1 a (len - p) 0 (xs.drop p)) := Lib.hid (by rw [h0p, List.drop_eq_nil_of_le (by rw [Hl.out]; omega)]; exact Im1.out.rd.cut0)
    clear hw1e hB01 hs1 hF1 h41 c0 c1 HF0 H40 Hb0 Hs0 H0
    exfalso
    omega
  · have hcf : (cap = p) = False := eq_false (fun e => hck e.symm)
    go_enter Try.func55, Try.ntmps55
    go_upto_region 1 with fail
    rw [← HW0.out]
    clear HW0
    go_wp2
    go_quiet (fail)
    obtain ⟨w1, hw1e⟩ : ∃ w1, w1 = W0.drewN nq := ⟨_, rfl⟩
    rw [← hw1e]
    have hB01 : Below W0.heap.size W0 w1 := by rw [hw1e]; exact ⟨rfl, rfl, rfl, Nat.le_refl _, fun _ _ => rfl⟩
    have hs1 : w1.heap.size = w.heap.size + 2 := by rw [hw1e]; exact Hs0.out
    have hF1 : w1.heap[w.heap.size]? = some (.cells #[.int .i64 1, .int .i64 m] 87 (0, 0)) := by rw [hw1e]; exact HF0.out
    have h41 : w1.heap[w.heap.size + 1]? = some (.cells #[.int .i64 0, .slice none 0 0, .int .i64 0] 83 (0, 0)) := by rw [hw1e]; exact H40.out
    have kc : w1.cell? ⟨w.heap.size, 0, none⟩ = some (.int .i64 1) := by rw [cell_of_row _ _ _ _ _ _ hF1]; rfl
    have wc : w1.cell? ⟨w.heap.size, 1, none⟩ = some (.int .i64 m) := by rw [cell_of_row _ _ _ _ _ _ hF1]; rfl
    have Im1 := Lib.hid (H0.out.below hB01 (Nat.le_refl _))
    have Bw1 := Lib.hid (Hb0.out.trans (hB01.mono Hb0.out.size))
    have H41 := Lib.hid h41
    have Hs1 := Lib.hid hs1
    have RR : Hid (Rd w1 (a.map (fun x => x.add p)) (len - p) (cap - p) (xs.drop p)) := Lib.hid (by have := Im1.out.rd.cut2 p (len - p) (by omega); rw [List.take_of_length_le (by rw [List.length_drop, Hl.out]; exact Nat.le_refl _)] at this; exact this)
    clear hw1e hB01 hs1 hF1 h41 c0 c1 HF0 H40 Hb0 Hs0 H0
    have hcm2 : m ≤ cap - p := by omega
    have hlm2 : m ≤ len - p := by omega
    have RM := Lib.hid (RR.out.take m hlm2)
    have KC : Hid (∀ u, Below w1.heap.size w1 u → ∀ x v, w1.cell? x = some v → u.cell? x = some v) := Lib.hid (fun u hu x v h => (hu.cell (p := x) (World.block_lt_of_cell? w1 _ h)).trans h)
    go_upto_region 9 with fail
    go_cut [6] from 38 to 45 (fun xv wx => ∃ g u, xv = .pointer (some ⟨g, 0, none⟩) ∧ wx.heap[g]? = some (.cells #[.int .i64 nn, .int .i64 u, .int .i64 er] 34 (0, 0)) ∧ (er = 0 → u = m) ∧ Below w1.heap.size w1 wx)
    case first =>
      refine wp_region_held_drew (S := Below w1.heap.size w1) (by kernel_rfl) (Below.refl _ _).drew (fun _ => ?_)
      have HS : Hid (Below w1.heap.size w1 w1.drew) := Lib.hid (Below.refl _ _).drew
      refine wpAnyH_take (i := 0) (v := .slice (a.map (fun x => x.add p)) (len - p) (cap - p)) rfl (by kernel_rfl) (by kernel_rfl) (by kernel_rfl) (fun _ _ _ h => h) (Or.inl ⟨by rfl, ?_⟩) HS.out ?_
      · intro u hu; go_simp
      go_simp
      refine wpAnyH_take (i := 1) (v := .pointer (some ⟨w.heap.size, 1, none⟩)) rfl (by kernel_rfl) (by kernel_rfl) (by kernel_rfl) (fun _ _ _ h => h) (Or.inl ⟨by rfl, ?_⟩) HS.out ?_
      · intro u hu; go_simp
      go_simp
      refine wpAnyH_take (i := 2) (v := .int .i64 m) rfl (by kernel_rfl) (by kernel_rfl) (by kernel_rfl) (fun _ _ _ h => h) (Or.inl ⟨by rfl, ?_⟩) HS.out ?_
      · intro u hu; have := KC.out u hu _ _ wc; go_simp
      go_simp
      refine wpAnyH_take (i := 3) (v := .slice (a.map (fun x => x.add p)) m (cap - p)) rfl (by kernel_rfl) (by kernel_rfl) (by kernel_rfl) (fun _ _ _ h => h) (Or.inl ⟨by rfl, ?_⟩) HS.out ?_
      · intro u hu; go_simp; all_goals (intro _; cases a <;> rfl)
      go_simp
      refine wpAnyH_take (i := 4) (v := .pointer (some ⟨w.heap.size, 0, none⟩)) rfl (by kernel_rfl) (by kernel_rfl) (by kernel_rfl) (fun _ _ _ h => h) (Or.inl ⟨by rfl, ?_⟩) HS.out ?_
      · intro u hu; go_simp
      go_simp
      refine wpAnyH_take (i := 5) (v := .int .i64 1) rfl (by kernel_rfl) (by kernel_rfl) (by kernel_rfl) (fun _ _ _ h => h) (Or.inl ⟨by rfl, ?_⟩) HS.out ?_
      · intro u hu; have := KC.out u hu _ _ kc; go_simp
      go_simp
      refine wpAnyH_take (i := 6) (v := .bool true) rfl (by kernel_rfl) (by kernel_rfl) (by kernel_rfl) (fun _ _ _ h => h) (Or.inl ⟨by rfl, ?_⟩) HS.out ?_
      · intro u hu; go_simp
      go_simp
      refine wpAnyH_ready (rs := [7, 8]) (by kernel_rfl) (by simp) ?_
      refine AllReadyH.cons rfl (fun K hK => ?_) (AllReadyH.cons rfl (fun K hK => ?_) AllReadyH.nil)
      · go_simp
        refine (refRead_used (a.map (fun x => x.add p)) m (cap - p) ((xs.drop p).take m) true _ (RM.out.below HS.out (Nat.le_refl _))).mono ?_
        rintro e w3 ⟨⟨u, rfl, hu⟩, hb⟩
        rw [← HNN.out.1, ← HNN.out.2]
        rw [← HNN.out.2] at hu
        have HS' : Hid (Below w1.heap.size w1 w3) := Lib.hid (HS.out.trans (hb.mono HS.out.size))
        clear HS hb
        have HS := HS'
        clear HS'
        refine hK.out _ _ HS.out (fun _ => ?_)
        clear hK K
        refine wpAnyH_ready (rs := [8]) (by kernel_rfl) (by simp) ?_
        refine AllReadyH.cons rfl (fun K hK => ?_) AllReadyH.nil
        go_simp
        obtain ⟨w7, hw7⟩ : ∃ w7, w7 = w3.alloc (.cells #[.int .i64 0, .int .i64 0, .int .i64 0] 34) := ⟨_, rfl⟩
        rw [← hw7]
        have HZ : Hid (w7.heap[w3.heap.size]? = some (.cells #[.int .i64 0, .int .i64 0, .int .i64 0] 34 (0, 0))) := Lib.hid (by rw [hw7]; exact heap_alloc_last w3 _)
        have HS' : Hid (Below w1.heap.size w1 w7) := Lib.hid (by rw [hw7]; exact HS.out.alloc HS.out.size _)
        have hgs : w1.heap.size ≤ w3.heap.size := HS.out.size
        clear HS hw7
        have HS := HS'
        clear HS'
        refine hK.out _ _ HS.out (fun _ => ?_)
        clear hK K
        refine wpAnyH_ready (rs := [9]) (by kernel_rfl) (by simp) ?_
        refine AllReadyH.cons rfl (fun K hK => ?_) AllReadyH.nil
        rw [if_pos (by rfl)]
        refine wp_store_row 34 (.tmp 6) (.tmp 45) rfl w3.heap.size #[.int .i64 nn, .int .i64 u, .int .i64 er] rfl rfl 34 #[.int .i64 0, .int .i64 0, .int .i64 0] HZ.out (Try.sizeNum _ _ _) rfl (oneNum _ _ _) ?_
        have HS' := HS.out.trans (below_setRow' _ w1.heap.size w3.heap.size #[.int .i64 nn, .int .i64 u, .int .i64 er] hgs)
        have HZ8 := setRow_heap _ _ _ #[.int .i64 nn, .int .i64 u, .int .i64 er] _ _ HZ.out
        refine hK.out _ _ HS' (fun _ => ?_)
        clear hK K
        refine wpAnyH_done (by kernel_rfl) ?_ _
        go_wp2_with fail
        go_meet
        exact ⟨w3.heap.size, u, rfl, HZ8, hu, HS'⟩
      · go_simp
        obtain ⟨w7, hw7⟩ : ∃ w7, w7 = (w1.alloc (.cells #[.int .i64 0, .int .i64 0, .int .i64 0] 34)).drew := ⟨_, rfl⟩
        rw [← hw7]
        have HZ0 : Hid (w7.heap[w1.heap.size]? = some (.cells #[.int .i64 0, .int .i64 0, .int .i64 0] 34 (0, 0))) := Lib.hid (by rw [hw7]; exact heap_alloc_last w1 _)
        have hs7 : w1.heap.size < w7.heap.size := by rw [hw7]; show w1.heap.size < (w1.alloc _).heap.size; simp
        have HS' : Hid (Below w1.heap.size w1 w7) := Lib.hid (by rw [hw7]; exact ((Below.refl _ w1).alloc (Nat.le_refl _) _).drew)
        have hgs : w1.heap.size ≤ w1.heap.size := Nat.le_refl _
        clear HS hw7
        have HS := HS'
        clear HS'
        refine hK.out _ _ HS.out (fun _ => ?_)
        clear hK K
        refine wpAnyH_ready (rs := [7]) (by kernel_rfl) (by simp) ?_
        refine AllReadyH.cons rfl (fun K hK => ?_) AllReadyH.nil
        go_simp
        refine (refRead_used (a.map (fun x => x.add p)) m (cap - p) ((xs.drop p).take m) true _ (RM.out.below HS.out (Nat.le_refl _))).mono ?_
        rintro e w3 ⟨⟨u, rfl, hu⟩, hb⟩
        rw [← HNN.out.1, ← HNN.out.2]
        rw [← HNN.out.2] at hu
        have HZ : Hid (w3.heap[w1.heap.size]? = some (.cells #[.int .i64 0, .int .i64 0, .int .i64 0] 34 (0, 0))) := Lib.hid ((hb.block _ hs7).trans HZ0.out)
        have HS' : Hid (Below w1.heap.size w1 w3) := Lib.hid (HS.out.trans (hb.mono HS.out.size))
        clear HS hb HZ0
        have HS := HS'
        clear HS'
        refine hK.out _ _ HS.out (fun _ => ?_)
        clear hK K
        refine wpAnyH_ready (rs := [9]) (by kernel_rfl) (by simp) ?_
        refine AllReadyH.cons rfl (fun K hK => ?_) AllReadyH.nil
        rw [if_pos (by rfl)]
        refine wp_store_row 34 (.tmp 6) (.tmp 45) rfl w1.heap.size #[.int .i64 nn, .int .i64 u, .int .i64 er] rfl rfl 34 #[.int .i64 0, .int .i64 0, .int .i64 0] HZ.out (Try.sizeNum _ _ _) rfl (oneNum _ _ _) ?_
        have HS' := HS.out.trans (below_setRow' _ w1.heap.size w1.heap.size #[.int .i64 nn, .int .i64 u, .int .i64 er] hgs)
        have HZ8 := setRow_heap _ _ _ #[.int .i64 nn, .int .i64 u, .int .i64 er] _ _ HZ.out
        refine hK.out _ _ HS' (fun _ => ?_)
        clear hK K
        refine wpAnyH_done (by kernel_rfl) ?_ _
        go_wp2_with fail
        go_meet
        exact ⟨w1.heap.size, u, rfl, HZ8, hu, HS'⟩
    case rest =>
      obtain ⟨g, u, rfl, hg, hu, hbc⟩ := hcut
      have e0 : wc.cell? ⟨g, 0, none⟩ = some (.int .i64 nn) := by rw [cell_of_row _ _ _ _ _ _ hg]; rfl
      have e1 : wc.cell? ⟨g, 1, none⟩ = some (.int .i64 u) := by rw [cell_of_row _ _ _ _ _ _ hg]; rfl
      have e2 : wc.cell? ⟨g, 2, none⟩ = some (.int .i64 er) := by rw [cell_of_row _ _ _ _ _ _ hg]; rfl
      have Imc := Lib.hid (Im1.out.below hbc (Nat.le_refl _))
      have Bwc := Lib.hid (Bw1.out.trans (hbc.mono Bw1.out.size))
      have H4c := Lib.hid ((hbc.block _ (by have := Hs1.out; omega)).trans H41.out)
      have HU := Lib.hid hu
      have HG := Lib.hid hg
      have hgw : g ≠ M := by rintro rfl; have := Imc.out.blk.symm.trans hg; simp at this
      clear hbc hu hg RM KC RR H41 Im1 Bw1
      go_wp2_with fail
      refine (took_any Imc.out u er q (fun h => ⟨m, HU.out h, by omega, HQ.out.1 h⟩) (fun h => HQ.out.2 h)).mono ?_
      rintro e w4 ⟨rfl, hm⟩
      have hg4 := grown_blk' hm.grown HG.out hgw
      have f0 : w4.cell? ⟨g, 0, none⟩ = some (.int .i64 nn) := by rw [cell_of_row _ _ _ _ _ _ hg4]; rfl
      have f2 : w4.cell? ⟨g, 2, none⟩ = some (.int .i64 er) := by rw [cell_of_row _ _ _ _ _ _ hg4]; rfl
      have H44 := Lib.hid (grown_blk' hm.grown H4c.out (by rintro rfl; have := Imc.out.blk.symm.trans H4c.out; simp at this))
      have Hm4 := Lib.hid (MovedM.pre Bwc.out hm)
      clear hm e0 e1 e2 hg4 H4c
      go_wp2_with (refine wpList_store_row rfl 83 (.tmp 4) (.tmp 56) rfl (w.heap.size + 1) #[.int .i64 nn, .slice none 0 0, .int .i64 er] rfl rfl 83 #[.int .i64 0, .slice none 0 0, .int .i64 0] H44.out (Try.sizeTold _ _ _) rfl (oneTold _ _ _ _ _) ?_)
      refine bodyPost_ret (v := .agg #[.int .i64 nn, .slice none 0 0, .int .i64 er]) ?_ rfl ?_
      · exact results_cell_row rfl _ _ (w.heap.size + 1) 83 #[.int .i64 nn, .slice none 0 0, .int .i64 er] (0, 0) _ rfl (setRow_heap _ _ _ _ _ _ H44.out) Try.underlying83 rfl (Try.sizeTold _ _ _)
      · exact ⟨_, _, _, rfl, Own.nil _ _, MovedM.low H.out Hm4.out (below_setRow' _ _ _ _ (by omega))⟩
end Go.Proofs.Ytmfijcniaehooaa
