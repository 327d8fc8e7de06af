/- The reference's Var, and whether two rows of bytes are the same, told in plain values. -/
import Derived.Test.YtnhkkhceoaembaaWread1
import Derived.Laws.BytesArg
import Derived.Deep.DeepMust
import Derived.Deep.AppendLies
namespace Go.Proofs.Ytnhkkhceoaembaa
set_option linter.unusedVariables false
open Go.RowKit

theorem Rd.convAny {w : World} {a : Option Addr} {len cap : Nat} {xs : List Int} (h : Rd w a len cap xs) : (convert 22 9 (.slice a len cap)).run Try.prog w = .ok (.string (strOfNums xs)) w := by
  by_cases h0 : 0 < len
  · obtain ⟨b, off, rfl, hc⟩ := h.hr h0
    exact run_convert_bytes_arg w 22 5 Try.underlying22 Try.underlying5 b off len cap xs h.hl hc 9 Try.underlying9
  · obtain rfl : len = 0 := by omega
    obtain rfl : xs = [] := List.eq_nil_of_length_eq_zero h.hl
    rcases a with _ | ad
    · exact run_convert_bytes_nil w 22 5 Try.underlying22 Try.underlying5 0 cap 9 Try.underlying9
    · rw [run_convert_bytes_string w 22 9 5 (some ad) 0 cap Try.underlying22 Try.underlying5 Try.underlying9]
      have hl := run_loadCells_list (P := Try.prog) w ad [] (fun j v hj => by simp at hj)
      rw [run_bytesToString w ad 0 cap [] (by simpa using hl)]
      rfl
theorem strOfNums_inj {xs ys : List Int} (hx : ∀ n ∈ xs, 0 ≤ n ∧ n ≤ 255) (hy : ∀ n ∈ ys, 0 ≤ n ∧ n ≤ 255) (h : strOfNums xs = strOfNums ys) : xs = ys := by
  have h1 : xs.map (fun n => UInt8.ofNat n.toNat) = ys.map (fun n => UInt8.ofNat n.toNat) := by
    rw [← strOfNums_data, ← strOfNums_data, h]
  clear h
  induction xs generalizing ys with
  | nil => cases ys with
    | nil => rfl
    | cons y ys => simp at h1
  | cons x xs ih => cases ys with
    | nil => simp at h1
    | cons y ys =>
      simp only [List.map_cons, List.cons.injEq] at h1
      have a := hx x (by simp)
      have b := hy y (by simp)
      have e : (UInt8.ofNat x.toNat).toNat = (UInt8.ofNat y.toNat).toNat := by rw [h1.1]
      simp only [UInt8.toNat_ofNat'] at e
      have hxy : x = y := by omega
      rw [hxy, ih (fun n hn => hx n (by simp [hn])) (fun n hn => hy n (by simp [hn])) h1.2]
theorem sameBytes_any (a : Option Addr) (len cap : Nat) (xs : List Int) (a2 : Option Addr) (len2 cap2 : Nat) (ys : List Int) (w : World) (h : Rd w a len cap xs) (h2 : Rd w a2 len2 cap2 ys) :
    Calls Try.prog 18 #[.slice a len cap, .slice a2 len2 cap2] w fun e w' => e = .returned (.bool (decide (xs = ys))) ∧ w = w' := by
  have k1 := h.convAny
  have k2 := h2.convAny
  have he : ((strOfNums xs).toList == (strOfNums ys).toList) = decide (xs = ys) := by
    by_cases hxy : xs = ys
    · subst hxy; simp
    · rw [decide_eq_false hxy]
      have : strOfNums xs ≠ strOfNums ys := fun hh => hxy (strOfNums_inj h.hb h2.hb hh)
      rw [beq_eq_false_iff_ne]
      intro hh
      rw [ByteArray.toList_eq, ByteArray.toList_eq] at hh
      exact this (ByteArray.ext (Array.toList_inj.1 hh))
  have He := Lib.hid he
  clear he h h2
  go_enter Try.func18, Try.ntmps18
  go_wp2
  go_ret
  rw [← He.out]
  exact ⟨rfl, rfl⟩
theorem Try.sizeRaw (u v x : Value) : (Try.prog.info? 28).map (·.size) = some (#[u, v, x] : Array Value).size := by kernel_rfl
theorem oneRaw (n m : Int) (a : Option Addr) (l c : Nat) : (#[.slice a l c, .int .i64 n, .int .i64 m] : Array Value).all (fun x => x.oneCell') = true := by kernel_rfl
theorem own_snoc {W W' : World} {B : Nat} {v v' : Value} {acc : List Int} {x : Int} (ho : Own W B v acc) (h0 : 0 ≤ x) (h1 : x ≤ 255) (h : W'.ownsRow B 5 1 v' (acc.length + 1) (acc.map (Value.int .u8) ++ [.int .u8 x])) : Own W' B v' (acc ++ [x]) := by
  refine ⟨by simpa using h, fun n hn => ?_⟩
  rcases List.mem_append.1 hn with hn | hn
  · exact ho.2 n hn
  · obtain rfl : n = x := by simpa using hn
    exact ⟨h0, h1⟩
set_option maxRecDepth 100000 in
set_option maxHeartbeats 1000000 in
theorem refVar_any (n : Int) (w : World) (h2 : n ≤ 9223372036854775807) :
    Calls Try.prog 26 #[.int .i64 n] w fun e w' => ∃ v, e = .returned (.agg #[v, .int .i64 (varV n).length, .int .i64 (varE n)]) ∧ Own w' w.heap.size v (varV n) ∧ Below w.heap.size w w' := by
  have hg0 := heap_alloc_last w (.cells #[.slice none 0 0, .int .i64 0, .int .i64 0] 28)
  by_cases h : n < 0
  · have hE : varE n = 24 := by unfold varE; rw [if_pos h]
    have hV : varV n = [] := by unfold varV; rw [if_pos h]
    rw [hE, hV]
    have Hg := Lib.hid hg0
    clear hE hV hg0
    go_enter Try.func26, Try.ntmps26
    go_wp2_with (refine wpList_store_row rfl 28 (.tmp 2) (.tmp 6) rfl w.heap.size #[.slice none 0 0, .int .i64 0, .int .i64 24] rfl rfl 28 #[.slice none 0 0, .int .i64 0, .int .i64 0] Hg.out (Try.sizeRaw _ _ _) rfl (oneRaw _ _ _ _ _) ?_)
    refine bodyPost_ret (v := .agg #[.slice none 0 0, .int .i64 0, .int .i64 24]) ?_ rfl ?_
    · exact results_cell_row rfl _ _ w.heap.size 28 #[.slice none 0 0, .int .i64 0, .int .i64 24] (0, 0) _ rfl (setRow_heap _ _ _ _ _ _ Hg.out) Try.underlying28 rfl (Try.sizeRaw _ _ _)
    · exact ⟨_, rfl, Own.nil _ _, ((Below.refl _ w).alloc (Nat.le_refl _) _).trans (below_setRow' _ _ _ _ (Nat.le_refl _))⟩
  · have hE : varE n = 0 := by unfold varE; rw [if_neg h]
    have hV : varV n = varB n := by unfold varV; rw [if_neg h]
    rw [hE, hV]
    have HI := Lib.hid (info_parts Try.infoB)
    obtain ⟨W0, hW0⟩ : ∃ W0, W0 = w.alloc (.cells #[.slice none 0 0, .int .i64 0, .int .i64 0] 28) := ⟨_, rfl⟩
    have hs0 : W0.heap.size = w.heap.size + 1 := by rw [hW0]; simp
    have Hb0 : Hid (Below w.heap.size w W0) := Lib.hid (by rw [hW0]; exact (Below.refl _ w).alloc (Nat.le_refl _) _)
    rw [← hW0] at hg0
    have HW0 := Lib.hid hW0
    have Hg := Lib.hid hg0
    have hvl := (varB_len n).2
    have Hvl := Lib.hid hvl
    have h0 : 0 ≤ n := by omega
    clear hE hV hg0 h hvl hW0
    go_enter Try.func26, Try.ntmps26
    go_wp2_with fail
    rw [← HW0.out]
    clear HW0
    go_loopw [0, 3] (fun s0 s3 wr => ∃ (m : Int) (f : Nat) (acc : List Int), s0 = .int .i64 m ∧ 0 ≤ m ∧ m < 128 ^ (f + 1) ∧ m ≤ 9223372036854775807 ∧ Own wr W0.heap.size s3 acc ∧ varB n = acc ++ varL f m ∧ Below W0.heap.size W0 wr) (fun s0 _ _ => (intOf s0).toNat)
    case atStart => exact ⟨n, 8, [], rfl, h0, by have : (128 : Int) ^ (8 + 1) = 9223372036854775808 := by decide
                                                 omega, h2, Own.nil _ _, rfl, Below.refl _ _⟩
    case round =>
      obtain ⟨m, f, acc, rfl, hm0, hm1, hm2, hown, hx, hb⟩ := hrel
      have hvl := Hvl.out
      rw [hx, List.length_append] at hvl
      have hvl2 := (varL_len f m).1
      have hB := hb.size
      have Hb := Lib.hid hb
      have Ho := Lib.hid hown
      have hal : acc.length + 1 ≤ 9 := by omega
      by_cases hbig : 128 ≤ m
      · obtain ⟨f, rfl⟩ : ∃ f', f = f' + 1 := by
          cases f with
          | zero => simp at hm1; omega
          | succ f => exact ⟨f, rfl⟩
        have hstep : varL (f + 1) m = (128 + m % 128) :: varL f (m / 128) := by rw [varL, if_pos hbig]
        have Hx : Hid (varB n = (acc ++ [128 + m % 128]) ++ varL f (m / 128)) := Lib.hid (by rw [hx, hstep]; simp)
        have Hp : Hid (m / 128 < 128 ^ (f + 1)) := Lib.hid (by rw [Int.pow_succ] at hm1; omega)
        clear hx hstep hm1 hvl hvl2 hb hown
        go_wp2_with (at_builtin; go_must (obtain ⟨i0, hi, hz0, hz1, hz2⟩ := HI.out; refine wpList_append_lies _ rfl _ _ 22 rfl W0.heap.size 5 i0 (.int .u8 0) 1 1 Try.underlying22 hi hz0 hz1 hz2 rfl (by decide) _ _ _ rfl (Ho.out.1.alloc _) ⟨wr.heap.size, 0, none⟩ 1 1 [.int .u8 (128 + m % 128)] rfl rfl (World.news_of_block (cs := #[.int .u8 (128 + m % 128)]) (t := 5) (fr := (0, 0)) (heap_alloc_new wr _)) (by simp [Value.oneCell']) (by omega) (by unfold maxLen; omega) (by omega) (by simp; omega) (wr.heap.size + 1) (by simp) ?_; clear hi hz0 hz1 hz2; intro g cap w3 hown hgrow hat hlt))
        have hb3 := (Hb.out.alloc hB (.cells #[.int .u8 (128 + m % 128)] 5)).grown hgrow (by simp; omega) (fun k hk => (Ho.out.1.lt k hk).1)
        have ho3 := own_snoc Ho.out (by omega : 0 ≤ 128 + m % 128) (by omega) hown
        have Hb3 := Lib.hid hb3
        have Ho3 := Lib.hid ho3
        clear hb3 ho3 hown hgrow
        go_roundw
        case rel => exact ⟨m / 128, f, acc ++ [128 + m % 128], rfl, by omega, Hp.out, by omega, Ho3.out, Hx.out, Hb3.out⟩
        case measure => simp [intOf]; omega
      · have hx' : varB n = acc ++ [m] := by
          rw [hx]; cases f with
          | zero => rfl
          | succ f => rw [varL, if_neg hbig]
        have Hx := Lib.hid hx'
        have hlen : (varB n).length = acc.length + 1 := by rw [hx']; simp
        obtain ⟨a1, c1, rfl, _⟩ := Ho.out.rd
        have Hlen := Lib.hid hlen
        clear hx hx' hm1 hvl hvl2 hb hown hlen
        go_wp2_with (first
          | (at_builtin; obtain ⟨i0, hi, hz0, hz1, hz2⟩ := HI.out; refine wpList_append_lies _ rfl _ _ 22 rfl W0.heap.size 5 i0 (.int .u8 0) 1 1 Try.underlying22 hi hz0 hz1 hz2 rfl (by decide) _ _ _ rfl (Ho.out.1.alloc _) ⟨wr.heap.size, 0, none⟩ 1 1 [.int .u8 m] rfl rfl (World.news_of_block (cs := #[.int .u8 m]) (t := 5) (fr := (0, 0)) (heap_alloc_new wr _)) (by simp [Value.oneCell']) (by omega) (by unfold maxLen; omega) (by omega) (by simp; omega) (wr.heap.size + 1) (by simp) ?_; clear hi hz0 hz1 hz2; intro g cap w3 hown hgrow hat hlt; have hb3 := (Hb.out.alloc hB (.cells #[.int .u8 m] 5)).grown hgrow (by simp; omega) (fun k hk => (Ho.out.1.lt k hk).1); have hg3 := (hb3.block w.heap.size (by omega)).trans Hg.out)
          | (refine wpList_store_row rfl 28 (.tmp 2) (.tmp 26) rfl w.heap.size #[.slice (some ⟨g, 0, none⟩) (acc.length + 1) cap, .int .i64 ((acc.length : Int) + 1), .int .i64 0] rfl rfl 28 #[.slice none 0 0, .int .i64 0, .int .i64 0] hg3 (Try.sizeRaw _ _ _) rfl (oneRaw _ _ _ _ _) ?_))
        have ho3 := own_snoc Ho.out hm0 (by omega) hown
        refine bodyPost_ret (v := .agg #[.slice (some ⟨g, 0, none⟩) (acc.length + 1) cap, .int .i64 ((acc.length : Int) + 1), .int .i64 0]) ?_ rfl ?_
        · exact results_cell_row rfl _ _ w.heap.size 28 #[.slice (some ⟨g, 0, none⟩) (acc.length + 1) cap, .int .i64 ((acc.length : Int) + 1), .int .i64 0] (0, 0) _ rfl (setRow_heap _ _ _ _ _ _ hg3) Try.underlying28 rfl (Try.sizeRaw _ _ _)
        · refine ⟨.slice (some ⟨g, 0, none⟩) (acc.length + 1) cap, ?_, ?_, (Hb0.out.trans (hb3.mono (by omega))).trans (below_setRow' _ _ _ _ (Nat.le_refl _))⟩
          · rw [Hlen.out]; rfl
          · rw [Hx.out]; exact (ho3.setRow (by omega) _).mono (by omega)
end Go.Proofs.Ytnhkkhceoaembaa
