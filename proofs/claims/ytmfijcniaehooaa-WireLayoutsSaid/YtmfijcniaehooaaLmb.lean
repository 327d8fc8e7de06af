import Derived.Test.YtmfijcniaehooaaWtext
import Derived.Lib.AppendZeros
import Derived.Test.YtmfijcniaehooaaWrefuse
import Derived.Test.YtmfijcniaehooaaWunpack
import Derived.Test.YtmfijcniaehooaaLmc
import Derived.Test.YtmfijcniaehooaaLma
import Derived.BigQuiet
import Derived.Test.YtmfijcniaehooaaWoneway2
import Derived.Test.YtmfijcniaehooaaWread5
import Derived.Deep.DeepCutAuto
import Derived.Deep.RegionHeld3
import Derived.Deep.CutRange
import Derived.Test.YtmfijcniaehooaaRcheck
import Derived.StillTailTactics
/- slices.Concat of parts: a row of the call's own. -/
namespace Go.Proofs.Ytmfijcniaehooaa
set_option linter.unusedVariables false
open Go.RowKit

set_option maxRecDepth 100000 in
set_option maxHeartbeats 1000000 in
theorem grow_any (n : Nat) (w : World) (hn : n ≤ 140737488355328) :
    Calls Try.prog 104 #[.slice none 0 0, .int .i64 n] w fun e w' => ∃ v, e = .returned v ∧ Own w' w.heap.size v [] ∧ Below w.heap.size w w' := by
  obtain ⟨i0, hi, hz0, hz1, hz2⟩ := info_parts Try.infoB
  have h1 : ¬ ((n : Int) < 0) := by omega
  by_cases h0 : 0 < n
  · have h4 : (n : Int) > 0 := by omega
    have hr : ∀ ty, (Builtin.append_ #[22, 3] ty #[.slice none 0 0, .int .i64 (n : Int)]).run Try.prog w = _ := fun ty =>
      Lib.run_append_nil_zeros w 22 3 ty 5 i0 (.int .u8 0) .i64 .i64 Try.underlying22 Try.underlying3 hi hz0 n h0 (by omega) (by omega) (by rw [hz2]; omega)
    have hGn : n ≤ grownCap w n 0 5 := grownCap_ge w _ _ _
    have hG63 := grownCap_le_maxLen w n 0 5 (by unfold maxLen; omega)
    obtain ⟨G, hG⟩ : ∃ G, G = grownCap w n 0 5 := ⟨_, rfl⟩
    rw [← hG] at hr hGn hG63
    obtain ⟨zs, hzs⟩ : ∃ zs, zs = Builtin.zeroCells (Value.int .u8 0).cells n ++ Builtin.zeroCells (Value.int .u8 0).cells (G - n) := ⟨_, rfl⟩
    have hzl : zs.size = G := by
      rw [hzs, Array.size_append, size_zeroCells, size_zeroCells]
      show n * 1 + (G - n) * 1 = G
      omega
    rw [← hzs] at hr
    have hG63' : G ≤ maxLen := hG63
    unfold maxLen at hG63
    have hO : Own (w.drew.alloc (.cells zs 5)) w.heap.size (.slice (some ⟨w.heap.size, 0, none⟩) 0 G) [] :=
      ⟨World.ownsRow_made (base := w.heap.size) (e := 5) (size := 1) w.drew zs G (Nat.le_refl _) hG63' (by rw [hzl]; omega), by simp⟩
    have HO := Lib.hid hO
    clear hG hzs hzl hO hG63'
    go_enter Try.func104, Try.ntmps104
    go_wp2_with (at_builtin; refine Lib.wpList_append_run _ rfl _ _ _ _ rfl _ _ rfl rfl _ _ (hr _) ?_)
    go_ret
    exact ⟨_, rfl, HO.out, (Below.refl w.heap.size w).drew.alloc (Nat.le_refl _) _⟩
  · obtain rfl : n = 0 := by omega
    go_enter Try.func104, Try.ntmps104
    go_wp2
    go_ret
    exact ⟨_, rfl, Own.nil _ _, Below.refl _ _⟩

/-- A part: a slice, and the bytes that it reads as. -/
structure Pc where
  a : Option Addr
  len : Nat
  cap : Nat
  xs : List Int
def catV (ps : List Pc) : List Int := (ps.map (·.xs)).flatten
/-- Parts in memory. -/
structure RdP (w : World) (a : Option Addr) (len cap : Nat) (ps : List Pc) : Prop where
  hl : ps.length = len
  hc : len ≤ cap
  hm : cap ≤ maxLen
  hb : ∀ p ∈ ps, Rd w p.a p.len p.cap p.xs
  hr : 0 < len → ∃ b off, a = some ⟨b, off, none⟩ ∧ ∀ i (h : i < ps.length), w.cell? ⟨b, off + i, none⟩ = some (.slice ps[i].a ps[i].len ps[i].cap)
theorem RdP.below {w w' : World} {B : Nat} {a : Option Addr} {len cap : Nat} {ps : List Pc} (h : RdP w a len cap ps) (hb : Below B w w') (hB : w.heap.size ≤ B) : RdP w' a len cap ps := by
  refine ⟨h.hl, h.hc, h.hm, fun p hp => (h.hb p hp).below hb hB, fun h0 => ?_⟩
  obtain ⟨b, off, ha, hc⟩ := h.hr h0
  refine ⟨b, off, ha, fun i hi => ?_⟩
  have hlt := World.block_lt_of_cell? w _ (hc i hi)
  exact (hb.cell (p := ⟨b, off + i, none⟩) (Nat.lt_of_lt_of_le hlt hB)).trans (hc i hi)
theorem cat_snoc (ps : List Pc) (k : Nat) (h : k < ps.length) : catV (ps.take (k + 1)) = catV (ps.take k) ++ ps[k].xs := by
  unfold catV
  rw [List.take_succ_eq_append_getElem h, List.map_append, List.flatten_append]
  simp only [List.map_cons, List.map_nil, List.flatten_cons, List.flatten_nil, List.append_nil]
theorem cat_take (ps : List Pc) (k : Nat) : (catV (ps.take k)).length ≤ (catV ps).length := by
  have : catV ps = catV (ps.take k) ++ catV (ps.drop k) := by
    unfold catV
    rw [← List.flatten_append, ← List.map_append, List.take_append_drop]
  rw [this, List.length_append]; omega
set_option maxRecDepth 100000 in
set_option maxHeartbeats 1000000 in
theorem concat_any (a : Option Addr) (len cap : Nat) (ps : List Pc) (w : World) (h : RdP w a len cap ps) (hbig : (catV ps).length ≤ 140737488355328) :
    Calls Try.prog 78 #[.slice a len cap] w fun e w' => ∃ v, e = .returned v ∧ Own w' w.heap.size v (catV ps) ∧ Below w.heap.size w w' := by
  have hl := h.hl
  have hm := h.hm
  have hc := h.hc
  unfold maxLen at hm
  have H := Lib.hid h
  have Hl := Lib.hid hl
  have Hbig := Lib.hid hbig
  clear h hl hbig
  go_enter Try.func78, Try.ntmps78
  go_wp2_with fail
  go_loop [3, 11] (fun c i => ∃ k : Nat, k ≤ len ∧ i = .int .i64 k ∧ c = .int .i64 ((catV (ps.take k)).length : Nat)) (fun _ i => len - (intOf i).toNat)
  case atStart => exact ⟨0, Nat.zero_le _, rfl, rfl⟩
  case round =>
    obtain ⟨k, hk, rfl, rfl⟩ := hrel
    have hct := cat_take ps k
    have hbig := Hbig.out
    obtain ⟨n, hn⟩ : ∃ n, n = (catV (ps.take k)).length := ⟨_, rfl⟩
    have Hn := Lib.hid hn
    by_cases hlt : k < len
    · have hl := Hl.out
      obtain ⟨b, off, rfl, hcell⟩ := H.out.hr (by omega)
      have hc' := hcell k (by omega)
      have hs := cat_snoc ps k (by omega)
      have hct1 := cat_take ps (k + 1)
      have hp := H.out.hb ps[k] (List.getElem_mem _)
      obtain ⟨p, hpk⟩ : ∃ p, p = ps[k] := ⟨_, rfl⟩
      rw [← hpk] at hc' hs hp
      have hpl := hp.hl
      have hle : (catV (ps.take (k + 1))).length = n + p.len := by rw [hs, List.length_append, ← hn, hpl]
      have Hle := Lib.hid hle
      rw [← hn]
      rw [hle] at hct1
      have hnn : n + p.len ≤ 140737488355328 := by omega
      have hk0 : (0 : Int) ≤ (k : Int) := by omega
      have hk1 : (k : Int) < (len : Int) := by omega
      have hs0 : ¬ ((n : Int) + (p.len : Int) < 0) := by omega
      obtain ⟨pa, pl, pc, px⟩ := p
      simp only at hc' hnn hs0
      clear hcell hs hct1 hp hpk hpl hle hn hl hct hbig
      go_wp2_with fail
      go_round
      case rel => exact ⟨k + 1, by omega, by go_num, by rw [Hle.out]; go_num⟩
      case measure => simp [intOf]; omega
    · have ht : ps.take k = ps := List.take_of_length_le (by rw [Hl.out]; omega)
      rw [ht] at hn ⊢
      rw [← hn] at hbig ⊢
      have Hn := Lib.hid hn
      clear hn ht hct
      go_wp2_with fail
      refine (grow_any n w hbig).mono ?_
      rintro e w1 ⟨v0, rfl, ho, hb⟩
      have H1 := Lib.hid (H.out.below hb (Nat.le_refl _))
      have Ho := Lib.hid ho
      have Hb := Lib.hid hb
      clear ho hb
      go_wp2_with fail
      go_loopw [6, 27] (fun v i wr => ∃ k : Nat, k ≤ len ∧ i = .int .i64 k ∧ Own wr w.heap.size v (catV (ps.take k)) ∧ Below w.heap.size w wr) (fun _ i _ => len - (intOf i).toNat)
      case atStart => exact ⟨0, Nat.zero_le _, rfl, Ho.out, Hb.out⟩
      case round =>
        obtain ⟨k, hk, rfl, ho, hb⟩ := hrel
        have Hb1 := Lib.hid hb
        have Ho1 := Lib.hid ho
        by_cases hlt : k < len
        · have hl := Hl.out
          have hR := H.out.below hb (Nat.le_refl _)
          obtain ⟨b, off, rfl, hcell⟩ := hR.hr (by omega)
          have hc' := hcell k (by omega)
          have hs := cat_snoc ps k (by omega)
          have hct1 := cat_take ps (k + 1)
          have hp := hR.hb ps[k] (List.getElem_mem _)
          obtain ⟨p, hpk⟩ : ∃ p, p = ps[k] := ⟨_, rfl⟩
          rw [← hpk] at hc' hs hp
          obtain ⟨pa, pl, pc, px⟩ := p
          have hpl := hp.hl
          simp only at hpl hp hc' hs
          rw [hs, List.length_append, hpl] at hct1
          have Hs := Lib.hid hs
          have Hp := Lib.hid hp
          have hk0 : (0 : Int) ≤ (k : Int) := by omega
          have hk1 : (k : Int) < (len : Int) := by omega
          have hbs := hb.size
          have hal : (catV (ps.take k)).length + pl ≤ 140737488355328 := by have := Hbig.out; omega
          clear hcell hs hct1 hpk hpl hl hR hp ho hb
          go_wp2_with (refine wpList_append_rd rfl (.tmp 31) (.tmp 32) 22 rfl w.heap.size Try.infoB Try.underlying22 _ _ rfl Ho1.out _ _ _ _ rfl Hp.out hal hbs ?_; intro v' w3 ho3 hg3)
          have hlt3 := Ho1.out.1.lt
          have Hb5 : Hid (Below w.heap.size w w3) := Lib.hid (Hb1.out.grown hg3 hbs (fun k hk => (hlt3 k hk).1))
          have Ho3 := Lib.hid ho3
          clear hg3 hlt3 ho3
          go_roundw
          case rel => exact ⟨k + 1, by omega, by go_num, by rw [Hs.out]; exact Ho3.out, Hb5.out⟩
          case measure => simp [intOf]; omega
        · have ht : ps.take k = ps := List.take_of_length_le (by rw [Hl.out]; omega)
          rw [ht] at Ho1
          clear ho hb ht
          go_wp2_with fail
          go_ret
          exact ⟨_, rfl, Ho1.out, Hb1.out⟩
end Go.Proofs.Ytmfijcniaehooaa

/- Patch answers as the chapter says. -/
namespace Go.Proofs.Ytmfijcniaehooaa
set_option linter.unusedVariables false
open Go.RowKit

theorem below_alloc_eq {w w' : World} {o : Obj} (h : w.alloc o = w') : Below w.heap.size w w' := by rw [← h]; exact (Below.refl _ w).alloc (Nat.le_refl _) _
theorem rest_part {w : World} {a : Option Addr} {len cap : Nat} {xs : List Int} (h : Rd w a len cap xs) (q : Nat) (hq : q ≤ len) : Rd w (if cap = q then a else Option.map (fun x => x.add q) a) (len - q) (cap - q) (xs.drop q) := by
  have hc := h.hc
  have hl := h.hl
  by_cases e : cap = q
  · rw [if_pos e, show len - q = 0 by omega, show cap - q = 0 by omega, List.drop_eq_nil_of_le (by omega)]
    exact h.cut0
  · rw [if_neg e]
    have := h.cut2 q (len - q) (by omega)
    rw [List.take_of_length_le (by rw [List.length_drop]; omega)] at this
    exact this
theorem three_parts (w : World) {a1 a2 a3 : Option Addr} {l1 l2 l3 c1 c2 c3 : Nat} {x1 x2 x3 : List Int} (h1 : Rd w a1 l1 c1 x1) (h2 : Rd w a2 l2 c2 x2) (h3 : Rd w a3 l3 c3 x3) :
    RdP (w.alloc (.cells #[.slice a1 l1 c1, .slice a2 l2 c2, .slice a3 l3 c3] 22)).drew (some ⟨w.heap.size, 0, none⟩) 3 3 [⟨a1, l1, c1, x1⟩, ⟨a2, l2, c2, x2⟩, ⟨a3, l3, c3, x3⟩] := by
  have hb := ((Below.refl w.heap.size w).alloc (Nat.le_refl _) (.cells #[.slice a1 l1 c1, .slice a2 l2 c2, .slice a3 l3 c3] 22)).drew
  refine ⟨rfl, Nat.le_refl _, by decide, fun p hp => ?_, fun _ => ⟨_, _, rfl, fun i hi => ?_⟩⟩
  · simp only [List.mem_cons, List.not_mem_nil, or_false] at hp
    rcases hp with rfl | rfl | rfl
    · exact h1.below hb (Nat.le_refl _)
    · exact h2.below hb (Nat.le_refl _)
    · exact h3.below hb (Nat.le_refl _)
  · have hc : ∀ j, (w.alloc (.cells #[.slice a1 l1 c1, .slice a2 l2 c2, .slice a3 l3 c3] 22)).drew.cell? ⟨w.heap.size, j, none⟩ = #[Value.slice a1 l1 c1, .slice a2 l2 c2, .slice a3 l3 c3][j]? := fun j => World.cell?_alloc_mark w _ _ (0, 0) j
    have : i = 0 ∨ i = 1 ∨ i = 2 := by simp at hi; omega
    rcases this with rfl | rfl | rfl
    · exact hc 0
    · exact hc 1
    · exact hc 2
theorem run_kind1 (w : World) : (Instr.index 121 (.agg kindTab) (.int .i64 1)).run Try.prog w = .ok (kindVal 1) w := by kernel_rfl
theorem run_kind2 (w : World) : (Instr.index 121 (.agg kindTab) (.int .i64 2)).run Try.prog w = .ok (kindVal 2) w := by kernel_rfl
theorem run_kind3 (w : World) : (Instr.index 121 (.agg kindTab) (.int .i64 3)).run Try.prog w = .ok (kindVal 3) w := by kernel_rfl
theorem run_kind4 (w : World) : (Instr.index 121 (.agg kindTab) (.int .i64 4)).run Try.prog w = .ok (kindVal 4) w := by kernel_rfl
theorem run_kind5 (w : World) : (Instr.index 121 (.agg kindTab) (.int .i64 5)).run Try.prog w = .ok (kindVal 5) w := by kernel_rfl
theorem run_kind (k : Int) (k1 : 1 ≤ k) (k5 : k ≤ 5) (w : World) : (Instr.index 121 (.agg kindTab) (.int .i64 k)).run Try.prog w = .ok (kindVal k) w := by
  have : k = 1 ∨ k = 2 ∨ k = 3 ∨ k = 4 ∨ k = 5 := by omega
  rcases this with rfl | rfl | rfl | rfl | rfl
  · exact run_kind1 w
  · exact run_kind2 w
  · exact run_kind3 w
  · exact run_kind4 w
  · exact run_kind5 w
set_option maxRecDepth 100000 in
set_option maxHeartbeats 1000000 in
/-- Where, of a field that there is not. -/
theorem where_out (a : Option Addr) (len cap : Nat) (fs : List Fld) (w : World) (h : RdF w a len cap fs) (a2 : Option Addr) (len2 cap2 : Nat) (bs : List Int) (h2 : Rd w a2 len2 cap2 bs) (hbig : len2 ≤ 140737488355328) (hch : checkV fs = 0) (hok : ∀ k, k < len → (atV fs bs k).1 = 0) (i : Int) (hi : i < 0 ∨ (len : Int) ≤ i) :
    Calls Try.prog 47 #[.slice a len cap, .slice a2 len2 cap2, .int .i64 i] w fun e w' => e = .returned (.tuple #[.int .i64 0, .int .i64 0, .int .i64 1]) ∧ Below w.heap.size w w' := by
  have h64 : len ≤ 64 := by have := (checkV_ok hch).1; have := h.hl; omega
  have C : Calls Try.prog 76 #[.slice a len cap, .slice a2 len2 cap2] w fun e w' => ∃ v0 v1, e = .returned (.tuple #[v0, v1, .int .i64 0]) ∧ Below w.heap.size w w' := by
    by_cases h0 : 0 < len
    · refine (readAll_ok a len cap fs w h a2 len2 cap2 bs h2 hbig hch h0 hok).mono ?_
      rintro e w1 ⟨v0, v1, items, rfl, -, -, -, -, hb⟩
      exact ⟨_, _, rfl, hb⟩
    · obtain rfl : len = 0 := by omega
      obtain rfl : fs = [] := by have := h.hl; simpa using this
      refine (readAll_nil a cap w h a2 len2 cap2 bs h2).mono ?_
      rintro e w1 ⟨v1, rfl, -, hb⟩
      exact ⟨_, _, rfl, hb⟩
  have C := Lib.hid C
  clear h h2 hch hok
  by_cases hneg : i < 0
  · clear hi
    go_enter Try.func47, Try.ntmps47
    go_wp2_with fail
    refine C.out.mono ?_
    rintro e w1 ⟨v0, v1, rfl, hb⟩
    have Hb := Lib.hid hb
    clear hb
    go_wp2
    go_ret3
    exact ⟨rfl, Hb.out⟩
  · have hge : i ≥ (len : Int) := by omega
    clear hi
    go_enter Try.func47, Try.ntmps47
    go_wp2_with fail
    refine C.out.mono ?_
    rintro e w1 ⟨v0, v1, rfl, hb⟩
    have Hb := Lib.hid hb
    clear hb
    go_wp2
    go_ret3
    exact ⟨rfl, Hb.out⟩
set_option maxRecDepth 100000 in
set_option maxHeartbeats 1000000 in
/-- Where Where refuses, Patch does. -/
theorem patch_no (a : Option Addr) (len cap : Nat) (w : World) (a2 : Option Addr) (len2 cap2 : Nat) (i : Int) (n : Int) (a3 : Option Addr) (len3 cap3 : Nat) (er : Int) (hne : er ≠ 0)
    (C : ∀ W, Below w.heap.size w W → Calls Try.prog 47 #[.slice a len cap, .slice a2 len2 cap2, .int .i64 i] W fun e w' => e = .returned (.tuple #[.int .i64 0, .int .i64 0, .int .i64 er]) ∧ Below W.heap.size W w') :
    Calls Try.prog 49 #[.slice a len cap, .slice a2 len2 cap2, .int .i64 i, .agg #[.int .i64 n, .slice a3 len3 cap3]] w fun e w' => e = .returned (.tuple #[.slice none 0 0, .int .i64 er]) ∧ Below w.heap.size w w' := by
  obtain ⟨W0, hW0⟩ : ∃ W0, W0 = w.alloc (.cells #[.int .i64 n, .slice a3 len3 cap3] 52) := ⟨_, rfl⟩
  have hb0 : Below w.heap.size w W0 := by rw [hW0]; exact (Below.refl _ w).alloc (Nat.le_refl _) _
  have HW0 := Lib.hid hW0
  have Hb0 := Lib.hid hb0
  have HC := Lib.hid C
  have hne' : (er != 0) = true := by simpa using hne
  clear hW0 hb0 C hne
  go_enter Try.func49, Try.ntmps49
  go_wp2_with fail
  rw [← HW0.out]
  clear HW0
  refine (HC.out W0 Hb0.out).mono ?_
  rintro e w1 ⟨rfl, hb⟩
  have Hb := Lib.hid (Hb0.out.trans (hb.mono Hb0.out.size))
  clear hb
  go_wp2
  go_ret2
  exact ⟨rfl, Hb.out⟩
set_option maxRecDepth 100000 in
set_option maxHeartbeats 4000000 in
/-- A field that is there: refused, or replaced. -/
theorem patch_at_both (i : Nat) (a : Option Addr) (len cap : Nat) (fs : List Fld) (w : World) (h : RdF w a len cap fs) (a2 : Option Addr) (len2 cap2 : Nat) (bs : List Int) (h2 : Rd w a2 len2 cap2 bs) (hbig : len2 + 4105 ≤ 140737488355328) (hch : checkV fs = 0) (hok : ∀ k, k < len → (atV fs bs k).1 = 0)
    (hpos : posV fs bs i ≤ posV fs bs (i + 1) ∧ posV fs bs (i + 1) ≤ len2) (hi : i < len) (x : Itm) (hx : x.Ok w) :
    Calls Try.prog 49 #[.slice a len cap, .slice a2 len2 cap2, .int .i64 (i : Int), .agg #[.int .i64 x.n, .slice x.a x.len x.cap]] w fun e w' =>
      ∃ v, e = .returned (.tuple #[v, .int .i64 (packE (fs.getD i default).kind x.n (fs.getD i default).width x.xs)]) ∧
        (packE (fs.getD i default).kind x.n (fs.getD i default).width x.xs = 0 → Own w' w.heap.size v (bs.take (posV fs bs i) ++ packB (fs.getD i default).kind x.n (fs.getD i default).width x.xs ++ bs.drop (posV fs bs (i + 1)))) ∧ (packE (fs.getD i default).kind x.n (fs.getD i default).width x.xs ≠ 0 → v = .slice none 0 0) ∧ Below w.heap.size w w' := by
  have h64 : len ≤ 64 := by have := (checkV_ok hch).1; have := h.hl; omega
  have hfm : fs.getD i default ∈ fs := by
    have hl := h.hl
    have : fs.getD i default = fs[i] := by simp [List.getD, hl, hi]
    rw [this]; exact List.getElem_mem _
  have hokf := (checkV_ok hch).2 _ hfm
  obtain ⟨g1, g5, g6, g7⟩ := fld_bd hokf
  have hpl := packB_len hokf x.n x.xs
  obtain ⟨n1, n2, hrd⟩ := hx
  obtain ⟨f, hf⟩ : ∃ f, f = fs.getD i default := ⟨_, rfl⟩
  rw [← hf] at hpl g1 g5 g6 g7 ⊢
  have hik := run_kind f.kind g1 g5
  obtain ⟨W0, hW0⟩ : ∃ W0, W0 = w.alloc (.cells #[.int .i64 x.n, .slice x.a x.len x.cap] 52) := ⟨_, rfl⟩
  have hb0 : Below w.heap.size w W0 := by rw [hW0]; exact (Below.refl _ w).alloc (Nat.le_refl _) _
  have hg0 : ∀ j, W0.cell? ⟨w.heap.size, j, none⟩ = #[Value.int .i64 x.n, .slice x.a x.len x.cap][j]? := fun j => by rw [hW0]; exact World.cell?_alloc_mark w _ _ (0, 0) j
  have hs0 : W0.heap.size = w.heap.size + 1 := by rw [hW0]; simp
  have C := Lib.hid (fun W (hW : Below w.heap.size w W) => where_ok a len cap fs W (h.below hW (Nat.le_refl _)) a2 len2 cap2 bs (h2.below hW (Nat.le_refl _)) (by omega) hch hok i hi)
  have H := Lib.hid h
  have H2 := Lib.hid h2
  have Hrd := Lib.hid hrd
  have HW0 := Lib.hid hW0
  have Hb0 := Lib.hid hb0
  have Hg0 := Lib.hid hg0
  have Hs0 := Lib.hid hs0
  have Hf := Lib.hid hf
  have Hpl := Lib.hid hpl
  obtain ⟨p, hp⟩ : ∃ p, p = posV fs bs i := ⟨_, rfl⟩
  obtain ⟨q, hq⟩ : ∃ q, q = posV fs bs (i + 1) := ⟨_, rfl⟩
  rw [← hp, ← hq] at hpos ⊢
  have HP := Lib.hid (And.intro hp hq)
  have g0 : (0 : Int) ≤ (i : Int) := by omega
  have g2 : (i : Int) < (len : Int) := by omega
  clear h h2 hrd hW0 hb0 hg0 hs0 hf hpl hp hq hch hok hfm hokf
  go_enter Try.func49, Try.ntmps49
  go_wp2_with fail
  rw [← HW0.out]
  clear HW0
  refine (C.out W0 Hb0.out).mono ?_
  rintro e w1 ⟨rfl, hb⟩
  rw [← HP.out.1, ← HP.out.2]
  have hbw := Hb0.out.trans (hb.mono Hb0.out.size)
  obtain ⟨b, off, rfl, hcell⟩ := (H.out.below hbw (Nat.le_refl _)).hr (by omega)
  obtain ⟨-, k1, k2⟩ := hcell i hi
  rw [← Hf.out] at k1 k2
  have x0 : w1.cell? ⟨w.heap.size, 0, none⟩ = some (.int .i64 x.n) := (hb.cell (p := ⟨w.heap.size, 0, none⟩) (by have := Hs0.out; simp; omega)).trans (Hg0.out 0)
  have x1 : w1.cell? ⟨w.heap.size, 1, none⟩ = some (.slice x.a x.len x.cap) := (hb.cell (p := ⟨w.heap.size, 1, none⟩) (by have := Hs0.out; simp; omega)).trans (Hg0.out 1)
  have hl1 : w.heap.size < w1.heap.size := by have := hb.size; rw [Hs0.out] at this; omega
  have hl2 : b < w1.heap.size := World.block_lt_of_cell? w1 _ k1
  have Hbw := Lib.hid hbw
  have Hrd1 := Lib.hid (Hrd.out.below hbw (Nat.le_refl _))
  clear hb hbw hcell C Hg0 Hs0 Hb0
  go_wp2_with fail
  go_region_held3 (fun w' => w'.cell? ⟨b, off + i * 3 + 1, none⟩ = some (.int .i64 f.kind) ∧ w'.cell? ⟨b, off + i * 3 + 2, none⟩ = some (.int .i64 f.width) ∧ w'.cell? ⟨w.heap.size, 0, none⟩ = some (.int .i64 x.n) ∧ w'.cell? ⟨w.heap.size, 1, none⟩ = some (.slice x.a x.len x.cap))
    (first | go_keep | (go_split_ands; refine ⟨?_, ?_, ?_, ?_⟩ <;> (rw [hb5.cell (by first | (simp; done) | (simp; omega))]; assumption)) | (go_split_ands; refine ⟨?_, ?_, ?_, ?_⟩ <;> (rw [hb3.cell (by first | (simp; done) | (simp; omega))]; assumption)))
    (first | (go_at_call 73; refine (pack_any _ _ _ _ _ x.xs _ (Hrd1.out.below ((Below.refl w1.heap.size w1).drew.trans (hb3.mono (Nat.le_refl _))) (Nat.le_refl _)) n1 n2 f.kind g1 g5).mono ?_; rintro e w4 ⟨a3, l3, c3, rfl, hr3, hb5⟩) | (go_at_call 70; refine (kinds_any _).mono ?_; rintro e w2 ⟨rfl, hw2⟩; have hb3 := below_alloc_eq hw2; have hs3 := hb3.size; simp at hs3; clear hw2))
  have hs5 := hb5.size
  have hb6 : Below w1.heap.size w1 w4 := (Below.refl w1.heap.size w1).drew.trans ((hb3.mono (Nat.le_refl _)).trans (hb5.mono hs3))
  have Hbw4 := Lib.hid (Hbw.out.trans (hb6.mono Hbw.out.size))
  have Hr3 := Lib.hid hr3
  clear hb3 hb5 hb6 hr3 k1 k2 x0 x1 Hrd1 Hbw
  by_cases hE : packE f.kind x.n f.width x.xs = 0
  · have R2 := H2.out.below Hbw4.out (Nat.le_refl _)
    have hc2 := R2.hc
    have hm2 := R2.hm
    unfold maxLen at hm2
    have HE0 : Hid (packE f.kind x.n f.width x.xs = 0) := Lib.hid hE
    rw [hE]
    obtain ⟨q1, q2⟩ := hpos
    by_cases hcq : cap2 = q
    · have hif : (cap2 = q) = True := by simp [hcq]
      have HP3 : Hid (RdP (w4.alloc (.cells #[.slice a2 p cap2, .slice a3 l3 c3, .slice a2 (len2 - q) (cap2 - q)] 22)).drew (some ⟨w4.heap.size, 0, none⟩) 3 3 [⟨a2, p, cap2, bs.take p⟩, ⟨a3, l3, c3, packB f.kind x.n f.width x.xs⟩, ⟨a2, len2 - q, cap2 - q, bs.drop q⟩]) := Lib.hid (three_parts w4 (R2.takeL p (by omega)) Hr3.out (by have := rest_part R2 q q2; rw [if_pos hcq] at this; exact this))
      have l1 : p ≤ cap2 := by omega
      have l2 : q ≤ cap2 := by omega
      have hcv : catV [⟨a2, p, cap2, bs.take p⟩, ⟨a3, l3, c3, packB f.kind x.n f.width x.xs⟩, ⟨a2, len2 - q, cap2 - q, bs.drop q⟩] = bs.take p ++ packB f.kind x.n f.width x.xs ++ bs.drop q := by simp [catV]
      have hcl : (catV [⟨a2, p, cap2, bs.take p⟩, ⟨a3, l3, c3, packB f.kind x.n f.width x.xs⟩, ⟨a2, len2 - q, cap2 - q, bs.drop q⟩]).length ≤ 140737488355328 := by
        rw [hcv, List.length_append, List.length_append, List.length_take, List.length_drop]
        have := Hpl.out
        have := R2.hl
        omega
      obtain ⟨m7, hm7⟩ : ∃ m, m = (catV [⟨a2, p, cap2, bs.take p⟩, ⟨a3, l3, c3, packB f.kind x.n f.width x.xs⟩, ⟨a2, len2 - q, cap2 - q, bs.drop q⟩]).length := ⟨_, rfl⟩
      have hcat := hm7.symm
      have HE := Lib.hid hE
      clear R2 hE hm7 hcq
      go_upto_region 7 with fail
      go_region_held3 (fun _ => True) (trivial) ((go_at_call 78; refine (concat_any _ _ _ _ _ HP3.out hcl).mono ?_; rintro e w5 ⟨v, rfl, ho, hb7⟩; obtain ⟨a7, c7, hv7, -⟩ := ho.rdzL hcat; subst hv7; have Ho := Lib.hid ho; have Hb7 := Lib.hid (((Below.refl w4.heap.size w4).alloc (Nat.le_refl _) (.cells #[.slice a2 p cap2, .slice a3 l3 c3, .slice a2 (len2 - q) (cap2 - q)] 22)).drew.trans (hb7.mono (by simp))); clear ho hb7))
      go_wp2
      go_ret2
      refine ⟨.slice a7 m7 c7, by rw [HE.out]; rfl, fun _ => ?_, fun h => absurd HE0.out h, Hbw4.out.trans (Hb7.out.mono Hbw4.out.size)⟩
      rw [← hcv]
      exact Ho.out.mono (by have := Hbw4.out.size; simp; omega)
    · have hif : (cap2 = q) = False := by simp [hcq]
      have HP3 : Hid (RdP (w4.alloc (.cells #[.slice a2 p cap2, .slice a3 l3 c3, .slice (Option.map (fun x => x.add q) a2) (len2 - q) (cap2 - q)] 22)).drew (some ⟨w4.heap.size, 0, none⟩) 3 3 [⟨a2, p, cap2, bs.take p⟩, ⟨a3, l3, c3, packB f.kind x.n f.width x.xs⟩, ⟨Option.map (fun x => x.add q) a2, len2 - q, cap2 - q, bs.drop q⟩]) := Lib.hid (three_parts w4 (R2.takeL p (by omega)) Hr3.out (by have := rest_part R2 q q2; rw [if_neg hcq] at this; exact this))
      have l1 : p ≤ cap2 := by omega
      have l2 : q ≤ cap2 := by omega
      have hcv : catV [⟨a2, p, cap2, bs.take p⟩, ⟨a3, l3, c3, packB f.kind x.n f.width x.xs⟩, ⟨Option.map (fun x => x.add q) a2, len2 - q, cap2 - q, bs.drop q⟩] = bs.take p ++ packB f.kind x.n f.width x.xs ++ bs.drop q := by simp [catV]
      have hcl : (catV [⟨a2, p, cap2, bs.take p⟩, ⟨a3, l3, c3, packB f.kind x.n f.width x.xs⟩, ⟨Option.map (fun x => x.add q) a2, len2 - q, cap2 - q, bs.drop q⟩]).length ≤ 140737488355328 := by
        rw [hcv, List.length_append, List.length_append, List.length_take, List.length_drop]
        have := Hpl.out
        have := R2.hl
        omega
      obtain ⟨m7, hm7⟩ : ∃ m, m = (catV [⟨a2, p, cap2, bs.take p⟩, ⟨a3, l3, c3, packB f.kind x.n f.width x.xs⟩, ⟨Option.map (fun x => x.add q) a2, len2 - q, cap2 - q, bs.drop q⟩]).length := ⟨_, rfl⟩
      have hcat := hm7.symm
      have HE := Lib.hid hE
      clear R2 hE hm7 hcq
      go_upto_region 7 with fail
      go_region_held3 (fun _ => True) (trivial) ((go_at_call 78; refine (concat_any _ _ _ _ _ HP3.out hcl).mono ?_; rintro e w5 ⟨v, rfl, ho, hb7⟩; obtain ⟨a7, c7, hv7, -⟩ := ho.rdzL hcat; subst hv7; have Ho := Lib.hid ho; have Hb7 := Lib.hid (((Below.refl w4.heap.size w4).alloc (Nat.le_refl _) (.cells #[.slice a2 p cap2, .slice a3 l3 c3, .slice (Option.map (fun x => x.add q) a2) (len2 - q) (cap2 - q)] 22)).drew.trans (hb7.mono (by simp))); clear ho hb7))
      go_wp2
      go_ret2
      refine ⟨.slice a7 m7 c7, by rw [HE.out]; rfl, fun _ => ?_, fun h => absurd HE0.out h, Hbw4.out.trans (Hb7.out.mono Hbw4.out.size)⟩
      rw [← hcv]
      exact Ho.out.mono (by have := Hbw4.out.size; simp; omega)
  · have hE' : (packE f.kind x.n f.width x.xs != 0) = true := by simpa using hE
    go_wp2
    go_ret2
    exact ⟨_, rfl, fun h => absurd h hE, fun _ => rfl, Hbw4.out⟩
theorem patch_at_any (i : Nat) (a : Option Addr) (len cap : Nat) (fs : List Fld) (w : World) (h : RdF w a len cap fs) (a2 : Option Addr) (len2 cap2 : Nat) (bs : List Int) (h2 : Rd w a2 len2 cap2 bs) (hbig : len2 + 4105 ≤ 140737488355328) (hch : checkV fs = 0) (hok : ∀ k, k < len → (atV fs bs k).1 = 0)
    (hpos : posV fs bs i ≤ posV fs bs (i + 1) ∧ posV fs bs (i + 1) ≤ len2) (hi : i < len) (x : Itm) (hx : x.Ok w) :
    Calls Try.prog 49 #[.slice a len cap, .slice a2 len2 cap2, .int .i64 (i : Int), .agg #[.int .i64 x.n, .slice x.a x.len x.cap]] w fun e w' =>
      ∃ v, e = .returned (.tuple #[v, .int .i64 (packE (fs.getD i default).kind x.n (fs.getD i default).width x.xs)]) ∧
        (packE (fs.getD i default).kind x.n (fs.getD i default).width x.xs = 0 → Own w' w.heap.size v (bs.take (posV fs bs i) ++ packB (fs.getD i default).kind x.n (fs.getD i default).width x.xs ++ bs.drop (posV fs bs (i + 1)))) ∧ Below w.heap.size w w' := by
  refine (patch_at_both i a len cap fs w h a2 len2 cap2 bs h2 hbig hch hok hpos hi x hx).mono ?_
  rintro e w' ⟨v, he, ho, -, hb⟩
  exact ⟨v, he, ho, hb⟩
end Go.Proofs.Ytmfijcniaehooaa

/- A field replaced: what is read of the bytes then. -/
namespace Go.Proofs.Ytmfijcniaehooaa
set_option linter.unusedVariables false
open Go.RowKit

/-- The bytes with the field i replaced. -/
def patchB (fs : List Fld) (B : List Int) (i : Nat) (part : List Int) : List Int := B.take (posV fs B i) ++ part ++ B.drop (posV fs B (i + 1))
def gotI (fs : List Fld) (B : List Int) (k : Nat) : Itm := ⟨(atV fs B k).2.1, none, 0, 0, (atV fs B k).2.2.1⟩
/-- The items that are read, but for the one replaced. -/
def gotL (fs : List Fld) (B : List Int) (i : Nat) (x : Itm) : List Itm := (List.range fs.length).map fun k => if k = i then x else gotI fs B k
theorem gotL_len (fs : List Fld) (B : List Int) (i : Nat) (x : Itm) : (gotL fs B i x).length = fs.length := by simp [gotL]
theorem gotL_get (fs : List Fld) (B : List Int) (i : Nat) (x : Itm) (k : Nat) (h : k < fs.length) : (gotL fs B i x).getD k default = if k = i then x else gotI fs B k := by
  unfold gotL
  simp [List.getD, h]
theorem posV_mono (fs : List Fld) (B : List Int) : ∀ j k, posV fs B k ≤ posV fs B (k + j) := by
  intro j k
  induction j with
  | zero => exact Nat.le_refl _
  | succ j ih => rw [← Nat.add_assoc, posV_succ]; omega
section
variable {fs : List Fld} {B : List Int} (hb : ∀ x ∈ B, 0 ≤ x ∧ x ≤ 255) (hch : checkV fs = 0) (hok : ∀ k, k < fs.length → (atV fs B k).1 = 0) {i : Nat} (hi : i < fs.length) {x : Itm}
include hb hch hok hi
theorem pre_before : ∀ k, k ≤ i → preB fs (gotL fs B i x) k = B.take (posV fs B k) := by
  obtain ⟨hp, hq⟩ := unpack_oneway hb hch hok
  intro k
  induction k with
  | zero => intro _; unfold posV; simp [preB]
  | succ k ih =>
    intro hk
    rw [preB, ih (by omega), gotL_get fs B i x k (by omega), if_neg (by omega), posV_succ, List.take_add]
    unfold gotI
    rw [(hq k (by omega)).2.1]
theorem pre_behind : ∀ j, i + 1 + j ≤ fs.length → preB fs (gotL fs B i x) (i + 1 + j) = B.take (posV fs B i) ++ packB (fs.getD i default).kind x.n (fs.getD i default).width x.xs ++ (B.take (posV fs B (i + 1 + j))).drop (posV fs B (i + 1)) := by
  obtain ⟨hp, hq⟩ := unpack_oneway hb hch hok
  intro j
  induction j with
  | zero =>
    intro _
    rw [Nat.add_zero, preB, pre_before hb hch hok hi i (Nat.le_refl _), gotL_get fs B i x i hi, if_pos rfl]
    rw [List.drop_eq_nil_of_le (by rw [List.length_take]; omega), List.append_nil]
  | succ j ih =>
    intro hk
    have hm := posV_mono fs B j (i + 1)
    have hle := hp (i + 1 + j) (by omega)
    rw [← Nat.add_assoc, preB, ih (by omega), gotL_get fs B i x _ (by omega), if_neg (by omega), posV_succ fs B (i + 1 + j), List.take_add]
    unfold gotI
    rw [(hq (i + 1 + j) (by omega)).2.1, List.append_assoc, List.drop_append_of_le_length (by rw [List.length_take]; omega)]
variable (hx : packE (fs.getD i default).kind x.n (fs.getD i default).width x.xs = 0)
include hx
omit hi in
theorem got_packed : ∀ k, k < fs.length → packE (fs.getD k default).kind ((gotL fs B i x).getD k default).n (fs.getD k default).width ((gotL fs B i x).getD k default).xs = 0 := by
  obtain ⟨hp, hq⟩ := unpack_oneway hb hch hok
  intro k hk
  rw [gotL_get fs B i x k hk]
  by_cases h : k = i
  · rw [if_pos h, h]; exact hx
  · rw [if_neg h]; exact (hq k hk).1
theorem patch_split : packL fs (gotL fs B i x) [] = (0, preB fs (gotL fs B i x) fs.length) ∧ preB fs (gotL fs B i x) fs.length ++ B.drop (posV fs B fs.length) = patchB fs B i (packB (fs.getD i default).kind x.n (fs.getD i default).width x.xs) := by
  obtain ⟨hp, hq⟩ := unpack_oneway hb hch hok
  refine ⟨by rw [packL_mk fs _ [] (gotL_len _ _ _ _) (got_packed hb hch hok hx), List.nil_append], ?_⟩
  obtain ⟨j, hj⟩ := Nat.exists_eq_add_of_le (show i + 1 ≤ fs.length from hi)
  have hm := posV_mono fs B j (i + 1)
  rw [← hj] at hm
  have hle := hp fs.length (Nat.le_refl _)
  have := pre_behind (x := x) hb hch hok hi j (by omega)
  rw [← hj] at this
  rw [this]
  unfold patchB
  rw [List.append_assoc, ← List.drop_append_of_le_length (by rw [List.length_take]; omega), List.take_append_drop]
/-- What is read of the bytes with one field replaced. -/
theorem patch_reads (n1 : -9223372036854775808 ≤ x.n) (n2 : x.n ≤ 9223372036854775807) : ∀ k, k ≤ fs.length →
    posV fs (patchB fs B i (packB (fs.getD i default).kind x.n (fs.getD i default).width x.xs)) k = (preB fs (gotL fs B i x) k).length ∧
    (k < fs.length → atV fs (patchB fs B i (packB (fs.getD i default).kind x.n (fs.getD i default).width x.xs)) k = (0, ((gotL fs B i x).getD k default).n, ((gotL fs B i x).getD k default).xs, (packB (fs.getD k default).kind ((gotL fs B i x).getD k default).n (fs.getD k default).width ((gotL fs B i x).getD k default).xs).length)) := by
  obtain ⟨hp, hq⟩ := unpack_oneway hb hch hok
  obtain ⟨h1, h2⟩ := patch_split hb hch hok hi hx
  have := pack_whole fs (gotL fs B i x) (B.drop (posV fs B fs.length)) hch (gotL_len _ _ _ _) (fun y hy => by
    unfold gotL at hy
    obtain ⟨k, hk, rfl⟩ := List.mem_map.1 hy
    have hk' := List.mem_range.1 hk
    by_cases h : k = i
    · rw [if_pos h]; exact ⟨n1, n2⟩
    · rw [if_neg h]; exact ⟨(hq k hk').2.2.1, (hq k hk').2.2.2.1⟩) (by rw [h1])
  rw [h1] at this
  simp only at this
  rw [h2] at this
  exact this
theorem patch_at (n1 : -9223372036854775808 ≤ x.n) (n2 : x.n ≤ 9223372036854775807) (k : Nat) (hk : k < fs.length) :
    (atV fs (patchB fs B i (packB (fs.getD i default).kind x.n (fs.getD i default).width x.xs)) k).1 = 0 ∧
    ((atV fs (patchB fs B i (packB (fs.getD i default).kind x.n (fs.getD i default).width x.xs)) k).2.1, (atV fs (patchB fs B i (packB (fs.getD i default).kind x.n (fs.getD i default).width x.xs)) k).2.2.1) = if k = i then (x.n, x.xs) else ((atV fs B k).2.1, (atV fs B k).2.2.1) := by
  have := (patch_reads hb hch hok hi hx n1 n2 k (by omega)).2 hk
  rw [this]
  refine ⟨rfl, ?_⟩
  rw [gotL_get fs B i x k hk]
  by_cases h : k = i
  · rw [if_pos h, if_pos h]
  · rw [if_neg h, if_neg h]; rfl
/-- The old item put back gives the old bytes. -/
theorem patch_back (n1 : -9223372036854775808 ≤ x.n) (n2 : x.n ≤ 9223372036854775807) :
    packE (fs.getD i default).kind (atV fs B i).2.1 (fs.getD i default).width (atV fs B i).2.2.1 = 0 ∧
    patchB fs (patchB fs B i (packB (fs.getD i default).kind x.n (fs.getD i default).width x.xs)) i (packB (fs.getD i default).kind (atV fs B i).2.1 (fs.getD i default).width (atV fs B i).2.2.1) = B := by
  obtain ⟨hp, hq⟩ := unpack_oneway hb hch hok
  refine ⟨(hq i hi).1, ?_⟩
  have h1 := (patch_reads hb hch hok hi hx n1 n2 i (by omega)).1
  have h2 := (patch_reads hb hch hok hi hx n1 n2 (i + 1) (by omega)).1
  have e1 := pre_before (x := x) hb hch hok hi i (Nat.le_refl _)
  have e2 := pre_behind (x := x) hb hch hok hi 0 (by omega)
  rw [Nat.add_zero, List.drop_eq_nil_of_le (by rw [List.length_take]; omega), List.append_nil] at e2
  rw [e1] at h1
  rw [e2] at h2
  have hle := hp i (by omega)
  obtain ⟨C, hC⟩ : ∃ C, C = patchB fs B i (packB (fs.getD i default).kind x.n (fs.getD i default).width x.xs) := ⟨_, rfl⟩
  rw [← hC] at h1 h2 ⊢
  unfold patchB
  rw [h1, h2, hC]
  unfold patchB
  rw [(hq i hi).2.1, List.drop_left, List.append_assoc (B.take _), List.take_left, List.append_assoc]
  have hp2 := hp (i + 1) (by omega)
  rw [posV_succ, ← List.drop_drop, List.take_append_drop, List.take_append_drop]
end
end Go.Proofs.Ytmfijcniaehooaa

/- The reference's one: an item of a field is read. -/
namespace Go.Proofs.Ytmfijcniaehooaa
set_option linter.unusedVariables false
open Go.RowKit

theorem Try.sizeGot (u v x y : Value) : (Try.prog.info? 131).map (·.size) = some (#[u, v, x, y] : Array Value).size := by kernel_rfl
theorem oneGot (n : Int) (a : Option Addr) (l c : Nat) (u e : Int) : (#[.int .i64 n, .slice a l c, .int .i64 u, .int .i64 e] : Array Value).all (fun x => x.oneCell') = true := by kernel_rfl
/-- What one answers: the item, how many bytes, or an error. -/
def OnePost (er n : Int) (bs : List Int) (st : Nat) (w : World) (e : Ending) (w' : World) : Prop :=
  ∃ (n' : Int) (a1 : Option Addr) (l1 c1 : Nat) (u' : Int), e = .returned (.agg #[.int .i64 n', .slice a1 l1 c1, .int .i64 u', .int .i64 er]) ∧ (er = 0 → n' = n ∧ u' = st ∧ Own w' w.heap.size (.slice a1 l1 c1) bs) ∧ Below w.heap.size w w'
set_option maxRecDepth 100000 in
set_option maxHeartbeats 4000000 in
theorem one_3 (nm : ByteArray) (wd : Int) (a : Option Addr) (len cap : Nat) (xs : List Int) (w : World) (h : Rd w a len cap xs) (hbig : len ≤ 140737488355328) :
    Calls Try.prog 77 #[.agg #[.string nm, .int .i64 3, .int .i64 wd], .slice a len cap] w (OnePost ((toVarV xs).2.2) ((toVarV xs).1) ([]) ((toVarV xs).2.1.toNat) w) := by
  have hm := h.hm
  have hc := h.hc
  unfold maxLen at hm
  obtain ⟨W0, hW0⟩ : ∃ W0, W0 = (w.alloc (.cells #[.string nm, .int .i64 3, .int .i64 wd] 101)).alloc (.cells #[.int .i64 0, .slice none 0 0, .int .i64 0, .int .i64 0] 131) := ⟨_, rfl⟩
  have hs0 : W0.heap.size = w.heap.size + 2 := by rw [hW0]; simp
  have hF : W0.heap[w.heap.size]? = some (.cells #[.string nm, .int .i64 3, .int .i64 wd] 101 (0, 0)) := by rw [hW0, heap_alloc_old _ _ _ (by simp), heap_alloc_last]
  have hG : W0.heap[w.heap.size + 1]? = some (.cells #[.int .i64 0, .slice none 0 0, .int .i64 0, .int .i64 0] 131 (0, 0)) := by
    rw [hW0]; have := heap_alloc_last (w.alloc (.cells #[.string nm, .int .i64 3, .int .i64 wd] 101)) (.cells #[.int .i64 0, .slice none 0 0, .int .i64 0, .int .i64 0] 131); simpa using this
  have hb0 : Below w.heap.size w W0 := by rw [hW0]; exact ((Below.refl _ w).alloc (Nat.le_refl _) _).alloc (by simp) _
  have HR := Lib.hid (h.below hb0 (Nat.le_refl _))
  have HW0 := Lib.hid hW0
  have HF := Lib.hid hF
  have HG := Lib.hid hG
  have Hb0 := Lib.hid hb0
  have Hs0 := Lib.hid hs0
  have Hl := Lib.hid h.hl
  have HB := Lib.hid h.hb
  clear hW0 hs0 hF hG hb0 h
  have hbv := toVarV_bd xs (fun x hx => HB.out x hx)
  obtain ⟨vn, hvn⟩ : ∃ v, v = (toVarV xs).1 := ⟨_, rfl⟩
  obtain ⟨vu, hvu⟩ : ∃ v, v = (toVarV xs).2.1 := ⟨_, rfl⟩
  obtain ⟨ve, hve⟩ : ∃ v, v = (toVarV xs).2.2 := ⟨_, rfl⟩
  have HT : Hid (num (toVarV xs) = .returned (.agg #[.int .i64 vn, .int .i64 vu, .int .i64 ve])) := Lib.hid (by rw [hvn, hvu, hve]; rfl)
  rw [← hvn, ← hvu, ← hve] at hbv
  rw [← hvn, ← hvu, ← hve]
  clear hvn hvu hve
  have f1 : W0.cell? ⟨w.heap.size, 1, none⟩ = some (.int .i64 3) := by rw [cell_of_row _ _ _ _ _ _ HF.out]; rfl
  have f2 : W0.cell? ⟨w.heap.size, 2, none⟩ = some (.int .i64 wd) := by rw [cell_of_row _ _ _ _ _ _ HF.out]; rfl
  go_enter Try.func77, Try.ntmps77
  go_upto_region 1 with fail
  rw [← HW0.out]
  clear HW0
  go_wp2_with fail
  refine (refToVar_any _ _ _ xs W0 HR.out).mono ?_
  rintro e w2 ⟨rfl, hb⟩
  rw [HT.out]
  obtain ⟨W3, hW3⟩ : ∃ W3, W3 = w2.alloc (.cells #[.int .i64 vn, .int .i64 vu, .int .i64 ve] 34) := ⟨_, rfl⟩
  have hg : W3.heap[w2.heap.size]? = some (.cells #[.int .i64 vn, .int .i64 vu, .int .i64 ve] 34 (0, 0)) := by rw [hW3]; exact heap_alloc_last w2 _
  have hb3 : Below W0.heap.size W0 W3 := by rw [hW3]; exact hb.alloc hb.size _
  have hg2 : w.heap.size + 2 ≤ w2.heap.size := by have := hb.size; rw [Hs0.out] at this; exact this
  have HW3 := Lib.hid hW3
  have e0 : W3.cell? ⟨w2.heap.size, 0, none⟩ = some (.int .i64 vn) := by rw [cell_of_row _ _ _ _ _ _ hg]; rfl
  have e1 : W3.cell? ⟨w2.heap.size, 1, none⟩ = some (.int .i64 vu) := by rw [cell_of_row _ _ _ _ _ _ hg]; rfl
  have e2 : W3.cell? ⟨w2.heap.size, 2, none⟩ = some (.int .i64 ve) := by rw [cell_of_row _ _ _ _ _ _ hg]; rfl
  have k2 : W3.cell? ⟨w.heap.size, 2, none⟩ = some (.int .i64 wd) := (hb3.cell (p := ⟨w.heap.size, 2, none⟩) (by show w.heap.size < W0.heap.size; rw [Hs0.out]; omega)).trans f2
  have HG3 := Lib.hid ((hb3.block _ (by rw [Hs0.out]; omega)).trans HG.out)
  have HR3 := Lib.hid (HR.out.below hb3 (Nat.le_refl _))
  have Hb3 := Lib.hid (Hb0.out.trans (hb3.mono Hb0.out.size))
  clear hb hW3 hg hb3 HG HR Hb0 f1 f2 HF
  go_upto_region 4 with fail
  rw [← HW3.out]
  clear HW3
  obtain ⟨g, hgg⟩ : ∃ g, g = w2.heap.size := ⟨_, rfl⟩
  rw [← hgg] at e0 e1 e2 hg2 ⊢
  clear hgg
  go_wp2_with (refine wpList_store_row rfl 131 (.tmp 4) (.tmp 21) rfl (w.heap.size + 1) #[.int .i64 vn, .slice none 0 0, .int .i64 vu, .int .i64 ve] rfl rfl 131 #[.int .i64 0, .slice none 0 0, .int .i64 0, .int .i64 0] HG3.out (Try.sizeGot _ _ _ _) rfl (oneGot _ _ _ _ _ _) ?_)
  refine bodyPost_ret (v := .agg #[.int .i64 vn, .slice none 0 0, .int .i64 vu, .int .i64 ve]) ?_ rfl ?_
  · exact results_cell_row rfl _ _ (w.heap.size + 1) 131 #[.int .i64 vn, .slice none 0 0, .int .i64 vu, .int .i64 ve] (0, 0) _ rfl (setRow_heap _ _ _ _ _ _ HG3.out) Try.underlying131 rfl (Try.sizeGot _ _ _ _)
  · exact ⟨_, _, _, _, _, rfl, fun _ => ⟨rfl, by omega, Own.nil _ _⟩, Hb3.out.trans (below_setRow' _ _ _ _ (by omega))⟩
set_option maxRecDepth 100000 in
set_option maxHeartbeats 4000000 in
theorem one_few (nm : ByteArray) (kd wd : Int) (h3 : (kd == 3) = false) (h5 : (kd == 5) = false) (a : Option Addr) (len cap : Nat) (hlt : (len : Int) < wd) (xs : List Int) (w : World) (h : Rd w a len cap xs) (hbig : len ≤ 140737488355328) :
    Calls Try.prog 77 #[.agg #[.string nm, .int .i64 kd, .int .i64 wd], .slice a len cap] w (OnePost (4) (0) ([]) (0) w) := by
  have hm := h.hm
  have hc := h.hc
  unfold maxLen at hm
  obtain ⟨W0, hW0⟩ : ∃ W0, W0 = (w.alloc (.cells #[.string nm, .int .i64 kd, .int .i64 wd] 101)).alloc (.cells #[.int .i64 0, .slice none 0 0, .int .i64 0, .int .i64 0] 131) := ⟨_, rfl⟩
  have hs0 : W0.heap.size = w.heap.size + 2 := by rw [hW0]; simp
  have hF : W0.heap[w.heap.size]? = some (.cells #[.string nm, .int .i64 kd, .int .i64 wd] 101 (0, 0)) := by rw [hW0, heap_alloc_old _ _ _ (by simp), heap_alloc_last]
  have hG : W0.heap[w.heap.size + 1]? = some (.cells #[.int .i64 0, .slice none 0 0, .int .i64 0, .int .i64 0] 131 (0, 0)) := by
    rw [hW0]; have := heap_alloc_last (w.alloc (.cells #[.string nm, .int .i64 kd, .int .i64 wd] 101)) (.cells #[.int .i64 0, .slice none 0 0, .int .i64 0, .int .i64 0] 131); simpa using this
  have hb0 : Below w.heap.size w W0 := by rw [hW0]; exact ((Below.refl _ w).alloc (Nat.le_refl _) _).alloc (by simp) _
  have HR := Lib.hid (h.below hb0 (Nat.le_refl _))
  have HW0 := Lib.hid hW0
  have HF := Lib.hid hF
  have HG := Lib.hid hG
  have Hb0 := Lib.hid hb0
  have Hs0 := Lib.hid hs0
  have Hl := Lib.hid h.hl
  have HB := Lib.hid h.hb
  clear hW0 hs0 hF hG hb0 h
  have f1 : W0.cell? ⟨w.heap.size, 1, none⟩ = some (.int .i64 kd) := by rw [cell_of_row _ _ _ _ _ _ HF.out]; rfl
  have f2 : W0.cell? ⟨w.heap.size, 2, none⟩ = some (.int .i64 wd) := by rw [cell_of_row _ _ _ _ _ _ HF.out]; rfl
  go_enter Try.func77, Try.ntmps77
  go_upto_region 1 with fail
  rw [← HW0.out]
  clear HW0
  go_wp2_with (refine wpList_store_row rfl 131 (.tmp 4) (.tmp 70) rfl (w.heap.size + 1) #[.int .i64 0, .slice none 0 0, .int .i64 0, .int .i64 4] rfl rfl 131 #[.int .i64 0, .slice none 0 0, .int .i64 0, .int .i64 0] HG.out (Try.sizeGot _ _ _ _) rfl (oneGot _ _ _ _ _ _) ?_)
  refine bodyPost_ret (v := .agg #[.int .i64 0, .slice none 0 0, .int .i64 0, .int .i64 4]) ?_ rfl ?_
  · exact results_cell_row rfl _ _ (w.heap.size + 1) 131 #[.int .i64 0, .slice none 0 0, .int .i64 0, .int .i64 4] (0, 0) _ rfl (setRow_heap _ _ _ _ _ _ HG.out) Try.underlying131 rfl (Try.sizeGot _ _ _ _)
  · exact ⟨_, _, _, _, _, rfl, fun h => absurd h (by decide), Hb0.out.trans (below_setRow' _ _ _ _ (by omega))⟩
set_option maxRecDepth 100000 in
set_option maxHeartbeats 4000000 in
theorem one_1 (nm : ByteArray) (a : Option Addr) (len cap : Nat) (xs : List Int) (m : Nat) (hm1 : 1 ≤ m) (hm8 : m ≤ 8) (hml : m ≤ len) (nn er : Int) (hnn : nn = (numV false (xs.take m)).1) (her : er = (numV false (xs.take m)).2) (w : World) (h : Rd w a len cap xs) (hbig : len ≤ 140737488355328) :
    Calls Try.prog 77 #[.agg #[.string nm, .int .i64 1, .int .i64 m], .slice a len cap] w (OnePost (er) (nn) ([]) (m) w) := by
  have HNN := Lib.hid (And.intro hnn her)
  clear hnn her
  have hm := h.hm
  have hc := h.hc
  unfold maxLen at hm
  obtain ⟨W0, hW0⟩ : ∃ W0, W0 = (w.alloc (.cells #[.string nm, .int .i64 1, .int .i64 m] 101)).alloc (.cells #[.int .i64 0, .slice none 0 0, .int .i64 0, .int .i64 0] 131) := ⟨_, rfl⟩
  have hs0 : W0.heap.size = w.heap.size + 2 := by rw [hW0]; simp
  have hF : W0.heap[w.heap.size]? = some (.cells #[.string nm, .int .i64 1, .int .i64 m] 101 (0, 0)) := by rw [hW0, heap_alloc_old _ _ _ (by simp), heap_alloc_last]
  have hG : W0.heap[w.heap.size + 1]? = some (.cells #[.int .i64 0, .slice none 0 0, .int .i64 0, .int .i64 0] 131 (0, 0)) := by
    rw [hW0]; have := heap_alloc_last (w.alloc (.cells #[.string nm, .int .i64 1, .int .i64 m] 101)) (.cells #[.int .i64 0, .slice none 0 0, .int .i64 0, .int .i64 0] 131); simpa using this
  have hb0 : Below w.heap.size w W0 := by rw [hW0]; exact ((Below.refl _ w).alloc (Nat.le_refl _) _).alloc (by simp) _
  have HR := Lib.hid (h.below hb0 (Nat.le_refl _))
  have HW0 := Lib.hid hW0
  have HF := Lib.hid hF
  have HG := Lib.hid hG
  have Hb0 := Lib.hid hb0
  have Hs0 := Lib.hid hs0
  have Hl := Lib.hid h.hl
  have HB := Lib.hid h.hb
  clear hW0 hs0 hF hG hb0 h
  have g1 : ¬ (len : Int) < (m : Int) := by omega
  have hmc : m ≤ cap := by omega
  have RM := Lib.hid (HR.out.take m hml)
  have f1 : W0.cell? ⟨w.heap.size, 1, none⟩ = some (.int .i64 1) := by rw [cell_of_row _ _ _ _ _ _ HF.out]; rfl
  have f2 : W0.cell? ⟨w.heap.size, 2, none⟩ = some (.int .i64 m) := by rw [cell_of_row _ _ _ _ _ _ HF.out]; rfl
  go_enter Try.func77, Try.ntmps77
  go_upto_region 1 with fail
  rw [← HW0.out]
  clear HW0
  have KC : Hid (∀ u, Below W0.heap.size W0 u → ∀ x v, W0.cell? x = some v → u.cell? x = some v) := Lib.hid (fun u hu x v h => (hu.cell (p := x) (World.block_lt_of_cell? W0 _ h)).trans h)
  go_upto_region 18 with fail
  go_cut [7] from 84 to 91 (fun xv wx => ∃ g u, xv = .pointer (some ⟨g, 0, none⟩) ∧ wx.heap[g]? = some (.cells #[.int .i64 nn, .int .i64 u, .int .i64 er] 34 (0, 0)) ∧ (er = 0 → u = m) ∧ Below W0.heap.size W0 wx)
  case first =>
    refine wp_region_held_drew (S := Below W0.heap.size W0) (by kernel_rfl) (Below.refl _ _).drew (fun _ => ?_)
    have HS : Hid (Below W0.heap.size W0 W0.drew) := Lib.hid (Below.refl _ _).drew
    refine wpAnyH_take (i := 0) (v := .slice a len cap) rfl (by kernel_rfl) (by kernel_rfl) (by kernel_rfl) (fun _ _ _ h => h) (Or.inl ⟨by rfl, ?_⟩) HS.out ?_
    · intro u hu; go_simp
    go_simp
    refine wpAnyH_take (i := 1) (v := .pointer (some ⟨w.heap.size, 2, none⟩)) rfl (by kernel_rfl) (by kernel_rfl) (by kernel_rfl) (fun _ _ _ h => h) (Or.inl ⟨by rfl, ?_⟩) HS.out ?_
    · intro u hu; go_simp
    go_simp
    refine wpAnyH_take (i := 2) (v := .int .i64 m) rfl (by kernel_rfl) (by kernel_rfl) (by kernel_rfl) (fun _ _ _ h => h) (Or.inl ⟨by rfl, ?_⟩) HS.out ?_
    · intro u hu; have := KC.out u hu _ _ f2; go_simp
    go_simp
    refine wpAnyH_take (i := 3) (v := .slice a m cap) rfl (by kernel_rfl) (by kernel_rfl) (by kernel_rfl) (fun _ _ _ h => h) (Or.inl ⟨by rfl, ?_⟩) HS.out ?_
    · intro u hu; go_simp; all_goals (intro _; cases a <;> rfl)
    go_simp
    refine wpAnyH_take (i := 4) (v := .pointer (some ⟨w.heap.size, 1, none⟩)) rfl (by kernel_rfl) (by kernel_rfl) (by kernel_rfl) (fun _ _ _ h => h) (Or.inl ⟨by rfl, ?_⟩) HS.out ?_
    · intro u hu; go_simp
    go_simp
    refine wpAnyH_take (i := 5) (v := .int .i64 1) rfl (by kernel_rfl) (by kernel_rfl) (by kernel_rfl) (fun _ _ _ h => h) (Or.inl ⟨by rfl, ?_⟩) HS.out ?_
    · intro u hu; have := KC.out u hu _ _ f1; go_simp
    go_simp
    refine wpAnyH_take (i := 6) (v := .bool false) rfl (by kernel_rfl) (by kernel_rfl) (by kernel_rfl) (fun _ _ _ h => h) (Or.inl ⟨by rfl, ?_⟩) HS.out ?_
    · intro u hu; go_simp
    go_simp
    refine wpAnyH_ready (rs := [7, 8]) (by kernel_rfl) (by simp) ?_
    refine AllReadyH.cons rfl (fun K hK => ?_) (AllReadyH.cons rfl (fun K hK => ?_) AllReadyH.nil)
    · go_simp
      refine (refRead_used a m cap (xs.take m) false _ (RM.out.below HS.out (Nat.le_refl _))).mono ?_
      rintro e w3 ⟨⟨u, rfl, hu⟩, hb⟩
      rw [← HNN.out.1, ← HNN.out.2]
      rw [← HNN.out.2] at hu
      have HS' : Hid (Below W0.heap.size W0 w3) := Lib.hid (HS.out.trans (hb.mono HS.out.size))
      clear HS hb
      have HS := HS'
      clear HS'
      refine hK.out _ _ HS.out (fun _ => ?_)
      clear hK K
      refine wpAnyH_ready (rs := [8]) (by kernel_rfl) (by simp) ?_
      refine AllReadyH.cons rfl (fun K hK => ?_) AllReadyH.nil
      go_simp
      obtain ⟨w7, hw7⟩ : ∃ w7, w7 = w3.alloc (.cells #[.int .i64 0, .int .i64 0, .int .i64 0] 34) := ⟨_, rfl⟩
      rw [← hw7]
      have HZ : Hid (w7.heap[w3.heap.size]? = some (.cells #[.int .i64 0, .int .i64 0, .int .i64 0] 34 (0, 0))) := Lib.hid (by rw [hw7]; exact heap_alloc_last w3 _)
      have HS' : Hid (Below W0.heap.size W0 w7) := Lib.hid (by rw [hw7]; exact HS.out.alloc HS.out.size _)
      have hgs : W0.heap.size ≤ w3.heap.size := HS.out.size
      clear HS hw7
      have HS := HS'
      clear HS'
      refine hK.out _ _ HS.out (fun _ => ?_)
      clear hK K
      refine wpAnyH_ready (rs := [9]) (by kernel_rfl) (by simp) ?_
      refine AllReadyH.cons rfl (fun K hK => ?_) AllReadyH.nil
      rw [if_pos (by rfl)]
      refine wp_store_row 34 (.tmp 7) (.tmp 91) rfl w3.heap.size #[.int .i64 nn, .int .i64 u, .int .i64 er] rfl rfl 34 #[.int .i64 0, .int .i64 0, .int .i64 0] HZ.out (Try.sizeNum _ _ _) rfl (oneNum _ _ _) ?_
      have HS' := HS.out.trans (below_setRow' _ W0.heap.size w3.heap.size #[.int .i64 nn, .int .i64 u, .int .i64 er] hgs)
      have HZ8 := setRow_heap _ _ _ #[.int .i64 nn, .int .i64 u, .int .i64 er] _ _ HZ.out
      refine hK.out _ _ HS' (fun _ => ?_)
      clear hK K
      refine wpAnyH_done (by kernel_rfl) ?_ _
      go_wp2_with fail
      go_meet
      exact ⟨w3.heap.size, u, rfl, HZ8, hu, HS'⟩
    · go_simp
      obtain ⟨w7, hw7⟩ : ∃ w7, w7 = (W0.alloc (.cells #[.int .i64 0, .int .i64 0, .int .i64 0] 34)).drew := ⟨_, rfl⟩
      rw [← hw7]
      have HZ0 : Hid (w7.heap[W0.heap.size]? = some (.cells #[.int .i64 0, .int .i64 0, .int .i64 0] 34 (0, 0))) := Lib.hid (by rw [hw7]; exact heap_alloc_last W0 _)
      have hs7 : W0.heap.size < w7.heap.size := by rw [hw7]; show W0.heap.size < (W0.alloc _).heap.size; simp
      have HS' : Hid (Below W0.heap.size W0 w7) := Lib.hid (by rw [hw7]; exact ((Below.refl _ W0).alloc (Nat.le_refl _) _).drew)
      have hgs : W0.heap.size ≤ W0.heap.size := Nat.le_refl _
      clear HS hw7
      have HS := HS'
      clear HS'
      refine hK.out _ _ HS.out (fun _ => ?_)
      clear hK K
      refine wpAnyH_ready (rs := [7]) (by kernel_rfl) (by simp) ?_
      refine AllReadyH.cons rfl (fun K hK => ?_) AllReadyH.nil
      go_simp
      refine (refRead_used a m cap (xs.take m) false _ (RM.out.below HS.out (Nat.le_refl _))).mono ?_
      rintro e w3 ⟨⟨u, rfl, hu⟩, hb⟩
      rw [← HNN.out.1, ← HNN.out.2]
      rw [← HNN.out.2] at hu
      have HZ : Hid (w3.heap[W0.heap.size]? = some (.cells #[.int .i64 0, .int .i64 0, .int .i64 0] 34 (0, 0))) := Lib.hid ((hb.block _ hs7).trans HZ0.out)
      have HS' : Hid (Below W0.heap.size W0 w3) := Lib.hid (HS.out.trans (hb.mono HS.out.size))
      clear HS hb HZ0
      have HS := HS'
      clear HS'
      refine hK.out _ _ HS.out (fun _ => ?_)
      clear hK K
      refine wpAnyH_ready (rs := [9]) (by kernel_rfl) (by simp) ?_
      refine AllReadyH.cons rfl (fun K hK => ?_) AllReadyH.nil
      rw [if_pos (by rfl)]
      refine wp_store_row 34 (.tmp 7) (.tmp 91) rfl W0.heap.size #[.int .i64 nn, .int .i64 u, .int .i64 er] rfl rfl 34 #[.int .i64 0, .int .i64 0, .int .i64 0] HZ.out (Try.sizeNum _ _ _) rfl (oneNum _ _ _) ?_
      have HS' := HS.out.trans (below_setRow' _ W0.heap.size W0.heap.size #[.int .i64 nn, .int .i64 u, .int .i64 er] hgs)
      have HZ8 := setRow_heap _ _ _ #[.int .i64 nn, .int .i64 u, .int .i64 er] _ _ HZ.out
      refine hK.out _ _ HS' (fun _ => ?_)
      clear hK K
      refine wpAnyH_done (by kernel_rfl) ?_ _
      go_wp2_with fail
      go_meet
      exact ⟨W0.heap.size, u, rfl, HZ8, hu, HS'⟩
  case rest =>
    obtain ⟨g, u, rfl, hg, hu, hbc⟩ := hcut
    have e0 : wc.cell? ⟨g, 0, none⟩ = some (.int .i64 nn) := by rw [cell_of_row _ _ _ _ _ _ hg]; rfl
    have e1 : wc.cell? ⟨g, 1, none⟩ = some (.int .i64 u) := by rw [cell_of_row _ _ _ _ _ _ hg]; rfl
    have e2 : wc.cell? ⟨g, 2, none⟩ = some (.int .i64 er) := by rw [cell_of_row _ _ _ _ _ _ hg]; rfl
    have HGc := Lib.hid ((hbc.block _ (by rw [Hs0.out]; omega)).trans HG.out)
    have Hbc := Lib.hid (Hb0.out.trans (hbc.mono Hb0.out.size))
    have HU := Lib.hid hu
    clear hbc hu hg RM KC HG Hb0 HR
    go_wp2_with (refine wpList_store_row rfl 131 (.tmp 4) (.tmp 99) rfl (w.heap.size + 1) #[.int .i64 nn, .slice none 0 0, .int .i64 u, .int .i64 er] rfl rfl 131 #[.int .i64 0, .slice none 0 0, .int .i64 0, .int .i64 0] HGc.out (Try.sizeGot _ _ _ _) rfl (oneGot _ _ _ _ _ _) ?_)
    refine bodyPost_ret (v := .agg #[.int .i64 nn, .slice none 0 0, .int .i64 u, .int .i64 er]) ?_ rfl ?_
    · exact results_cell_row rfl _ _ (w.heap.size + 1) 131 #[.int .i64 nn, .slice none 0 0, .int .i64 u, .int .i64 er] (0, 0) _ rfl (setRow_heap _ _ _ _ _ _ HGc.out) Try.underlying131 rfl (Try.sizeGot _ _ _ _)
    · exact ⟨_, _, _, _, _, rfl, fun h => ⟨rfl, HU.out h, Own.nil _ _⟩, Hbc.out.trans (below_setRow' _ _ _ _ (by omega))⟩
set_option maxRecDepth 100000 in
set_option maxHeartbeats 4000000 in
theorem one_2 (nm : ByteArray) (a : Option Addr) (len cap : Nat) (xs : List Int) (m : Nat) (hm1 : 1 ≤ m) (hm8 : m ≤ 8) (hml : m ≤ len) (nn er : Int) (hnn : nn = (numV true (xs.take m)).1) (her : er = (numV true (xs.take m)).2) (w : World) (h : Rd w a len cap xs) (hbig : len ≤ 140737488355328) :
    Calls Try.prog 77 #[.agg #[.string nm, .int .i64 2, .int .i64 m], .slice a len cap] w (OnePost (er) (nn) ([]) (m) w) := by
  have HNN := Lib.hid (And.intro hnn her)
  clear hnn her
  have hm := h.hm
  have hc := h.hc
  unfold maxLen at hm
  obtain ⟨W0, hW0⟩ : ∃ W0, W0 = (w.alloc (.cells #[.string nm, .int .i64 2, .int .i64 m] 101)).alloc (.cells #[.int .i64 0, .slice none 0 0, .int .i64 0, .int .i64 0] 131) := ⟨_, rfl⟩
  have hs0 : W0.heap.size = w.heap.size + 2 := by rw [hW0]; simp
  have hF : W0.heap[w.heap.size]? = some (.cells #[.string nm, .int .i64 2, .int .i64 m] 101 (0, 0)) := by rw [hW0, heap_alloc_old _ _ _ (by simp), heap_alloc_last]
  have hG : W0.heap[w.heap.size + 1]? = some (.cells #[.int .i64 0, .slice none 0 0, .int .i64 0, .int .i64 0] 131 (0, 0)) := by
    rw [hW0]; have := heap_alloc_last (w.alloc (.cells #[.string nm, .int .i64 2, .int .i64 m] 101)) (.cells #[.int .i64 0, .slice none 0 0, .int .i64 0, .int .i64 0] 131); simpa using this
  have hb0 : Below w.heap.size w W0 := by rw [hW0]; exact ((Below.refl _ w).alloc (Nat.le_refl _) _).alloc (by simp) _
  have HR := Lib.hid (h.below hb0 (Nat.le_refl _))
  have HW0 := Lib.hid hW0
  have HF := Lib.hid hF
  have HG := Lib.hid hG
  have Hb0 := Lib.hid hb0
  have Hs0 := Lib.hid hs0
  have Hl := Lib.hid h.hl
  have HB := Lib.hid h.hb
  clear hW0 hs0 hF hG hb0 h
  have g1 : ¬ (len : Int) < (m : Int) := by omega
  have hmc : m ≤ cap := by omega
  have RM := Lib.hid (HR.out.take m hml)
  have f1 : W0.cell? ⟨w.heap.size, 1, none⟩ = some (.int .i64 2) := by rw [cell_of_row _ _ _ _ _ _ HF.out]; rfl
  have f2 : W0.cell? ⟨w.heap.size, 2, none⟩ = some (.int .i64 m) := by rw [cell_of_row _ _ _ _ _ _ HF.out]; rfl
  go_enter Try.func77, Try.ntmps77
  go_upto_region 1 with fail
  rw [← HW0.out]
  clear HW0
  have KC : Hid (∀ u, Below W0.heap.size W0 u → ∀ x v, W0.cell? x = some v → u.cell? x = some v) := Lib.hid (fun u hu x v h => (hu.cell (p := x) (World.block_lt_of_cell? W0 _ h)).trans h)
  go_upto_region 18 with fail
  go_cut [7] from 84 to 91 (fun xv wx => ∃ g u, xv = .pointer (some ⟨g, 0, none⟩) ∧ wx.heap[g]? = some (.cells #[.int .i64 nn, .int .i64 u, .int .i64 er] 34 (0, 0)) ∧ (er = 0 → u = m) ∧ Below W0.heap.size W0 wx)
  case first =>
    refine wp_region_held_drew (S := Below W0.heap.size W0) (by kernel_rfl) (Below.refl _ _).drew (fun _ => ?_)
    have HS : Hid (Below W0.heap.size W0 W0.drew) := Lib.hid (Below.refl _ _).drew
    refine wpAnyH_take (i := 0) (v := .slice a len cap) rfl (by kernel_rfl) (by kernel_rfl) (by kernel_rfl) (fun _ _ _ h => h) (Or.inl ⟨by rfl, ?_⟩) HS.out ?_
    · intro u hu; go_simp
    go_simp
    refine wpAnyH_take (i := 1) (v := .pointer (some ⟨w.heap.size, 2, none⟩)) rfl (by kernel_rfl) (by kernel_rfl) (by kernel_rfl) (fun _ _ _ h => h) (Or.inl ⟨by rfl, ?_⟩) HS.out ?_
    · intro u hu; go_simp
    go_simp
    refine wpAnyH_take (i := 2) (v := .int .i64 m) rfl (by kernel_rfl) (by kernel_rfl) (by kernel_rfl) (fun _ _ _ h => h) (Or.inl ⟨by rfl, ?_⟩) HS.out ?_
    · intro u hu; have := KC.out u hu _ _ f2; go_simp
    go_simp
    refine wpAnyH_take (i := 3) (v := .slice a m cap) rfl (by kernel_rfl) (by kernel_rfl) (by kernel_rfl) (fun _ _ _ h => h) (Or.inl ⟨by rfl, ?_⟩) HS.out ?_
    · intro u hu; go_simp; all_goals (intro _; cases a <;> rfl)
    go_simp
    refine wpAnyH_take (i := 4) (v := .pointer (some ⟨w.heap.size, 1, none⟩)) rfl (by kernel_rfl) (by kernel_rfl) (by kernel_rfl) (fun _ _ _ h => h) (Or.inl ⟨by rfl, ?_⟩) HS.out ?_
    · intro u hu; go_simp
    go_simp
    refine wpAnyH_take (i := 5) (v := .int .i64 2) rfl (by kernel_rfl) (by kernel_rfl) (by kernel_rfl) (fun _ _ _ h => h) (Or.inl ⟨by rfl, ?_⟩) HS.out ?_
    · intro u hu; have := KC.out u hu _ _ f1; go_simp
    go_simp
    refine wpAnyH_take (i := 6) (v := .bool true) rfl (by kernel_rfl) (by kernel_rfl) (by kernel_rfl) (fun _ _ _ h => h) (Or.inl ⟨by rfl, ?_⟩) HS.out ?_
    · intro u hu; go_simp
    go_simp
    refine wpAnyH_ready (rs := [7, 8]) (by kernel_rfl) (by simp) ?_
    refine AllReadyH.cons rfl (fun K hK => ?_) (AllReadyH.cons rfl (fun K hK => ?_) AllReadyH.nil)
    · go_simp
      refine (refRead_used a m cap (xs.take m) true _ (RM.out.below HS.out (Nat.le_refl _))).mono ?_
      rintro e w3 ⟨⟨u, rfl, hu⟩, hb⟩
      rw [← HNN.out.1, ← HNN.out.2]
      rw [← HNN.out.2] at hu
      have HS' : Hid (Below W0.heap.size W0 w3) := Lib.hid (HS.out.trans (hb.mono HS.out.size))
      clear HS hb
      have HS := HS'
      clear HS'
      refine hK.out _ _ HS.out (fun _ => ?_)
      clear hK K
      refine wpAnyH_ready (rs := [8]) (by kernel_rfl) (by simp) ?_
      refine AllReadyH.cons rfl (fun K hK => ?_) AllReadyH.nil
      go_simp
      obtain ⟨w7, hw7⟩ : ∃ w7, w7 = w3.alloc (.cells #[.int .i64 0, .int .i64 0, .int .i64 0] 34) := ⟨_, rfl⟩
      rw [← hw7]
      have HZ : Hid (w7.heap[w3.heap.size]? = some (.cells #[.int .i64 0, .int .i64 0, .int .i64 0] 34 (0, 0))) := Lib.hid (by rw [hw7]; exact heap_alloc_last w3 _)
      have HS' : Hid (Below W0.heap.size W0 w7) := Lib.hid (by rw [hw7]; exact HS.out.alloc HS.out.size _)
      have hgs : W0.heap.size ≤ w3.heap.size := HS.out.size
      clear HS hw7
      have HS := HS'
      clear HS'
      refine hK.out _ _ HS.out (fun _ => ?_)
      clear hK K
      refine wpAnyH_ready (rs := [9]) (by kernel_rfl) (by simp) ?_
      refine AllReadyH.cons rfl (fun K hK => ?_) AllReadyH.nil
      rw [if_pos (by rfl)]
      refine wp_store_row 34 (.tmp 7) (.tmp 91) rfl w3.heap.size #[.int .i64 nn, .int .i64 u, .int .i64 er] rfl rfl 34 #[.int .i64 0, .int .i64 0, .int .i64 0] HZ.out (Try.sizeNum _ _ _) rfl (oneNum _ _ _) ?_
      have HS' := HS.out.trans (below_setRow' _ W0.heap.size w3.heap.size #[.int .i64 nn, .int .i64 u, .int .i64 er] hgs)
      have HZ8 := setRow_heap _ _ _ #[.int .i64 nn, .int .i64 u, .int .i64 er] _ _ HZ.out
      refine hK.out _ _ HS' (fun _ => ?_)
      clear hK K
      refine wpAnyH_done (by kernel_rfl) ?_ _
      go_wp2_with fail
      go_meet
      exact ⟨w3.heap.size, u, rfl, HZ8, hu, HS'⟩
    · go_simp
      obtain ⟨w7, hw7⟩ : ∃ w7, w7 = (W0.alloc (.cells #[.int .i64 0, .int .i64 0, .int .i64 0] 34)).drew := ⟨_, rfl⟩
      rw [← hw7]
      have HZ0 : Hid (w7.heap[W0.heap.size]? = some (.cells #[.int .i64 0, .int .i64 0, .int .i64 0] 34 (0, 0))) := Lib.hid (by rw [hw7]; exact heap_alloc_last W0 _)
      have hs7 : W0.heap.size < w7.heap.size := by rw [hw7]; show W0.heap.size < (W0.alloc _).heap.size; simp
      have HS' : Hid (Below W0.heap.size W0 w7) := Lib.hid (by rw [hw7]; exact ((Below.refl _ W0).alloc (Nat.le_refl _) _).drew)
      have hgs : W0.heap.size ≤ W0.heap.size := Nat.le_refl _
      clear HS hw7
      have HS := HS'
      clear HS'
      refine hK.out _ _ HS.out (fun _ => ?_)
      clear hK K
      refine wpAnyH_ready (rs := [7]) (by kernel_rfl) (by simp) ?_
      refine AllReadyH.cons rfl (fun K hK => ?_) AllReadyH.nil
      go_simp
      refine (refRead_used a m cap (xs.take m) true _ (RM.out.below HS.out (Nat.le_refl _))).mono ?_
      rintro e w3 ⟨⟨u, rfl, hu⟩, hb⟩
      rw [← HNN.out.1, ← HNN.out.2]
      rw [← HNN.out.2] at hu
      have HZ : Hid (w3.heap[W0.heap.size]? = some (.cells #[.int .i64 0, .int .i64 0, .int .i64 0] 34 (0, 0))) := Lib.hid ((hb.block _ hs7).trans HZ0.out)
      have HS' : Hid (Below W0.heap.size W0 w3) := Lib.hid (HS.out.trans (hb.mono HS.out.size))
      clear HS hb HZ0
      have HS := HS'
      clear HS'
      refine hK.out _ _ HS.out (fun _ => ?_)
      clear hK K
      refine wpAnyH_ready (rs := [9]) (by kernel_rfl) (by simp) ?_
      refine AllReadyH.cons rfl (fun K hK => ?_) AllReadyH.nil
      rw [if_pos (by rfl)]
      refine wp_store_row 34 (.tmp 7) (.tmp 91) rfl W0.heap.size #[.int .i64 nn, .int .i64 u, .int .i64 er] rfl rfl 34 #[.int .i64 0, .int .i64 0, .int .i64 0] HZ.out (Try.sizeNum _ _ _) rfl (oneNum _ _ _) ?_
      have HS' := HS.out.trans (below_setRow' _ W0.heap.size W0.heap.size #[.int .i64 nn, .int .i64 u, .int .i64 er] hgs)
      have HZ8 := setRow_heap _ _ _ #[.int .i64 nn, .int .i64 u, .int .i64 er] _ _ HZ.out
      refine hK.out _ _ HS' (fun _ => ?_)
      clear hK K
      refine wpAnyH_done (by kernel_rfl) ?_ _
      go_wp2_with fail
      go_meet
      exact ⟨W0.heap.size, u, rfl, HZ8, hu, HS'⟩
  case rest =>
    obtain ⟨g, u, rfl, hg, hu, hbc⟩ := hcut
    have e0 : wc.cell? ⟨g, 0, none⟩ = some (.int .i64 nn) := by rw [cell_of_row _ _ _ _ _ _ hg]; rfl
    have e1 : wc.cell? ⟨g, 1, none⟩ = some (.int .i64 u) := by rw [cell_of_row _ _ _ _ _ _ hg]; rfl
    have e2 : wc.cell? ⟨g, 2, none⟩ = some (.int .i64 er) := by rw [cell_of_row _ _ _ _ _ _ hg]; rfl
    have HGc := Lib.hid ((hbc.block _ (by rw [Hs0.out]; omega)).trans HG.out)
    have Hbc := Lib.hid (Hb0.out.trans (hbc.mono Hb0.out.size))
    have HU := Lib.hid hu
    clear hbc hu hg RM KC HG Hb0 HR
    go_wp2_with (refine wpList_store_row rfl 131 (.tmp 4) (.tmp 99) rfl (w.heap.size + 1) #[.int .i64 nn, .slice none 0 0, .int .i64 u, .int .i64 er] rfl rfl 131 #[.int .i64 0, .slice none 0 0, .int .i64 0, .int .i64 0] HGc.out (Try.sizeGot _ _ _ _) rfl (oneGot _ _ _ _ _ _) ?_)
    refine bodyPost_ret (v := .agg #[.int .i64 nn, .slice none 0 0, .int .i64 u, .int .i64 er]) ?_ rfl ?_
    · exact results_cell_row rfl _ _ (w.heap.size + 1) 131 #[.int .i64 nn, .slice none 0 0, .int .i64 u, .int .i64 er] (0, 0) _ rfl (setRow_heap _ _ _ _ _ _ HGc.out) Try.underlying131 rfl (Try.sizeGot _ _ _ _)
    · exact ⟨_, _, _, _, _, rfl, fun h => ⟨rfl, HU.out h, Own.nil _ _⟩, Hbc.out.trans (below_setRow' _ _ _ _ (by omega))⟩
set_option maxRecDepth 100000 in
set_option maxHeartbeats 4000000 in
theorem one_4 (nm : ByteArray) (a : Option Addr) (len cap : Nat) (xs : List Int) (m : Nat) (hml : m ≤ len) (w : World) (h : Rd w a len cap xs) (hbig : len ≤ 140737488355328) :
    Calls Try.prog 77 #[.agg #[.string nm, .int .i64 4, .int .i64 m], .slice a len cap] w (OnePost (0) (0) (xs.take m) (m) w) := by
  have hm := h.hm
  have hc := h.hc
  unfold maxLen at hm
  obtain ⟨W0, hW0⟩ : ∃ W0, W0 = (w.alloc (.cells #[.string nm, .int .i64 4, .int .i64 m] 101)).alloc (.cells #[.int .i64 0, .slice none 0 0, .int .i64 0, .int .i64 0] 131) := ⟨_, rfl⟩
  have hs0 : W0.heap.size = w.heap.size + 2 := by rw [hW0]; simp
  have hF : W0.heap[w.heap.size]? = some (.cells #[.string nm, .int .i64 4, .int .i64 m] 101 (0, 0)) := by rw [hW0, heap_alloc_old _ _ _ (by simp), heap_alloc_last]
  have hG : W0.heap[w.heap.size + 1]? = some (.cells #[.int .i64 0, .slice none 0 0, .int .i64 0, .int .i64 0] 131 (0, 0)) := by
    rw [hW0]; have := heap_alloc_last (w.alloc (.cells #[.string nm, .int .i64 4, .int .i64 m] 101)) (.cells #[.int .i64 0, .slice none 0 0, .int .i64 0, .int .i64 0] 131); simpa using this
  have hb0 : Below w.heap.size w W0 := by rw [hW0]; exact ((Below.refl _ w).alloc (Nat.le_refl _) _).alloc (by simp) _
  have HR := Lib.hid (h.below hb0 (Nat.le_refl _))
  have HW0 := Lib.hid hW0
  have HF := Lib.hid hF
  have HG := Lib.hid hG
  have Hb0 := Lib.hid hb0
  have Hs0 := Lib.hid hs0
  have Hl := Lib.hid h.hl
  have HB := Lib.hid h.hb
  clear hW0 hs0 hF hG hb0 h
  have g1 : ¬ (len : Int) < (m : Int) := by omega
  have hmc : m ≤ cap := by omega
  have RM := Lib.hid (HR.out.take m hml)
  have Hlen : Hid ((xs.take m).length = m) := Lib.hid (by rw [List.length_take, Hl.out]; omega)
  have f1 : W0.cell? ⟨w.heap.size, 1, none⟩ = some (.int .i64 4) := by rw [cell_of_row _ _ _ _ _ _ HF.out]; rfl
  have f2 : W0.cell? ⟨w.heap.size, 2, none⟩ = some (.int .i64 m) := by rw [cell_of_row _ _ _ _ _ _ HF.out]; rfl
  go_enter Try.func77, Try.ntmps77
  go_upto_region 1 with fail
  rw [← HW0.out]
  clear HW0
  go_upto_region 17 with fail
  refine wp_region_held_drew (S := Below (w.heap.size + 1) W0) (by kernel_rfl) (Below.refl _ _).drew (fun _ => ?_)
  have HS0 : Hid (Below (w.heap.size + 1) W0 W0.drew) := Lib.hid (Below.refl _ _).drew
  refine wpAnyH_take (i := 1) (v := .slice a len cap) rfl (by kernel_rfl) (by kernel_rfl) (by kernel_rfl) (fun _ _ _ h => h) (Or.inl ⟨by rfl, ?_⟩) HS0.out ?_
  · intro u hu; go_simp
  go_simp
  refine wpAnyH_take (i := 2) (v := .pointer (some ⟨w.heap.size, 2, none⟩)) rfl (by kernel_rfl) (by kernel_rfl) (by kernel_rfl) (fun _ _ _ h => h) (Or.inl ⟨by rfl, ?_⟩) HS0.out ?_
  · intro u hu; go_simp
  go_simp
  refine wpAnyH_take (i := 3) (v := .int .i64 m) rfl (by kernel_rfl) (by kernel_rfl) (by kernel_rfl) (fun _ _ _ h => h) (Or.inl ⟨by rfl, ?_⟩) HS0.out ?_
  · intro u hu; have q := (hu.cell (p := ⟨w.heap.size, 2, none⟩) (Nat.lt_succ_self _)).trans f2; go_simp
  go_simp
  refine wpAnyH_take (i := 4) (v := .slice a m cap) rfl (by kernel_rfl) (by kernel_rfl) (by kernel_rfl) (fun _ _ _ h => h) (Or.inl ⟨by rfl, ?_⟩) HS0.out ?_
  · intro u hu; go_simp; all_goals (intro _; cases a <;> rfl)
  go_simp
  refine wpAnyH_take (i := 7) (v := .pointer (some ⟨w.heap.size, 2, none⟩)) rfl (by kernel_rfl) (by kernel_rfl) (by kernel_rfl) (fun _ _ _ h => h) (Or.inl ⟨by rfl, ?_⟩) HS0.out ?_
  · intro u hu; go_simp
  go_simp
  refine wpAnyH_take (i := 8) (v := .int .i64 m) rfl (by kernel_rfl) (by kernel_rfl) (by kernel_rfl) (fun _ _ _ h => h) (Or.inl ⟨by rfl, ?_⟩) HS0.out ?_
  · intro u hu; have q := (hu.cell (p := ⟨w.heap.size, 2, none⟩) (Nat.lt_succ_self _)).trans f2; go_simp
  go_simp
  refine wpAnyH_ready (rs := [0]) (by kernel_rfl) (by simp) ?_
  refine AllReadyH.cons rfl (fun K hK => ?_) AllReadyH.nil
  go_simp
  obtain ⟨w7, hw7⟩ : ∃ w7, w7 = (W0.alloc (.cells #[] 5)).drew := ⟨_, rfl⟩
  rw [← hw7]
  have HO : Hid (Own w7 W0.heap.size (.slice (some ⟨W0.heap.size, 0, none⟩) 0 0) []) := Lib.hid (by have := World.ownsRow_made (base := W0.heap.size) (e := 5) (size := 1) W0 #[] 0 (Nat.le_refl _) (by decide) rfl; rw [hw7]; exact ⟨this.drew, by simp⟩)
  have hb7 : Below W0.heap.size W0 w7 := by rw [hw7]; exact ((Below.refl _ W0).alloc (Nat.le_refl _) _).drew
  have hs7 : W0.heap.size < w7.heap.size := by rw [hw7]; show W0.heap.size < (W0.alloc _).heap.size; simp
  have HS7 : Hid (Below (w.heap.size + 1) W0 w7) := Lib.hid (hb7.mono (by rw [Hs0.out]; omega))
  have RM7 := Lib.hid (RM.out.below hb7 (Nat.le_refl _))
  have HB7 := Lib.hid hb7
  clear hb7 hw7
  refine hK.out _ _ HS7.out (fun _ => ?_)
  clear hK K
  refine wpAnyH_ready (rs := [5]) (by kernel_rfl) (by simp) ?_
  refine AllReadyH.cons rfl (fun K hK => ?_) AllReadyH.nil
  refine step_append_any rfl _ _ 22 (by rfl) W0.heap.size Try.infoB Try.underlying22 (.slice (some ⟨W0.heap.size, 0, none⟩) 0 0) [] (by rfl) HO.out _ _ _ (xs.take m) (by rfl) RM7.out (by simp; omega) (by omega) ?_
  intro v4 w4 ho4 hg4
  rw [List.nil_append] at ho4
  obtain ⟨va, vc, hv4, hr4⟩ := ho4.rdz (n := m) Hlen.out
  subst hv4
  have Ho4 := Lib.hid ho4
  have hb4 : Below W0.heap.size W0 w4 := HB7.out.grown hg4 (by omega) (fun k hk => (HO.out.1.lt k hk).1)
  have HS4 : Hid (Below (w.heap.size + 1) W0 w4) := Lib.hid (hb4.mono (by rw [Hs0.out]; omega))
  have HG4 := Lib.hid ((hb4.block _ (by rw [Hs0.out]; omega)).trans HG.out)
  have Hb4 := Lib.hid (Hb0.out.trans (hb4.mono Hb0.out.size))
  clear ho4 hg4 hr4 hb4 HO RM7 HB7
  refine hK.out _ _ HS4.out (fun _ => ?_)
  clear hK K
  refine wpAnyH_ready (rs := [6]) (by kernel_rfl) (by simp) ?_
  refine AllReadyH.cons rfl (fun K hK => ?_) AllReadyH.nil
  go_simp
  refine hK.out _ _ HS4.out (fun _ => ?_)
  clear hK K
  refine wpAnyH_ready (rs := [9]) (by kernel_rfl) (by simp) ?_
  refine AllReadyH.cons rfl (fun K hK => ?_) AllReadyH.nil
  go_simp
  refine hK.out _ _ HS4.out (fun _ => ?_)
  clear hK K
  refine wpAnyH_ready (rs := [10]) (by kernel_rfl) (by simp) ?_
  refine AllReadyH.cons rfl (fun K hK => ?_) AllReadyH.nil
  rw [if_pos (by rfl)]
  refine wp_store_row 131 (.tmp 4) (.tmp 83) rfl (w.heap.size + 1) #[.int .i64 0, .slice va m vc, .int .i64 m, .int .i64 0] rfl rfl 131 #[.int .i64 0, .slice none 0 0, .int .i64 0, .int .i64 0] HG4.out (Try.sizeGot _ _ _ _) rfl (oneGot _ _ _ _ _ _) ?_
  have HS5 := Lib.hid (HS4.out.trans (below_setRow' _ (w.heap.size + 1) (w.heap.size + 1) #[.int .i64 0, .slice va m vc, .int .i64 m, .int .i64 0] (Nat.le_refl _)))
  refine hK.out _ _ HS5.out (fun _ => ?_)
  clear hK K
  refine wpAnyH_done (by kernel_rfl) ?_ _
  go_wp2_with fail
  refine bodyPost_ret (v := .agg #[.int .i64 0, .slice va m vc, .int .i64 m, .int .i64 0]) ?_ rfl ?_
  · exact results_cell_row rfl _ _ (w.heap.size + 1) 131 #[.int .i64 0, .slice va m vc, .int .i64 m, .int .i64 0] (0, 0) _ rfl (setRow_heap _ _ _ _ _ _ HG4.out) Try.underlying131 rfl (Try.sizeGot _ _ _ _)
  · exact ⟨_, _, _, _, _, rfl, fun _ => ⟨rfl, rfl, (Ho4.out.setRow (by rw [Hs0.out]; omega) _).mono (by rw [Hs0.out]; omega)⟩, Hb4.out.trans (below_setRow' _ _ _ _ (by omega))⟩
set_option maxRecDepth 100000 in
set_option maxHeartbeats 4000000 in
theorem one_5e (nm : ByteArray) (a : Option Addr) (len cap : Nat) (xs : List Int) (wd : Int) (vn vu ve : Int) (hv : toVarV xs = (vn, vu, ve)) (hne : ve ≠ 0) (w : World) (h : Rd w a len cap xs) (hbig : len ≤ 140737488355328) :
    Calls Try.prog 77 #[.agg #[.string nm, .int .i64 5, .int .i64 wd], .slice a len cap] w (OnePost (ve) (0) ([]) (0) w) := by
  have hm := h.hm
  have hc := h.hc
  unfold maxLen at hm
  obtain ⟨W0, hW0⟩ : ∃ W0, W0 = (w.alloc (.cells #[.string nm, .int .i64 5, .int .i64 wd] 101)).alloc (.cells #[.int .i64 0, .slice none 0 0, .int .i64 0, .int .i64 0] 131) := ⟨_, rfl⟩
  have hs0 : W0.heap.size = w.heap.size + 2 := by rw [hW0]; simp
  have hF : W0.heap[w.heap.size]? = some (.cells #[.string nm, .int .i64 5, .int .i64 wd] 101 (0, 0)) := by rw [hW0, heap_alloc_old _ _ _ (by simp), heap_alloc_last]
  have hG : W0.heap[w.heap.size + 1]? = some (.cells #[.int .i64 0, .slice none 0 0, .int .i64 0, .int .i64 0] 131 (0, 0)) := by
    rw [hW0]; have := heap_alloc_last (w.alloc (.cells #[.string nm, .int .i64 5, .int .i64 wd] 101)) (.cells #[.int .i64 0, .slice none 0 0, .int .i64 0, .int .i64 0] 131); simpa using this
  have hb0 : Below w.heap.size w W0 := by rw [hW0]; exact ((Below.refl _ w).alloc (Nat.le_refl _) _).alloc (by simp) _
  have HR := Lib.hid (h.below hb0 (Nat.le_refl _))
  have HW0 := Lib.hid hW0
  have HF := Lib.hid hF
  have HG := Lib.hid hG
  have Hb0 := Lib.hid hb0
  have Hs0 := Lib.hid hs0
  have Hl := Lib.hid h.hl
  have HB := Lib.hid h.hb
  clear hW0 hs0 hF hG hb0 h
  have hbv := toVarV_bd xs (fun x hx => HB.out x hx)
  rw [hv] at hbv
  simp only at hbv
  have HT : Hid (num (toVarV xs) = .returned (.agg #[.int .i64 vn, .int .i64 vu, .int .i64 ve])) := Lib.hid (by rw [hv]; rfl)
  clear hv
  have hll := Hl.out
  obtain ⟨n1, n2, u1, u9, ul, hve⟩ := hbv
  have hne2 : (ve != 0) = true := by simpa using hne
  have f1 : W0.cell? ⟨w.heap.size, 1, none⟩ = some (.int .i64 5) := by rw [cell_of_row _ _ _ _ _ _ HF.out]; rfl
  have f2 : W0.cell? ⟨w.heap.size, 2, none⟩ = some (.int .i64 wd) := by rw [cell_of_row _ _ _ _ _ _ HF.out]; rfl
  go_enter Try.func77, Try.ntmps77
  go_upto_region 1 with fail
  rw [← HW0.out]
  clear HW0
  go_wp2_with fail
  refine (refToVar_any _ _ _ xs W0 HR.out).mono ?_
  rintro e w2 ⟨rfl, hb⟩
  rw [HT.out]
  obtain ⟨W3, hW3⟩ : ∃ W3, W3 = w2.alloc (.cells #[.int .i64 vn, .int .i64 vu, .int .i64 ve] 34) := ⟨_, rfl⟩
  have hg : W3.heap[w2.heap.size]? = some (.cells #[.int .i64 vn, .int .i64 vu, .int .i64 ve] 34 (0, 0)) := by rw [hW3]; exact heap_alloc_last w2 _
  have hb3 : Below W0.heap.size W0 W3 := by rw [hW3]; exact hb.alloc hb.size _
  have hg2 : w.heap.size + 2 ≤ w2.heap.size := by have := hb.size; rw [Hs0.out] at this; exact this
  have HW3 := Lib.hid hW3
  have e0 : W3.cell? ⟨w2.heap.size, 0, none⟩ = some (.int .i64 vn) := by rw [cell_of_row _ _ _ _ _ _ hg]; rfl
  have e1 : W3.cell? ⟨w2.heap.size, 1, none⟩ = some (.int .i64 vu) := by rw [cell_of_row _ _ _ _ _ _ hg]; rfl
  have e2 : W3.cell? ⟨w2.heap.size, 2, none⟩ = some (.int .i64 ve) := by rw [cell_of_row _ _ _ _ _ _ hg]; rfl
  have k2 : W3.cell? ⟨w.heap.size, 2, none⟩ = some (.int .i64 wd) := (hb3.cell (p := ⟨w.heap.size, 2, none⟩) (by show w.heap.size < W0.heap.size; rw [Hs0.out]; omega)).trans f2
  have HG3 := Lib.hid ((hb3.block _ (by rw [Hs0.out]; omega)).trans HG.out)
  have HR3 := Lib.hid (HR.out.below hb3 (Nat.le_refl _))
  have Hb3 := Lib.hid (Hb0.out.trans (hb3.mono Hb0.out.size))
  clear hb hW3 hg hb3 HG HR Hb0 f1 f2 HF
  go_upto_region 7 with fail
  rw [← HW3.out]
  clear HW3
  obtain ⟨g, hgg⟩ : ∃ g, g = w2.heap.size := ⟨_, rfl⟩
  rw [← hgg] at e0 e1 e2 hg2 ⊢
  clear hgg
  go_wp2_with (refine wpList_store_row rfl 131 (.tmp 4) (.tmp 31) rfl (w.heap.size + 1) #[.int .i64 0, .slice none 0 0, .int .i64 0, .int .i64 ve] rfl rfl 131 #[.int .i64 0, .slice none 0 0, .int .i64 0, .int .i64 0] HG3.out (Try.sizeGot _ _ _ _) rfl (oneGot _ _ _ _ _ _) ?_)
  refine bodyPost_ret (v := .agg #[.int .i64 0, .slice none 0 0, .int .i64 0, .int .i64 ve]) ?_ rfl ?_
  · exact results_cell_row rfl _ _ (w.heap.size + 1) 131 #[.int .i64 0, .slice none 0 0, .int .i64 0, .int .i64 ve] (0, 0) _ rfl (setRow_heap _ _ _ _ _ _ HG3.out) Try.underlying131 rfl (Try.sizeGot _ _ _ _)
  · exact ⟨_, _, _, _, _, rfl, fun h => absurd h hne, Hb3.out.trans (below_setRow' _ _ _ _ (by omega))⟩
set_option maxRecDepth 100000 in
set_option maxHeartbeats 4000000 in
theorem one_5w (nm : ByteArray) (a : Option Addr) (len cap : Nat) (xs : List Int) (wd : Int) (vn vu ve : Int) (hv : toVarV xs = (vn, vu, ve)) (h0 : ve = 0) (hw : wd < vn) (w : World) (h : Rd w a len cap xs) (hbig : len ≤ 140737488355328) :
    Calls Try.prog 77 #[.agg #[.string nm, .int .i64 5, .int .i64 wd], .slice a len cap] w (OnePost (24) (0) ([]) (0) w) := by
  have hm := h.hm
  have hc := h.hc
  unfold maxLen at hm
  obtain ⟨W0, hW0⟩ : ∃ W0, W0 = (w.alloc (.cells #[.string nm, .int .i64 5, .int .i64 wd] 101)).alloc (.cells #[.int .i64 0, .slice none 0 0, .int .i64 0, .int .i64 0] 131) := ⟨_, rfl⟩
  have hs0 : W0.heap.size = w.heap.size + 2 := by rw [hW0]; simp
  have hF : W0.heap[w.heap.size]? = some (.cells #[.string nm, .int .i64 5, .int .i64 wd] 101 (0, 0)) := by rw [hW0, heap_alloc_old _ _ _ (by simp), heap_alloc_last]
  have hG : W0.heap[w.heap.size + 1]? = some (.cells #[.int .i64 0, .slice none 0 0, .int .i64 0, .int .i64 0] 131 (0, 0)) := by
    rw [hW0]; have := heap_alloc_last (w.alloc (.cells #[.string nm, .int .i64 5, .int .i64 wd] 101)) (.cells #[.int .i64 0, .slice none 0 0, .int .i64 0, .int .i64 0] 131); simpa using this
  have hb0 : Below w.heap.size w W0 := by rw [hW0]; exact ((Below.refl _ w).alloc (Nat.le_refl _) _).alloc (by simp) _
  have HR := Lib.hid (h.below hb0 (Nat.le_refl _))
  have HW0 := Lib.hid hW0
  have HF := Lib.hid hF
  have HG := Lib.hid hG
  have Hb0 := Lib.hid hb0
  have Hs0 := Lib.hid hs0
  have Hl := Lib.hid h.hl
  have HB := Lib.hid h.hb
  clear hW0 hs0 hF hG hb0 h
  have hbv := toVarV_bd xs (fun x hx => HB.out x hx)
  rw [hv] at hbv
  simp only at hbv
  have HT : Hid (num (toVarV xs) = .returned (.agg #[.int .i64 vn, .int .i64 vu, .int .i64 ve])) := Lib.hid (by rw [hv]; rfl)
  clear hv
  have hll := Hl.out
  obtain ⟨n1, n2, u1, u9, ul, hve⟩ := hbv
  have hz : (ve != 0) = false := by simp [h0]
  have H00 := Lib.hid h0
  clear h0
  have f1 : W0.cell? ⟨w.heap.size, 1, none⟩ = some (.int .i64 5) := by rw [cell_of_row _ _ _ _ _ _ HF.out]; rfl
  have f2 : W0.cell? ⟨w.heap.size, 2, none⟩ = some (.int .i64 wd) := by rw [cell_of_row _ _ _ _ _ _ HF.out]; rfl
  go_enter Try.func77, Try.ntmps77
  go_upto_region 1 with fail
  rw [← HW0.out]
  clear HW0
  go_wp2_with fail
  refine (refToVar_any _ _ _ xs W0 HR.out).mono ?_
  rintro e w2 ⟨rfl, hb⟩
  rw [HT.out]
  obtain ⟨W3, hW3⟩ : ∃ W3, W3 = w2.alloc (.cells #[.int .i64 vn, .int .i64 vu, .int .i64 ve] 34) := ⟨_, rfl⟩
  have hg : W3.heap[w2.heap.size]? = some (.cells #[.int .i64 vn, .int .i64 vu, .int .i64 ve] 34 (0, 0)) := by rw [hW3]; exact heap_alloc_last w2 _
  have hb3 : Below W0.heap.size W0 W3 := by rw [hW3]; exact hb.alloc hb.size _
  have hg2 : w.heap.size + 2 ≤ w2.heap.size := by have := hb.size; rw [Hs0.out] at this; exact this
  have HW3 := Lib.hid hW3
  have e0 : W3.cell? ⟨w2.heap.size, 0, none⟩ = some (.int .i64 vn) := by rw [cell_of_row _ _ _ _ _ _ hg]; rfl
  have e1 : W3.cell? ⟨w2.heap.size, 1, none⟩ = some (.int .i64 vu) := by rw [cell_of_row _ _ _ _ _ _ hg]; rfl
  have e2 : W3.cell? ⟨w2.heap.size, 2, none⟩ = some (.int .i64 ve) := by rw [cell_of_row _ _ _ _ _ _ hg]; rfl
  have k2 : W3.cell? ⟨w.heap.size, 2, none⟩ = some (.int .i64 wd) := (hb3.cell (p := ⟨w.heap.size, 2, none⟩) (by show w.heap.size < W0.heap.size; rw [Hs0.out]; omega)).trans f2
  have HG3 := Lib.hid ((hb3.block _ (by rw [Hs0.out]; omega)).trans HG.out)
  have HR3 := Lib.hid (HR.out.below hb3 (Nat.le_refl _))
  have Hb3 := Lib.hid (Hb0.out.trans (hb3.mono Hb0.out.size))
  clear hb hW3 hg hb3 HG HR Hb0 f1 f2 HF
  go_upto_region 7 with fail
  rw [← HW3.out]
  clear HW3
  obtain ⟨g, hgg⟩ : ∃ g, g = w2.heap.size := ⟨_, rfl⟩
  rw [← hgg] at e0 e1 e2 hg2 ⊢
  clear hgg
  go_wp2_with (refine wpList_store_row rfl 131 (.tmp 4) (.tmp 37) rfl (w.heap.size + 1) #[.int .i64 0, .slice none 0 0, .int .i64 0, .int .i64 24] rfl rfl 131 #[.int .i64 0, .slice none 0 0, .int .i64 0, .int .i64 0] HG3.out (Try.sizeGot _ _ _ _) rfl (oneGot _ _ _ _ _ _) ?_)
  refine bodyPost_ret (v := .agg #[.int .i64 0, .slice none 0 0, .int .i64 0, .int .i64 24]) ?_ rfl ?_
  · exact results_cell_row rfl _ _ (w.heap.size + 1) 131 #[.int .i64 0, .slice none 0 0, .int .i64 0, .int .i64 24] (0, 0) _ rfl (setRow_heap _ _ _ _ _ _ HG3.out) Try.underlying131 rfl (Try.sizeGot _ _ _ _)
  · exact ⟨_, _, _, _, _, rfl, fun h => absurd h (by decide), Hb3.out.trans (below_setRow' _ _ _ _ (by omega))⟩
set_option maxRecDepth 100000 in
set_option maxHeartbeats 4000000 in
theorem one_5f (nm : ByteArray) (a : Option Addr) (len cap : Nat) (xs : List Int) (wd : Int) (vn vu ve : Int) (hv : toVarV xs = (vn, vu, ve)) (h0 : ve = 0) (hw : ¬ wd < vn) (hf : (len : Int) - vu < vn) (w : World) (h : Rd w a len cap xs) (hbig : len ≤ 140737488355328) :
    Calls Try.prog 77 #[.agg #[.string nm, .int .i64 5, .int .i64 wd], .slice a len cap] w (OnePost (4) (0) ([]) (0) w) := by
  have hm := h.hm
  have hc := h.hc
  unfold maxLen at hm
  obtain ⟨W0, hW0⟩ : ∃ W0, W0 = (w.alloc (.cells #[.string nm, .int .i64 5, .int .i64 wd] 101)).alloc (.cells #[.int .i64 0, .slice none 0 0, .int .i64 0, .int .i64 0] 131) := ⟨_, rfl⟩
  have hs0 : W0.heap.size = w.heap.size + 2 := by rw [hW0]; simp
  have hF : W0.heap[w.heap.size]? = some (.cells #[.string nm, .int .i64 5, .int .i64 wd] 101 (0, 0)) := by rw [hW0, heap_alloc_old _ _ _ (by simp), heap_alloc_last]
  have hG : W0.heap[w.heap.size + 1]? = some (.cells #[.int .i64 0, .slice none 0 0, .int .i64 0, .int .i64 0] 131 (0, 0)) := by
    rw [hW0]; have := heap_alloc_last (w.alloc (.cells #[.string nm, .int .i64 5, .int .i64 wd] 101)) (.cells #[.int .i64 0, .slice none 0 0, .int .i64 0, .int .i64 0] 131); simpa using this
  have hb0 : Below w.heap.size w W0 := by rw [hW0]; exact ((Below.refl _ w).alloc (Nat.le_refl _) _).alloc (by simp) _
  have HR := Lib.hid (h.below hb0 (Nat.le_refl _))
  have HW0 := Lib.hid hW0
  have HF := Lib.hid hF
  have HG := Lib.hid hG
  have Hb0 := Lib.hid hb0
  have Hs0 := Lib.hid hs0
  have Hl := Lib.hid h.hl
  have HB := Lib.hid h.hb
  clear hW0 hs0 hF hG hb0 h
  have hbv := toVarV_bd xs (fun x hx => HB.out x hx)
  rw [hv] at hbv
  simp only at hbv
  have HT : Hid (num (toVarV xs) = .returned (.agg #[.int .i64 vn, .int .i64 vu, .int .i64 ve])) := Lib.hid (by rw [hv]; rfl)
  clear hv
  have hll := Hl.out
  obtain ⟨n1, n2, u1, u9, ul, hve⟩ := hbv
  have hz : (ve != 0) = false := by simp [h0]
  have H00 := Lib.hid h0
  clear h0
  have f1 : W0.cell? ⟨w.heap.size, 1, none⟩ = some (.int .i64 5) := by rw [cell_of_row _ _ _ _ _ _ HF.out]; rfl
  have f2 : W0.cell? ⟨w.heap.size, 2, none⟩ = some (.int .i64 wd) := by rw [cell_of_row _ _ _ _ _ _ HF.out]; rfl
  go_enter Try.func77, Try.ntmps77
  go_upto_region 1 with fail
  rw [← HW0.out]
  clear HW0
  go_wp2_with fail
  refine (refToVar_any _ _ _ xs W0 HR.out).mono ?_
  rintro e w2 ⟨rfl, hb⟩
  rw [HT.out]
  obtain ⟨W3, hW3⟩ : ∃ W3, W3 = w2.alloc (.cells #[.int .i64 vn, .int .i64 vu, .int .i64 ve] 34) := ⟨_, rfl⟩
  have hg : W3.heap[w2.heap.size]? = some (.cells #[.int .i64 vn, .int .i64 vu, .int .i64 ve] 34 (0, 0)) := by rw [hW3]; exact heap_alloc_last w2 _
  have hb3 : Below W0.heap.size W0 W3 := by rw [hW3]; exact hb.alloc hb.size _
  have hg2 : w.heap.size + 2 ≤ w2.heap.size := by have := hb.size; rw [Hs0.out] at this; exact this
  have HW3 := Lib.hid hW3
  have e0 : W3.cell? ⟨w2.heap.size, 0, none⟩ = some (.int .i64 vn) := by rw [cell_of_row _ _ _ _ _ _ hg]; rfl
  have e1 : W3.cell? ⟨w2.heap.size, 1, none⟩ = some (.int .i64 vu) := by rw [cell_of_row _ _ _ _ _ _ hg]; rfl
  have e2 : W3.cell? ⟨w2.heap.size, 2, none⟩ = some (.int .i64 ve) := by rw [cell_of_row _ _ _ _ _ _ hg]; rfl
  have k2 : W3.cell? ⟨w.heap.size, 2, none⟩ = some (.int .i64 wd) := (hb3.cell (p := ⟨w.heap.size, 2, none⟩) (by show w.heap.size < W0.heap.size; rw [Hs0.out]; omega)).trans f2
  have HG3 := Lib.hid ((hb3.block _ (by rw [Hs0.out]; omega)).trans HG.out)
  have HR3 := Lib.hid (HR.out.below hb3 (Nat.le_refl _))
  have Hb3 := Lib.hid (Hb0.out.trans (hb3.mono Hb0.out.size))
  clear hb hW3 hg hb3 HG HR Hb0 f1 f2 HF
  go_upto_region 7 with fail
  rw [← HW3.out]
  clear HW3
  obtain ⟨g, hgg⟩ : ∃ g, g = w2.heap.size := ⟨_, rfl⟩
  rw [← hgg] at e0 e1 e2 hg2 ⊢
  clear hgg
  go_wp2_with (refine wpList_store_row rfl 131 (.tmp 4) (.tmp 46) rfl (w.heap.size + 1) #[.int .i64 0, .slice none 0 0, .int .i64 0, .int .i64 4] rfl rfl 131 #[.int .i64 0, .slice none 0 0, .int .i64 0, .int .i64 0] HG3.out (Try.sizeGot _ _ _ _) rfl (oneGot _ _ _ _ _ _) ?_)
  refine bodyPost_ret (v := .agg #[.int .i64 0, .slice none 0 0, .int .i64 0, .int .i64 4]) ?_ rfl ?_
  · exact results_cell_row rfl _ _ (w.heap.size + 1) 131 #[.int .i64 0, .slice none 0 0, .int .i64 0, .int .i64 4] (0, 0) _ rfl (setRow_heap _ _ _ _ _ _ HG3.out) Try.underlying131 rfl (Try.sizeGot _ _ _ _)
  · exact ⟨_, _, _, _, _, rfl, fun h => absurd h (by decide), Hb3.out.trans (below_setRow' _ _ _ _ (by omega))⟩
set_option maxRecDepth 100000 in
set_option maxHeartbeats 4000000 in
theorem one_5 (nm : ByteArray) (a : Option Addr) (len cap : Nat) (xs : List Int) (wd : Int) (k u : Nat) (hv : toVarV xs = ((k : Int), (u : Int), 0)) (hw : ¬ wd < k) (hf : u + k ≤ len) (w : World) (h : Rd w a len cap xs) (hbig : len ≤ 140737488355328) :
    Calls Try.prog 77 #[.agg #[.string nm, .int .i64 5, .int .i64 wd], .slice a len cap] w (OnePost (0) (0) ((xs.drop u).take k) (u + k) w) := by
  have hm := h.hm
  have hc := h.hc
  unfold maxLen at hm
  obtain ⟨W0, hW0⟩ : ∃ W0, W0 = (w.alloc (.cells #[.string nm, .int .i64 5, .int .i64 wd] 101)).alloc (.cells #[.int .i64 0, .slice none 0 0, .int .i64 0, .int .i64 0] 131) := ⟨_, rfl⟩
  have hs0 : W0.heap.size = w.heap.size + 2 := by rw [hW0]; simp
  have hF : W0.heap[w.heap.size]? = some (.cells #[.string nm, .int .i64 5, .int .i64 wd] 101 (0, 0)) := by rw [hW0, heap_alloc_old _ _ _ (by simp), heap_alloc_last]
  have hG : W0.heap[w.heap.size + 1]? = some (.cells #[.int .i64 0, .slice none 0 0, .int .i64 0, .int .i64 0] 131 (0, 0)) := by
    rw [hW0]; have := heap_alloc_last (w.alloc (.cells #[.string nm, .int .i64 5, .int .i64 wd] 101)) (.cells #[.int .i64 0, .slice none 0 0, .int .i64 0, .int .i64 0] 131); simpa using this
  have hb0 : Below w.heap.size w W0 := by rw [hW0]; exact ((Below.refl _ w).alloc (Nat.le_refl _) _).alloc (by simp) _
  have HR := Lib.hid (h.below hb0 (Nat.le_refl _))
  have HW0 := Lib.hid hW0
  have HF := Lib.hid hF
  have HG := Lib.hid hG
  have Hb0 := Lib.hid hb0
  have Hs0 := Lib.hid hs0
  have Hl := Lib.hid h.hl
  have HB := Lib.hid h.hb
  clear hW0 hs0 hF hG hb0 h
  have hbv := toVarV_bd xs (fun x hx => HB.out x hx)
  rw [hv] at hbv
  simp only at hbv
  have HT : Hid (num (toVarV xs) = .returned (.agg #[.int .i64 (k : Int), .int .i64 (u : Int), .int .i64 0])) := Lib.hid (by rw [hv]; rfl)
  clear hv
  have hll := Hl.out
  have i0 : ¬ (len : Int) - (u : Int) < (k : Int) := by omega
  have i1 : (u : Int) ≤ (u : Int) + k := by omega
  have i2 : (u : Int) + k ≤ (cap : Int) := by omega
  have i3 : (u : Int) + k - u = k := by omega
  have i5 : IntKind.i64.wrap ((u : Int) + k) = u + k := by rw [IntKind.wrap_i64]; omega
  have i6 : max ((u : Int) + k) 0 = u + k := by omega
  have i7 : (0 : Int) ≤ (u : Int) + k := by omega
  have i8 : ((u : Int) + k).toNat - u = k := by omega
  have i9 : ((u : Int) + k).toNat = u + k := by omega
  have Hlen : Hid (((xs.drop u).take k).length = k) := Lib.hid (by rw [List.length_take, List.length_drop, Hl.out]; omega)
  clear hbv
  have f1 : W0.cell? ⟨w.heap.size, 1, none⟩ = some (.int .i64 5) := by rw [cell_of_row _ _ _ _ _ _ HF.out]; rfl
  have f2 : W0.cell? ⟨w.heap.size, 2, none⟩ = some (.int .i64 wd) := by rw [cell_of_row _ _ _ _ _ _ HF.out]; rfl
  go_enter Try.func77, Try.ntmps77
  go_upto_region 1 with fail
  rw [← HW0.out]
  clear HW0
  go_wp2_with fail
  refine (refToVar_any _ _ _ xs W0 HR.out).mono ?_
  rintro e w2 ⟨rfl, hb⟩
  rw [HT.out]
  obtain ⟨W3, hW3⟩ : ∃ W3, W3 = w2.alloc (.cells #[.int .i64 (k : Int), .int .i64 (u : Int), .int .i64 0] 34) := ⟨_, rfl⟩
  have hg : W3.heap[w2.heap.size]? = some (.cells #[.int .i64 (k : Int), .int .i64 (u : Int), .int .i64 0] 34 (0, 0)) := by rw [hW3]; exact heap_alloc_last w2 _
  have hb3 : Below W0.heap.size W0 W3 := by rw [hW3]; exact hb.alloc hb.size _
  have hg2 : w.heap.size + 2 ≤ w2.heap.size := by have := hb.size; rw [Hs0.out] at this; exact this
  have HW3 := Lib.hid hW3
  have HC3 := Lib.hid hg
  have e0 : W3.cell? ⟨w2.heap.size, 0, none⟩ = some (.int .i64 (k : Int)) := by rw [cell_of_row _ _ _ _ _ _ hg]; rfl
  have e1 : W3.cell? ⟨w2.heap.size, 1, none⟩ = some (.int .i64 (u : Int)) := by rw [cell_of_row _ _ _ _ _ _ hg]; rfl
  have e2 : W3.cell? ⟨w2.heap.size, 2, none⟩ = some (.int .i64 0) := by rw [cell_of_row _ _ _ _ _ _ hg]; rfl
  have k2 : W3.cell? ⟨w.heap.size, 2, none⟩ = some (.int .i64 wd) := (hb3.cell (p := ⟨w.heap.size, 2, none⟩) (by show w.heap.size < W0.heap.size; rw [Hs0.out]; omega)).trans f2
  have HG3 := Lib.hid ((hb3.block _ (by rw [Hs0.out]; omega)).trans HG.out)
  have HR3 := Lib.hid (HR.out.below hb3 (Nat.le_refl _))
  have Hb3 := Lib.hid (Hb0.out.trans (hb3.mono Hb0.out.size))
  clear hb hW3 hg hb3 HG HR Hb0 f1 f2 HF
  go_upto_region 7 with fail
  rw [← HW3.out]
  clear HW3
  obtain ⟨g, hgg⟩ : ∃ g, g = w2.heap.size := ⟨_, rfl⟩
  rw [← hgg] at e0 e1 e2 hg2 HC3 ⊢
  clear hgg
  have hz : ((0 : Int) != 0) = false := by simp
  go_upto_region 13 with fail
  have hgW : g < W3.heap.size := (Array.getElem?_eq_some_iff.1 HC3.out).1
  have hs03 : W0.heap.size ≤ W3.heap.size := by have := Hs0.out; omega
  by_cases hck : cap = u
  · have i10 : (u : Int) + k ≤ (u : Int) := by omega
    have RM : Hid (Rd W3 a k 0 ((xs.drop u).take k)) := Lib.hid (by rw [show k = 0 by omega, List.take_zero]; exact HR3.out.cut0)
    refine wp_region_held_drew (S := (fun U => Below (w.heap.size + 1) W3 U ∧ U.heap[g]? = some (.cells #[.int .i64 (k : Int), .int .i64 (u : Int), .int .i64 0] 34 (0, 0)))) (by kernel_rfl) ⟨(Below.refl _ _).drew, HC3.out⟩ (fun _ => ?_)
    have HS0 : Hid ((fun U => Below (w.heap.size + 1) W3 U ∧ U.heap[g]? = some (.cells #[.int .i64 (k : Int), .int .i64 (u : Int), .int .i64 0] 34 (0, 0))) W3.drew) := Lib.hid ⟨(Below.refl _ _).drew, HC3.out⟩
    refine wpAnyH_take (i := 1) (v := .slice a len cap) rfl (by kernel_rfl) (by kernel_rfl) (by kernel_rfl) (fun _ _ _ h => h) (Or.inl ⟨by rfl, ?_⟩) HS0.out ?_
    · intro u_ hu; go_simp
    go_simp
    refine wpAnyH_take (i := 2) (v := .pointer (some ⟨g, 1, none⟩)) rfl (by kernel_rfl) (by kernel_rfl) (by kernel_rfl) (fun _ _ _ h => h) (Or.inl ⟨by rfl, ?_⟩) HS0.out ?_
    · intro u_ hu; go_simp
    go_simp
    refine wpAnyH_take (i := 3) (v := .int .i64 (u : Int)) rfl (by kernel_rfl) (by kernel_rfl) (by kernel_rfl) (fun _ _ _ h => h) (Or.inl ⟨by rfl, ?_⟩) HS0.out ?_
    · intro u_ hu; have q : u_.cell? ⟨g, 1, none⟩ = some (.int .i64 (u : Int)) := by rw [cell_of_row _ _ _ _ _ _ hu.2]; rfl
      go_simp
    go_simp
    refine wpAnyH_take (i := 4) (v := .pointer (some ⟨g, 1, none⟩)) rfl (by kernel_rfl) (by kernel_rfl) (by kernel_rfl) (fun _ _ _ h => h) (Or.inl ⟨by rfl, ?_⟩) HS0.out ?_
    · intro u_ hu; go_simp
    go_simp
    refine wpAnyH_take (i := 5) (v := .int .i64 (u : Int)) rfl (by kernel_rfl) (by kernel_rfl) (by kernel_rfl) (fun _ _ _ h => h) (Or.inl ⟨by rfl, ?_⟩) HS0.out ?_
    · intro u_ hu; have q : u_.cell? ⟨g, 1, none⟩ = some (.int .i64 (u : Int)) := by rw [cell_of_row _ _ _ _ _ _ hu.2]; rfl
      go_simp
    go_simp
    refine wpAnyH_take (i := 6) (v := .pointer (some ⟨g, 0, none⟩)) rfl (by kernel_rfl) (by kernel_rfl) (by kernel_rfl) (fun _ _ _ h => h) (Or.inl ⟨by rfl, ?_⟩) HS0.out ?_
    · intro u_ hu; go_simp
    go_simp
    refine wpAnyH_take (i := 7) (v := .int .i64 (k : Int)) rfl (by kernel_rfl) (by kernel_rfl) (by kernel_rfl) (fun _ _ _ h => h) (Or.inl ⟨by rfl, ?_⟩) HS0.out ?_
    · intro u_ hu; have q : u_.cell? ⟨g, 0, none⟩ = some (.int .i64 (k : Int)) := by rw [cell_of_row _ _ _ _ _ _ hu.2]; rfl
      go_simp
    go_simp
    refine wpAnyH_take (i := 8) (v := .int .i64 ((u : Int) + k)) rfl (by kernel_rfl) (by kernel_rfl) (by kernel_rfl) (fun _ _ _ h => h) (Or.inl ⟨by rfl, ?_⟩) HS0.out ?_
    · intro u_ hu; go_simp
    go_simp
    refine wpAnyH_take (i := 9) (v := .slice a k 0) rfl (by kernel_rfl) (by kernel_rfl) (by kernel_rfl) (fun _ _ _ h => h) (Or.inl ⟨by rfl, ?_⟩) HS0.out ?_
    · intro u_ hu; go_simp; all_goals (intro _; cases a <;> rfl)
    go_simp
    refine wpAnyH_take (i := 12) (v := .pointer (some ⟨g, 1, none⟩)) rfl (by kernel_rfl) (by kernel_rfl) (by kernel_rfl) (fun _ _ _ h => h) (Or.inl ⟨by rfl, ?_⟩) HS0.out ?_
    · intro u_ hu; go_simp
    go_simp
    refine wpAnyH_take (i := 13) (v := .int .i64 (u : Int)) rfl (by kernel_rfl) (by kernel_rfl) (by kernel_rfl) (fun _ _ _ h => h) (Or.inl ⟨by rfl, ?_⟩) HS0.out ?_
    · intro u_ hu; have q : u_.cell? ⟨g, 1, none⟩ = some (.int .i64 (u : Int)) := by rw [cell_of_row _ _ _ _ _ _ hu.2]; rfl
      go_simp
    go_simp
    refine wpAnyH_take (i := 14) (v := .pointer (some ⟨g, 0, none⟩)) rfl (by kernel_rfl) (by kernel_rfl) (by kernel_rfl) (fun _ _ _ h => h) (Or.inl ⟨by rfl, ?_⟩) HS0.out ?_
    · intro u_ hu; go_simp
    go_simp
    refine wpAnyH_take (i := 15) (v := .int .i64 (k : Int)) rfl (by kernel_rfl) (by kernel_rfl) (by kernel_rfl) (fun _ _ _ h => h) (Or.inl ⟨by rfl, ?_⟩) HS0.out ?_
    · intro u_ hu; have q : u_.cell? ⟨g, 0, none⟩ = some (.int .i64 (k : Int)) := by rw [cell_of_row _ _ _ _ _ _ hu.2]; rfl
      go_simp
    go_simp
    refine wpAnyH_take (i := 16) (v := .int .i64 ((u : Int) + k)) rfl (by kernel_rfl) (by kernel_rfl) (by kernel_rfl) (fun _ _ _ h => h) (Or.inl ⟨by rfl, ?_⟩) HS0.out ?_
    · intro u_ hu; go_simp
    go_simp
    refine wpAnyH_ready (rs := [0]) (by kernel_rfl) (by simp) ?_
    refine AllReadyH.cons rfl (fun K hK => ?_) AllReadyH.nil
    go_simp
    obtain ⟨w7, hw7⟩ : ∃ w7, w7 = (W3.alloc (.cells #[] 5)).drew := ⟨_, rfl⟩
    rw [← hw7]
    have HO : Hid (Own w7 W3.heap.size (.slice (some ⟨W3.heap.size, 0, none⟩) 0 0) []) := Lib.hid (by have := World.ownsRow_made (base := W3.heap.size) (e := 5) (size := 1) W3 #[] 0 (Nat.le_refl _) (by decide) rfl; rw [hw7]; exact ⟨this.drew, by simp⟩)
    have hb7 : Below W3.heap.size W3 w7 := by rw [hw7]; exact ((Below.refl _ W3).alloc (Nat.le_refl _) _).drew
    have hs7 : W3.heap.size < w7.heap.size := by rw [hw7]; show W3.heap.size < (W3.alloc _).heap.size; simp
    have HS7 : Hid ((fun U => Below (w.heap.size + 1) W3 U ∧ U.heap[g]? = some (.cells #[.int .i64 (k : Int), .int .i64 (u : Int), .int .i64 0] 34 (0, 0))) w7) := Lib.hid ⟨hb7.mono (by omega), (hb7.block _ hgW).trans HC3.out⟩
    have RM7 := Lib.hid (RM.out.below hb7 (Nat.le_refl _))
    have HB7 := Lib.hid hb7
    clear hb7 hw7
    refine hK.out _ _ HS7.out (fun _ => ?_)
    clear hK K
    refine wpAnyH_ready (rs := [10]) (by kernel_rfl) (by simp) ?_
    refine AllReadyH.cons rfl (fun K hK => ?_) AllReadyH.nil
    refine step_append_any rfl _ _ 22 (by rfl) W3.heap.size Try.infoB Try.underlying22 (.slice (some ⟨W3.heap.size, 0, none⟩) 0 0) [] (by rfl) HO.out _ _ _ ((xs.drop u).take k) (by rfl) RM7.out (by simp; omega) (by omega) ?_
    intro v4 w4 ho4 hg4
    rw [List.nil_append] at ho4
    obtain ⟨va, vc, hv4, hr4⟩ := ho4.rdz (n := k) Hlen.out
    subst hv4
    have Ho4 := Lib.hid ho4
    have hb4 : Below W3.heap.size W3 w4 := HB7.out.grown hg4 (by omega) (fun k hk => (HO.out.1.lt k hk).1)
    have HS4 : Hid ((fun U => Below (w.heap.size + 1) W3 U ∧ U.heap[g]? = some (.cells #[.int .i64 (k : Int), .int .i64 (u : Int), .int .i64 0] 34 (0, 0))) w4) := Lib.hid ⟨hb4.mono (by omega), (hb4.block _ hgW).trans HC3.out⟩
    have HG4 := Lib.hid ((hb4.block _ (by omega)).trans HG3.out)
    have Hb4 := Lib.hid (Hb3.out.trans (hb4.mono (by omega)))
    clear ho4 hg4 hr4 hb4 HO RM7 HB7
    refine hK.out _ _ HS4.out (fun _ => ?_)
    clear hK K
    refine wpAnyH_ready (rs := [11]) (by kernel_rfl) (by simp) ?_
    refine AllReadyH.cons rfl (fun K hK => ?_) AllReadyH.nil
    go_simp
    refine hK.out _ _ HS4.out (fun _ => ?_)
    clear hK K
    refine wpAnyH_ready (rs := [17]) (by kernel_rfl) (by simp) ?_
    refine AllReadyH.cons rfl (fun K hK => ?_) AllReadyH.nil
    go_simp
    refine hK.out _ _ HS4.out (fun _ => ?_)
    clear hK K
    refine wpAnyH_ready (rs := [18]) (by kernel_rfl) (by simp) ?_
    refine AllReadyH.cons rfl (fun K hK => ?_) AllReadyH.nil
    rw [if_pos (by rfl)]
    refine wp_store_row 131 (.tmp 4) (.tmp 64) rfl (w.heap.size + 1) #[.int .i64 0, .slice va k vc, .int .i64 ((u : Int) + k), .int .i64 0] rfl rfl 131 #[.int .i64 0, .slice none 0 0, .int .i64 0, .int .i64 0] HG4.out (Try.sizeGot _ _ _ _) rfl (oneGot _ _ _ _ _ _) ?_
    have HS5 : Hid ((fun U => Below (w.heap.size + 1) W3 U ∧ U.heap[g]? = some (.cells #[.int .i64 (k : Int), .int .i64 (u : Int), .int .i64 0] 34 (0, 0))) (w4.setRow (w.heap.size + 1) #[.int .i64 0, .slice va k vc, .int .i64 ((u : Int) + k), .int .i64 0])) := Lib.hid ⟨HS4.out.1.trans (below_setRow' _ (w.heap.size + 1) (w.heap.size + 1) #[.int .i64 0, .slice va k vc, .int .i64 ((u : Int) + k), .int .i64 0] (Nat.le_refl _)), (setRow_other _ _ _ _ (by omega)).trans HS4.out.2⟩
    refine hK.out _ _ HS5.out (fun _ => ?_)
    clear hK K
    refine wpAnyH_done (by kernel_rfl) ?_ _
    go_wp2_with fail
    refine bodyPost_ret (v := .agg #[.int .i64 0, .slice va k vc, .int .i64 ((u : Int) + k), .int .i64 0]) ?_ rfl ?_
    · exact results_cell_row rfl _ _ (w.heap.size + 1) 131 #[.int .i64 0, .slice va k vc, .int .i64 ((u : Int) + k), .int .i64 0] (0, 0) _ rfl (setRow_heap _ _ _ _ _ _ HG4.out) Try.underlying131 rfl (Try.sizeGot _ _ _ _)
    · exact ⟨_, _, _, _, _, rfl, fun _ => ⟨rfl, by omega, (Ho4.out.setRow (by omega) _).mono (by omega)⟩, Hb4.out.trans (below_setRow' _ _ _ _ (by omega))⟩
  · have hcf : (u = cap) = False := eq_false (fun e => hck e.symm)
    have RM : Hid (Rd W3 (a.map (fun x => x.add u)) k (cap - u) ((xs.drop u).take k)) := Lib.hid (by exact HR3.out.cut2 u k hf)
    refine wp_region_held_drew (S := (fun U => Below (w.heap.size + 1) W3 U ∧ U.heap[g]? = some (.cells #[.int .i64 (k : Int), .int .i64 (u : Int), .int .i64 0] 34 (0, 0)))) (by kernel_rfl) ⟨(Below.refl _ _).drew, HC3.out⟩ (fun _ => ?_)
    have HS0 : Hid ((fun U => Below (w.heap.size + 1) W3 U ∧ U.heap[g]? = some (.cells #[.int .i64 (k : Int), .int .i64 (u : Int), .int .i64 0] 34 (0, 0))) W3.drew) := Lib.hid ⟨(Below.refl _ _).drew, HC3.out⟩
    refine wpAnyH_take (i := 1) (v := .slice a len cap) rfl (by kernel_rfl) (by kernel_rfl) (by kernel_rfl) (fun _ _ _ h => h) (Or.inl ⟨by rfl, ?_⟩) HS0.out ?_
    · intro u_ hu; go_simp
    go_simp
    refine wpAnyH_take (i := 2) (v := .pointer (some ⟨g, 1, none⟩)) rfl (by kernel_rfl) (by kernel_rfl) (by kernel_rfl) (fun _ _ _ h => h) (Or.inl ⟨by rfl, ?_⟩) HS0.out ?_
    · intro u_ hu; go_simp
    go_simp
    refine wpAnyH_take (i := 3) (v := .int .i64 (u : Int)) rfl (by kernel_rfl) (by kernel_rfl) (by kernel_rfl) (fun _ _ _ h => h) (Or.inl ⟨by rfl, ?_⟩) HS0.out ?_
    · intro u_ hu; have q : u_.cell? ⟨g, 1, none⟩ = some (.int .i64 (u : Int)) := by rw [cell_of_row _ _ _ _ _ _ hu.2]; rfl
      go_simp
    go_simp
    refine wpAnyH_take (i := 4) (v := .pointer (some ⟨g, 1, none⟩)) rfl (by kernel_rfl) (by kernel_rfl) (by kernel_rfl) (fun _ _ _ h => h) (Or.inl ⟨by rfl, ?_⟩) HS0.out ?_
    · intro u_ hu; go_simp
    go_simp
    refine wpAnyH_take (i := 5) (v := .int .i64 (u : Int)) rfl (by kernel_rfl) (by kernel_rfl) (by kernel_rfl) (fun _ _ _ h => h) (Or.inl ⟨by rfl, ?_⟩) HS0.out ?_
    · intro u_ hu; have q : u_.cell? ⟨g, 1, none⟩ = some (.int .i64 (u : Int)) := by rw [cell_of_row _ _ _ _ _ _ hu.2]; rfl
      go_simp
    go_simp
    refine wpAnyH_take (i := 6) (v := .pointer (some ⟨g, 0, none⟩)) rfl (by kernel_rfl) (by kernel_rfl) (by kernel_rfl) (fun _ _ _ h => h) (Or.inl ⟨by rfl, ?_⟩) HS0.out ?_
    · intro u_ hu; go_simp
    go_simp
    refine wpAnyH_take (i := 7) (v := .int .i64 (k : Int)) rfl (by kernel_rfl) (by kernel_rfl) (by kernel_rfl) (fun _ _ _ h => h) (Or.inl ⟨by rfl, ?_⟩) HS0.out ?_
    · intro u_ hu; have q : u_.cell? ⟨g, 0, none⟩ = some (.int .i64 (k : Int)) := by rw [cell_of_row _ _ _ _ _ _ hu.2]; rfl
      go_simp
    go_simp
    refine wpAnyH_take (i := 8) (v := .int .i64 ((u : Int) + k)) rfl (by kernel_rfl) (by kernel_rfl) (by kernel_rfl) (fun _ _ _ h => h) (Or.inl ⟨by rfl, ?_⟩) HS0.out ?_
    · intro u_ hu; go_simp
    go_simp
    refine wpAnyH_take (i := 9) (v := .slice (a.map (fun x => x.add u)) k (cap - u)) rfl (by kernel_rfl) (by kernel_rfl) (by kernel_rfl) (fun _ _ _ h => h) (Or.inl ⟨by rfl, ?_⟩) HS0.out ?_
    · intro u_ hu; go_simp; all_goals (intro _; cases a <;> rfl)
    go_simp
    refine wpAnyH_take (i := 12) (v := .pointer (some ⟨g, 1, none⟩)) rfl (by kernel_rfl) (by kernel_rfl) (by kernel_rfl) (fun _ _ _ h => h) (Or.inl ⟨by rfl, ?_⟩) HS0.out ?_
    · intro u_ hu; go_simp
    go_simp
    refine wpAnyH_take (i := 13) (v := .int .i64 (u : Int)) rfl (by kernel_rfl) (by kernel_rfl) (by kernel_rfl) (fun _ _ _ h => h) (Or.inl ⟨by rfl, ?_⟩) HS0.out ?_
    · intro u_ hu; have q : u_.cell? ⟨g, 1, none⟩ = some (.int .i64 (u : Int)) := by rw [cell_of_row _ _ _ _ _ _ hu.2]; rfl
      go_simp
    go_simp
    refine wpAnyH_take (i := 14) (v := .pointer (some ⟨g, 0, none⟩)) rfl (by kernel_rfl) (by kernel_rfl) (by kernel_rfl) (fun _ _ _ h => h) (Or.inl ⟨by rfl, ?_⟩) HS0.out ?_
    · intro u_ hu; go_simp
    go_simp
    refine wpAnyH_take (i := 15) (v := .int .i64 (k : Int)) rfl (by kernel_rfl) (by kernel_rfl) (by kernel_rfl) (fun _ _ _ h => h) (Or.inl ⟨by rfl, ?_⟩) HS0.out ?_
    · intro u_ hu; have q : u_.cell? ⟨g, 0, none⟩ = some (.int .i64 (k : Int)) := by rw [cell_of_row _ _ _ _ _ _ hu.2]; rfl
      go_simp
    go_simp
    refine wpAnyH_take (i := 16) (v := .int .i64 ((u : Int) + k)) rfl (by kernel_rfl) (by kernel_rfl) (by kernel_rfl) (fun _ _ _ h => h) (Or.inl ⟨by rfl, ?_⟩) HS0.out ?_
    · intro u_ hu; go_simp
    go_simp
    refine wpAnyH_ready (rs := [0]) (by kernel_rfl) (by simp) ?_
    refine AllReadyH.cons rfl (fun K hK => ?_) AllReadyH.nil
    go_simp
    obtain ⟨w7, hw7⟩ : ∃ w7, w7 = (W3.alloc (.cells #[] 5)).drew := ⟨_, rfl⟩
    rw [← hw7]
    have HO : Hid (Own w7 W3.heap.size (.slice (some ⟨W3.heap.size, 0, none⟩) 0 0) []) := Lib.hid (by have := World.ownsRow_made (base := W3.heap.size) (e := 5) (size := 1) W3 #[] 0 (Nat.le_refl _) (by decide) rfl; rw [hw7]; exact ⟨this.drew, by simp⟩)
    have hb7 : Below W3.heap.size W3 w7 := by rw [hw7]; exact ((Below.refl _ W3).alloc (Nat.le_refl _) _).drew
    have hs7 : W3.heap.size < w7.heap.size := by rw [hw7]; show W3.heap.size < (W3.alloc _).heap.size; simp
    have HS7 : Hid ((fun U => Below (w.heap.size + 1) W3 U ∧ U.heap[g]? = some (.cells #[.int .i64 (k : Int), .int .i64 (u : Int), .int .i64 0] 34 (0, 0))) w7) := Lib.hid ⟨hb7.mono (by omega), (hb7.block _ hgW).trans HC3.out⟩
    have RM7 := Lib.hid (RM.out.below hb7 (Nat.le_refl _))
    have HB7 := Lib.hid hb7
    clear hb7 hw7
    refine hK.out _ _ HS7.out (fun _ => ?_)
    clear hK K
    refine wpAnyH_ready (rs := [10]) (by kernel_rfl) (by simp) ?_
    refine AllReadyH.cons rfl (fun K hK => ?_) AllReadyH.nil
    refine step_append_any rfl _ _ 22 (by rfl) W3.heap.size Try.infoB Try.underlying22 (.slice (some ⟨W3.heap.size, 0, none⟩) 0 0) [] (by rfl) HO.out _ _ _ ((xs.drop u).take k) (by rfl) RM7.out (by simp; omega) (by omega) ?_
    intro v4 w4 ho4 hg4
    rw [List.nil_append] at ho4
    obtain ⟨va, vc, hv4, hr4⟩ := ho4.rdz (n := k) Hlen.out
    subst hv4
    have Ho4 := Lib.hid ho4
    have hb4 : Below W3.heap.size W3 w4 := HB7.out.grown hg4 (by omega) (fun k hk => (HO.out.1.lt k hk).1)
    have HS4 : Hid ((fun U => Below (w.heap.size + 1) W3 U ∧ U.heap[g]? = some (.cells #[.int .i64 (k : Int), .int .i64 (u : Int), .int .i64 0] 34 (0, 0))) w4) := Lib.hid ⟨hb4.mono (by omega), (hb4.block _ hgW).trans HC3.out⟩
    have HG4 := Lib.hid ((hb4.block _ (by omega)).trans HG3.out)
    have Hb4 := Lib.hid (Hb3.out.trans (hb4.mono (by omega)))
    clear ho4 hg4 hr4 hb4 HO RM7 HB7
    refine hK.out _ _ HS4.out (fun _ => ?_)
    clear hK K
    refine wpAnyH_ready (rs := [11]) (by kernel_rfl) (by simp) ?_
    refine AllReadyH.cons rfl (fun K hK => ?_) AllReadyH.nil
    go_simp
    refine hK.out _ _ HS4.out (fun _ => ?_)
    clear hK K
    refine wpAnyH_ready (rs := [17]) (by kernel_rfl) (by simp) ?_
    refine AllReadyH.cons rfl (fun K hK => ?_) AllReadyH.nil
    go_simp
    refine hK.out _ _ HS4.out (fun _ => ?_)
    clear hK K
    refine wpAnyH_ready (rs := [18]) (by kernel_rfl) (by simp) ?_
    refine AllReadyH.cons rfl (fun K hK => ?_) AllReadyH.nil
    rw [if_pos (by rfl)]
    refine wp_store_row 131 (.tmp 4) (.tmp 64) rfl (w.heap.size + 1) #[.int .i64 0, .slice va k vc, .int .i64 ((u : Int) + k), .int .i64 0] rfl rfl 131 #[.int .i64 0, .slice none 0 0, .int .i64 0, .int .i64 0] HG4.out (Try.sizeGot _ _ _ _) rfl (oneGot _ _ _ _ _ _) ?_
    have HS5 : Hid ((fun U => Below (w.heap.size + 1) W3 U ∧ U.heap[g]? = some (.cells #[.int .i64 (k : Int), .int .i64 (u : Int), .int .i64 0] 34 (0, 0))) (w4.setRow (w.heap.size + 1) #[.int .i64 0, .slice va k vc, .int .i64 ((u : Int) + k), .int .i64 0])) := Lib.hid ⟨HS4.out.1.trans (below_setRow' _ (w.heap.size + 1) (w.heap.size + 1) #[.int .i64 0, .slice va k vc, .int .i64 ((u : Int) + k), .int .i64 0] (Nat.le_refl _)), (setRow_other _ _ _ _ (by omega)).trans HS4.out.2⟩
    refine hK.out _ _ HS5.out (fun _ => ?_)
    clear hK K
    refine wpAnyH_done (by kernel_rfl) ?_ _
    go_wp2_with fail
    refine bodyPost_ret (v := .agg #[.int .i64 0, .slice va k vc, .int .i64 ((u : Int) + k), .int .i64 0]) ?_ rfl ?_
    · exact results_cell_row rfl _ _ (w.heap.size + 1) 131 #[.int .i64 0, .slice va k vc, .int .i64 ((u : Int) + k), .int .i64 0] (0, 0) _ rfl (setRow_heap _ _ _ _ _ _ HG4.out) Try.underlying131 rfl (Try.sizeGot _ _ _ _)
    · exact ⟨_, _, _, _, _, rfl, fun _ => ⟨rfl, by omega, (Ho4.out.setRow (by omega) _).mono (by omega)⟩, Hb4.out.trans (below_setRow' _ _ _ _ (by omega))⟩
end Go.Proofs.Ytmfijcniaehooaa

/- The reference's one, of any field of a valid layout. -/
namespace Go.Proofs.Ytmfijcniaehooaa
set_option linter.unusedVariables false
open Go.RowKit

theorem OnePost.err {er n : Int} {bs : List Int} {st : Nat} {w w' : World} {e : Ending} (h : OnePost er n bs st w e w') (he : er ≠ 0) (n2 : Int) (bs2 : List Int) (st2 : Nat) : OnePost er n2 bs2 st2 w e w' := by
  obtain ⟨n', a1, l1, c1, u', h1, h2, h3⟩ := h
  exact ⟨n', a1, l1, c1, u', h1, fun h => absurd h he, h3⟩
theorem one_num (kd : Int) (s : Bool) (hks : kd = 1 ∧ s = false ∨ kd = 2 ∧ s = true) (nm : ByteArray) (m : Nat) (hm1 : 1 ≤ m) (hm8 : m ≤ 8) (xs : List Int) (p : Nat) (hp : p ≤ xs.length) (a : Option Addr) (len cap : Nat) (w : World) (h : Rd w a len cap (xs.drop p)) (hbig : len ≤ 140737488355328) :
    Calls Try.prog 77 #[.agg #[.string nm, .int .i64 kd, .int .i64 m], .slice a len cap] w (OnePost (rfixV xs p m s).2.1 (rfixV xs p m s).1 [] (rfixV xs p m s).2.2 w) := by
  have hl := h.hl
  have hlp : len = xs.length - p := by rw [← hl, List.length_drop]
  by_cases hlt : (xs.length : Int) - p < m
  · have hr : rfixV xs p m s = (0, 4, 0) := by unfold rfixV; rw [if_neg (by omega), if_pos hlt]
    rw [hr]
    exact one_few nm kd m (by rcases hks with ⟨rfl, _⟩ | ⟨rfl, _⟩ <;> decide) (by rcases hks with ⟨rfl, _⟩ | ⟨rfl, _⟩ <;> decide) a len cap (by omega) (xs.drop p) w h hbig
  · have hone : Calls Try.prog 77 #[.agg #[.string nm, .int .i64 kd, .int .i64 m], .slice a len cap] w (OnePost (numV s ((xs.drop p).take m)).2 (numV s ((xs.drop p).take m)).1 [] m w) := by
      rcases hks with ⟨rfl, rfl⟩ | ⟨rfl, rfl⟩
      · exact one_1 nm a len cap (xs.drop p) m hm1 hm8 (by omega) _ _ rfl rfl w h hbig
      · exact one_2 nm a len cap (xs.drop p) m hm1 hm8 (by omega) _ _ rfl rfl w h hbig
    by_cases hE : (numV s ((xs.drop p).take m)).2 = 0
    · have hr : rfixV xs p m s = ((numV s ((xs.drop p).take m)).1, 0, m) := by
        unfold rfixV
        rw [if_neg (by omega), if_neg hlt, Int.toNat_natCast, if_neg (by omega)]
      rw [hE] at hone
      rw [hr]
      exact hone
    · have hr : rfixV xs p m s = (0, (numV s ((xs.drop p).take m)).2, 0) := by
        unfold rfixV
        rw [if_neg (by omega), if_neg hlt, Int.toNat_natCast, if_pos hE]
      rw [hr]
      exact hone.mono (fun _ _ hh => hh.err hE _ _ _)
theorem one_txt (nm : ByteArray) (wd : Int) (xs : List Int) (p : Nat) (hp : p ≤ xs.length) (a : Option Addr) (len cap : Nat) (w : World) (h : Rd w a len cap (xs.drop p)) (hbig : len ≤ 140737488355328) :
    Calls Try.prog 77 #[.agg #[.string nm, .int .i64 5, .int .i64 wd], .slice a len cap] w (OnePost (text5 xs p wd).1 0 (text5 xs p wd).2.1 (text5 xs p wd).2.2 w) := by
  have hl := h.hl
  have hlp : len = xs.length - p := by rw [← hl, List.length_drop]
  have hbv := toVarV_bd (xs.drop p) (fun x hx => h.hb x hx)
  unfold text5
  obtain ⟨t, ht⟩ : ∃ t, t = toVarV (xs.drop p) := ⟨_, rfl⟩
  rw [← ht] at hbv ⊢
  obtain ⟨vn, vu, ve⟩ := t
  have hv := ht.symm
  simp only at hbv ⊢
  obtain ⟨n1, n2, u1, u9, ul, hve⟩ := hbv
  by_cases hne : ve = 0
  · by_cases hw : wd < vn
    · rw [if_neg (by omega), if_pos hw]
      exact one_5w nm a len cap (xs.drop p) wd vn vu ve hv hne hw w h hbig
    · have hu : ((vu.toNat : Nat) : Int) = vu := by omega
      by_cases hf : (len : Int) - vu < vn
      · have hA : aheadE ((xs.length : Int) - (p + vu.toNat : Nat)) vn = 4 := by unfold aheadE; rw [if_neg (by omega), if_pos (by omega)]
        rw [if_neg (by omega), if_neg hw, if_pos (by omega), hA]
        exact one_5f nm a len cap (xs.drop p) wd vn vu ve hv hne hw hf w h hbig
      · have hA : aheadE ((xs.length : Int) - (p + vu.toNat : Nat)) vn = 0 := by unfold aheadE; rw [if_neg (by omega), if_neg (by omega)]
        have hB : aheadB xs (p + vu.toNat) vn = ((xs.drop p).drop vu.toNat).take vn.toNat := by unfold aheadB; rw [if_pos hA, List.drop_drop]
        rw [if_neg (by omega), if_neg hw, if_neg (by omega), hB]
        exact one_5 nm a len cap (xs.drop p) wd vn.toNat vu.toNat (by rw [hv, hne, Int.toNat_of_nonneg n1, hu]) (by omega) (by omega) w h hbig
  · rw [if_pos hne]
    exact one_5e nm a len cap (xs.drop p) wd vn vu ve hv hne w h hbig
theorem one_any (f : Fld) (hf : ¬ fldBad f) (xs : List Int) (p : Nat) (hp : p ≤ xs.length) (a : Option Addr) (len cap : Nat) (w : World) (h : Rd w a len cap (xs.drop p)) (hbig : len ≤ 140737488355328) :
    Calls Try.prog 77 #[f.val, .slice a len cap] w (OnePost (oneV f.kind f.width xs p).1 (oneV f.kind f.width xs p).2.1 (oneV f.kind f.width xs p).2.2.1 (oneV f.kind f.width xs p).2.2.2 w) := by
  have hl := h.hl
  have hlp : len = xs.length - p := by rw [← hl, List.length_drop]
  obtain ⟨k1, k5, w0, w4⟩ := fld_bd hf
  have hk : f.kind = 1 ∨ f.kind = 2 ∨ f.kind = 3 ∨ f.kind = 4 ∨ f.kind = 5 := by omega
  have hnw := fun hk => narrow_le hf hk
  obtain ⟨nm, kd, wd⟩ := f
  simp only at hk k1 k5 w0 w4 hnw ⊢
  obtain ⟨m, rfl⟩ := Int.eq_ofNat_of_zero_le (show 0 ≤ wd by omega)
  unfold Fld.val
  simp only
  rcases hk with rfl | rfl | rfl | rfl | rfl
  · have hO : oneV 1 m xs p = ((rfixV xs p m false).2.1, (rfixV xs p m false).1, [], (rfixV xs p m false).2.2) := by unfold oneV; rw [if_pos rfl]
    rw [hO]
    have := hnw (.inl rfl)
    exact one_num 1 false (.inl ⟨rfl, rfl⟩) nm m (by omega) (by omega) xs p hp a len cap w h hbig
  · have hO : oneV 2 m xs p = ((rfixV xs p m true).2.1, (rfixV xs p m true).1, [], (rfixV xs p m true).2.2) := by unfold oneV; rw [if_neg (by omega), if_pos rfl]
    rw [hO]
    have := hnw (.inr rfl)
    exact one_num 2 true (.inr ⟨rfl, rfl⟩) nm m (by omega) (by omega) xs p hp a len cap w h hbig
  · have hO : oneV 3 m xs p = ((toVarV (xs.drop p)).2.2, (toVarV (xs.drop p)).1, [], (toVarV (xs.drop p)).2.1.toNat) := by unfold oneV; rw [if_neg (by omega), if_neg (by omega), if_pos rfl]
    rw [hO]
    exact one_3 nm m a len cap (xs.drop p) w h hbig
  · by_cases hlt : (xs.length : Int) - p < m
    · have hA : aheadE ((xs.length : Int) - p) m = 4 := by unfold aheadE; rw [if_neg (by omega), if_pos hlt]
      have hO : oneV 4 m xs p = (4, 0, [], 0) := by
        unfold oneV aheadB stepV
        rw [if_neg (by omega), if_neg (by omega), if_neg (by omega), if_pos rfl, hA]
        rfl
      rw [hO]
      exact one_few nm 4 m (by decide) (by decide) a len cap (by omega) (xs.drop p) w h hbig
    · have hA : aheadE ((xs.length : Int) - p) m = 0 := by unfold aheadE; rw [if_neg (by omega), if_neg hlt]
      have hO : oneV 4 m xs p = (0, 0, (xs.drop p).take m, m) := by
        unfold oneV aheadB stepV
        rw [if_neg (by omega), if_neg (by omega), if_neg (by omega), if_pos rfl, hA]
        rfl
      rw [hO]
      exact one_4 nm a len cap (xs.drop p) m (by omega) w h hbig
  · have hO : oneV 5 m xs p = ((text5 xs p m).1, 0, (text5 xs p m).2.1, (text5 xs p m).2.2) := by unfold oneV; rw [if_neg (by omega), if_neg (by omega), if_neg (by omega), if_neg (by omega)]
    rw [hO]
    exact one_txt nm m xs p hp a len cap w h hbig
end Go.Proofs.Ytmfijcniaehooaa

/- What stands while the reference's Unpack runs. -/
namespace Go.Proofs.Ytmfijcniaehooaa
set_option linter.unusedVariables false
open Go.RowKit

theorem Only.setC {E : List TypeId} {W : World} {g i : Nat} {cs : Array Value} {t : TypeId} (hb : W.heap[g]? = some (.cells cs t (0, 0))) (u : Value) (hE : t ∈ E) : Only E W (W.setCell ⟨g, i, none⟩ u) :=
  ⟨rfl, rfl, rfl, by simp [World.setCell], fun k cs' t' fr hi ht => by
    refine (heap_setCell_other W ⟨g, i, none⟩ k u (fun e => ?_)).trans hi
    have e : k = g := e
    subst e
    have := hb.symm.trans hi
    simp only [Option.some.injEq, Obj.cells.injEq] at this
    exact ht (this.2.1 ▸ hE)⟩
/-- Where the reference's Unpack stands: what it has, in the block G. -/
structure StU (w : World) (G : Nat) (items : List Itm) (v0 : Value) (bds : List Int) (v1 : Value) (W : World) : Prop where
  res : W.heap[w.heap.size]? = some (.cells #[.slice none 0 0, .slice none 0 0, .int .i64 0] 65 (0, 0))
  acc : W.heap[G]? = some (.cells #[v0, v1, .int .i64 0] 65 (0, 0))
  gt : w.heap.size < G
  row0 : W.ownsRow w.heap.size 52 2 v0 items.length (itemCells items)
  row1 : W.ownsRow w.heap.size 3 1 v1 bds.length (bds.map (Value.int .i64))
  own : ∀ x ∈ items, Own W w.heap.size (.slice x.a x.len x.cap) x.xs
  below : Below w.heap.size w W
section
variable {w W W' w2 : World} {G : Nat} {items : List Itm} {v0 v1 v' : Value} {bds : List Int} {tmp : Obj}
theorem StU.alloc (h : StU w G items v0 bds v1 W) (hb : Below W.heap.size W W') : StU w G items v0 bds v1 W' := by
  have o : Only [] W W' := Only.of_below hb
  exact ⟨o.block _ _ _ _ h.res (by simp), o.block _ _ _ _ h.acc (by simp), h.gt, o.row h.row0 (by simp), o.row h.row1 (by simp), fun x hx => o.own (h.own x hx) (by simp), h.below.trans (hb.mono h.below.size)⟩
theorem StU.mid0 (h : StU w G items v0 bds v1 W) {m : Nat} {ys : List Value} (hown' : w2.ownsRow w.heap.size 52 2 v' m ys) (hgrow : (W.alloc tmp).grownBy w2 v0.ownBlock) :
    Only [52] W w2 ∧ Below w.heap.size w w2 := by
  refine ⟨(Only.of_below ((Below.refl _ _).alloc (Nat.le_refl _) tmp)).trans (Only.of_grown (h.row0.alloc tmp) hgrow (by simp)), ?_⟩
  exact (h.below.alloc h.below.size tmp).grown hgrow (by simp; have := h.below.size; omega) (fun k hk => (h.row0.lt k hk).1)
theorem StU.mid1 (h : StU w G items v0 bds v1 W) {m : Nat} {ys : List Value} (hown' : w2.ownsRow w.heap.size 3 1 v' m ys) (hgrow : (W.alloc tmp).grownBy w2 v1.ownBlock) :
    Only [3] W w2 ∧ Below w.heap.size w w2 := by
  refine ⟨(Only.of_below ((Below.refl _ _).alloc (Nat.le_refl _) tmp)).trans (Only.of_grown (h.row1.alloc tmp) hgrow (by simp)), ?_⟩
  exact (h.below.alloc h.below.size tmp).grown hgrow (by simp; have := h.below.size; omega) (fun k hk => (h.row1.lt k hk).1)
/-- An item more. -/
theorem StU.item {x : Itm} (h : StU w G items v0 bds v1 W) (hx : Own W w.heap.size (.slice x.a x.len x.cap) x.xs)
    (hown' : w2.ownsRow w.heap.size 52 2 v' (items.length + 1) (itemCells items ++ [.int .i64 x.n, .slice x.a x.len x.cap])) (hgrow : (W.alloc tmp).grownBy w2 v0.ownBlock) :
    StU w G (items ++ [x]) v' bds v1 (w2.setCell ⟨G, 0, none⟩ v') := by
  obtain ⟨o1, hb⟩ := h.mid0 hown' hgrow
  have ha := o1.block _ _ _ _ h.acc (by decide)
  have o2 : Only [65] w2 (w2.setCell ⟨G, 0, none⟩ v') := Only.setC ha v' (by simp)
  have o : Only [52, 65] W (w2.setCell ⟨G, 0, none⟩ v') := (o1.mono (by simp; intro t h1 h2; exact h1)).trans (o2.mono (by simp))
  have hgt := h.gt
  refine ⟨(heap_setCell_other w2 ⟨G, 0, none⟩ _ _ (by show w.heap.size ≠ G; omega)).trans (o1.block _ _ _ _ h.res (by decide)), heap_setCell_same _ _ _ _ _ _ ha, hgt, by rw [itemCells_snoc]; simpa using o2.row hown' (by decide), o.row h.row1 (by decide), fun y hy => ?_, hb.setCell (by show w.heap.size ≤ G; omega) v'⟩
  rcases List.mem_append.1 hy with hy | hy
  · exact o.own (h.own y hy) (by decide)
  · obtain rfl : y = x := by simpa using hy
    exact o.own hx (by decide)
/-- A bound more. -/
theorem StU.bound {b : Int} (h : StU w G items v0 bds v1 W)
    (hown' : w2.ownsRow w.heap.size 3 1 v' (bds.length + 1) (bds.map (Value.int .i64) ++ [.int .i64 b])) (hgrow : (W.alloc tmp).grownBy w2 v1.ownBlock) :
    StU w G items v0 (bds ++ [b]) v' (w2.setCell ⟨G, 1, none⟩ v') := by
  obtain ⟨o1, hb⟩ := h.mid1 hown' hgrow
  have ha := o1.block _ _ _ _ h.acc (by decide)
  have o2 : Only [65] w2 (w2.setCell ⟨G, 1, none⟩ v') := Only.setC ha v' (by simp)
  have o : Only [3, 65] W (w2.setCell ⟨G, 1, none⟩ v') := (o1.mono (by simp; intro t h1 h2; exact h1)).trans (o2.mono (by simp))
  have hgt := h.gt
  exact ⟨(heap_setCell_other w2 ⟨G, 1, none⟩ _ _ (by show w.heap.size ≠ G; omega)).trans (o1.block _ _ _ _ h.res (by decide)), heap_setCell_same _ _ _ _ _ _ ha, hgt, o.row h.row0 (by decide), by simpa using o2.row hown' (by decide), fun y hy => o.own (h.own y hy) (by decide), hb.setCell (by show w.heap.size ≤ G; omega) v'⟩
end
theorem errV_at {fs : List Fld} {bs : List Int} {k : Nat} {er : Int} (hch : checkV fs = 0) (hk : k < fs.length) (hok : ∀ j, j < k → (atV fs bs j).1 = 0) (her : (atV fs bs k).1 = er) (hne : er ≠ 0) : errV fs bs = er := by
  have h1 : readE fs bs fs.length ≠ 0 := fun h => hne (her ▸ readE_zero fs bs _ h k hk)
  obtain ⟨j, hj, hz, he⟩ := readE_first fs bs _ h1
  have hjk : j = k := by
    rcases Nat.lt_trichotomy j k with h | h | h
    · exact absurd (he.symm.trans (hok j h)) h1
    · exact h
    · exact absurd (her.symm.trans (hz k h)) hne
  subst hjk
  unfold errV
  rw [if_neg (by simp [hch]), ← he, her]
theorem errV_zero {fs : List Fld} {bs : List Int} (hch : checkV fs = 0) (hok : ∀ j, j < fs.length → (atV fs bs j).1 = 0) : errV fs bs = 0 := by
  unfold errV
  rw [if_neg (by simp [hch])]
  by_cases h : readE fs bs fs.length = 0
  · exact h
  · obtain ⟨j, hj, hz, he⟩ := readE_first fs bs _ h
    exact absurd (he.symm.trans (hok j hj)) h
end Go.Proofs.Ytmfijcniaehooaa

/- The reference's Unpack. -/
namespace Go.Proofs.Ytmfijcniaehooaa
set_option linter.unusedVariables false
open Go.RowKit

theorem Try.sizeItems (u v x : Value) : (Try.prog.info? 65).map (·.size) = some (#[u, v, x] : Array Value).size := by kernel_rfl
theorem oneItems (a : Option Addr) (l c : Nat) (a2 : Option Addr) (l2 c2 : Nat) (e : Int) : (#[.slice a l c, .slice a2 l2 c2, .int .i64 e] : Array Value).all (fun x => x.oneCell') = true := by kernel_rfl
theorem Only.setR {E : List TypeId} {W : World} {g : Nat} {cs : Array Value} {t : TypeId} (hb : W.heap[g]? = some (.cells cs t (0, 0))) (us : Array Value) (hE : t ∈ E) : Only E W (W.setRow g us) :=
  ⟨rfl, rfl, rfl, (below_setRow' W g g us (Nat.le_refl _)).size, fun k cs' t' fr hi ht => by
    refine (setRow_other W g k us (fun e => ?_)).trans hi
    subst e
    have := hb.symm.trans hi
    simp only [Option.some.injEq, Obj.cells.injEq] at this
    exact ht (this.2.1 ▸ hE)⟩
/-- What the reference's Unpack answers. -/
def UnpackPost (fs : List Fld) (bs : List Int) (len : Nat) (w : World) (e : Ending) (w' : World) : Prop := ∃ v0 v1, e = .returned (.agg #[v0, v1, .int .i64 (errV fs bs)]) ∧ Below w.heap.size w w' ∧
  (errV fs bs ≠ 0 → v0 = .slice none 0 0 ∧ v1 = .slice none 0 0) ∧
  (errV fs bs = 0 → ∃ items : List Itm, w'.ownsRow w.heap.size 52 2 v0 len (itemCells items) ∧ w'.ownsRow w.heap.size 3 1 v1 (len + 1) ((List.range (len + 1)).map fun k => .int .i64 (posV fs bs k)) ∧ items.length = len ∧ items.map (fun x => (x.n, x.xs)) = (List.range len).map (fun k => ((atV fs bs k).2.1, (atV fs bs k).2.2.1)) ∧ (∀ x ∈ items, Own w' w.heap.size (.slice x.a x.len x.cap) x.xs))
theorem UnpackPost.no {fs : List Fld} {bs : List Int} {len : Nat} {w w' : World} {er : Int} (he : errV fs bs = er) (hne : er ≠ 0) (hb : Below w.heap.size w w') : UnpackPost fs bs len w (.returned (.agg #[.slice none 0 0, .slice none 0 0, .int .i64 er])) w' := by
  subst he
  exact ⟨_, _, rfl, hb, fun _ => ⟨rfl, rfl⟩, fun h => absurd h hne⟩
set_option maxRecDepth 100000 in
set_option maxHeartbeats 8000000 in
theorem refUnpack_any (a : Option Addr) (len cap : Nat) (fs : List Fld) (w : World) (h : RdF w a len cap fs) (a2 : Option Addr) (len2 cap2 : Nat) (bs : List Int) (h2 : Rd w a2 len2 cap2 bs) (hbig : len2 ≤ 140737488355328) :
    Calls Try.prog 45 #[.slice a len cap, .slice a2 len2 cap2] w (UnpackPost fs bs len w) := by
  have hl := h.hl
  have hl2 := h2.hl
  have hm := h.hm
  have hm2 := h2.hm
  have hc := h.hc
  have hc2 := h2.hc
  unfold maxLen at hm hm2
  obtain ⟨W0, hW0⟩ : ∃ W0, W0 = w.alloc (.cells #[.slice none 0 0, .slice none 0 0, .int .i64 0] 65) := ⟨_, rfl⟩
  have hs0 : W0.heap.size = w.heap.size + 1 := by rw [hW0]; simp
  have h40 : W0.heap[w.heap.size]? = some (.cells #[.slice none 0 0, .slice none 0 0, .int .i64 0] 65 (0, 0)) := by rw [hW0, heap_alloc_last]
  have hb0 : Below w.heap.size w W0 := by rw [hW0]; exact (Below.refl _ w).alloc (Nat.le_refl _) _
  have Hl := Lib.hid hl
  have Hl2 := Lib.hid hl2
  have H := Lib.hid h
  have H2 := Lib.hid h2
  have HW0 := Lib.hid hW0
  have H40 := Lib.hid h40
  have Hb0 := Lib.hid hb0
  have Hs0 := Lib.hid hs0
  have HF0 := Lib.hid (h.below hb0 (Nat.le_refl _))
  clear h h2 hW0 hs0 h40 hb0 hl hl2
  go_enter Try.func45, Try.ntmps45
  go_upto_region 1 with fail
  rw [← HW0.out]
  clear HW0
  go_wp2_with fail
  refine (refCheck_any _ _ _ fs _ HF0.out).mono ?_
  rintro e w1 ⟨rfl, hb1⟩
  have H41 := Lib.hid ((hb1.block _ (by rw [Hs0.out]; omega)).trans H40.out)
  have Hb1 := Lib.hid (Hb0.out.trans (hb1.mono Hb0.out.size))
  have hs1 : w.heap.size + 1 ≤ w1.heap.size := by have := hb1.size; rw [Hs0.out] at this; exact this
  clear hb1 H40 Hb0 Hs0 HF0
  by_cases hch : checkV fs = 0
  · rw [hch]
    have h64 : len ≤ 64 := by have := (checkV_ok hch).1; have := Hl.out; omega
    have Hch := Lib.hid hch
    clear hch
    obtain ⟨W2, hW2⟩ : ∃ W2, W2 = (w1.alloc (.cells #[.int .i64 0] 3)).alloc (.cells #[.slice none 0 0, .slice (some ⟨w1.heap.size, 0, none⟩) 1 1, .int .i64 0] 65) := ⟨_, rfl⟩
    have hU : StU w (w1.heap.size + 1) [] (.slice none 0 0) [0] (.slice (some ⟨w1.heap.size, 0, none⟩) 1 1) W2 := by
      have hbW : Below w1.heap.size w1 W2 := by rw [hW2]; exact ((Below.refl _ w1).alloc (Nat.le_refl _) _).alloc (by simp) _
      refine ⟨(hbW.block _ (by omega)).trans H41.out, ?_, by omega, World.ownsRow_nil _ _ _ _, ⟨rfl, .inr ⟨w1.heap.size, 1, #[.int .i64 0], rfl, by omega, ?_, by simp, by unfold maxLen; simp, rfl, rfl⟩⟩, by simp, Hb1.out.trans (hbW.mono (by omega))⟩
      · rw [hW2]; have := heap_alloc_last (w1.alloc (.cells #[.int .i64 0] 3)) (.cells #[.slice none 0 0, .slice (some ⟨w1.heap.size, 0, none⟩) 1 1, .int .i64 0] 65); simpa using this
      · rw [hW2, heap_alloc_old _ _ _ (by simp), heap_alloc_last]
    obtain ⟨G, hG⟩ : ∃ G, G = w1.heap.size + 1 := ⟨_, rfl⟩
    have HW2 := Lib.hid hW2
    have HG := Lib.hid hG
    rw [← hG] at hU
    have HU := Lib.hid hU
    clear hU hW2 hG H41 Hb1
    go_upto_region 5 with fail
    rw [← HW2.out, ← HG.out]
    clear HW2
    go_wp2_with fail
    go_loopw [7, 8] (fun at_ i wr => ∃ (k : Nat) (items : List Itm) (v0 v1 : Value), k ≤ len ∧ i = .int .i64 k ∧ at_ = .int .i64 (posV fs bs k : Nat) ∧ posV fs bs k ≤ len2 ∧ (∀ j, j < k → (atV fs bs j).1 = 0) ∧ items.length = k ∧ items.map (fun x => (x.n, x.xs)) = (List.range k).map (fun k => ((atV fs bs k).2.1, (atV fs bs k).2.2.1)) ∧ StU w G items v0 ((List.range (k + 1)).map fun j => (posV fs bs j : Int)) v1 wr) (fun _ i _ => len - (intOf i).toNat)
    case atStart =>
      have h0 : posV fs bs 0 = 0 := by unfold posV; rfl
      exact ⟨0, [], _, _, Nat.zero_le _, rfl, by rw [h0]; rfl, by omega, fun j hj => absurd hj (by omega), rfl, rfl, by rw [show (List.range (0 + 1)).map (fun k => (posV fs bs k : Int)) = [0] from by simp [h0]]; exact HU.out⟩
    case round =>
      clear HU HG hs1
      obtain ⟨k, items, v0, v1, hk, rfl, rfl, hple, hok, hil, hiv, hst⟩ := hrel
      obtain ⟨x0, l0, y0, rfl⟩ := row_slice hst.row0
      obtain ⟨x1, m1, y1, rfl⟩ := row_slice hst.row1
      by_cases hlt : k < len
      · have hF := H.out.below hst.below (Nat.le_refl _)
        have hR := H2.out.below hst.below (Nat.le_refl _)
        obtain ⟨b, off, rfl, hcell⟩ := hF.hr (by omega)
        obtain ⟨c0, c1, c2⟩ := hcell k hlt
        have hl1 := Hl.out
        have hat := posV_succ fs bs k
        have hav : atV fs bs k = oneV (fs.getD k default).kind (fs.getD k default).width bs (posV fs bs k) := by unfold atV; rfl
        obtain ⟨f, hf⟩ : ∃ f, f = fs.getD k default := ⟨_, rfl⟩
        rw [← hf] at c0 c1 c2 hav
        have hfm : f ∈ fs := by
          rw [hf]
          have : fs.getD k default = fs[k]'(by omega) := by simp [List.getD, hl1, hlt]
          rw [this]; exact List.getElem_mem _
        have hok2 := (checkV_ok Hch.out).2 f hfm
        obtain ⟨g1, g5, g6, g7⟩ := fld_bd hok2
        obtain ⟨p, hp⟩ : ∃ p, p = posV fs bs k := ⟨_, rfl⟩
        rw [← hp] at hple hat hav ⊢
        have hone := fun (sa : Option Addr) (sc : Nat) (u : World) (hr : Rd u sa (len2 - p) sc (bs.drop p)) => one_any f hok2 bs p (by rw [Hl2.out]; exact hple) sa (len2 - p) sc u hr (by omega)
        rw [← hav] at hone
        obtain ⟨er, nn, xb, st, hall⟩ : ∃ er nn xb st, atV fs bs k = (er, nn, xb, st) := ⟨_, _, _, _, rfl⟩
        rw [hall] at hone hat hav
        simp only at hone hat
        have hfit : er = 0 → p + st ≤ len2 ∧ -9223372036854775808 ≤ nn ∧ nn ≤ 9223372036854775807 := fun he => by
          subst he
          have := one_oneway H2.out.hb (by rw [Hl2.out]; exact hple) g1 g5 g7 hav.symm
          rw [Hl2.out] at this
          exact ⟨this.2.2.1, this.2.2.2.1, this.2.2.2.2.1⟩
        have HOne := Lib.hid hone
        have HFit := Lib.hid hfit
        have Hat := Lib.hid hat
        have Hall := Lib.hid hall
        have Hp := Lib.hid hp
        have Hst := Lib.hid hst
        have Hok := Lib.hid hok
        have Hiv := Lib.hid hiv
        have Hil := Lib.hid hil
        have HR := Lib.hid hR
        have KC : Hid (∀ u, Below wr.heap.size wr u → ∀ x v, wr.cell? x = some v → u.cell? x = some v) := Lib.hid (fun u hu x v h => (hu.cell (p := x) (World.block_lt_of_cell? wr _ h)).trans h)
        obtain ⟨nm, kd, wd⟩ := f
        unfold Fld.val at HOne
        simp only at c0 c1 c2 HOne g1 g5 g6 g7
        have HC := Lib.hid (And.intro c0 (And.intro c1 c2))
        clear hF hR hcell hl1 hat hav hf hfm hok2 hone hfit hall hp hst hok hiv hil c0 c1 c2
        go_upto_region 9 with fail
        go_cut [9] from 24 to 31 (fun xv wx => ∃ (g : Nat) (n' : Int) (a1 : Option Addr) (l1 c1' : Nat) (u' : Int), xv = .pointer (some ⟨g, 0, none⟩) ∧ wx.heap[g]? = some (.cells #[.int .i64 n', .slice a1 l1 c1', .int .i64 u', .int .i64 er] 131 (0, 0)) ∧ (er = 0 → n' = nn ∧ u' = st ∧ Own wx wr.heap.size (.slice a1 l1 c1') xb) ∧ Below wr.heap.size wr wx)
        case first =>
          by_cases hck : cap2 = p
          · have RD : Hid (Rd wr a2 (len2 - p) 0 (bs.drop p)) := Lib.hid (by rw [show len2 - p = 0 by omega, List.drop_eq_nil_of_le (by rw [Hl2.out]; omega)]; exact HR.out.cut0)
            have Hck := Lib.hid hck
            clear hck
            refine wp_region_held_drew (S := Below wr.heap.size wr) (by kernel_rfl) (Below.refl _ _).drew (fun _ => ?_)
            have HS : Hid (Below wr.heap.size wr wr.drew) := Lib.hid (Below.refl _ _).drew
            refine wpAnyH_take (i := 0) (v := .slice (some ⟨b, off, none⟩) len cap) rfl (by kernel_rfl) (by kernel_rfl) (by kernel_rfl) (fun _ _ _ h => h) (Or.inl ⟨by rfl, ?_⟩) HS.out ?_
            · intro u hu; go_simp
            go_simp
            refine wpAnyH_take (i := 1) (v := .int .i64 k) rfl (by kernel_rfl) (by kernel_rfl) (by kernel_rfl) (fun _ _ _ h => h) (Or.inl ⟨by rfl, ?_⟩) HS.out ?_
            · intro u hu; go_simp
            go_simp
            refine wpAnyH_take (i := 2) (v := .pointer (some ⟨b, off + k * 3, none⟩)) rfl (by kernel_rfl) (by kernel_rfl) (by kernel_rfl) (fun _ _ _ h => h) (Or.inl ⟨by rfl, ?_⟩) HS.out ?_
            · intro u hu; go_simp
            go_simp
            refine wpAnyH_take (i := 3) (v := .agg #[.string nm, .int .i64 kd, .int .i64 wd]) rfl (by kernel_rfl) (by kernel_rfl) (by kernel_rfl) (fun _ _ _ h => h) (Or.inl ⟨by rfl, ?_⟩) HS.out ?_
            · intro u hu; have q0 := KC.out u hu _ _ HC.out.1; have q1 := KC.out u hu _ _ HC.out.2.1; have q2 := KC.out u hu _ _ HC.out.2.2; go_simp
            go_simp
            refine wpAnyH_take (i := 4) (v := .slice a2 len2 cap2) rfl (by kernel_rfl) (by kernel_rfl) (by kernel_rfl) (fun _ _ _ h => h) (Or.inl ⟨by rfl, ?_⟩) HS.out ?_
            · intro u hu; go_simp
            go_simp
            refine wpAnyH_take (i := 5) (v := .int .i64 (p : Int)) rfl (by kernel_rfl) (by kernel_rfl) (by kernel_rfl) (fun _ _ _ h => h) (Or.inl ⟨by rfl, ?_⟩) HS.out ?_
            · intro u hu; go_simp
            go_simp
            refine wpAnyH_take (i := 6) (v := .slice a2 (len2 - p) 0) rfl (by kernel_rfl) (by kernel_rfl) (by kernel_rfl) (fun _ _ _ h => h) (Or.inl ⟨by rfl, ?_⟩) HS.out ?_
            · intro u hu; have hck := Hck.out; go_simp
            go_simp
            refine wpAnyH_ready (rs := [7, 8]) (by kernel_rfl) (by simp) ?_
            refine AllReadyH.cons rfl (fun K hK => ?_) (AllReadyH.cons rfl (fun K hK => ?_) AllReadyH.nil)
            · go_simp
              refine (HOne.out a2 0 _ (RD.out.below HS.out (Nat.le_refl _))).mono ?_
              rintro e w3 ⟨n', a1, l1, c1', u', rfl, ho, hb⟩
              have HS' : Hid (Below wr.heap.size wr w3) := Lib.hid (HS.out.trans (hb.mono HS.out.size))
              have HO3 : Hid (er = 0 → n' = nn ∧ u' = st ∧ Own w3 wr.heap.size (.slice a1 l1 c1') xb) := Lib.hid (fun he => ⟨(ho he).1, (ho he).2.1, (ho he).2.2.mono HS.out.size⟩)
              clear HS hb ho
              have HS := HS'
              clear HS'
              refine hK.out _ _ HS.out (fun _ => ?_)
              clear hK K
              refine wpAnyH_ready (rs := [8]) (by kernel_rfl) (by simp) ?_
              refine AllReadyH.cons rfl (fun K hK => ?_) AllReadyH.nil
              go_simp
              obtain ⟨w7, hw7⟩ : ∃ w7, w7 = w3.alloc (.cells #[.int .i64 0, .slice none 0 0, .int .i64 0, .int .i64 0] 131) := ⟨_, rfl⟩
              rw [← hw7]
              have HZ : Hid (w7.heap[w3.heap.size]? = some (.cells #[.int .i64 0, .slice none 0 0, .int .i64 0, .int .i64 0] 131 (0, 0))) := Lib.hid (by rw [hw7]; exact heap_alloc_last w3 _)
              have HO : Hid (er = 0 → n' = nn ∧ u' = st ∧ Own w7 wr.heap.size (.slice a1 l1 c1') xb) := Lib.hid (fun he => ⟨(HO3.out he).1, (HO3.out he).2.1, by rw [hw7]; exact (HO3.out he).2.2.alloc _⟩)
              have HS' : Hid (Below wr.heap.size wr w7) := Lib.hid (by rw [hw7]; exact HS.out.alloc HS.out.size _)
              have hgs : wr.heap.size ≤ w3.heap.size := HS.out.size
              clear HS hw7 HO3
              have HS := HS'
              clear HS'
              refine hK.out _ _ HS.out (fun _ => ?_)
              clear hK K
              refine wpAnyH_ready (rs := [9]) (by kernel_rfl) (by simp) ?_
              refine AllReadyH.cons rfl (fun K hK => ?_) AllReadyH.nil
              rw [if_pos (by rfl)]
              refine wp_store_row 131 (.tmp 9) (.tmp 31) rfl w3.heap.size #[.int .i64 n', .slice a1 l1 c1', .int .i64 u', .int .i64 er] rfl rfl 131 #[.int .i64 0, .slice none 0 0, .int .i64 0, .int .i64 0] HZ.out (Try.sizeGot _ _ _ _) rfl (oneGot _ _ _ _ _ _) ?_
              have HS' := HS.out.trans (below_setRow' _ wr.heap.size w3.heap.size #[.int .i64 n', .slice a1 l1 c1', .int .i64 u', .int .i64 er] hgs)
              have HZ8 := setRow_heap _ _ _ #[.int .i64 n', .slice a1 l1 c1', .int .i64 u', .int .i64 er] _ _ HZ.out
              have HO8 := fun (he : er = 0) => (And.intro (HO.out he).1 (And.intro (HO.out he).2.1 ((HO.out he).2.2.apart HZ.out (by decide) (fun k hk => setRow_other _ _ _ #[.int .i64 n', .slice a1 l1 c1', .int .i64 u', .int .i64 er] hk))))
              refine hK.out _ _ HS' (fun _ => ?_)
              clear hK K
              refine wpAnyH_done (by kernel_rfl) ?_ _
              go_wp2_with fail
              go_meet
              exact ⟨w3.heap.size, n', a1, l1, c1', u', rfl, HZ8, HO8, HS'⟩
            · go_simp
              obtain ⟨w7, hw7⟩ : ∃ w7, w7 = (wr.alloc (.cells #[.int .i64 0, .slice none 0 0, .int .i64 0, .int .i64 0] 131)).drew := ⟨_, rfl⟩
              rw [← hw7]
              have HZ0 : Hid (w7.heap[wr.heap.size]? = some (.cells #[.int .i64 0, .slice none 0 0, .int .i64 0, .int .i64 0] 131 (0, 0))) := Lib.hid (by rw [hw7]; exact heap_alloc_last wr _)
              have hs7 : wr.heap.size < w7.heap.size := by rw [hw7]; show wr.heap.size < (wr.alloc _).heap.size; simp
              have HS' : Hid (Below wr.heap.size wr w7) := Lib.hid (by rw [hw7]; exact ((Below.refl _ wr).alloc (Nat.le_refl _) _).drew)
              have hgs : wr.heap.size ≤ wr.heap.size := Nat.le_refl _
              clear HS hw7
              have HS := HS'
              clear HS'
              refine hK.out _ _ HS.out (fun _ => ?_)
              clear hK K
              refine wpAnyH_ready (rs := [7]) (by kernel_rfl) (by simp) ?_
              refine AllReadyH.cons rfl (fun K hK => ?_) AllReadyH.nil
              go_simp
              refine (HOne.out a2 0 _ (RD.out.below HS.out (Nat.le_refl _))).mono ?_
              rintro e w3 ⟨n', a1, l1, c1', u', rfl, ho, hb⟩
              have HZ : Hid (w3.heap[wr.heap.size]? = some (.cells #[.int .i64 0, .slice none 0 0, .int .i64 0, .int .i64 0] 131 (0, 0))) := Lib.hid ((hb.block _ hs7).trans HZ0.out)
              have HO : Hid (er = 0 → n' = nn ∧ u' = st ∧ Own w3 wr.heap.size (.slice a1 l1 c1') xb) := Lib.hid (fun he => ⟨(ho he).1, (ho he).2.1, (ho he).2.2.mono (by omega)⟩)
              have HS' : Hid (Below wr.heap.size wr w3) := Lib.hid (HS.out.trans (hb.mono HS.out.size))
              clear HS hb HZ0 ho
              have HS := HS'
              clear HS'
              refine hK.out _ _ HS.out (fun _ => ?_)
              clear hK K
              refine wpAnyH_ready (rs := [9]) (by kernel_rfl) (by simp) ?_
              refine AllReadyH.cons rfl (fun K hK => ?_) AllReadyH.nil
              rw [if_pos (by rfl)]
              refine wp_store_row 131 (.tmp 9) (.tmp 31) rfl wr.heap.size #[.int .i64 n', .slice a1 l1 c1', .int .i64 u', .int .i64 er] rfl rfl 131 #[.int .i64 0, .slice none 0 0, .int .i64 0, .int .i64 0] HZ.out (Try.sizeGot _ _ _ _) rfl (oneGot _ _ _ _ _ _) ?_
              have HS' := HS.out.trans (below_setRow' _ wr.heap.size wr.heap.size #[.int .i64 n', .slice a1 l1 c1', .int .i64 u', .int .i64 er] hgs)
              have HZ8 := setRow_heap _ _ _ #[.int .i64 n', .slice a1 l1 c1', .int .i64 u', .int .i64 er] _ _ HZ.out
              have HO8 := fun (he : er = 0) => (And.intro (HO.out he).1 (And.intro (HO.out he).2.1 ((HO.out he).2.2.apart HZ.out (by decide) (fun k hk => setRow_other _ _ _ #[.int .i64 n', .slice a1 l1 c1', .int .i64 u', .int .i64 er] hk))))
              refine hK.out _ _ HS' (fun _ => ?_)
              clear hK K
              refine wpAnyH_done (by kernel_rfl) ?_ _
              go_wp2_with fail
              go_meet
              exact ⟨wr.heap.size, n', a1, l1, c1', u', rfl, HZ8, HO8, HS'⟩
          · have hk1 : (p = cap2) = False := eq_false (fun e => hck e.symm)
            have RD : Hid (Rd wr (a2.map (fun x => x.add p)) (len2 - p) (cap2 - p) (bs.drop p)) := Lib.hid (by have := HR.out.cut2 p (len2 - p) (by omega); rw [List.take_of_length_le (by rw [List.length_drop, Hl2.out]; exact Nat.le_refl _)] at this; exact this)
            refine wp_region_held_drew (S := Below wr.heap.size wr) (by kernel_rfl) (Below.refl _ _).drew (fun _ => ?_)
            have HS : Hid (Below wr.heap.size wr wr.drew) := Lib.hid (Below.refl _ _).drew
            refine wpAnyH_take (i := 0) (v := .slice (some ⟨b, off, none⟩) len cap) rfl (by kernel_rfl) (by kernel_rfl) (by kernel_rfl) (fun _ _ _ h => h) (Or.inl ⟨by rfl, ?_⟩) HS.out ?_
            · intro u hu; go_simp
            go_simp
            refine wpAnyH_take (i := 1) (v := .int .i64 k) rfl (by kernel_rfl) (by kernel_rfl) (by kernel_rfl) (fun _ _ _ h => h) (Or.inl ⟨by rfl, ?_⟩) HS.out ?_
            · intro u hu; go_simp
            go_simp
            refine wpAnyH_take (i := 2) (v := .pointer (some ⟨b, off + k * 3, none⟩)) rfl (by kernel_rfl) (by kernel_rfl) (by kernel_rfl) (fun _ _ _ h => h) (Or.inl ⟨by rfl, ?_⟩) HS.out ?_
            · intro u hu; go_simp
            go_simp
            refine wpAnyH_take (i := 3) (v := .agg #[.string nm, .int .i64 kd, .int .i64 wd]) rfl (by kernel_rfl) (by kernel_rfl) (by kernel_rfl) (fun _ _ _ h => h) (Or.inl ⟨by rfl, ?_⟩) HS.out ?_
            · intro u hu; have q0 := KC.out u hu _ _ HC.out.1; have q1 := KC.out u hu _ _ HC.out.2.1; have q2 := KC.out u hu _ _ HC.out.2.2; go_simp
            go_simp
            refine wpAnyH_take (i := 4) (v := .slice a2 len2 cap2) rfl (by kernel_rfl) (by kernel_rfl) (by kernel_rfl) (fun _ _ _ h => h) (Or.inl ⟨by rfl, ?_⟩) HS.out ?_
            · intro u hu; go_simp
            go_simp
            refine wpAnyH_take (i := 5) (v := .int .i64 (p : Int)) rfl (by kernel_rfl) (by kernel_rfl) (by kernel_rfl) (fun _ _ _ h => h) (Or.inl ⟨by rfl, ?_⟩) HS.out ?_
            · intro u hu; go_simp
            go_simp
            refine wpAnyH_take (i := 6) (v := .slice (a2.map (fun x => x.add p)) (len2 - p) (cap2 - p)) rfl (by kernel_rfl) (by kernel_rfl) (by kernel_rfl) (fun _ _ _ h => h) (Or.inl ⟨by rfl, ?_⟩) HS.out ?_
            · intro u hu; go_simp
            go_simp
            refine wpAnyH_ready (rs := [7, 8]) (by kernel_rfl) (by simp) ?_
            refine AllReadyH.cons rfl (fun K hK => ?_) (AllReadyH.cons rfl (fun K hK => ?_) AllReadyH.nil)
            · go_simp
              refine (HOne.out (a2.map (fun x => x.add p)) (cap2 - p) _ (RD.out.below HS.out (Nat.le_refl _))).mono ?_
              rintro e w3 ⟨n', a1, l1, c1', u', rfl, ho, hb⟩
              have HS' : Hid (Below wr.heap.size wr w3) := Lib.hid (HS.out.trans (hb.mono HS.out.size))
              have HO3 : Hid (er = 0 → n' = nn ∧ u' = st ∧ Own w3 wr.heap.size (.slice a1 l1 c1') xb) := Lib.hid (fun he => ⟨(ho he).1, (ho he).2.1, (ho he).2.2.mono HS.out.size⟩)
              clear HS hb ho
              have HS := HS'
              clear HS'
              refine hK.out _ _ HS.out (fun _ => ?_)
              clear hK K
              refine wpAnyH_ready (rs := [8]) (by kernel_rfl) (by simp) ?_
              refine AllReadyH.cons rfl (fun K hK => ?_) AllReadyH.nil
              go_simp
              obtain ⟨w7, hw7⟩ : ∃ w7, w7 = w3.alloc (.cells #[.int .i64 0, .slice none 0 0, .int .i64 0, .int .i64 0] 131) := ⟨_, rfl⟩
              rw [← hw7]
              have HZ : Hid (w7.heap[w3.heap.size]? = some (.cells #[.int .i64 0, .slice none 0 0, .int .i64 0, .int .i64 0] 131 (0, 0))) := Lib.hid (by rw [hw7]; exact heap_alloc_last w3 _)
              have HO : Hid (er = 0 → n' = nn ∧ u' = st ∧ Own w7 wr.heap.size (.slice a1 l1 c1') xb) := Lib.hid (fun he => ⟨(HO3.out he).1, (HO3.out he).2.1, by rw [hw7]; exact (HO3.out he).2.2.alloc _⟩)
              have HS' : Hid (Below wr.heap.size wr w7) := Lib.hid (by rw [hw7]; exact HS.out.alloc HS.out.size _)
              have hgs : wr.heap.size ≤ w3.heap.size := HS.out.size
              clear HS hw7 HO3
              have HS := HS'
              clear HS'
              refine hK.out _ _ HS.out (fun _ => ?_)
              clear hK K
              refine wpAnyH_ready (rs := [9]) (by kernel_rfl) (by simp) ?_
              refine AllReadyH.cons rfl (fun K hK => ?_) AllReadyH.nil
              rw [if_pos (by rfl)]
              refine wp_store_row 131 (.tmp 9) (.tmp 31) rfl w3.heap.size #[.int .i64 n', .slice a1 l1 c1', .int .i64 u', .int .i64 er] rfl rfl 131 #[.int .i64 0, .slice none 0 0, .int .i64 0, .int .i64 0] HZ.out (Try.sizeGot _ _ _ _) rfl (oneGot _ _ _ _ _ _) ?_
              have HS' := HS.out.trans (below_setRow' _ wr.heap.size w3.heap.size #[.int .i64 n', .slice a1 l1 c1', .int .i64 u', .int .i64 er] hgs)
              have HZ8 := setRow_heap _ _ _ #[.int .i64 n', .slice a1 l1 c1', .int .i64 u', .int .i64 er] _ _ HZ.out
              have HO8 := fun (he : er = 0) => (And.intro (HO.out he).1 (And.intro (HO.out he).2.1 ((HO.out he).2.2.apart HZ.out (by decide) (fun k hk => setRow_other _ _ _ #[.int .i64 n', .slice a1 l1 c1', .int .i64 u', .int .i64 er] hk))))
              refine hK.out _ _ HS' (fun _ => ?_)
              clear hK K
              refine wpAnyH_done (by kernel_rfl) ?_ _
              go_wp2_with fail
              go_meet
              exact ⟨w3.heap.size, n', a1, l1, c1', u', rfl, HZ8, HO8, HS'⟩
            · go_simp
              obtain ⟨w7, hw7⟩ : ∃ w7, w7 = (wr.alloc (.cells #[.int .i64 0, .slice none 0 0, .int .i64 0, .int .i64 0] 131)).drew := ⟨_, rfl⟩
              rw [← hw7]
              have HZ0 : Hid (w7.heap[wr.heap.size]? = some (.cells #[.int .i64 0, .slice none 0 0, .int .i64 0, .int .i64 0] 131 (0, 0))) := Lib.hid (by rw [hw7]; exact heap_alloc_last wr _)
              have hs7 : wr.heap.size < w7.heap.size := by rw [hw7]; show wr.heap.size < (wr.alloc _).heap.size; simp
              have HS' : Hid (Below wr.heap.size wr w7) := Lib.hid (by rw [hw7]; exact ((Below.refl _ wr).alloc (Nat.le_refl _) _).drew)
              have hgs : wr.heap.size ≤ wr.heap.size := Nat.le_refl _
              clear HS hw7
              have HS := HS'
              clear HS'
              refine hK.out _ _ HS.out (fun _ => ?_)
              clear hK K
              refine wpAnyH_ready (rs := [7]) (by kernel_rfl) (by simp) ?_
              refine AllReadyH.cons rfl (fun K hK => ?_) AllReadyH.nil
              go_simp
              refine (HOne.out (a2.map (fun x => x.add p)) (cap2 - p) _ (RD.out.below HS.out (Nat.le_refl _))).mono ?_
              rintro e w3 ⟨n', a1, l1, c1', u', rfl, ho, hb⟩
              have HZ : Hid (w3.heap[wr.heap.size]? = some (.cells #[.int .i64 0, .slice none 0 0, .int .i64 0, .int .i64 0] 131 (0, 0))) := Lib.hid ((hb.block _ hs7).trans HZ0.out)
              have HO : Hid (er = 0 → n' = nn ∧ u' = st ∧ Own w3 wr.heap.size (.slice a1 l1 c1') xb) := Lib.hid (fun he => ⟨(ho he).1, (ho he).2.1, (ho he).2.2.mono (by omega)⟩)
              have HS' : Hid (Below wr.heap.size wr w3) := Lib.hid (HS.out.trans (hb.mono HS.out.size))
              clear HS hb HZ0 ho
              have HS := HS'
              clear HS'
              refine hK.out _ _ HS.out (fun _ => ?_)
              clear hK K
              refine wpAnyH_ready (rs := [9]) (by kernel_rfl) (by simp) ?_
              refine AllReadyH.cons rfl (fun K hK => ?_) AllReadyH.nil
              rw [if_pos (by rfl)]
              refine wp_store_row 131 (.tmp 9) (.tmp 31) rfl wr.heap.size #[.int .i64 n', .slice a1 l1 c1', .int .i64 u', .int .i64 er] rfl rfl 131 #[.int .i64 0, .slice none 0 0, .int .i64 0, .int .i64 0] HZ.out (Try.sizeGot _ _ _ _) rfl (oneGot _ _ _ _ _ _) ?_
              have HS' := HS.out.trans (below_setRow' _ wr.heap.size wr.heap.size #[.int .i64 n', .slice a1 l1 c1', .int .i64 u', .int .i64 er] hgs)
              have HZ8 := setRow_heap _ _ _ #[.int .i64 n', .slice a1 l1 c1', .int .i64 u', .int .i64 er] _ _ HZ.out
              have HO8 := fun (he : er = 0) => (And.intro (HO.out he).1 (And.intro (HO.out he).2.1 ((HO.out he).2.2.apart HZ.out (by decide) (fun k hk => setRow_other _ _ _ #[.int .i64 n', .slice a1 l1 c1', .int .i64 u', .int .i64 er] hk))))
              refine hK.out _ _ HS' (fun _ => ?_)
              clear hK K
              refine wpAnyH_done (by kernel_rfl) ?_ _
              go_wp2_with fail
              go_meet
              exact ⟨wr.heap.size, n', a1, l1, c1', u', rfl, HZ8, HO8, HS'⟩
        case rest =>
          obtain ⟨g, n', a1, l1, c1', u', rfl, hg, hown, hbc⟩ := hcut
          have e0 : wc.cell? ⟨g, 0, none⟩ = some (.int .i64 n') := by rw [cell_of_row _ _ _ _ _ _ hg]; rfl
          have e1 : wc.cell? ⟨g, 1, none⟩ = some (.slice a1 l1 c1') := by rw [cell_of_row _ _ _ _ _ _ hg]; rfl
          have e2 : wc.cell? ⟨g, 2, none⟩ = some (.int .i64 u') := by rw [cell_of_row _ _ _ _ _ _ hg]; rfl
          have e3 : wc.cell? ⟨g, 3, none⟩ = some (.int .i64 er) := by rw [cell_of_row _ _ _ _ _ _ hg]; rfl
          have Hsc := Lib.hid (Hst.out.alloc hbc)
          have HG := Lib.hid hg
          have Hown := Lib.hid hown
          have Hbc := Lib.hid hbc
          clear hg hown hbc HOne HR HC KC
          by_cases her : er = 0
          · subst her
            have hz : ((0 : Int) != 0) = false := by simp
            obtain ⟨h1, h2, h3⟩ := Hown.out rfl
            subst h1
            subst h2
            obtain ⟨f1, f2, f3⟩ := HFit.out rfl
            have HO := Lib.hid h3
            have hpw : IntKind.i64.wrap ((p : Int) + st) = (p : Int) + st := by rw [IntKind.wrap_i64]; omega
            have a0 : wc.cell? ⟨G, 0, none⟩ = some (.slice x0 l0 y0) := by rw [cell_of_row _ _ _ _ _ _ Hsc.out.acc]; rfl
            have hGl : G < wc.heap.size := (Array.getElem?_eq_some_iff.1 Hsc.out.acc).1
            have HBL : Hid (((List.range (k + 1)).map fun j => (posV fs bs j : Int)).length = k + 1) := Lib.hid (by simp)
            have hwB : w.heap.size ≤ wc.heap.size := Hsc.out.below.size
            have HDD := Lib.hid (info_parts Try.infoD)
            have HII := Lib.hid (info_parts Try.infoI)
            clear h3 Hown HFit
            go_upto_region 13 with fail
            go_upto_region 14 with (obtain ⟨i0, hi, hz0, hz1, hz2⟩ := HDD.out; refine wpList_append_lies _ rfl _ _ 50 rfl w.heap.size 52 i0 (.agg #[.int .i64 0, .slice none 0 0]) 2 32 Try.underlying50 hi hz0 hz1 hz2 rfl (by decide) (.slice x0 l0 y0) items.length (itemCells items) rfl (Hsc.out.row0.alloc _) ⟨wc.heap.size, 0, none⟩ 1 1 [.int .i64 n', .slice a1 l1 c1'] rfl rfl (World.news_of_block (cs := #[.int .i64 n', .slice a1 l1 c1']) (t := 52) (fr := (0, 0)) (heap_alloc_new wc _)) (by simp [Value.oneCell']) (by omega) (by have := Hil.out; unfold maxLen; omega) (by have := Hil.out; omega) (by simp; omega) (wc.heap.size + 1) (by simp) ?_; clear hi hz0 hz1 hz2; intro gg cp w3 hown hgrow hatg hltg; have hm0 := Hsc.out.mid0 hown hgrow; have hG3 := hm0.1.block _ _ _ _ Hsc.out.acc (by decide); have q1 : w3.cell? ⟨G, 0, none⟩ = some (.slice x0 l0 y0) := (by rw [cell_of_row _ _ _ _ _ _ hG3]; rfl); have q2 := frozen_of_row w3 G 0 _ _ hG3; have HS4 := Lib.hid (Hsc.out.item (x := ⟨n', a1, l1, c1', xb⟩) (HO.out.mono Hst.out.below.size) hown hgrow))
            obtain ⟨W4, hW4⟩ : ∃ W4, W4 = w3.setCell ⟨G, 0, none⟩ (.slice (some ⟨gg, 0, none⟩) (items.length + 1) cp) := ⟨_, rfl⟩
            have HS5 := HS4.out
            rw [← hW4] at HS5 ⊢
            have b1 : W4.cell? ⟨G, 1, none⟩ = some (.slice x1 m1 y1) := by rw [cell_of_row _ _ _ _ _ _ HS5.acc]; rfl
            have hw4 : w.heap.size ≤ W4.heap.size := HS5.below.size
            have Hs4 := Lib.hid HS5
            clear HS5 HS4 hW4 q1 q2 a0 e0 e1 e2 e3
            go_wp2_with (obtain ⟨i0, hi, hz0, hz1, hz2⟩ := HII.out; refine wpList_append_lies _ rfl _ _ 63 rfl w.heap.size 3 i0 (.int .i64 0) 1 8 Try.underlying63 hi hz0 hz1 hz2 rfl (by decide) (.slice x1 m1 y1) ((List.range (k + 1)).map fun j => (posV fs bs j : Int)).length _ rfl (Hs4.out.row1.alloc _) ⟨W4.heap.size, 0, none⟩ 1 1 [.int .i64 ((p : Int) + st)] rfl rfl (World.news_of_block (cs := #[.int .i64 ((p : Int) + st)]) (t := 3) (fr := (0, 0)) (heap_alloc_new W4 _)) (by simp [Value.oneCell']) (by omega) (by unfold maxLen; rw [List.length_map, List.length_range]; omega) (by rw [List.length_map, List.length_range]; omega) (by simp; omega) (W4.heap.size + 1) (by simp) ?_; clear hi hz0 hz1 hz2; intro g2 cp2 w5 hown hgrow hatg hltg; rw [HBL.out] at hown; have hm0 := Hs4.out.mid1 hown hgrow; have hG3 := hm0.1.block _ _ _ _ Hs4.out.acc (by decide); have q1 : w5.cell? ⟨G, 1, none⟩ = some (.slice x1 m1 y1) := (by rw [cell_of_row _ _ _ _ _ _ hG3]; rfl); have q2 := frozen_of_row w5 G 1 _ _ hG3; have HS6 := Lib.hid (Hs4.out.bound (by rw [HBL.out]; exact hown) hgrow))
            go_roundw
            case rel =>
              refine ⟨k + 1, items ++ [⟨n', a1, l1, c1', xb⟩], .slice (some ⟨gg, 0, none⟩) (items.length + 1) cp, .slice (some ⟨g2, 0, none⟩) (k + 1 + 1) cp2, by omega, by go_num, by rw [Hat.out, Int.natCast_add], by rw [Hat.out]; exact f1, fun j hj => ?_, by simp [Hil.out], by rw [List.map_append, Hiv.out, List.range_succ, List.map_append, List.map_singleton, List.map_singleton, Hall.out], ?_⟩
              · by_cases e : j = k
                · subst e; rw [Hall.out]
                · exact Hok.out j (by omega)
              · rw [List.range_succ, List.map_append, List.map_singleton, Hat.out, Int.natCast_add]
                exact HS6.out
            case measure => simp [intOf]; omega
          · have hne2 : (er != 0) = true := by simpa using her
            have HEr : Hid (errV fs bs = er) := Lib.hid (errV_at Hch.out (by rw [Hl.out]; exact hlt) Hok.out (by rw [Hall.out]) her)
            have Her := Lib.hid her
            clear her
            go_wp2_with (refine wpList_store_row rfl 65 (.tmp 4) (.tmp 37) rfl w.heap.size #[.slice none 0 0, .slice none 0 0, .int .i64 er] rfl rfl 65 #[.slice none 0 0, .slice none 0 0, .int .i64 0] Hsc.out.res (Try.sizeItems _ _ _) rfl (oneItems _ _ _ _ _ _ _) ?_)
            refine bodyPost_ret (v := .agg #[.slice none 0 0, .slice none 0 0, .int .i64 er]) ?_ rfl (UnpackPost.no HEr.out Her.out (Hsc.out.below.trans (below_setRow' _ _ _ _ (Nat.le_refl _))))
            exact results_cell_row rfl _ _ w.heap.size 65 #[.slice none 0 0, .slice none 0 0, .int .i64 er] (0, 0) _ rfl (setRow_heap _ _ _ _ _ _ Hsc.out.res) Try.underlying65 rfl (Try.sizeItems _ _ _)
      · obtain rfl : k = len := by omega
        have b0 : wr.cell? ⟨G, 0, none⟩ = some (.slice x0 l0 y0) := by rw [cell_of_row _ _ _ _ _ _ hst.acc]; rfl
        have b1 : wr.cell? ⟨G, 1, none⟩ = some (.slice x1 m1 y1) := by rw [cell_of_row _ _ _ _ _ _ hst.acc]; rfl
        have b2 : wr.cell? ⟨G, 2, none⟩ = some (.int .i64 0) := by rw [cell_of_row _ _ _ _ _ _ hst.acc]; rfl
        have HE : Hid (errV fs bs = 0) := Lib.hid (errV_zero Hch.out (by rw [Hl.out]; exact hok))
        have Hst := Lib.hid hst
        have Hiv := Lib.hid hiv
        have Hil := Lib.hid hil
        clear hst hiv hil hok
        go_wp2_with (refine wpList_store_row rfl 65 (.tmp 4) (.tmp 55) rfl w.heap.size #[.slice x0 l0 y0, .slice x1 m1 y1, .int .i64 0] rfl rfl 65 #[.slice none 0 0, .slice none 0 0, .int .i64 0] Hst.out.res (Try.sizeItems _ _ _) rfl (oneItems _ _ _ _ _ _ _) ?_)
        have o : Only [65] wr (wr.setRow w.heap.size #[.slice x0 l0 y0, .slice x1 m1 y1, .int .i64 0]) := Only.setR Hst.out.res _ (by simp)
        have hr0 := o.row Hst.out.row0 (by decide)
        have hr1 := o.row Hst.out.row1 (by decide)
        rw [Hil.out] at hr0
        rw [List.length_map, List.length_range, List.map_map] at hr1
        refine bodyPost_ret (v := .agg #[.slice x0 l0 y0, .slice x1 m1 y1, .int .i64 0]) ?_ rfl ⟨_, _, by rw [HE.out], Hst.out.below.trans (below_setRow' _ _ _ _ (Nat.le_refl _)), fun hne => absurd HE.out hne, fun _ => ⟨items, hr0, hr1, Hil.out, Hiv.out, fun x hx => o.own (Hst.out.own x hx) (by decide)⟩⟩
        exact results_cell_row rfl _ _ w.heap.size 65 #[.slice x0 l0 y0, .slice x1 m1 y1, .int .i64 0] (0, 0) _ rfl (setRow_heap _ _ _ _ _ _ Hst.out.res) Try.underlying65 rfl (Try.sizeItems _ _ _)
  · have hc1 : checkV fs = 1 := by rcases checkV_01 fs with h | h; exact absurd h hch; exact h
    have hv : errV fs bs = 1 := by unfold errV; rw [if_pos hch, hc1]
    rw [hc1]
    have Hv := Lib.hid hv
    clear hch hc1 hv
    go_wp2_with (refine wpList_store_row rfl 65 (.tmp 4) (.tmp 15) rfl w.heap.size #[.slice none 0 0, .slice none 0 0, .int .i64 1] rfl rfl 65 #[.slice none 0 0, .slice none 0 0, .int .i64 0] H41.out (Try.sizeItems _ _ _) rfl (oneItems _ _ _ _ _ _ _) ?_)
    refine bodyPost_ret (v := .agg #[.slice none 0 0, .slice none 0 0, .int .i64 1]) ?_ rfl (UnpackPost.no Hv.out (by decide) (Hb1.out.trans (below_setRow' _ _ _ _ (Nat.le_refl _))))
    exact results_cell_row rfl _ _ w.heap.size 65 #[.slice none 0 0, .slice none 0 0, .int .i64 1] (0, 0) _ rfl (setRow_heap _ _ _ _ _ _ H41.out) Try.underlying65 rfl (Try.sizeItems _ _ _)
end Go.Proofs.Ytmfijcniaehooaa

/- The reference's Where. -/
namespace Go.Proofs.Ytmfijcniaehooaa
set_option linter.unusedVariables false
open Go.RowKit

theorem Try.sizeSpan (u v x : Value) : (Try.prog.info? 70).map (·.size) = some (#[u, v, x] : Array Value).size := by kernel_rfl
theorem oneSpan (x y z : Int) : (#[.int .i64 x, .int .i64 y, .int .i64 z] : Array Value).all (fun x => x.oneCell') = true := by kernel_rfl
/-- What the reference's Where answers. -/
def spanV (fs : List Fld) (bs : List Int) (i : Int) : Int × Int × Int :=
  if errV fs bs ≠ 0 then (0, 0, errV fs bs) else if i < 0 ∨ (fs.length : Int) ≤ i then (0, 0, 1) else (posV fs bs i.toNat, posV fs bs (i.toNat + 1), 0)
def SpanPost (t : Int × Int × Int) (w : World) (e : Ending) (w' : World) : Prop := e = .returned (.agg #[.int .i64 t.1, .int .i64 t.2.1, .int .i64 t.2.2]) ∧ Below w.heap.size w w'
set_option maxRecDepth 100000 in
set_option maxHeartbeats 4000000 in
theorem refWhere_any (a : Option Addr) (len cap : Nat) (fs : List Fld) (w : World) (h : RdF w a len cap fs) (a2 : Option Addr) (len2 cap2 : Nat) (bs : List Int) (h2 : Rd w a2 len2 cap2 bs) (hbig : len2 ≤ 140737488355328) (i : Int) (hi1 : -9223372036854775808 ≤ i) (hi2 : i ≤ 9223372036854775807) :
    Calls Try.prog 48 #[.slice a len cap, .slice a2 len2 cap2, .int .i64 i] w (SpanPost (spanV fs bs i) w) := by
  have hm := h.hm
  have hc := h.hc
  have hl := h.hl
  unfold maxLen at hm
  obtain ⟨W0, hW0⟩ : ∃ W0, W0 = w.alloc (.cells #[.int .i64 0, .int .i64 0, .int .i64 0] 70) := ⟨_, rfl⟩
  have hs0 : W0.heap.size = w.heap.size + 1 := by rw [hW0]; simp
  have h60 : W0.heap[w.heap.size]? = some (.cells #[.int .i64 0, .int .i64 0, .int .i64 0] 70 (0, 0)) := by rw [hW0, heap_alloc_last]
  have hb0 : Below w.heap.size w W0 := by rw [hW0]; exact (Below.refl _ w).alloc (Nat.le_refl _) _
  have HF0 := Lib.hid (h.below hb0 (Nat.le_refl _))
  have HR0 := Lib.hid (h2.below hb0 (Nat.le_refl _))
  have HW0 := Lib.hid hW0
  have H60 := Lib.hid h60
  have Hb0 := Lib.hid hb0
  have Hs0 := Lib.hid hs0
  have Hl := Lib.hid hl
  clear h h2 hW0 hs0 h60 hb0 hl
  go_enter Try.func48, Try.ntmps48
  go_upto_region 1 with fail
  rw [← HW0.out]
  clear HW0
  go_wp2_with fail
  refine (refUnpack_any _ _ _ fs W0 HF0.out _ _ _ bs HR0.out hbig).mono ?_
  rintro e w1 ⟨v0, v1, rfl, hb1, hno, hok⟩
  by_cases hE : errV fs bs = 0
  · obtain ⟨items, r0, r1, hil, hiv, hown⟩ := hok hE
    obtain ⟨x0, l0, y0, rfl⟩ := row_slice r0
    obtain ⟨g1, c1, rfl, hc1⟩ : ∃ g1 c1, v1 = .slice (some ⟨g1, 0, none⟩) (len + 1) c1 ∧ len + 1 ≤ c1 ∧ c1 ≤ 9223372036854775807 := by
      rcases r1.2 with ⟨_, h0⟩ | ⟨g, cp, cur, rfl, _, _, hn, hcm, _⟩
      · omega
      · exact ⟨g, cp, rfl, hn, by unfold maxLen at hcm; omega⟩
    have hcell : ∀ j, j < len + 1 → w1.cell? ⟨g1, j, none⟩ = some (.int .i64 (posV fs bs j : Nat)) := by
      intro j hj
      have := r1.cellAt j (by simp; omega)
      rw [this]; simp
      exact ⟨j, List.getElem?_range hj, rfl⟩
    rw [hE]
    obtain ⟨hc1a, hc1b⟩ := hc1
    obtain ⟨W3, hW3⟩ : ∃ W3, W3 = w1.alloc (.cells #[.slice x0 l0 y0, .slice (some ⟨g1, 0, none⟩) (len + 1) c1, .int .i64 0] 65) := ⟨_, rfl⟩
    have hg : W3.heap[w1.heap.size]? = some (.cells #[.slice x0 l0 y0, .slice (some ⟨g1, 0, none⟩) (len + 1) c1, .int .i64 0] 65 (0, 0)) := by rw [hW3]; exact heap_alloc_last w1 _
    have hb3 : Below w1.heap.size w1 W3 := by rw [hW3]; exact (Below.refl _ w1).alloc (Nat.le_refl _) _
    have hs1 : w.heap.size + 1 ≤ w1.heap.size := by have := hb1.size; rw [Hs0.out] at this; exact this
    have e1 : W3.cell? ⟨w1.heap.size, 1, none⟩ = some (.slice (some ⟨g1, 0, none⟩) (len + 1) c1) := by rw [cell_of_row _ _ _ _ _ _ hg]; rfl
    have e2 : W3.cell? ⟨w1.heap.size, 2, none⟩ = some (.int .i64 0) := by rw [cell_of_row _ _ _ _ _ _ hg]; rfl
    have hg1 : ∀ j, j < len + 1 → W3.cell? ⟨g1, j, none⟩ = some (.int .i64 (posV fs bs j : Nat)) := fun j hj => (hb3.cell (World.block_lt_of_cell? w1 _ (hcell j hj))).trans (hcell j hj)
    have H63 := Lib.hid ((hb3.block _ (by omega)).trans ((hb1.block _ (by rw [Hs0.out]; omega)).trans H60.out))
    have Hb3 := Lib.hid (Hb0.out.trans ((hb1.mono Hb0.out.size).trans (hb3.mono (by omega))))
    have HW3 := Lib.hid hW3
    have HG1 := Lib.hid hg1
    have HE := Lib.hid hE
    have hz : ((0 : Int) != 0) = false := by simp
    clear r0 r1 hil hiv hown hcell hW3 hg hb3 hb1 hno hok hg1 H60 Hb0 HF0 HR0 hE
    go_upto_region 2 with fail
    rw [← HW3.out]
    clear HW3
    by_cases hin : i < 0 ∨ (len : Int) ≤ i
    · have HV : Hid (spanV fs bs i = (0, 0, 1)) := Lib.hid (by unfold spanV; rw [if_neg (by simp [HE.out]), if_pos (by rw [Hl.out]; exact hin)])
      by_cases hneg : i < 0
      · clear hin
        go_wp2_with (refine wpList_store_row rfl 70 (.tmp 6) (.tmp 25) rfl w.heap.size #[.int .i64 0, .int .i64 0, .int .i64 1] rfl rfl 70 #[.int .i64 0, .int .i64 0, .int .i64 0] H63.out (Try.sizeSpan _ _ _) rfl (oneSpan _ _ _) ?_)
        refine bodyPost_ret (v := .agg #[.int .i64 0, .int .i64 0, .int .i64 1]) ?_ rfl (by unfold SpanPost; rw [HV.out]; exact ⟨rfl, Hb3.out.trans (below_setRow' _ _ _ _ (Nat.le_refl _))⟩)
        exact results_cell_row rfl _ _ w.heap.size 70 #[.int .i64 0, .int .i64 0, .int .i64 1] (0, 0) _ rfl (setRow_heap _ _ _ _ _ _ H63.out) Try.underlying70 rfl (Try.sizeSpan _ _ _)
      · have hge : (len : Int) ≤ i := by omega
        clear hin
        go_wp2_with (refine wpList_store_row rfl 70 (.tmp 6) (.tmp 25) rfl w.heap.size #[.int .i64 0, .int .i64 0, .int .i64 1] rfl rfl 70 #[.int .i64 0, .int .i64 0, .int .i64 0] H63.out (Try.sizeSpan _ _ _) rfl (oneSpan _ _ _) ?_)
        refine bodyPost_ret (v := .agg #[.int .i64 0, .int .i64 0, .int .i64 1]) ?_ rfl (by unfold SpanPost; rw [HV.out]; exact ⟨rfl, Hb3.out.trans (below_setRow' _ _ _ _ (Nat.le_refl _))⟩)
        exact results_cell_row rfl _ _ w.heap.size 70 #[.int .i64 0, .int .i64 0, .int .i64 1] (0, 0) _ rfl (setRow_heap _ _ _ _ _ _ H63.out) Try.underlying70 rfl (Try.sizeSpan _ _ _)
    · have hneg : ¬ i < 0 := by omega
      have hge : ¬ (len : Int) ≤ i := by omega
      have HV : Hid (spanV fs bs i = (((posV fs bs i.toNat : Nat) : Int), ((posV fs bs (i.toNat + 1) : Nat) : Int), 0)) := Lib.hid (by unfold spanV; rw [if_neg (by simp [HE.out]), if_neg (by rw [Hl.out]; exact hin)])
      obtain ⟨n, rfl⟩ := Int.eq_ofNat_of_zero_le (show 0 ≤ i by omega)
      have hn : n < len := by omega
      have hv := HV.out
      rw [Int.toNat_natCast] at hv
      have q0 := HG1.out n (by omega)
      have q1 := HG1.out (n + 1) (by omega)
      obtain ⟨p0, hp0⟩ : ∃ p, p = posV fs bs n := ⟨_, rfl⟩
      obtain ⟨p1, hp1⟩ : ∃ p, p = posV fs bs (n + 1) := ⟨_, rfl⟩
      rw [← hp0] at q0 hv
      rw [← hp1] at q1 hv
      have HV2 := Lib.hid hv
      have hwr : IntKind.i64.wrap ((n : Int) + 1) = (n : Int) + 1 := by rw [IntKind.wrap_i64]; omega
      have n1 : n < len + 1 := by omega
      have n2 : (n : Int) < (len : Int) + 1 := by omega
      have n3 : (n : Int) + 1 < (len : Int) + 1 := by omega
      have n4 : ((n : Int) + 1).toNat = n + 1 := by omega
      have n5 : (0 : Int) ≤ (n : Int) + 1 := by omega
      have n6 : (0 : Int) ≤ (n : Int) := by omega
      have n7 : n + 1 < len + 1 := by omega
      have n8 : ¬ ((len : Int) + 1 ≤ (n : Int)) := by omega
      clear hin HV HG1 hp0 hp1 hv
      go_upto_region 6 with fail
      go_still_tail 12, (by kernel_rfl)
      change wpList _ _ _ _ _ W3.drew
      go_wp2_with (refine wpList_store_row rfl 70 (.tmp 6) (.tmp 37) rfl w.heap.size #[.int .i64 p0, .int .i64 p1, .int .i64 0] rfl rfl 70 #[.int .i64 0, .int .i64 0, .int .i64 0] H63.out (Try.sizeSpan _ _ _) rfl (oneSpan _ _ _) ?_)
      refine bodyPost_ret (v := .agg #[.int .i64 p0, .int .i64 p1, .int .i64 0]) ?_ rfl (by unfold SpanPost; rw [HV2.out]; exact ⟨rfl, Hb3.out.drew.trans (below_setRow' _ _ _ _ (Nat.le_refl _))⟩)
      exact results_cell_row rfl _ _ w.heap.size 70 #[.int .i64 p0, .int .i64 p1, .int .i64 0] (0, 0) _ rfl (setRow_heap _ _ _ _ _ _ H63.out) Try.underlying70 rfl (Try.sizeSpan _ _ _)
  · obtain ⟨rfl, rfl⟩ := hno hE
    have hV : spanV fs bs i = (0, 0, errV fs bs) := by unfold spanV; rw [if_pos hE]
    obtain ⟨er, her⟩ : ∃ er, er = errV fs bs := ⟨_, rfl⟩
    rw [← her] at hE hV ⊢
    have HV := Lib.hid hV
    obtain ⟨W3, hW3⟩ : ∃ W3, W3 = w1.alloc (.cells #[.slice none 0 0, .slice none 0 0, .int .i64 er] 65) := ⟨_, rfl⟩
    have hg : W3.heap[w1.heap.size]? = some (.cells #[.slice none 0 0, .slice none 0 0, .int .i64 er] 65 (0, 0)) := by rw [hW3]; exact heap_alloc_last w1 _
    have hb3 : Below w1.heap.size w1 W3 := by rw [hW3]; exact (Below.refl _ w1).alloc (Nat.le_refl _) _
    have hs1 : w.heap.size + 1 ≤ w1.heap.size := by have := hb1.size; rw [Hs0.out] at this; exact this
    have e2 : W3.cell? ⟨w1.heap.size, 2, none⟩ = some (.int .i64 er) := by rw [cell_of_row _ _ _ _ _ _ hg]; rfl
    have H63 := Lib.hid ((hb3.block _ (by omega)).trans ((hb1.block _ (by rw [Hs0.out]; omega)).trans H60.out))
    have Hb3 := Lib.hid (Hb0.out.trans ((hb1.mono Hb0.out.size).trans (hb3.mono (by omega))))
    have HW3 := Lib.hid hW3
    have hne2 : (er != 0) = true := by simpa using hE
    clear hW3 hg hb3 hb1 hno hok H60 Hb0 HF0 HR0 hE hV her
    go_upto_region 2 with fail
    rw [← HW3.out]
    clear HW3
    go_wp2_with (refine wpList_store_row rfl 70 (.tmp 6) (.tmp 16) rfl w.heap.size #[.int .i64 0, .int .i64 0, .int .i64 er] rfl rfl 70 #[.int .i64 0, .int .i64 0, .int .i64 0] H63.out (Try.sizeSpan _ _ _) rfl (oneSpan _ _ _) ?_)
    refine bodyPost_ret (v := .agg #[.int .i64 0, .int .i64 0, .int .i64 er]) ?_ rfl (by unfold SpanPost; rw [HV.out]; exact ⟨rfl, Hb3.out.trans (below_setRow' _ _ _ _ (Nat.le_refl _))⟩)
    exact results_cell_row rfl _ _ w.heap.size 70 #[.int .i64 0, .int .i64 0, .int .i64 er] (0, 0) _ rfl (setRow_heap _ _ _ _ _ _ H63.out) Try.underlying70 rfl (Try.sizeSpan _ _ _)
end Go.Proofs.Ytmfijcniaehooaa

/- The reference's Patch: what is refused. -/
namespace Go.Proofs.Ytmfijcniaehooaa
set_option linter.unusedVariables false
open Go.RowKit

set_option maxRecDepth 100000 in
set_option maxHeartbeats 4000000 in
theorem refPatch_no (a : Option Addr) (len cap : Nat) (fs : List Fld) (w : World) (h : RdF w a len cap fs) (a2 : Option Addr) (len2 cap2 : Nat) (bs : List Int) (h2 : Rd w a2 len2 cap2 bs) (hbig : len2 ≤ 140737488355328) (i : Int) (hi1 : -9223372036854775808 ≤ i) (hi2 : i ≤ 9223372036854775807) (x : Itm) (p0 p1 er : Int) (hsp : spanV fs bs i = (p0, p1, er)) (her : er ≠ 0) :
    Calls Try.prog 50 #[.slice a len cap, .slice a2 len2 cap2, .int .i64 i, .agg #[.int .i64 x.n, .slice x.a x.len x.cap]] w (RawPost [] er w) := by
  obtain ⟨W0, hW0⟩ : ∃ W0, W0 = (w.alloc (.cells #[.int .i64 x.n, .slice x.a x.len x.cap] 52)).alloc (.cells #[.slice none 0 0, .int .i64 0, .int .i64 0] 28) := ⟨_, rfl⟩
  have hs0 : W0.heap.size = w.heap.size + 2 := by rw [hW0]; simp
  have h7 : W0.heap[w.heap.size]? = some (.cells #[.int .i64 x.n, .slice x.a x.len x.cap] 52 (0, 0)) := by rw [hW0, heap_alloc_old _ _ _ (by simp), heap_alloc_last]
  have h8 : W0.heap[w.heap.size + 1]? = some (.cells #[.slice none 0 0, .int .i64 0, .int .i64 0] 28 (0, 0)) := by
    rw [hW0]; have := heap_alloc_last (w.alloc (.cells #[.int .i64 x.n, .slice x.a x.len x.cap] 52)) (.cells #[.slice none 0 0, .int .i64 0, .int .i64 0] 28); simpa using this
  have hb0 : Below w.heap.size w W0 := by rw [hW0]; exact ((Below.refl _ w).alloc (Nat.le_refl _) _).alloc (by simp) _
  have HF0 := Lib.hid (h.below hb0 (Nat.le_refl _))
  have HR0 := Lib.hid (h2.below hb0 (Nat.le_refl _))
  have HW0 := Lib.hid hW0
  have H70 := Lib.hid h7
  have H80 := Lib.hid h8
  have Hb0 := Lib.hid hb0
  have Hs0 := Lib.hid hs0
  have HF := Lib.hid h
  clear h h2 hW0 hs0 h7 h8 hb0
  go_enter Try.func50, Try.ntmps50
  go_upto_region 1 with fail
  rw [← HW0.out]
  clear HW0
  go_wp2_with fail
  refine (refWhere_any _ _ _ fs W0 HF0.out _ _ _ bs HR0.out hbig _ hi1 hi2).mono ?_
  rintro e w1 ⟨rfl, hb1⟩
  rw [hsp]
  obtain ⟨W3, hW3⟩ : ∃ W3, W3 = w1.alloc (.cells #[.int .i64 p0, .int .i64 p1, .int .i64 er] 70) := ⟨_, rfl⟩
  have hg : W3.heap[w1.heap.size]? = some (.cells #[.int .i64 p0, .int .i64 p1, .int .i64 er] 70 (0, 0)) := by rw [hW3]; exact heap_alloc_last w1 _
  have hb3 : Below w1.heap.size w1 W3 := by rw [hW3]; exact (Below.refl _ w1).alloc (Nat.le_refl _) _
  have hs1 : w.heap.size + 2 ≤ w1.heap.size := by have := hb1.size; rw [Hs0.out] at this; exact this
  have s0 : W3.cell? ⟨w1.heap.size, 0, none⟩ = some (.int .i64 p0) := by rw [cell_of_row _ _ _ _ _ _ hg]; rfl
  have s1 : W3.cell? ⟨w1.heap.size, 1, none⟩ = some (.int .i64 p1) := by rw [cell_of_row _ _ _ _ _ _ hg]; rfl
  have s2 : W3.cell? ⟨w1.heap.size, 2, none⟩ = some (.int .i64 er) := by rw [cell_of_row _ _ _ _ _ _ hg]; rfl
  have H73 := Lib.hid ((hb3.block _ (by omega)).trans ((hb1.block _ (by rw [Hs0.out]; omega)).trans H70.out))
  have H83 := Lib.hid ((hb3.block _ (by omega)).trans ((hb1.block _ (by rw [Hs0.out]; omega)).trans H80.out))
  have Hb3 := Lib.hid (Hb0.out.trans ((hb1.mono Hb0.out.size).trans (hb3.mono (by omega))))
  have HW3 := Lib.hid hW3
  have hz : (er != 0) = true := by simpa using her
  have Her := Lib.hid her
  clear hW3 hg hb3 hb1 H70 H80 Hb0 HF0 HR0 hsp her
  go_upto_region 2 with fail
  rw [← HW3.out]
  clear HW3
  go_wp2_with (refine wpList_store_row rfl 28 (.tmp 8) (.tmp 20) rfl (w.heap.size + 1) #[.slice none 0 0, .int .i64 0, .int .i64 er] rfl rfl 28 #[.slice none 0 0, .int .i64 0, .int .i64 0] H83.out (Try.sizeRaw _ _ _) rfl (oneRaw _ _ _ _ _) ?_)
  refine bodyPost_ret (v := .agg #[.slice none 0 0, .int .i64 0, .int .i64 er]) ?_ rfl ⟨_, rfl, Own.nil _ _, Hb3.out.trans (below_setRow' _ _ _ _ (by omega))⟩
  exact results_cell_row rfl _ _ (w.heap.size + 1) 28 #[.slice none 0 0, .int .i64 0, .int .i64 er] (0, 0) _ rfl (setRow_heap _ _ _ _ _ _ H83.out) Try.underlying28 rfl (Try.sizeRaw _ _ _)
set_option maxRecDepth 100000 in
set_option maxHeartbeats 4000000 in
theorem refPatch_rng (a : Option Addr) (len cap : Nat) (fs : List Fld) (w : World) (h : RdF w a len cap fs) (a2 : Option Addr) (len2 cap2 : Nat) (bs : List Int) (h2 : Rd w a2 len2 cap2 bs) (hbig : len2 ≤ 140737488355328) (i : Int) (hi1 : -9223372036854775808 ≤ i) (hi2 : i ≤ 9223372036854775807) (x : Itm) (p0 p1 er : Int) (hsp : spanV fs bs i = (p0, p1, er)) (her : er = 0) (n : Nat) (hin : i = n) (hn : n < len) (hch : checkV fs = 0) (hx : x.Ok w) (hsu : suitsV (fs.getD n default).kind x.n (fs.getD n default).width x.xs = false) :
    Calls Try.prog 50 #[.slice a len cap, .slice a2 len2 cap2, .int .i64 i, .agg #[.int .i64 x.n, .slice x.a x.len x.cap]] w (RawPost [] 24 w) := by
  subst hin
  have hl := h.hl
  have hc := h.hc
  have hm := h.hm
  unfold maxLen at hm
  obtain ⟨b, off, rfl, hcell⟩ := h.hr (by omega)
  obtain ⟨c0, c1, c2⟩ := hcell n hn
  obtain ⟨f, hf⟩ : ∃ f, f = fs.getD n default := ⟨_, rfl⟩
  rw [← hf] at c0 c1 c2 hsu
  have hfm : f ∈ fs := by
    rw [hf]
    have : fs.getD n default = fs[n]'(by omega) := by simp [List.getD, hl, hn]
    rw [this]; exact List.getElem_mem _
  have hok := (checkV_ok hch).2 f hfm
  have HS1 := Lib.hid (fun (u : World) (hu : Below w.heap.size w u) => suits_any f hok x u ⟨hx.n1, hx.n2, hx.r.below hu (Nat.le_refl _)⟩)
  rw [hsu] at HS1
  have KB : Hid (∀ u, Below w.heap.size w u → ∀ y v, w.cell? y = some v → u.cell? y = some v) := Lib.hid (fun u hu y v h => (hu.cell (p := y) (World.block_lt_of_cell? w _ h)).trans h)
  have HC := Lib.hid (And.intro c0 (And.intro c1 c2))
  obtain ⟨nm, kd, wd⟩ := f
  unfold Fld.val at HS1
  simp only at HC HS1
  clear hcell c0 c1 c2 hf hfm hok hsu hl
  obtain ⟨W0, hW0⟩ : ∃ W0, W0 = (w.alloc (.cells #[.int .i64 x.n, .slice x.a x.len x.cap] 52)).alloc (.cells #[.slice none 0 0, .int .i64 0, .int .i64 0] 28) := ⟨_, rfl⟩
  have hs0 : W0.heap.size = w.heap.size + 2 := by rw [hW0]; simp
  have h7 : W0.heap[w.heap.size]? = some (.cells #[.int .i64 x.n, .slice x.a x.len x.cap] 52 (0, 0)) := by rw [hW0, heap_alloc_old _ _ _ (by simp), heap_alloc_last]
  have h8 : W0.heap[w.heap.size + 1]? = some (.cells #[.slice none 0 0, .int .i64 0, .int .i64 0] 28 (0, 0)) := by
    rw [hW0]; have := heap_alloc_last (w.alloc (.cells #[.int .i64 x.n, .slice x.a x.len x.cap] 52)) (.cells #[.slice none 0 0, .int .i64 0, .int .i64 0] 28); simpa using this
  have hb0 : Below w.heap.size w W0 := by rw [hW0]; exact ((Below.refl _ w).alloc (Nat.le_refl _) _).alloc (by simp) _
  have HF0 := Lib.hid (h.below hb0 (Nat.le_refl _))
  have HR0 := Lib.hid (h2.below hb0 (Nat.le_refl _))
  have HW0 := Lib.hid hW0
  have H70 := Lib.hid h7
  have H80 := Lib.hid h8
  have Hb0 := Lib.hid hb0
  have Hs0 := Lib.hid hs0
  have HF := Lib.hid h
  clear h h2 hW0 hs0 h7 h8 hb0
  go_enter Try.func50, Try.ntmps50
  go_upto_region 1 with fail
  rw [← HW0.out]
  clear HW0
  go_wp2_with fail
  refine (refWhere_any _ _ _ fs W0 HF0.out _ _ _ bs HR0.out hbig _ hi1 hi2).mono ?_
  rintro e w1 ⟨rfl, hb1⟩
  rw [hsp]
  obtain ⟨W3, hW3⟩ : ∃ W3, W3 = w1.alloc (.cells #[.int .i64 p0, .int .i64 p1, .int .i64 er] 70) := ⟨_, rfl⟩
  have hg : W3.heap[w1.heap.size]? = some (.cells #[.int .i64 p0, .int .i64 p1, .int .i64 er] 70 (0, 0)) := by rw [hW3]; exact heap_alloc_last w1 _
  have hb3 : Below w1.heap.size w1 W3 := by rw [hW3]; exact (Below.refl _ w1).alloc (Nat.le_refl _) _
  have hs1 : w.heap.size + 2 ≤ w1.heap.size := by have := hb1.size; rw [Hs0.out] at this; exact this
  have s0 : W3.cell? ⟨w1.heap.size, 0, none⟩ = some (.int .i64 p0) := by rw [cell_of_row _ _ _ _ _ _ hg]; rfl
  have s1 : W3.cell? ⟨w1.heap.size, 1, none⟩ = some (.int .i64 p1) := by rw [cell_of_row _ _ _ _ _ _ hg]; rfl
  have s2 : W3.cell? ⟨w1.heap.size, 2, none⟩ = some (.int .i64 er) := by rw [cell_of_row _ _ _ _ _ _ hg]; rfl
  have H73 := Lib.hid ((hb3.block _ (by omega)).trans ((hb1.block _ (by rw [Hs0.out]; omega)).trans H70.out))
  have H83 := Lib.hid ((hb3.block _ (by omega)).trans ((hb1.block _ (by rw [Hs0.out]; omega)).trans H80.out))
  have Hb3 := Lib.hid (Hb0.out.trans ((hb1.mono Hb0.out.size).trans (hb3.mono (by omega))))
  have HW3 := Lib.hid hW3
  have hz : (er != 0) = false := by simp [her]
  have Her := Lib.hid her
  clear hW3 hg hb3 hb1 H70 H80 Hb0 HF0 HR0 hsp her
  go_upto_region 2 with fail
  rw [← HW3.out]
  clear HW3
  have d0 : W3.cell? ⟨w.heap.size, 0, none⟩ = some (.int .i64 x.n) := by rw [cell_of_row _ _ _ _ _ _ H73.out]; rfl
  have d1 : W3.cell? ⟨w.heap.size, 1, none⟩ = some (.slice x.a x.len x.cap) := by rw [cell_of_row _ _ _ _ _ _ H73.out]; rfl
  go_upto_region 4 with fail
  refine wp_region_held_drew (S := Below (w.heap.size + 2) W3) (by kernel_rfl) (Below.refl _ _).drew (fun _ => ?_)
  have HS0 : Hid (Below (w.heap.size + 2) W3 W3.drew) := Lib.hid (Below.refl _ _).drew
  refine wpAnyH_take (i := 0) (v := .slice (some ⟨b, off, none⟩) len cap) rfl (by kernel_rfl) (by kernel_rfl) (by kernel_rfl) (fun _ _ _ h => h) (Or.inl ⟨by rfl, ?_⟩) HS0.out ?_
  · intro u hu; go_simp
  go_simp
  refine wpAnyH_take (i := 1) (v := .int .i64 n) rfl (by kernel_rfl) (by kernel_rfl) (by kernel_rfl) (fun _ _ _ h => h) (Or.inl ⟨by rfl, ?_⟩) HS0.out ?_
  · intro u hu; go_simp
  go_simp
  refine wpAnyH_take (i := 2) (v := .pointer (some ⟨b, off + n * 3, none⟩)) rfl (by kernel_rfl) (by kernel_rfl) (by kernel_rfl) (fun _ _ _ h => h) (Or.inl ⟨by rfl, ?_⟩) HS0.out ?_
  · intro u hu; go_simp
  go_simp
  refine wpAnyH_take (i := 3) (v := .agg #[.string nm, .int .i64 kd, .int .i64 wd]) rfl (by kernel_rfl) (by kernel_rfl) (by kernel_rfl) (fun _ _ _ h => h) (Or.inl ⟨by rfl, ?_⟩) HS0.out ?_
  · intro u hu; have hub := Hb3.out.trans (hu.mono (by omega)); have q0 := KB.out u hub _ _ HC.out.1; have q1 := KB.out u hub _ _ HC.out.2.1; have q2 := KB.out u hub _ _ HC.out.2.2; go_simp
  go_simp
  refine wpAnyH_take (i := 4) (v := .agg #[.int .i64 x.n, .slice x.a x.len x.cap]) rfl (by kernel_rfl) (by kernel_rfl) (by kernel_rfl) (fun _ _ _ h => h) (Or.inl ⟨by rfl, ?_⟩) HS0.out ?_
  · intro u hu; have q0 := (hu.cell (p := ⟨w.heap.size, 0, none⟩) (show w.heap.size < w.heap.size + 2 by omega)).trans d0; have q1 := (hu.cell (p := ⟨w.heap.size, 1, none⟩) (show w.heap.size < w.heap.size + 2 by omega)).trans d1; go_simp
  go_simp
  refine wpAnyH_ready (rs := [5]) (by kernel_rfl) (by simp) ?_
  refine AllReadyH.cons rfl (fun K hK => ?_) AllReadyH.nil
  go_simp
  refine (HS1.out _ (Hb3.out.trans (HS0.out.mono (by omega)))).mono ?_
  rintro e w4 ⟨rfl, hb4⟩
  have hW : W3.heap.size = W3.drew.heap.size := rfl
  have hs3 : w.heap.size + 2 ≤ W3.heap.size := by have := (Array.getElem?_eq_some_iff.1 H83.out).1; omega
  have HS4 : Hid (Below (w.heap.size + 2) W3 w4) := Lib.hid (HS0.out.trans (hb4.mono (by rw [← hW]; exact hs3)))
  clear hb4
  refine hK.out _ _ HS4.out (fun _ => ?_)
  clear hK K
  refine wpAnyH_ready (rs := [6]) (by kernel_rfl) (by simp) ?_
  refine AllReadyH.cons rfl (fun K hK => ?_) AllReadyH.nil
  go_simp
  refine hK.out _ _ HS4.out (fun _ => ?_)
  clear hK K
  refine wpAnyH_done (by kernel_rfl) ?_ _
  have H84 := Lib.hid ((HS4.out.block _ (by omega)).trans H83.out)
  have Hb4 := Lib.hid (Hb3.out.trans (HS4.out.mono (by omega)))
  go_wp2_with (refine wpList_store_row rfl 28 (.tmp 8) (.tmp 28) rfl (w.heap.size + 1) #[.slice none 0 0, .int .i64 0, .int .i64 24] rfl rfl 28 #[.slice none 0 0, .int .i64 0, .int .i64 0] H84.out (Try.sizeRaw _ _ _) rfl (oneRaw _ _ _ _ _) ?_)
  refine bodyPost_ret (v := .agg #[.slice none 0 0, .int .i64 0, .int .i64 24]) ?_ rfl ⟨_, rfl, Own.nil _ _, Hb4.out.trans (below_setRow' _ _ _ _ (by omega))⟩
  exact results_cell_row rfl _ _ (w.heap.size + 1) 28 #[.slice none 0 0, .int .i64 0, .int .i64 24] (0, 0) _ rfl (setRow_heap _ _ _ _ _ _ H84.out) Try.underlying28 rfl (Try.sizeRaw _ _ _)
end Go.Proofs.Ytmfijcniaehooaa

/- The reference's Patch: what is refused. -/
namespace Go.Proofs.Ytmfijcniaehooaa
set_option linter.unusedVariables false
open Go.RowKit

set_option maxRecDepth 100000 in
set_option maxHeartbeats 4000000 in
theorem refPatch_ok (a : Option Addr) (len cap : Nat) (fs : List Fld) (w : World) (h : RdF w a len cap fs) (a2 : Option Addr) (len2 cap2 : Nat) (bs : List Int) (h2 : Rd w a2 len2 cap2 bs) (hbig : len2 ≤ 140737488355328) (i : Int) (hi1 : -9223372036854775808 ≤ i) (hi2 : i ≤ 9223372036854775807) (x : Itm) (p0 p1 er : Int) (hsp : spanV fs bs i = (p0, p1, er)) (her : er = 0) (P Q : Nat) (hP : p0 = P) (hQ : p1 = Q) (hPQ : P ≤ Q) (hQl : Q ≤ len2) (hbig2 : len2 + 4105 ≤ 140737488355328) (n : Nat) (hin : i = n) (hn : n < len) (hch : checkV fs = 0) (hx : x.Ok w) (hxl : x.len ≤ 140737488355328) (hsu : suitsV (fs.getD n default).kind x.n (fs.getD n default).width x.xs = true) :
    Calls Try.prog 50 #[.slice a len cap, .slice a2 len2 cap2, .int .i64 i, .agg #[.int .i64 x.n, .slice x.a x.len x.cap]] w (RawPost (bs.take P ++ packB (fs.getD n default).kind x.n (fs.getD n default).width x.xs ++ bs.drop Q) 0 w) := by
  have hl2 := h2.hl
  have hc2 := h2.hc
  have H2 := Lib.hid h2
  subst hP
  subst hQ
  subst hin
  have hl := h.hl
  have hc := h.hc
  have hm := h.hm
  unfold maxLen at hm
  obtain ⟨b, off, rfl, hcell⟩ := h.hr (by omega)
  obtain ⟨c0, c1, c2⟩ := hcell n hn
  obtain ⟨f, hf⟩ : ∃ f, f = fs.getD n default := ⟨_, rfl⟩
  rw [← hf] at c0 c1 c2 hsu ⊢
  have hfm : f ∈ fs := by
    rw [hf]
    have : fs.getD n default = fs[n]'(by omega) := by simp [List.getD, hl, hn]
    rw [this]; exact List.getElem_mem _
  have hok := (checkV_ok hch).2 f hfm
  have HS1 := Lib.hid (fun (u : World) (hu : Below w.heap.size w u) => suits_any f hok x u ⟨hx.n1, hx.n2, hx.r.below hu (Nat.le_refl _)⟩)
  have HFd := Lib.hid (fun (u : World) (hu : Below w.heap.size w u) => field_any f hok x u ⟨hx.n1, hx.n2, hx.r.below hu (Nat.le_refl _)⟩ hxl hsu)
  have hpl := packB_len hok x.n x.xs
  rw [hsu] at HS1
  have KB : Hid (∀ u, Below w.heap.size w u → ∀ y v, w.cell? y = some v → u.cell? y = some v) := Lib.hid (fun u hu y v h => (hu.cell (p := y) (World.block_lt_of_cell? w _ h)).trans h)
  have HC := Lib.hid (And.intro c0 (And.intro c1 c2))
  obtain ⟨nm, kd, wd⟩ := f
  unfold Fld.val at HS1 HFd
  simp only at HC HS1 HFd hpl ⊢
  clear hcell c0 c1 c2 hf hfm hok hsu hl
  obtain ⟨W0, hW0⟩ : ∃ W0, W0 = (w.alloc (.cells #[.int .i64 x.n, .slice x.a x.len x.cap] 52)).alloc (.cells #[.slice none 0 0, .int .i64 0, .int .i64 0] 28) := ⟨_, rfl⟩
  have hs0 : W0.heap.size = w.heap.size + 2 := by rw [hW0]; simp
  have h7 : W0.heap[w.heap.size]? = some (.cells #[.int .i64 x.n, .slice x.a x.len x.cap] 52 (0, 0)) := by rw [hW0, heap_alloc_old _ _ _ (by simp), heap_alloc_last]
  have h8 : W0.heap[w.heap.size + 1]? = some (.cells #[.slice none 0 0, .int .i64 0, .int .i64 0] 28 (0, 0)) := by
    rw [hW0]; have := heap_alloc_last (w.alloc (.cells #[.int .i64 x.n, .slice x.a x.len x.cap] 52)) (.cells #[.slice none 0 0, .int .i64 0, .int .i64 0] 28); simpa using this
  have hb0 : Below w.heap.size w W0 := by rw [hW0]; exact ((Below.refl _ w).alloc (Nat.le_refl _) _).alloc (by simp) _
  have HF0 := Lib.hid (h.below hb0 (Nat.le_refl _))
  have HR0 := Lib.hid (h2.below hb0 (Nat.le_refl _))
  have HW0 := Lib.hid hW0
  have H70 := Lib.hid h7
  have H80 := Lib.hid h8
  have Hb0 := Lib.hid hb0
  have Hs0 := Lib.hid hs0
  have HF := Lib.hid h
  clear h h2 hW0 hs0 h7 h8 hb0
  go_enter Try.func50, Try.ntmps50
  go_upto_region 1 with fail
  rw [← HW0.out]
  clear HW0
  go_wp2_with fail
  refine (refWhere_any _ _ _ fs W0 HF0.out _ _ _ bs HR0.out hbig _ hi1 hi2).mono ?_
  rintro e w1 ⟨rfl, hb1⟩
  rw [hsp]
  obtain ⟨W3, hW3⟩ : ∃ W3, W3 = w1.alloc (.cells #[.int .i64 (P : Int), .int .i64 (Q : Int), .int .i64 er] 70) := ⟨_, rfl⟩
  have hg : W3.heap[w1.heap.size]? = some (.cells #[.int .i64 (P : Int), .int .i64 (Q : Int), .int .i64 er] 70 (0, 0)) := by rw [hW3]; exact heap_alloc_last w1 _
  have hb3 : Below w1.heap.size w1 W3 := by rw [hW3]; exact (Below.refl _ w1).alloc (Nat.le_refl _) _
  have hs1 : w.heap.size + 2 ≤ w1.heap.size := by have := hb1.size; rw [Hs0.out] at this; exact this
  have s0 : W3.cell? ⟨w1.heap.size, 0, none⟩ = some (.int .i64 (P : Int)) := by rw [cell_of_row _ _ _ _ _ _ hg]; rfl
  have s1 : W3.cell? ⟨w1.heap.size, 1, none⟩ = some (.int .i64 (Q : Int)) := by rw [cell_of_row _ _ _ _ _ _ hg]; rfl
  have s2 : W3.cell? ⟨w1.heap.size, 2, none⟩ = some (.int .i64 er) := by rw [cell_of_row _ _ _ _ _ _ hg]; rfl
  have H73 := Lib.hid ((hb3.block _ (by omega)).trans ((hb1.block _ (by rw [Hs0.out]; omega)).trans H70.out))
  have H83 := Lib.hid ((hb3.block _ (by omega)).trans ((hb1.block _ (by rw [Hs0.out]; omega)).trans H80.out))
  have Hb3 := Lib.hid (Hb0.out.trans ((hb1.mono Hb0.out.size).trans (hb3.mono (by omega))))
  have HW3 := Lib.hid hW3
  have hz : (er != 0) = false := by simp [her]
  have Her := Lib.hid her
  have hs13 : w1.heap.size < W3.heap.size := (Array.getElem?_eq_some_iff.1 hg).1
  clear hW3 hg hb3 hb1 H70 H80 Hb0 HF0 HR0 hsp her
  go_upto_region 2 with fail
  rw [← HW3.out]
  clear HW3
  have d0 : W3.cell? ⟨w.heap.size, 0, none⟩ = some (.int .i64 x.n) := by rw [cell_of_row _ _ _ _ _ _ H73.out]; rfl
  have d1 : W3.cell? ⟨w.heap.size, 1, none⟩ = some (.slice x.a x.len x.cap) := by rw [cell_of_row _ _ _ _ _ _ H73.out]; rfl
  have hs23 : w.heap.size + 2 ≤ W3.heap.size := by omega
  go_upto_region 4 with fail
  refine wp_region_held_drew (S := Below W3.heap.size W3) (by kernel_rfl) (Below.refl _ _).drew (fun _ => ?_)
  have HS0 : Hid (Below W3.heap.size W3 W3.drew) := Lib.hid (Below.refl _ _).drew
  refine wpAnyH_take (i := 0) (v := .slice (some ⟨b, off, none⟩) len cap) rfl (by kernel_rfl) (by kernel_rfl) (by kernel_rfl) (fun _ _ _ h => h) (Or.inl ⟨by rfl, ?_⟩) HS0.out ?_
  · intro u hu; go_simp
  go_simp
  refine wpAnyH_take (i := 1) (v := .int .i64 n) rfl (by kernel_rfl) (by kernel_rfl) (by kernel_rfl) (fun _ _ _ h => h) (Or.inl ⟨by rfl, ?_⟩) HS0.out ?_
  · intro u hu; go_simp
  go_simp
  refine wpAnyH_take (i := 2) (v := .pointer (some ⟨b, off + n * 3, none⟩)) rfl (by kernel_rfl) (by kernel_rfl) (by kernel_rfl) (fun _ _ _ h => h) (Or.inl ⟨by rfl, ?_⟩) HS0.out ?_
  · intro u hu; go_simp
  go_simp
  refine wpAnyH_take (i := 3) (v := .agg #[.string nm, .int .i64 kd, .int .i64 wd]) rfl (by kernel_rfl) (by kernel_rfl) (by kernel_rfl) (fun _ _ _ h => h) (Or.inl ⟨by rfl, ?_⟩) HS0.out ?_
  · intro u hu; have hub := Hb3.out.trans (hu.mono (by omega)); have q0 := KB.out u hub _ _ HC.out.1; have q1 := KB.out u hub _ _ HC.out.2.1; have q2 := KB.out u hub _ _ HC.out.2.2; go_simp
  go_simp
  refine wpAnyH_take (i := 4) (v := .agg #[.int .i64 x.n, .slice x.a x.len x.cap]) rfl (by kernel_rfl) (by kernel_rfl) (by kernel_rfl) (fun _ _ _ h => h) (Or.inl ⟨by rfl, ?_⟩) HS0.out ?_
  · intro u hu; have q0 := (hu.cell (p := ⟨w.heap.size, 0, none⟩) (show w.heap.size < W3.heap.size by omega)).trans d0; have q1 := (hu.cell (p := ⟨w.heap.size, 1, none⟩) (show w.heap.size < W3.heap.size by omega)).trans d1; go_simp
  go_simp
  refine wpAnyH_ready (rs := [5]) (by kernel_rfl) (by simp) ?_
  refine AllReadyH.cons rfl (fun K hK => ?_) AllReadyH.nil
  go_simp
  refine (HS1.out _ (Hb3.out.trans (HS0.out.mono (by omega)))).mono ?_
  rintro e w4 ⟨rfl, hb4⟩
  have hW : W3.heap.size = W3.drew.heap.size := rfl
  have hs3 : w.heap.size + 2 ≤ W3.heap.size := by have := (Array.getElem?_eq_some_iff.1 H83.out).1; omega
  have HS4 : Hid (Below W3.heap.size W3 w4) := Lib.hid (HS0.out.trans (hb4.mono (by rw [← hW]; exact Nat.le_refl _)))
  clear hb4
  refine hK.out _ _ HS4.out (fun _ => ?_)
  clear hK K
  refine wpAnyH_ready (rs := [6]) (by kernel_rfl) (by simp) ?_
  refine AllReadyH.cons rfl (fun K hK => ?_) AllReadyH.nil
  go_simp
  refine hK.out _ _ HS4.out (fun _ => ?_)
  clear hK K
  refine wpAnyH_done (by kernel_rfl) ?_ _
  have H84 := Lib.hid ((HS4.out.block _ (by omega)).trans H83.out)
  have H74 := Lib.hid ((HS4.out.block _ (by omega)).trans H73.out)
  have Hb4 := Lib.hid (Hb3.out.trans (HS4.out.mono (by omega)))
  have s04 : w4.cell? ⟨w1.heap.size, 0, none⟩ = some (.int .i64 (P : Int)) := (HS4.out.cell (p := ⟨w1.heap.size, 0, none⟩) hs13).trans s0
  have s14 : w4.cell? ⟨w1.heap.size, 1, none⟩ = some (.int .i64 (Q : Int)) := (HS4.out.cell (p := ⟨w1.heap.size, 1, none⟩) hs13).trans s1
  have hs34 : W3.heap.size ≤ w4.heap.size := HS4.out.size
  obtain ⟨W5, hW5⟩ : ∃ W5, W5 = w4.alloc (.cells #[] 5) := ⟨_, rfl⟩
  have HO : Hid (Own W5 w4.heap.size (.slice (some ⟨w4.heap.size, 0, none⟩) 0 0) []) := Lib.hid (by have := World.ownsRow_made (base := w4.heap.size) (e := 5) (size := 1) w4 #[] 0 (Nat.le_refl _) (by decide) rfl; rw [hW5]; exact ⟨this, by simp⟩)
  have hb5 : Below w4.heap.size w4 W5 := by rw [hW5]; exact (Below.refl _ w4).alloc (Nat.le_refl _) _
  have s0e : (w4.alloc (.cells #[] 5)).cell? ⟨w1.heap.size, 0, none⟩ = some (.int .i64 (P : Int)) := by rw [← hW5]; exact (hb5.cell (p := ⟨w1.heap.size, 0, none⟩) (by show w1.heap.size < w4.heap.size; omega)).trans s04
  have R5 := Lib.hid ((H2.out.below (Hb4.out.trans (hb5.mono Hb4.out.size)) (Nat.le_refl _)).take P (by omega))
  have hPc : P ≤ cap2 := by omega
  have i1 : ([] : List Int).length + P ≤ 140737488355328 := by simp; omega
  have i2 : w4.heap.size ≤ W5.heap.size := hb5.size
  have Hlen : Hid ((bs.take P).length = P) := Lib.hid (by rw [List.length_take]; omega)
  have HW5 := Lib.hid hW5
  have HB5 := Lib.hid hb5
  clear hW5 hb5 s0 s1 s2 d0 d1 HS0 H73 H83 Hb3
  go_upto_region 7 with (rw [← HW5.out]; refine wpList_append_rd rfl (.tmp 29) (.tmp 33) 22 rfl w4.heap.size Try.infoB Try.underlying22 (.slice (some ⟨w4.heap.size, 0, none⟩) 0 0) [] rfl HO.out _ _ _ _ rfl R5.out i1 i2 ?_; intro v6 w6 ho6 hg6; rw [List.nil_append] at ho6; obtain ⟨va, vc, hv6, hr6⟩ := ho6.rdz Hlen.out; subst hv6; have Ho6 := Lib.hid ho6; have Hb6 := Lib.hid (HB5.out.grown hg6 i2 (fun k hk => (HO.out.1.lt k hk).1)); clear ho6 hg6 hr6)
  have hs46 : w4.heap.size ≤ w6.heap.size := Hb6.out.size
  have d06 : w6.cell? ⟨w.heap.size, 0, none⟩ = some (.int .i64 x.n) := by rw [cell_of_row _ _ _ _ _ _ ((Hb6.out.block _ (by omega)).trans H74.out)]; rfl
  have d16 : w6.cell? ⟨w.heap.size, 1, none⟩ = some (.slice x.a x.len x.cap) := by rw [cell_of_row _ _ _ _ _ _ ((Hb6.out.block _ (by omega)).trans H74.out)]; rfl
  have HBw := Lib.hid (Hb4.out.trans (Hb6.out.mono Hb4.out.size))
  obtain ⟨B, hB⟩ : ∃ B, B = packB kd x.n wd x.xs := ⟨_, rfl⟩
  rw [← hB] at hpl HFd ⊢
  have HB := Lib.hid hB
  clear hB HO R5 HB5 HW5 s04 s0e
  refine wp_region_held_drew (S := Below w4.heap.size w6) (by kernel_rfl) (Below.refl _ _).drew (fun _ => ?_)
  have HS7 : Hid (Below w4.heap.size w6 w6.drew) := Lib.hid (Below.refl _ _).drew
  refine wpAnyH_take (i := 0) (v := .slice va P vc) rfl (by kernel_rfl) (by kernel_rfl) (by kernel_rfl) (fun _ _ _ h => h) (Or.inl ⟨by rfl, ?_⟩) HS7.out ?_
  · intro u hu; go_simp
  go_simp
  refine wpAnyH_take (i := 1) (v := .slice (some ⟨b, off, none⟩) len cap) rfl (by kernel_rfl) (by kernel_rfl) (by kernel_rfl) (fun _ _ _ h => h) (Or.inl ⟨by rfl, ?_⟩) HS7.out ?_
  · intro u hu; go_simp
  go_simp
  refine wpAnyH_take (i := 2) (v := .int .i64 n) rfl (by kernel_rfl) (by kernel_rfl) (by kernel_rfl) (fun _ _ _ h => h) (Or.inl ⟨by rfl, ?_⟩) HS7.out ?_
  · intro u hu; go_simp
  go_simp
  refine wpAnyH_take (i := 3) (v := .pointer (some ⟨b, off + n * 3, none⟩)) rfl (by kernel_rfl) (by kernel_rfl) (by kernel_rfl) (fun _ _ _ h => h) (Or.inl ⟨by rfl, ?_⟩) HS7.out ?_
  · intro u hu; go_simp
  go_simp
  refine wpAnyH_take (i := 4) (v := .agg #[.string nm, .int .i64 kd, .int .i64 wd]) rfl (by kernel_rfl) (by kernel_rfl) (by kernel_rfl) (fun _ _ _ h => h) (Or.inl ⟨by rfl, ?_⟩) HS7.out ?_
  · intro u hu; have hub := HBw.out.trans (hu.mono (by omega)); have q0 := KB.out u hub _ _ HC.out.1; have q1 := KB.out u hub _ _ HC.out.2.1; have q2 := KB.out u hub _ _ HC.out.2.2; go_simp
  go_simp
  refine wpAnyH_take (i := 5) (v := .agg #[.int .i64 x.n, .slice x.a x.len x.cap]) rfl (by kernel_rfl) (by kernel_rfl) (by kernel_rfl) (fun _ _ _ h => h) (Or.inl ⟨by rfl, ?_⟩) HS7.out ?_
  · intro u hu; have q0 := (hu.cell (p := ⟨w.heap.size, 0, none⟩) (show w.heap.size < w4.heap.size by omega)).trans d06; have q1 := (hu.cell (p := ⟨w.heap.size, 1, none⟩) (show w.heap.size < w4.heap.size by omega)).trans d16; go_simp
  go_simp
  refine wpAnyH_ready (rs := [6]) (by kernel_rfl) (by simp) ?_
  refine AllReadyH.cons rfl (fun K hK => ?_) AllReadyH.nil
  go_simp
  refine (HFd.out _ (HBw.out.trans (HS7.out.mono (by omega)))).mono ?_
  rintro e w7 ⟨v7, rfl, ho7, hb7⟩
  obtain ⟨v7a, v7c, rfl, hr7⟩ := ho7.rd
  obtain ⟨pl, hple⟩ : ∃ m, m = B.length := ⟨_, rfl⟩
  rw [← hple] at hr7 hpl ⊢
  have hbd7 : Below w6.heap.size w6 w7 := (show Below w6.heap.size w6 w6.drew from (Below.refl _ _).drew).trans hb7
  have HS8 : Hid (Below w4.heap.size w6 w7) := Lib.hid (hbd7.mono hs46)
  have Ho67 := Lib.hid (Ho6.out.below hbd7 (Nat.le_refl _))
  have Hr7 := Lib.hid hr7
  have hs67 : w6.heap.size ≤ w7.heap.size := hbd7.size
  have Hple := Lib.hid hple
  clear ho7 hb7 hbd7 hr7 hple HS7
  refine hK.out _ _ HS8.out (fun _ => ?_)
  clear hK K
  refine wpAnyH_ready (rs := [7]) (by kernel_rfl) (by simp) ?_
  refine AllReadyH.cons rfl (fun K hK => ?_) AllReadyH.nil
  refine step_append_any rfl _ _ 22 (by rfl) w4.heap.size Try.infoB Try.underlying22 (.slice va P vc) (bs.take P) (by rfl) Ho67.out _ _ _ B (by rfl) Hr7.out (by rw [Hlen.out]; omega) (by omega) ?_
  intro v8 w8 ho8 hg8
  have Hlen8 : Hid ((bs.take P ++ B).length = P + pl) := Lib.hid (by rw [List.length_append, Hlen.out, Hple.out])
  obtain ⟨va8, vc8, hv8, hr8⟩ := ho8.rdz Hlen8.out
  subst hv8
  have HS9 : Hid (Below w4.heap.size w6 w8) := Lib.hid (HS8.out.trans ((Below.refl w4.heap.size w7).grown hg8 (by omega) (fun k hk => (Ho67.out.1.lt k hk).1)))
  have Ho8 := Lib.hid ho8
  clear ho8 hg8 hr8 HS8 Hr7 Ho67
  refine hK.out _ _ HS9.out (fun _ => ?_)
  clear hK K
  refine wpAnyH_ready (rs := [8]) (by kernel_rfl) (by simp) ?_
  refine AllReadyH.cons rfl (fun K hK => ?_) AllReadyH.nil
  go_simp
  refine hK.out _ _ HS9.out (fun _ => ?_)
  clear hK K
  refine wpAnyH_done (by kernel_rfl) ?_ _
  have hs68 : w6.heap.size ≤ w8.heap.size := HS9.out.size
  have Hb48 := Lib.hid (Hb6.out.trans HS9.out)
  have s18 : w8.cell? ⟨w1.heap.size, 1, none⟩ = some (.int .i64 (Q : Int)) := (Hb48.out.cell (p := ⟨w1.heap.size, 1, none⟩) (by show w1.heap.size < w4.heap.size; omega)).trans s14
  have HR8 := Lib.hid (H2.out.below (Hb4.out.trans (Hb48.out.mono Hb4.out.size)) (Nat.le_refl _))
  have i3 : (bs.take P ++ B).length + (len2 - Q) ≤ 140737488355328 := by rw [Hlen8.out]; omega
  have i4 : w4.heap.size ≤ w8.heap.size := by omega
  have Hlen9 : Hid ((bs.take P ++ B ++ bs.drop Q).length = P + pl + (len2 - Q)) := Lib.hid (by rw [List.length_append, Hlen8.out, List.length_drop, hl2])
  clear d06 d16 s14 HFd HS1 Ho6 HBw HS9
  by_cases hck : cap2 = Q
  · have hQe : len2 - Q = 0 := by omega
    have R8 : Hid (Rd w8 a2 (len2 - Q) 0 (bs.drop Q)) := Lib.hid (by rw [hQe, List.drop_eq_nil_of_le (by omega)]; exact HR8.out.cut0)
    clear hQe
    go_upto_region 9 with (refine wpList_append_rd rfl (.tmp 43) (.tmp 47) 22 rfl w4.heap.size Try.infoB Try.underlying22 (.slice va8 (P + pl) vc8) (bs.take P ++ B) rfl Ho8.out _ _ _ _ rfl R8.out i3 i4 ?_; intro v9 w9 ho9 hg9; obtain ⟨va9, vc9, hv9, hr9⟩ := ho9.rdz Hlen9.out; subst hv9; have Ho9 := Lib.hid ho9; have Hb9 := Lib.hid (Hb48.out.grown hg9 i4 (fun k hk => (Ho8.out.1.lt k hk).1)); clear ho9 hg9 hr9)
    have H89 := Lib.hid ((Hb9.out.block _ (by omega)).trans H84.out)
    have Hbw9 := Lib.hid (Hb4.out.trans (Hb9.out.mono Hb4.out.size))
    obtain ⟨tl, htl⟩ : ∃ m, m = P + pl + (len2 - Q) := ⟨_, rfl⟩
    rw [← htl] at Ho9 Hlen9 ⊢
    clear htl
    have hx1 : w.heap.size + 1 < w4.heap.size := by omega
    go_wp2_with (refine wpList_store_row rfl 28 (.tmp 8) (.tmp 52) rfl (w.heap.size + 1) #[.slice va9 tl vc9, .int .i64 (tl : Int), .int .i64 0] rfl rfl 28 #[.slice none 0 0, .int .i64 0, .int .i64 0] H89.out (Try.sizeRaw _ _ _) rfl (oneRaw _ _ _ _ _) ?_)
    refine bodyPost_ret (v := .agg #[.slice va9 tl vc9, .int .i64 (tl : Int), .int .i64 0]) ?_ rfl (by rw [← HB.out]; exact ⟨_, by rw [Hlen9.out], (Ho9.out.setRow hx1 _).mono (by omega), Hbw9.out.trans (below_setRow' _ _ _ _ (by omega))⟩)
    exact results_cell_row rfl _ _ (w.heap.size + 1) 28 #[.slice va9 tl vc9, .int .i64 (tl : Int), .int .i64 0] (0, 0) _ rfl (setRow_heap _ _ _ _ _ _ H89.out) Try.underlying28 rfl (Try.sizeRaw _ _ _)
  · have hk1 : (Q = cap2) = False := eq_false (fun e => hck e.symm)
    have R8 : Hid (Rd w8 (a2.map (fun x => x.add Q)) (len2 - Q) (cap2 - Q) (bs.drop Q)) := Lib.hid (by have := HR8.out.cut2 Q (len2 - Q) (by omega); rw [List.take_of_length_le (by rw [List.length_drop, hl2]; exact Nat.le_refl _)] at this; exact this)
    go_upto_region 9 with (refine wpList_append_rd rfl (.tmp 43) (.tmp 47) 22 rfl w4.heap.size Try.infoB Try.underlying22 (.slice va8 (P + pl) vc8) (bs.take P ++ B) rfl Ho8.out _ _ _ _ rfl R8.out i3 i4 ?_; intro v9 w9 ho9 hg9; obtain ⟨va9, vc9, hv9, hr9⟩ := ho9.rdz Hlen9.out; subst hv9; have Ho9 := Lib.hid ho9; have Hb9 := Lib.hid (Hb48.out.grown hg9 i4 (fun k hk => (Ho8.out.1.lt k hk).1)); clear ho9 hg9 hr9)
    have H89 := Lib.hid ((Hb9.out.block _ (by omega)).trans H84.out)
    have Hbw9 := Lib.hid (Hb4.out.trans (Hb9.out.mono Hb4.out.size))
    obtain ⟨tl, htl⟩ : ∃ m, m = P + pl + (len2 - Q) := ⟨_, rfl⟩
    rw [← htl] at Ho9 Hlen9 ⊢
    clear htl
    have hx1 : w.heap.size + 1 < w4.heap.size := by omega
    go_wp2_with (refine wpList_store_row rfl 28 (.tmp 8) (.tmp 52) rfl (w.heap.size + 1) #[.slice va9 tl vc9, .int .i64 (tl : Int), .int .i64 0] rfl rfl 28 #[.slice none 0 0, .int .i64 0, .int .i64 0] H89.out (Try.sizeRaw _ _ _) rfl (oneRaw _ _ _ _ _) ?_)
    refine bodyPost_ret (v := .agg #[.slice va9 tl vc9, .int .i64 (tl : Int), .int .i64 0]) ?_ rfl (by rw [← HB.out]; exact ⟨_, by rw [Hlen9.out], (Ho9.out.setRow hx1 _).mono (by omega), Hbw9.out.trans (below_setRow' _ _ _ _ (by omega))⟩)
    exact results_cell_row rfl _ _ (w.heap.size + 1) 28 #[.slice va9 tl vc9, .int .i64 (tl : Int), .int .i64 0] (0, 0) _ rfl (setRow_heap _ _ _ _ _ _ H89.out) Try.underlying28 rfl (Try.sizeRaw _ _ _)
end Go.Proofs.Ytmfijcniaehooaa

/- The reference's Patch, of any place. -/
namespace Go.Proofs.Ytmfijcniaehooaa
set_option linter.unusedVariables false
open Go.RowKit

/-- What the reference's Patch answers: an error, or bytes. -/
def patchR (fs : List Fld) (bs : List Int) (i : Int) (x : Itm) : Int × List Int :=
  if (spanV fs bs i).2.2 ≠ 0 then ((spanV fs bs i).2.2, [])
  else if suitsV (fs.getD i.toNat default).kind x.n (fs.getD i.toNat default).width x.xs = true then
    (0, bs.take (posV fs bs i.toNat) ++ packB (fs.getD i.toNat default).kind x.n (fs.getD i.toNat default).width x.xs ++ bs.drop (posV fs bs (i.toNat + 1)))
  else (24, [])
theorem refPatch_any (a : Option Addr) (len cap : Nat) (fs : List Fld) (w : World) (h : RdF w a len cap fs) (a2 : Option Addr) (len2 cap2 : Nat) (bs : List Int) (h2 : Rd w a2 len2 cap2 bs) (hbig : len2 + 4105 ≤ 140737488355328) (i : Int) (hi1 : -9223372036854775808 ≤ i) (hi2 : i ≤ 9223372036854775807) (x : Itm) (hx : x.Ok w) (hxl : x.len ≤ 140737488355328) :
    Calls Try.prog 50 #[.slice a len cap, .slice a2 len2 cap2, .int .i64 i, .agg #[.int .i64 x.n, .slice x.a x.len x.cap]] w (RawPost (patchR fs bs i x).2 (patchR fs bs i x).1 w) := by
  have hl := h.hl
  have hl2 := h2.hl
  by_cases hE : (spanV fs bs i).2.2 = 0
  · have he : errV fs bs = 0 := by
      unfold spanV at hE
      by_cases h0 : errV fs bs = 0
      · exact h0
      · rw [if_pos h0] at hE; exact absurd hE h0
    have hin : ¬ (i < 0 ∨ (fs.length : Int) ≤ i) := by
      intro hh
      unfold spanV at hE
      rw [if_neg (by simp [he]), if_pos hh] at hE
      exact absurd hE (by decide)
    obtain ⟨n, rfl⟩ := Int.eq_ofNat_of_zero_le (show 0 ≤ i by omega)
    have hs : spanV fs bs (n : Int) = (((posV fs bs n : Nat) : Int), ((posV fs bs (n + 1) : Nat) : Int), 0) := by
      unfold spanV
      rw [if_neg (by simp [he]), if_neg hin, Int.toNat_natCast]
    obtain ⟨hch, hok⟩ := errV_ok he
    have hp := (unpack_oneway h2.hb hch hok).1 (n + 1) (by omega)
    have hm := posV_mono fs bs 1 n
    by_cases hsu : suitsV (fs.getD n default).kind x.n (fs.getD n default).width x.xs = true
    · have hv : patchR fs bs (n : Int) x = (0, bs.take (posV fs bs n) ++ packB (fs.getD n default).kind x.n (fs.getD n default).width x.xs ++ bs.drop (posV fs bs (n + 1))) := by
        unfold patchR
        rw [if_neg (by simp [hs]), Int.toNat_natCast, if_pos hsu]
      rw [hv]
      exact refPatch_ok a len cap fs w h a2 len2 cap2 bs h2 (by omega) n hi1 hi2 x _ _ _ hs rfl (posV fs bs n) (posV fs bs (n + 1)) rfl rfl hm (by omega) hbig n rfl (by omega) hch hx hxl hsu
    · have hv : patchR fs bs (n : Int) x = (24, []) := by
        unfold patchR
        rw [if_neg (by simp [hs]), Int.toNat_natCast, if_neg hsu]
      rw [hv]
      exact refPatch_rng a len cap fs w h a2 len2 cap2 bs h2 (by omega) n hi1 hi2 x _ _ _ hs rfl n rfl (by omega) hch hx (by simpa using hsu)
  · have hv : patchR fs bs i x = ((spanV fs bs i).2.2, []) := by unfold patchR; rw [if_pos hE]
    rw [hv]
    exact refPatch_no a len cap fs w h a2 len2 cap2 bs h2 (by omega) i hi1 hi2 x _ _ _ rfl hE
end Go.Proofs.Ytmfijcniaehooaa

/- Whether two rows of items are the same, told in plain values. -/
namespace Go.Proofs.Ytmfijcniaehooaa
set_option linter.unusedVariables false
open Go.RowKit

theorem RdI.drewN {w : World} {a : Option Addr} {len cap : Nat} {xs : List Itm} (h : RdI w a len cap xs) (n : Nat) : RdI (w.drewN n) a len cap xs :=
  ⟨h.hl, h.hc, h.hm, fun x hx => ⟨(h.hb x hx).n1, (h.hb x hx).n2, (h.hb x hx).r.drewN n⟩, h.hn, h.hr⟩
/-- What an item is. -/
def Itm.key (x : Itm) : Int × List Int := (x.n, x.xs)
theorem quiet_left {P : Program} {f : FuncId} {args : Array Value} {w : World} {n : Nat} {v : Value}
    (h : Calls P f args (w.drewN n) fun e w' => e = .returned v ∧ w.drewN n = w') : Calls P f args (w.drewN n) fun e w'' => e = .returned v ∧ ∃ m, w'' = w.drewN m :=
  h.mono fun _ _ ⟨he, hm⟩ => ⟨he, n, hm.symm⟩
theorem quiet_add_left {P : Program} {f : FuncId} {args : Array Value} {w : World} {a n : Nat} {v : Value}
    (h : Calls P f args (w.drewN (a + n)) fun e w' => e = .returned v ∧ w.drewN (a + n) = w') :
    Calls P f args (w.drewN (a + n)) fun e w'' => e = .returned v ∧ ∃ m, w'' = w.drewN (a + m) :=
  h.mono fun _ _ ⟨he, hm⟩ => ⟨he, n, hm.symm⟩
theorem key_snoc (xs : List Itm) (k : Nat) (h : k < xs.length) : (xs.take (k + 1)).map Itm.key = (xs.take k).map Itm.key ++ [(xs.getD k default).key] := by
  rw [List.take_succ_eq_append_getElem h, List.map_append, List.map_singleton]
  simp [List.getD, h]
theorem key_ne {xs ys : List Itm} {k : Nat} (hx : k < xs.length) (hy : k < ys.length) (h : (xs.getD k default).key ≠ (ys.getD k default).key) : xs.map Itm.key ≠ ys.map Itm.key := by
  intro he
  have := congrArg (fun l => l[k]?) he
  simp only [List.getElem?_map] at this
  rw [List.getElem?_eq_getElem hx, List.getElem?_eq_getElem hy] at this
  simp at this
  apply h
  simp [List.getD, hx, hy, this]
set_option maxRecDepth 100000 in
set_option maxHeartbeats 2000000 in
theorem sameItems_any (a : Option Addr) (len cap : Nat) (xs : List Itm) (a2 : Option Addr) (len2 cap2 : Nat) (ys : List Itm) (w : World) (h : RdI w a len cap xs) (h2 : RdI w a2 len2 cap2 ys) :
    Calls Try.prog 46 #[.slice a len cap, .slice a2 len2 cap2] w fun e w' => e = .returned (.bool (decide (xs.map Itm.key = ys.map Itm.key))) ∧ ∃ n, w' = w.drewN n := by
  have hl := h.hl
  have hl2 := h2.hl
  have hm := h.hm
  have hc := h.hc
  have hm2 := h2.hm
  have hc2 := h2.hc
  unfold maxLen at hm hm2
  by_cases hne : len = len2
  · subst hne
    have H := Lib.hid h
    have H2 := Lib.hid h2
    have HL := Lib.hid (And.intro hl hl2)
    clear h h2 hl hl2
    obtain ⟨R, hR⟩ : ∃ R, R = decide (xs.map Itm.key = ys.map Itm.key) := ⟨_, rfl⟩
    rw [← hR]
    have HR := Lib.hid hR
    clear hR
    go_enter Try.func46, Try.ntmps46
    go_wp2_with fail
    go_loopw [5] (fun i wr => ∃ k n : Nat, k ≤ len ∧ i = .int .i64 k ∧ wr = w.drewN n ∧ (xs.take k).map Itm.key = (ys.take k).map Itm.key) (fun i _ => len - (intOf i).toNat)
    case atStart => exact ⟨0, 0, Nat.zero_le _, rfl, rfl, rfl⟩
    case round =>
      obtain ⟨k, n, hk, rfl, rfl, heq⟩ := hrel
      by_cases hlt : k < len
      · have hF := H.out
        have hF2 := H2.out
        obtain ⟨b, off, rfl, hcell⟩ := hF.hr (by omega)
        obtain ⟨b2, off2, rfl, hcell2⟩ := hF2.hr (by omega)
        obtain ⟨c0, c1⟩ := hcell k hlt
        obtain ⟨d0, d1⟩ := hcell2 k hlt
        have hx := (H.out.hb (xs.getD k default) (by rw [show xs.getD k default = xs[k]'(by rw [HL.out.1]; exact hlt) from by simp [List.getD, HL.out.1, hlt]]; exact List.getElem_mem _)).r
        have hy := (H2.out.hb (ys.getD k default) (by rw [show ys.getD k default = ys[k]'(by rw [HL.out.2]; exact hlt) from by simp [List.getD, HL.out.2, hlt]]; exact List.getElem_mem _)).r
        have hs1 := key_snoc xs k (by rw [HL.out.1]; exact hlt)
        have hs2 := key_snoc ys k (by rw [HL.out.2]; exact hlt)
        have hkn : (xs.getD k default).key ≠ (ys.getD k default).key → R = false := fun hh => by rw [HR.out, decide_eq_false (key_ne (by rw [HL.out.1]; exact hlt) (by rw [HL.out.2]; exact hlt) hh)]
        obtain ⟨x, hxe⟩ : ∃ x, x = xs.getD k default := ⟨_, rfl⟩
        obtain ⟨y, hye⟩ : ∃ y, y = ys.getD k default := ⟨_, rfl⟩
        rw [← hxe] at c0 c1 hx hs1 hkn
        rw [← hye] at d0 d1 hy hs2 hkn
        have Hx := Lib.hid hx
        have Hy := Lib.hid hy
        have Hs := Lib.hid (show x.key = y.key → (xs.take (k + 1)).map Itm.key = (ys.take (k + 1)).map Itm.key from fun hh => by rw [hs1, hs2, heq, hh])
        have Hkn := Lib.hid hkn
        clear hF hF2 hcell hcell2 hx hy hs1 hs2 hkn hxe hye heq
        have hk0 : (0 : Int) ≤ (k : Int) := by omega
        have hk1 : (k : Int) < (len : Int) := by omega
        by_cases hn : x.n = y.n
        · have hn' : (x.n != y.n) = false := by simp [hn]
          by_cases hxs : x.xs = y.xs
          · have HD : Hid (decide (x.xs = y.xs) = true) := Lib.hid (decide_eq_true hxs)
            have Hs := Lib.hid (Hs.out (by unfold Itm.key; rw [hn, hxs]))
            clear hn hxs
            go_wp2_with fail
            go_quiet ((go_at_call 18; exact quiet_add_left (HD.out ▸ sameBytes_any _ _ _ x.xs _ _ _ y.xs _ (Hx.out.drewN _) (Hy.out.drewN _))))
            go_wp2_with fail
            go_roundw
            case rel => exact ⟨k + 1, _, by omega, by go_num, rfl, Hs.out⟩
            case measure => simp [intOf]; omega
          · have HD : Hid (decide (x.xs = y.xs) = false) := Lib.hid (decide_eq_false hxs)
            have Hr := Lib.hid (Hkn.out (by unfold Itm.key; intro hh; exact hxs (congrArg Prod.snd hh)))
            clear hn hxs
            go_wp2_with fail
            go_quiet ((go_at_call 18; exact quiet_add_left (HD.out ▸ sameBytes_any _ _ _ x.xs _ _ _ y.xs _ (Hx.out.drewN _) (Hy.out.drewN _))))
            go_wp2_with fail
            go_ret
            rw [Hr.out]
            exact ⟨rfl, _, World.drewN_drewN ..⟩
        · have hn' : (x.n != y.n) = true := by simpa using hn
          have Hr := Lib.hid (Hkn.out (by unfold Itm.key; intro hh; exact hn (congrArg Prod.fst hh)))
          clear hn
          go_wp2_with fail
          go_quiet (fail)
          go_wp2_with fail
          go_ret
          rw [Hr.out]
          exact ⟨rfl, _, World.drewN_drewN ..⟩
      · obtain rfl : k = len := by omega
        have Hr : Hid (R = true) := Lib.hid (by
          rw [HR.out]
          rw [List.take_of_length_le (by rw [HL.out.1]; omega), List.take_of_length_le (by rw [HL.out.2]; omega)] at heq
          exact decide_eq_true heq)
        clear heq
        go_wp2_with fail
        go_ret
        rw [Hr.out]
        exact ⟨rfl, _, rfl⟩
  · have hD : decide (xs.map Itm.key = ys.map Itm.key) = false := by
      rw [decide_eq_false_iff_not]
      intro hh
      have := congrArg List.length hh
      simp at this
      omega
    rw [hD]
    have hne' : ((len : Int) != (len2 : Int)) = true := by simp; omega
    clear hD hl hl2 h h2 hne
    go_enter Try.func46, Try.ntmps46
    go_wp2_with fail
    go_ret
    exact ⟨rfl, 0, rfl⟩
end Go.Proofs.Ytmfijcniaehooaa

/- The program's Unpack, Where and Patch of any layout and bytes, told by what the reference answers. -/
namespace Go.Proofs.Ytmfijcniaehooaa
set_option linter.unusedVariables false
open Go.RowKit

/-- How many bytes Unpack uses; what it reads. -/
def usedV (fs : List Fld) (bs : List Int) : Int := if errV fs bs = 0 then (posV fs bs fs.length : Int) else 0
def keysV (fs : List Fld) (bs : List Int) : List (Int × List Int) := if errV fs bs = 0 then (List.range fs.length).map (fun k => ((atV fs bs k).2.1, (atV fs bs k).2.2.1)) else []
theorem rdi_nil (w : World) : RdI w none 0 0 [] := ⟨rfl, Nat.le_refl _, Nat.zero_le _, by simp, fun _ => rfl, by simp⟩
theorem posV_le (fs : List Fld) (bs : List Int) (k : Nat) : posV fs bs k ≤ posV fs bs (k + 1) := by rw [posV_succ]; omega

theorem unpack_any (a : Option Addr) (len cap : Nat) (fs : List Fld) (w : World) (h : RdF w a len cap fs) (a2 : Option Addr) (len2 cap2 : Nat) (bs : List Int) (h2 : Rd w a2 len2 cap2 bs) (hbig : len2 ≤ 140737488355328) :
    Calls Try.prog 44 #[.slice a len cap, .slice a2 len2 cap2] w fun e w' => ∃ a' len' cap' items, e = .returned (.tuple #[.slice a' len' cap', .int .i64 (usedV fs bs), .int .i64 (errV fs bs)]) ∧ RdI w' a' len' cap' items ∧ items.map Itm.key = keysV fs bs ∧ Below w.heap.size w w' := by
  by_cases hE : errV fs bs = 0
  · obtain ⟨hch, hok⟩ := errV_ok hE
    obtain ⟨hpos, hq⟩ := unpack_oneway h2.hb hch hok
    have hl := h.hl
    refine (unpack_ok a len cap fs w h a2 len2 cap2 bs h2 hbig hch (fun k hk => hok k (by omega)) (fun k hk => ⟨(hq k (by omega)).2.2.1, (hq k (by omega)).2.2.2.1⟩)).mono ?_
    rintro e w' ⟨a', c', items, rfl, r, hm, hb⟩
    refine ⟨a', len, c', items, ?_, r, ?_, hb⟩
    · unfold usedV; rw [if_pos hE, hE, show fs.length = len by omega]
    · unfold keysV; rw [if_pos hE, show fs.length = len by omega]; exact hm
  · refine (unpack_err a len cap fs w h a2 len2 cap2 bs h2 hbig hE).mono ?_
    rintro e w' ⟨rfl, hb⟩
    refine ⟨none, 0, 0, [], ?_, rdi_nil w', ?_, hb⟩
    · unfold usedV; rw [if_neg hE]
    · unfold keysV; rw [if_neg hE]; rfl

theorem where_any (a : Option Addr) (len cap : Nat) (fs : List Fld) (w : World) (h : RdF w a len cap fs) (a2 : Option Addr) (len2 cap2 : Nat) (bs : List Int) (h2 : Rd w a2 len2 cap2 bs) (hbig : len2 ≤ 140737488355328) (i : Int) :
    Calls Try.prog 47 #[.slice a len cap, .slice a2 len2 cap2, .int .i64 i] w fun e w' => e = .returned (.tuple #[.int .i64 (spanV fs bs i).1, .int .i64 (spanV fs bs i).2.1, .int .i64 (spanV fs bs i).2.2]) ∧ Below w.heap.size w w' := by
  have hl := h.hl
  by_cases hE : errV fs bs = 0
  · obtain ⟨hch, hok⟩ := errV_ok hE
    by_cases hi : i < 0 ∨ (fs.length : Int) ≤ i
    · have hs : spanV fs bs i = (0, 0, 1) := by unfold spanV; rw [if_neg (by simp [hE]), if_pos hi]
      rw [hs]
      exact where_out a len cap fs w h a2 len2 cap2 bs h2 hbig hch (fun k hk => hok k (by omega)) i (by omega)
    · obtain ⟨n, rfl⟩ : ∃ n : Nat, i = n := ⟨i.toNat, by omega⟩
      have hs : spanV fs bs n = ((posV fs bs n : Int), (posV fs bs (n + 1) : Int), (0 : Int)) := by unfold spanV; rw [if_neg (by simp [hE]), if_neg hi]; rfl
      rw [hs]
      exact where_ok a len cap fs w h a2 len2 cap2 bs h2 hbig hch (fun k hk => hok k (by omega)) n (by omega)
  · have hs : spanV fs bs i = (0, 0, errV fs bs) := by unfold spanV; rw [if_pos hE]
    rw [hs]
    exact where_err a len cap fs w h a2 len2 cap2 bs h2 hbig hE i

theorem patch_any (a : Option Addr) (len cap : Nat) (fs : List Fld) (w : World) (h : RdF w a len cap fs) (a2 : Option Addr) (len2 cap2 : Nat) (bs : List Int) (h2 : Rd w a2 len2 cap2 bs) (hbig : len2 + 4105 ≤ 140737488355328) (i : Int) (x : Itm) (hx : x.Ok w) :
    Calls Try.prog 49 #[.slice a len cap, .slice a2 len2 cap2, .int .i64 i, .agg #[.int .i64 x.n, .slice x.a x.len x.cap]] w fun e w' => ∃ v, e = .returned (.tuple #[v, .int .i64 (patchR fs bs i x).1]) ∧ Own w' w.heap.size v (patchR fs bs i x).2 ∧ Below w.heap.size w w' := by
  have hl := h.hl
  by_cases hS : (spanV fs bs i).2.2 = 0
  · have hE : errV fs bs = 0 := by
      unfold spanV at hS
      by_cases h0 : errV fs bs = 0
      · exact h0
      · rw [if_pos h0] at hS; exact absurd hS h0
    obtain ⟨hch, hok⟩ := errV_ok hE
    obtain ⟨hpos, hq⟩ := unpack_oneway h2.hb hch hok
    have hi : ¬ (i < 0 ∨ (fs.length : Int) ≤ i) := by
      intro hi
      unfold spanV at hS
      rw [if_neg (by simp [hE]), if_pos hi] at hS
      exact absurd hS (by decide)
    obtain ⟨n, rfl⟩ : ∃ n : Nat, i = n := ⟨i.toNat, by omega⟩
    have hp := hpos (n + 1) (by omega)
    have hl2 := h2.hl
    have hfm : fs.getD n default ∈ fs := by
      have : fs.getD n default = fs[n] := by simp [List.getD, show n < fs.length by omega]
      rw [this]; exact List.getElem_mem _
    have hbad := (checkV_ok hch).2 _ hfm
    refine (patch_at_both n a len cap fs w h a2 len2 cap2 bs h2 hbig hch (fun k hk => hok k (by omega)) ⟨posV_le fs bs n, by omega⟩ (by omega) x hx).mono ?_
    rintro e w' ⟨v, rfl, ho, hn, hb⟩
    by_cases hP : packE (fs.getD n default).kind x.n (fs.getD n default).width x.xs = 0
    · have hR : patchR fs bs n x = (0, bs.take (posV fs bs n) ++ packB (fs.getD n default).kind x.n (fs.getD n default).width x.xs ++ bs.drop (posV fs bs (n + 1))) := by
        unfold patchR
        rw [if_neg (by simp [hS]), if_pos (show suitsV (fs.getD (n : Int).toNat default).kind x.n (fs.getD (n : Int).toNat default).width x.xs = true from (suits_iff _ _ _ _).mpr hP)]
        rfl
      rw [hR, hP]
      exact ⟨v, rfl, ho hP, hb⟩
    · have hsu : suitsV (fs.getD n default).kind x.n (fs.getD n default).width x.xs = false := by
        cases hs : suitsV (fs.getD n default).kind x.n (fs.getD n default).width x.xs with
        | false => rfl
        | true => exact absurd ((suits_iff _ _ _ _).mp hs) hP
      have hR : patchR fs bs n x = (24, []) := by
        unfold patchR
        rw [if_neg (by simp [hS]), if_neg (by rw [show (n : Int).toNat = n from rfl, hsu]; simp)]
      rw [hR, packE_24 hbad x.n x.xs hsu, hn hP]
      exact ⟨_, rfl, Own.nil _ _, hb⟩
  · have hR : patchR fs bs i x = ((spanV fs bs i).2.2, []) := by unfold patchR; rw [if_pos hS]
    have hsp : ∀ W, Below w.heap.size w W → Calls Try.prog 47 #[.slice a len cap, .slice a2 len2 cap2, .int .i64 i] W fun e w' => e = .returned (.tuple #[.int .i64 0, .int .i64 0, .int .i64 (spanV fs bs i).2.2]) ∧ Below W.heap.size W w' := by
      intro W hW
      have h0 : (spanV fs bs i).1 = 0 ∧ (spanV fs bs i).2.1 = 0 := by
        unfold spanV at hS ⊢
        by_cases hE : errV fs bs = 0
        · rw [if_neg (by simp [hE])] at hS ⊢
          by_cases hi : i < 0 ∨ (fs.length : Int) ≤ i
          · rw [if_pos hi]; exact ⟨rfl, rfl⟩
          · rw [if_neg hi] at hS; exact absurd rfl hS
        · rw [if_pos hE]; exact ⟨rfl, rfl⟩
      have := where_any a len cap fs W (h.below hW (Nat.le_refl _)) a2 len2 cap2 bs (h2.below hW (Nat.le_refl _)) (by omega) i
      rw [h0.1, h0.2] at this
      exact this
    rw [hR]
    refine (patch_no a len cap w a2 len2 cap2 i x.n x.a x.len x.cap _ hS hsp).mono ?_
    rintro e w' ⟨rfl, hb⟩
    exact ⟨_, rfl, Own.nil _ _, hb⟩

/-- What the reference's Unpack answers, to be read. -/
theorem UnpackPost.rd {fs : List Fld} {bs : List Int} {len : Nat} {w w' : World} {e : Ending} (hl : fs.length = len) (h : UnpackPost fs bs len w e w')
    (hbd : errV fs bs = 0 → ∀ k, k < len → -9223372036854775808 ≤ (atV fs bs k).2.1 ∧ (atV fs bs k).2.1 ≤ 9223372036854775807) :
    ∃ a l c a9 l9 c9 items, e = .returned (.agg #[.slice a l c, .slice a9 l9 c9, .int .i64 (errV fs bs)]) ∧ Below w.heap.size w w' ∧ RdI w' a l c items ∧ items.map Itm.key = keysV fs bs ∧
      (errV fs bs = 0 → ∃ g, a9 = some ⟨g, 0, none⟩ ∧ l9 = len + 1 ∧ w'.cell? ⟨g, len, none⟩ = some (.int .i64 (usedV fs bs))) := by
  obtain ⟨v0, v1, rfl, hb, hno, hyes⟩ := h
  by_cases hE : errV fs bs = 0
  · obtain ⟨items, r0, r1, hil, him, hox⟩ := hyes hE
    have hkey : items.map Itm.key = keysV fs bs := by unfold keysV; rw [if_pos hE, hl]; exact him
    have hx : ∀ x ∈ items, Own w' w.heap.size (.slice x.a x.len x.cap) x.xs ∧ -9223372036854775808 ≤ x.n ∧ x.n ≤ 9223372036854775807 := by
      intro x hx
      refine ⟨hox x hx, ?_⟩
      have hm : (x.n, x.xs) ∈ items.map (fun x => (x.n, x.xs)) := List.mem_map.mpr ⟨x, hx, rfl⟩
      rw [him] at hm
      obtain ⟨k, hk, hke⟩ := List.mem_map.mp hm
      have := hbd hE k (List.mem_range.mp hk)
      have hn : (atV fs bs k).2.1 = x.n := congrArg Prod.fst hke
      rw [← hn]; exact this
    obtain ⟨a, c, rfl, hr⟩ := items_row hil r0 hx
    obtain ⟨g, c1, rfl, hg⟩ := row_at r1 (by omega)
    refine ⟨a, len, c, _, _, _, items, rfl, hb, hr, hkey, fun _ => ⟨g, rfl, rfl, ?_⟩⟩
    rw [hg len (by omega)]
    unfold usedV
    rw [if_pos hE, hl]
    simp
  · obtain ⟨rfl, rfl⟩ := hno hE
    refine ⟨none, 0, 0, _, _, _, [], rfl, hb, rdi_nil w', ?_, fun h0 => absurd h0 hE⟩
    unfold keysV; rw [if_neg hE]; rfl
end Go.Proofs.Ytmfijcniaehooaa
