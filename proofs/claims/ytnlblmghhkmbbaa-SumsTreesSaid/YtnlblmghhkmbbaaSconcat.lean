/- slices.Concat of parts: a row of the call's own. -/
import Derived.Test.YtnlblmghhkmbbaaSrd
import Derived.Lib.AppendZeros
namespace Go.Proofs.Ytnlblmghhkmbbaa
set_option linter.unusedVariables false
open Go.RowKit

set_option maxRecDepth 100000 in
set_option maxHeartbeats 1000000 in
theorem grow_any (n : Nat) (w : World) (hn : n ≤ 140737488355328) :
    Calls Try.prog 92 #[.slice none 0 0, .int .i64 n] w fun e w' => ∃ v, e = .returned v ∧ Own w' w.heap.size v [] ∧ Below w.heap.size w w' := by
  obtain ⟨i0, hi, hz0, hz1, hz2⟩ := info_parts Try.infoB
  have h1 : ¬ ((n : Int) < 0) := by omega
  by_cases h0 : 0 < n
  · have h4 : (n : Int) > 0 := by omega
    have hr : ∀ ty, (Builtin.append_ #[22, 3] ty #[.slice none 0 0, .int .i64 (n : Int)]).run Try.prog w = _ := fun ty =>
      Lib.run_append_nil_zeros w 22 3 ty 5 i0 (.int .u8 0) .i64 .i64 Try.underlying22 Try.underlying3 hi hz0 n h0 (by omega) (by omega) (by rw [hz2]; omega)
    have hGn : n ≤ grownCap w n 0 5 := grownCap_ge w _ _ _
    have hG63 := grownCap_le_maxLen w n 0 5 (by unfold maxLen; omega)
    obtain ⟨G, hG⟩ : ∃ G, G = grownCap w n 0 5 := ⟨_, rfl⟩
    rw [← hG] at hr hGn hG63
    obtain ⟨zs, hzs⟩ : ∃ zs, zs = Builtin.zeroCells (Value.int .u8 0).cells n ++ Builtin.zeroCells (Value.int .u8 0).cells (G - n) := ⟨_, rfl⟩
    have hzl : zs.size = G := by
      rw [hzs, Array.size_append, size_zeroCells, size_zeroCells]
      show n * 1 + (G - n) * 1 = G
      omega
    rw [← hzs] at hr
    have hG63' : G ≤ maxLen := hG63
    unfold maxLen at hG63
    have hO : Own (w.drew.alloc (.cells zs 5)) w.heap.size (.slice (some ⟨w.heap.size, 0, none⟩) 0 G) [] :=
      ⟨World.ownsRow_made (base := w.heap.size) (e := 5) (size := 1) w.drew zs G (Nat.le_refl _) hG63' (by rw [hzl]; omega), by simp⟩
    have HO := Lib.hid hO
    clear hG hzs hzl hO hG63'
    go_enter Try.func92, Try.ntmps92
    go_wp2_with (at_builtin; refine Lib.wpList_append_run _ rfl _ _ _ _ rfl _ _ rfl rfl _ _ (hr _) ?_)
    go_ret
    exact ⟨_, rfl, HO.out, (Below.refl w.heap.size w).drew.alloc (Nat.le_refl _) _⟩
  · obtain rfl : n = 0 := by omega
    go_enter Try.func92, Try.ntmps92
    go_wp2
    go_ret
    exact ⟨_, rfl, Own.nil _ _, Below.refl _ _⟩

/-- A part: a slice, and the bytes that it reads as. -/
structure Pc where
  a : Option Addr
  len : Nat
  cap : Nat
  xs : List Int
def catV (ps : List Pc) : List Int := (ps.map (·.xs)).flatten
/-- Parts in memory. -/
structure RdP (w : World) (a : Option Addr) (len cap : Nat) (ps : List Pc) : Prop where
  hl : ps.length = len
  hc : len ≤ cap
  hm : cap ≤ maxLen
  hb : ∀ p ∈ ps, Rd w p.a p.len p.cap p.xs
  hr : 0 < len → ∃ b off, a = some ⟨b, off, none⟩ ∧ ∀ i (h : i < ps.length), w.cell? ⟨b, off + i, none⟩ = some (.slice ps[i].a ps[i].len ps[i].cap)
theorem RdP.below {w w' : World} {B : Nat} {a : Option Addr} {len cap : Nat} {ps : List Pc} (h : RdP w a len cap ps) (hb : Below B w w') (hB : w.heap.size ≤ B) : RdP w' a len cap ps := by
  refine ⟨h.hl, h.hc, h.hm, fun p hp => (h.hb p hp).below hb hB, fun h0 => ?_⟩
  obtain ⟨b, off, ha, hc⟩ := h.hr h0
  refine ⟨b, off, ha, fun i hi => ?_⟩
  have hlt := World.block_lt_of_cell? w _ (hc i hi)
  exact (hb.cell (p := ⟨b, off + i, none⟩) (Nat.lt_of_lt_of_le hlt hB)).trans (hc i hi)
theorem cat_snoc (ps : List Pc) (k : Nat) (h : k < ps.length) : catV (ps.take (k + 1)) = catV (ps.take k) ++ ps[k].xs := by
  unfold catV
  rw [List.take_succ_eq_append_getElem h, List.map_append, List.flatten_append]
  simp only [List.map_cons, List.map_nil, List.flatten_cons, List.flatten_nil, List.append_nil]
theorem cat_take (ps : List Pc) (k : Nat) : (catV (ps.take k)).length ≤ (catV ps).length := by
  have : catV ps = catV (ps.take k) ++ catV (ps.drop k) := by
    unfold catV
    rw [← List.flatten_append, ← List.map_append, List.take_append_drop]
  rw [this, List.length_append]; omega
set_option maxRecDepth 100000 in
set_option maxHeartbeats 1000000 in
theorem concat_any (a : Option Addr) (len cap : Nat) (ps : List Pc) (w : World) (h : RdP w a len cap ps) (hbig : (catV ps).length ≤ 140737488355328) :
    Calls Try.prog 77 #[.slice a len cap] w fun e w' => ∃ v, e = .returned v ∧ Own w' w.heap.size v (catV ps) ∧ Below w.heap.size w w' := by
  have hl := h.hl
  have hm := h.hm
  have hc := h.hc
  unfold maxLen at hm
  have H := Lib.hid h
  have Hl := Lib.hid hl
  have Hbig := Lib.hid hbig
  clear h hl hbig
  go_enter Try.func77, Try.ntmps77
  go_wp2_with fail
  go_loop [3, 11] (fun c i => ∃ k : Nat, k ≤ len ∧ i = .int .i64 k ∧ c = .int .i64 ((catV (ps.take k)).length : Nat)) (fun _ i => len - (intOf i).toNat)
  case atStart => exact ⟨0, Nat.zero_le _, rfl, rfl⟩
  case round =>
    obtain ⟨k, hk, rfl, rfl⟩ := hrel
    have hct := cat_take ps k
    have hbig := Hbig.out
    obtain ⟨n, hn⟩ : ∃ n, n = (catV (ps.take k)).length := ⟨_, rfl⟩
    have Hn := Lib.hid hn
    by_cases hlt : k < len
    · have hl := Hl.out
      obtain ⟨b, off, rfl, hcell⟩ := H.out.hr (by omega)
      have hc' := hcell k (by omega)
      have hs := cat_snoc ps k (by omega)
      have hct1 := cat_take ps (k + 1)
      have hp := H.out.hb ps[k] (List.getElem_mem _)
      obtain ⟨p, hpk⟩ : ∃ p, p = ps[k] := ⟨_, rfl⟩
      rw [← hpk] at hc' hs hp
      have hpl := hp.hl
      have hle : (catV (ps.take (k + 1))).length = n + p.len := by rw [hs, List.length_append, ← hn, hpl]
      have Hle := Lib.hid hle
      rw [← hn]
      rw [hle] at hct1
      have hnn : n + p.len ≤ 140737488355328 := by omega
      have hk0 : (0 : Int) ≤ (k : Int) := by omega
      have hk1 : (k : Int) < (len : Int) := by omega
      have hs0 : ¬ ((n : Int) + (p.len : Int) < 0) := by omega
      obtain ⟨pa, pl, pc, px⟩ := p
      simp only at hc' hnn hs0
      clear hcell hs hct1 hp hpk hpl hle hn hl hct hbig
      go_wp2_with fail
      go_round
      case rel => exact ⟨k + 1, by omega, by go_num, by rw [Hle.out]; go_num⟩
      case measure => simp [intOf]; omega
    · have ht : ps.take k = ps := List.take_of_length_le (by rw [Hl.out]; omega)
      rw [ht] at hn ⊢
      rw [← hn] at hbig ⊢
      have Hn := Lib.hid hn
      clear hn ht hct
      go_wp2_with fail
      refine (grow_any n w hbig).mono ?_
      rintro e w1 ⟨v0, rfl, ho, hb⟩
      have H1 := Lib.hid (H.out.below hb (Nat.le_refl _))
      have Ho := Lib.hid ho
      have Hb := Lib.hid hb
      clear ho hb
      go_wp2_with fail
      go_loopw [6, 27] (fun v i wr => ∃ k : Nat, k ≤ len ∧ i = .int .i64 k ∧ Own wr w.heap.size v (catV (ps.take k)) ∧ Below w.heap.size w wr) (fun _ i _ => len - (intOf i).toNat)
      case atStart => exact ⟨0, Nat.zero_le _, rfl, Ho.out, Hb.out⟩
      case round =>
        obtain ⟨k, hk, rfl, ho, hb⟩ := hrel
        have Hb1 := Lib.hid hb
        have Ho1 := Lib.hid ho
        by_cases hlt : k < len
        · have hl := Hl.out
          have hR := H.out.below hb (Nat.le_refl _)
          obtain ⟨b, off, rfl, hcell⟩ := hR.hr (by omega)
          have hc' := hcell k (by omega)
          have hs := cat_snoc ps k (by omega)
          have hct1 := cat_take ps (k + 1)
          have hp := hR.hb ps[k] (List.getElem_mem _)
          obtain ⟨p, hpk⟩ : ∃ p, p = ps[k] := ⟨_, rfl⟩
          rw [← hpk] at hc' hs hp
          obtain ⟨pa, pl, pc, px⟩ := p
          have hpl := hp.hl
          simp only at hpl hp hc' hs
          rw [hs, List.length_append, hpl] at hct1
          have Hs := Lib.hid hs
          have Hp := Lib.hid hp
          have hk0 : (0 : Int) ≤ (k : Int) := by omega
          have hk1 : (k : Int) < (len : Int) := by omega
          have hbs := hb.size
          have hal : (catV (ps.take k)).length + pl ≤ 140737488355328 := by have := Hbig.out; omega
          clear hcell hs hct1 hpk hpl hl hR hp ho hb
          go_wp2_with (refine wpList_append_rd rfl (.tmp 31) (.tmp 32) 22 rfl w.heap.size Try.infoB Try.underlying22 _ _ rfl Ho1.out _ _ _ _ rfl Hp.out hal hbs ?_; intro v' w3 ho3 hg3)
          have hlt3 := Ho1.out.1.lt
          have Hb5 : Hid (Below w.heap.size w w3) := Lib.hid (Hb1.out.grown hg3 hbs (fun k hk => (hlt3 k hk).1))
          have Ho3 := Lib.hid ho3
          clear hg3 hlt3 ho3
          go_roundw
          case rel => exact ⟨k + 1, by omega, by go_num, by rw [Hs.out]; exact Ho3.out, Hb5.out⟩
          case measure => simp [intOf]; omega
        · have ht : ps.take k = ps := List.take_of_length_le (by rw [Hl.out]; omega)
          rw [ht] at Ho1
          clear ho hb ht
          go_wp2_with fail
          go_ret
          exact ⟨_, rfl, Ho1.out, Hb1.out⟩
end Go.Proofs.Ytnlblmghhkmbbaa
