/- The reference's lists of bits: what List answers. -/
import Derived.Test.YthognmkjoekilaaDoorBmc
import Derived.Test.YthognmkjoekilaaDoorBsetp
namespace Go.Proofs.YthognmkjoekilaaDoor
set_option linter.unusedVariables false
open Go.RowKit Go.Shelf

/-- In w the slice value v, of blocks from B on, is these n bits. -/
def OwnL (w : World) (B : Nat) (v : Value) (n : Nat) (l : List Bool) : Prop := w.ownsRow B 4 1 v n (l.map Value.bool) ∧ l.length = n
/-- The slice (a, n, cap) reads in w as these bits. -/
structure RdL (w : World) (a : Option Addr) (n cap : Nat) (l : List Bool) : Prop where
  hl : l.length = n
  hc : n ≤ cap
  hm : cap ≤ maxLen
  hr : 0 < n → ∃ b off, a = some ⟨b, off, none⟩ ∧ ∀ i, i < n → w.cell? ⟨b, off + i, none⟩ = some (.bool (l.getD i false))
theorem OwnL.nil (w : World) (B : Nat) : OwnL w B (.slice none 0 0) 0 [] := ⟨World.ownsRow_nil _ _ _ _, rfl⟩
theorem OwnL.alloc {w : World} {B : Nat} {v : Value} {n : Nat} {l : List Bool} (h : OwnL w B v n l) (o : Obj) : OwnL (w.alloc o) B v n l := ⟨h.1.alloc o, h.2⟩
theorem OwnL.below {w w' : World} {B B' : Nat} {v : Value} {n : Nat} {l : List Bool} (h : OwnL w B v n l) (hb : Below B' w w') (hB : w.heap.size ≤ B') : OwnL w' B v n l := by
  refine ⟨⟨h.1.1, ?_⟩, h.2⟩
  rcases h.1.2 with hn | ⟨g, cap, cur, rfl, hg0, hg, rest⟩
  · exact .inl hn
  · refine .inr ⟨g, cap, cur, rfl, hg0, ?_, rest⟩
    rw [hb.block g (Nat.lt_of_lt_of_le (Array.getElem?_eq_some_iff.1 hg).1 hB)]
    exact hg
theorem OwnL.mono {w : World} {B B' : Nat} {v : Value} {n : Nat} {l : List Bool} (h : OwnL w B v n l) (hB : B' ≤ B) : OwnL w B' v n l := by
  refine ⟨⟨h.1.1, ?_⟩, h.2⟩
  rcases h.1.2 with hn | ⟨g, cap, cur, hv, hg0, rest⟩
  · exact .inl hn
  · exact .inr ⟨g, cap, cur, hv, Nat.le_trans hB hg0, rest⟩
theorem OwnL.rd {w : World} {B : Nat} {a : Option Addr} {m c : Nat} {n : Nat} {l : List Bool} (h : OwnL w B (.slice a m c) n l) : m = n ∧ RdL w a n c l := by
  have hl := h.2
  rcases h.1.2 with ⟨hv, h0⟩ | ⟨g, cap, cur, hv, hg0, hg, hnc, hcm, hcs, htake⟩
  · obtain rfl : n = 0 := by simpa using h0
    injection hv with h1 h2 h3
    subst h1 h2 h3
    obtain rfl : l = [] := by simpa using hl
    exact ⟨rfl, rfl, Nat.le_refl _, Nat.zero_le _, fun h => absurd h (by omega)⟩
  · injection hv with h1 h2 h3
    subst h1 h2 h3
    refine ⟨rfl, hl, hnc, hcm, fun _ => ⟨g, 0, rfl, fun i hi => ?_⟩⟩
    rw [h.1.cellAt (0 + i) (by simpa using hi), Nat.zero_add]
    rw [List.getElem?_map, List.getElem?_eq_getElem (by omega)]
    simp [List.getD, show i < l.length by omega]
theorem RdL.below {w w' : World} {B : Nat} {a : Option Addr} {n cap : Nat} {l : List Bool} (h : RdL w a n cap l) (hb : Below B w w') (hB : w.heap.size ≤ B) : RdL w' a n cap l := by
  refine ⟨h.hl, h.hc, h.hm, fun h0 => ?_⟩
  obtain ⟨b, off, ha, hc⟩ := h.hr h0
  refine ⟨b, off, ha, fun i hi => ?_⟩
  have hlt := World.block_lt_of_cell? w _ (hc i hi)
  exact (hb.cell (p := ⟨b, off + i, none⟩) (Nat.lt_of_lt_of_le hlt hB)).trans (hc i hi)
theorem Tryd.infoL : (Tryd.prog.info? 4).map (fun i => (i.zero, i.size, i.bytes)) = some (some (.bool false), 1, 1) := by kernel_rfl
section
variable {w : World} {ops : Array Oper} {rest : List Oper} {o : Oper} {a : Act} {Q : Exit → Act → World → Prop}
/-- One bit more. -/
theorem wpList_append_bool (hgd : o.guard = none) (s x : Operand)
    (ho : o.op = .call { callee := .builtin .append, args := #[s, x], argTypes := #[81, 81] }) (base : Nat)
    (v : Value) (n : Nat) (l : List Bool) (hs : a.eval s = v) (hown : OwnL w base v n l) (g : Nat) (b : Bool) (hx : a.eval x = .slice (some ⟨g, 0, none⟩) 1 1) (hg : Blk w g 4 #[.bool b])
    (hn : n ≤ 70000) (hbase : base ≤ w.heap.size)
    (h : ∀ a' c' w', OwnL w' base (.slice a' (n + 1) c') (n + 1) (l ++ [b]) → Below base w w' → wpList Tryd.prog ops Q rest (a.put o.dst (.slice a' (n + 1) c')) w') : wpList Tryd.prog ops Q (o :: rest) a w := by
  obtain ⟨i0, hi, hz0, hz1, hz2⟩ := info_parts Tryd.infoL
  have hvb := hown.1.lt
  refine wpList_append_own w hgd s x 81 ho base 4 i0 (.bool false) 1 1 Tryd.underlying81 hi hz0 hz1 hz2 rfl (by decide) v n _ hs hown.1 ⟨g, 0, none⟩ 1 1 [.bool b] hx (by simp) ?_ ?_ (by unfold maxLen; omega) (by omega) hbase ?_
  · intro j u hu
    have hj : j = 0 := by
      have := (List.getElem?_eq_some_iff.1 hu).1
      simp only [List.length_cons, List.length_nil] at this
      omega
    subst hj
    have hc := hg.cell 0
    simpa [Addr.add] using hc.trans (by simpa using hu)
  · intro u hu
    obtain rfl : u = .bool b := by simpa using hu
    rfl
  · intro v' w' ho' hg' _
    obtain ⟨a', c', rfl⟩ := row_slice ho'
    refine h a' c' w' ⟨by rw [List.map_append]; exact ho', by rw [List.length_append, hown.2]; rfl⟩ ?_
    exact (Below.refl _ w).grown hg' hbase (fun k e => (hvb k e).1)
end
theorem listV_next (bs : List Int) (k : Nat) : listV bs (k + 1) = listV bs k ++ [bitV bs k] := by
  unfold listV
  rw [List.range_succ, List.map_append]
  rfl
set_option maxRecDepth 100000 in
set_option maxHeartbeats 4000000 in
theorem list_any (M : Nat) (a : Option Addr) (l c : Nat) (bs : List Int) (w : World) (hr : Rd w a l c bs) (hM : M ≤ 65536) (hl : M ≤ 8 * l) :
    Calls Tryd.prog 56 #[.agg #[.int .i64 (M : Int), .slice a l c]] w fun e w' => ∃ a' c', e = .returned (.slice a' M c') ∧ OwnL w' w.heap.size (.slice a' M c') M (listV bs M) ∧ Below w.heap.size w w' := by
  obtain ⟨g, W, e1, e2, hB, hb, -⟩ := boxed (Below.refl _ w) (M : Int) a l c bs hr
  have HB := Lib.hid hB
  have Hb := Lib.hid hb
  have H2 := Lib.hid e2
  have H1 := Lib.hid e1
  have hsz := hb.size
  clear hr hB hb e1 e2
  go_enter Tryd.func56, Tryd.ntmps56
  go_upto_region 1 with fail
  rw [H2.out, H1.out]
  go_wp2_with fail
  go_loopw [3, 4] (fun o p wr => ∃ (k : Nat) (va : Option Addr) (vc : Nat), o = .slice va k vc ∧ p = .int .i64 (k : Int) ∧ k ≤ M ∧ OwnL wr W.heap.size (.slice va k vc) k (listV bs k) ∧ Below W.heap.size W wr) (fun _ p _ => M - (intOf p).toNat)
  case atStart => exact ⟨0, none, 0, rfl, rfl, Nat.zero_le _, OwnL.nil _ _, Below.refl _ _⟩
  case round =>
    obtain ⟨k, va, vc, rfl, rfl, hk, hO, hbr⟩ := hrel
    have hX := HB.out.below hbr
    have q0 : wr.cell? ⟨g, 0, none⟩ = some (.int .i64 (M : Int)) := hX.blk.cell 0
    have q1 : wr.cell? ⟨g, 1, none⟩ = some (.slice a l c) := hX.blk.cell 1
    have HO := Lib.hid hO
    have HX := Lib.hid hX
    have Hbr := Lib.hid hbr
    clear hO hX hbr
    by_cases hlt : k < M
    · have hki : (k : Int) < (M : Int) := by omega
      have C := Lib.hid (bit_any (M : Int) a l c bs k wr HX.out.rd (by omega))
      obtain ⟨B, hBt⟩ : ∃ B, B = bitV bs k := ⟨_, rfl⟩
      rw [← hBt] at C
      have Hn := Lib.hid (listV_next bs k)
      rw [← hBt] at Hn
      clear hBt
      go_wp2_with fail
      refine C.out.mono ?_
      rintro e u ⟨rfl, hbu⟩
      have HO' := Lib.hid (HO.out.below hbu (Nat.le_refl _))
      have Hb' := Lib.hid (Hbr.out.trans (hbu.mono Hbr.out.size))
      have hsu : W.heap.size ≤ u.heap.size := Hb'.out.size
      clear hbu HO HX Hbr C q0 q1
      go_wp2_with (refine wpList_append_bool rfl (.tmp 11) (.tmp 15) rfl W.heap.size (.slice va k vc) k (listV bs k) rfl (HO'.out.alloc _) u.heap.size B rfl (heap_new u _) (by omega) (by rw [World.size_alloc]; omega) ?_; intro a3 c3 w3 hO3 hb3)
      have hbU : Below u.heap.size u (u.alloc (.cells #[.bool B] 4)) := (Below.refl _ u).alloc (Nat.le_refl _) _
      rw [← Hn.out] at hO3
      have HO3 := Lib.hid hO3
      have Hb3 := Lib.hid (Hb'.out.trans ((hbU.mono hsu).trans hb3))
      clear hO3 hbU hb3 HO' Hb'
      go_wp2_with fail
      go_roundw
      case rel => exact ⟨k + 1, a3, c3, rfl, by go_num, by omega, HO3.out, Hb3.out⟩
      case measure => simp only [intOf]; omega
    · obtain rfl : k = M := by omega
      go_wp2_with fail
      go_ret
      exact ⟨va, vc, rfl, HO.out.mono hsz, Hb.out.trans (Hbr.out.mono hsz)⟩
end Go.Proofs.YthognmkjoekilaaDoor
