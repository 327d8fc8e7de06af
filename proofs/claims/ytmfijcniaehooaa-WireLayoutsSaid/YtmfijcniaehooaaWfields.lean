/- Layouts in memory, and whether a name occurs among fields. -/
import Derived.Test.YtmfijcniaehooaaWkinds
namespace Go.Proofs.Ytmfijcniaehooaa
set_option linter.unusedVariables false
open Go.RowKit

/-- A field of a layout. -/
structure Fld where
  name : ByteArray
  kind : Int
  width : Int
/-- The cell j of a field. -/
def Fld.cell (f : Fld) : Nat → Value
  | 0 => .string f.name
  | 1 => .int .i64 f.kind
  | _ => .int .i64 f.width
def Fld.val (f : Fld) : Value := .agg #[.string f.name, .int .i64 f.kind, .int .i64 f.width]
structure Fld.Ok (f : Fld) : Prop where
  k1 : -9223372036854775808 ≤ f.kind
  k2 : f.kind ≤ 9223372036854775807
  w1 : -9223372036854775808 ≤ f.width
  w2 : f.width ≤ 9223372036854775807
instance : Inhabited Fld := ⟨⟨ByteArray.empty, 0, 0⟩⟩

set_option maxHeartbeats 400000 in
theorem taken_any (f : Fld) (g : ByteArray) (F : Nat) (w : World) (hF : w.cell? ⟨F, 0, none⟩ = some (.string g)) :
    Calls Try.prog 71 #[f.val, .pointer (some ⟨F, 0, none⟩)] w fun e w' => e = .returned (.bool (f.name.toList == g.toList)) ∧ Below w.heap.size w w' := by
  have hb := World.block_lt_of_cell? w _ hF
  unfold Fld.val
  go_enter Try.func71, Try.ntmps71
  go_wp2
  go_ret
  exact ⟨rfl, (Below.refl _ _).alloc (Nat.le_refl _) _⟩

/-- The slice (a, len, cap) reads in w as the fields fs. -/
structure RdF (w : World) (a : Option Addr) (len cap : Nat) (fs : List Fld) : Prop where
  hl : fs.length = len
  hc : len ≤ cap
  hm : cap ≤ maxLen
  hb : ∀ f ∈ fs, f.Ok
  hn : a = none → cap = 0
  hr : 0 < len → ∃ b off, a = some ⟨b, off, none⟩ ∧ ∀ i, i < len →
    w.cell? ⟨b, off + i * 3, none⟩ = some (.string (fs.getD i default).name) ∧ w.cell? ⟨b, off + i * 3 + 1, none⟩ = some (.int .i64 (fs.getD i default).kind) ∧ w.cell? ⟨b, off + i * 3 + 2, none⟩ = some (.int .i64 (fs.getD i default).width)
theorem RdF.below {w w' : World} {B : Nat} {a : Option Addr} {len cap : Nat} {xs : List Fld} (h : RdF w a len cap xs) (hb : Below B w w') (hB : w.heap.size ≤ B) : RdF w' a len cap xs := by
  refine ⟨h.hl, h.hc, h.hm, h.hb, h.hn, fun h0 => ?_⟩
  obtain ⟨b, off, ha, hc⟩ := h.hr h0
  refine ⟨b, off, ha, fun i hi => ?_⟩
  have hk : ∀ {p : Addr} {v : Value}, w.cell? p = some v → w'.cell? p = some v := fun {p v} h => (hb.cell (Nat.lt_of_lt_of_le (World.block_lt_of_cell? w _ h) hB)).trans h
  exact ⟨hk (hc i hi).1, hk (hc i hi).2.1, hk (hc i hi).2.2⟩

/-- The index of the first field of this name, from i on. -/
def idxV (g : ByteArray) : List Fld → Nat → Int
  | [], _ => -1
  | f :: fs, i => if (f.name.toList == g.toList) = true then i else idxV g fs (i + 1)

set_option maxRecDepth 100000 in
set_option maxHeartbeats 400000 in
theorem index_any (a : Option Addr) (len cap : Nat) (fs : List Fld) (g : ByteArray) (F : Nat) (w : World) (h : RdF w a len cap fs) (hF : w.cell? ⟨F, 0, none⟩ = some (.string g)) :
    Calls Try.prog 101 #[.slice a len cap, .func (.func 71) #[] #[.pointer (some ⟨F, 0, none⟩)]] w fun e w' => e = .returned (.int .i64 (idxV g fs 0)) ∧ Below w.heap.size w w' := by
  have hc := h.hc
  have hm := h.hm
  have hl := h.hl
  unfold maxLen at hm
  by_cases h0 : 0 < len
  · obtain ⟨b, off, rfl, hcell⟩ := h.hr h0
    have hbk := World.block_lt_of_cell? w _ (hcell 0 h0).1
    have hFb := World.block_lt_of_cell? w _ hF
    have Hl := Lib.hid hl
    have Hcell := Lib.hid hcell
    have HF := Lib.hid hF
    clear h hcell hF hl
    go_enter Try.func101, Try.ntmps101
    go_wp2
    go_loopw [5, 8] (fun _ i wr => ∃ k : Nat, k ≤ len ∧ i = .int .i64 k ∧ idxV g fs 0 = idxV g (fs.drop k) k ∧ Below w.heap.size w wr)
        (fun _ i _ => len - (intOf i).toNat)
    case atStart => exact ⟨0, Nat.zero_le _, rfl, rfl, Below.refl _ _⟩
    case round =>
      obtain ⟨k, hk, rfl, hv, hb⟩ := hrel
      by_cases hlt : k < len
      · obtain ⟨c0, c1, c2⟩ := Hcell.out k hlt
        replace c0 := (hb.cell (p := ⟨b, off + k * 3, none⟩) hbk).trans c0
        replace c1 := (hb.cell (p := ⟨b, off + k * 3 + 1, none⟩) hbk).trans c1
        replace c2 := (hb.cell (p := ⟨b, off + k * 3 + 2, none⟩) hbk).trans c2
        have hFr := (hb.cell (p := ⟨F, 0, none⟩) hFb).trans HF.out
        obtain ⟨f, hf⟩ : ∃ f, f = fs.getD k default := ⟨_, rfl⟩
        rw [← hf] at c0 c1 c2
        have hd : fs.drop k = f :: fs.drop (k + 1) := by
          rw [List.drop_eq_getElem_cons (by rw [Hl.out]; exact hlt), hf]
          simp [List.getD, Hl.out, hlt]
        rw [hd, idxV] at hv
        have Hv := Lib.hid hv
        have Hb := Lib.hid hb
        clear hv hd hf hb
        go_wp2_with fail
        refine (taken_any f g F _ hFr).mono ?_
        rintro e w2 ⟨rfl, hb2⟩
        have Hb2 : Hid (Below w.heap.size w w2) := Lib.hid (Hb.out.trans (hb2.mono Hb.out.size))
        clear hb2 c0 c1 c2 hFr
        cases hq : (f.name.toList == g.toList)
        · have Hv2 : Hid (idxV g fs 0 = idxV g (fs.drop (k + 1)) (k + 1)) := Lib.hid (by rw [Hv.out, if_neg (by simp [hq])])
          clear hq
          go_wp2
          go_roundw
          case rel => exact ⟨k + 1, by omega, by go_num, Hv2.out, Hb2.out⟩
          case measure => simp [intOf]; omega
        · have Hv2 : Hid (idxV g fs 0 = k) := Lib.hid (by rw [Hv.out, if_pos (by simp [hq])])
          clear hq
          go_wp2
          go_ret
          exact ⟨ret_int Hv2.out.symm, Hb2.out⟩
      · have Hv2 : Hid (idxV g fs 0 = -1) := Lib.hid (by rw [hv, List.drop_of_length_le (by rw [Hl.out]; omega), idxV])
        have Hb := Lib.hid hb
        clear hv hb
        go_wp2
        go_ret
        exact ⟨ret_int Hv2.out.symm, Hb.out⟩
  · obtain rfl : len = 0 := by omega
    obtain rfl : fs = [] := by simpa using hl
    clear h hl hF
    go_enter Try.func101, Try.ntmps101
    go_wp2
    refine wp_loop_rounds 1 ?_
    rw [rounds_succ]
    go_wp2
    go_ret
    exact ⟨rfl, Below.refl _ _⟩

/-- Is there a field of this name? -/
def hasName (g : ByteArray) (fs : List Fld) : Bool := fs.any fun f => f.name.toList == g.toList
theorem idxV_iff (g : ByteArray) (fs : List Fld) : ∀ i : Nat, (hasName g fs = true ∧ 0 ≤ idxV g fs i) ∨ (hasName g fs = false ∧ idxV g fs i = -1) := by
  induction fs with
  | nil => intro i; right; exact ⟨rfl, rfl⟩
  | cons f fs ih =>
    intro i
    unfold idxV
    cases hq : (f.name.toList == g.toList)
    · have e : hasName g (f :: fs) = hasName g fs := by unfold hasName; rw [List.any_cons, hq]; rfl
      rw [e, if_neg (by simp)]
      exact ih (i + 1)
    · left
      refine ⟨by unfold hasName; rw [List.any_cons, hq]; rfl, ?_⟩
      rw [if_pos rfl]; omega

set_option maxRecDepth 100000 in
set_option maxHeartbeats 400000 in
theorem contains_any (a : Option Addr) (len cap : Nat) (fs : List Fld) (g : ByteArray) (F : Nat) (w : World) (h : RdF w a len cap fs) (hF : w.cell? ⟨F, 0, none⟩ = some (.string g)) :
    Calls Try.prog 72 #[.slice a len cap, .func (.func 71) #[] #[.pointer (some ⟨F, 0, none⟩)]] w fun e w' => e = .returned (.bool (hasName g fs)) ∧ Below w.heap.size w w' := by
  have H := Lib.hid h
  have HF := Lib.hid hF
  clear h hF
  rcases idxV_iff g fs 0 with ⟨h1, h2⟩ | ⟨h1, h2⟩
  · rw [h1]
    clear h1
    go_enter Try.func72, Try.ntmps72
    go_wp2_with (go_at_call 101; refine (index_any _ _ _ _ g F _ H.out HF.out).mono ?_; rintro e w2 ⟨rfl, hb2⟩)
    go_ret
    exact ⟨by simp [h2], by assumption⟩
  · rw [h1]
    have h3 : idxV g fs 0 < 0 := by omega
    clear h1 h2
    go_enter Try.func72, Try.ntmps72
    go_wp2_with (go_at_call 101; refine (index_any _ _ _ _ g F _ H.out HF.out).mono ?_; rintro e w2 ⟨rfl, hb2⟩)
    go_ret
    exact ⟨by simp; omega, by assumption⟩
end Go.Proofs.Ytmfijcniaehooaa
