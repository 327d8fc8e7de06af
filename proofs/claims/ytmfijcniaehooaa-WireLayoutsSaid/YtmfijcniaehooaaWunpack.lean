/- Unpack answers as the chapter says for bytes that fit the layout. -/
import Derived.Test.YtmfijcniaehooaaWreadnil
import Derived.Test.YtmfijcniaehooaaWwhere
namespace Go.Proofs.Ytmfijcniaehooaa
set_option linter.unusedVariables false
open Go.RowKit

/-- Items of a call's own read as items. -/
theorem items_row {W : World} {B : Nat} {v : Value} {items : List Itm} {n : Nat} (hn : items.length = n) (h : W.ownsRow B 52 2 v n (itemCells items)) (hx : ∀ x ∈ items, Own W B (.slice x.a x.len x.cap) x.xs ∧ -9223372036854775808 ≤ x.n ∧ x.n ≤ 9223372036854775807) :
    ∃ a cap, v = .slice a n cap ∧ RdI W a n cap items := by
  have hok : ∀ x ∈ items, x.Ok W := by
    intro x hm
    obtain ⟨ho, h1, h2⟩ := hx x hm
    obtain ⟨a, c, e, hr⟩ := ho.rd
    simp only [Value.slice.injEq] at e
    obtain ⟨e1, e2, e3⟩ := e
    refine ⟨h1, h2, ?_⟩
    rw [e1, e2, e3]; exact hr
  rcases h.2 with ⟨rfl, h0⟩ | ⟨g, cap, cur, rfl, hg0, hg, hnc, hcm, hcs, htake⟩
  · have hz : items = [] := by
      apply List.eq_nil_of_length_eq_zero
      omega
    subst hz
    simp at hn
    subst hn
    exact ⟨none, 0, rfl, rfl, Nat.le_refl _, Nat.zero_le _, by simp, fun _ => rfl, by simp⟩
  · refine ⟨_, cap, rfl, hn, hnc, hcm, hok, (by intro e; cases e), fun _ => ⟨g, 0, rfl, fun i hi => ?_⟩⟩
    have hcell : ∀ j, j < items.length → (itemCells items)[j * 2]? = some (.int .i64 (items.getD j default).n) ∧ (itemCells items)[j * 2 + 1]? = some (.slice (items.getD j default).a (items.getD j default).len (items.getD j default).cap) := by
      clear h hcs htake hnc hx hok hg hn hi
      induction items with
      | nil => intro j hj; simp at hj
      | cons x xs ih =>
        intro j hj
        cases j with
        | zero => simp [itemCells]
        | succ j =>
          have := ih j (by simpa using hj)
          have e : itemCells (x :: xs) = .int .i64 x.n :: .slice x.a x.len x.cap :: itemCells xs := rfl
          rw [e, show (j + 1) * 2 = j * 2 + 1 + 1 by omega, show j * 2 + 1 + 1 + 1 = (j * 2 + 1) + 1 + 1 by omega]
          simpa using this
    have hlen := itemCells_len items
    rw [h.cellAt (0 + i * 2) (by omega), h.cellAt (0 + i * 2 + 1) (by omega), Nat.zero_add]
    exact hcell i (by omega)

set_option maxRecDepth 100000 in
set_option maxHeartbeats 1000000 in
/-- What Unpack gives, of bytes that are read wholly. -/
theorem unpack_ok (a : Option Addr) (len cap : Nat) (fs : List Fld) (w : World) (h : RdF w a len cap fs) (a2 : Option Addr) (len2 cap2 : Nat) (bs : List Int) (h2 : Rd w a2 len2 cap2 bs) (hbig : len2 ≤ 140737488355328) (hch : checkV fs = 0) (hok : ∀ k, k < len → (atV fs bs k).1 = 0)
    (hbd : ∀ k, k < len → -9223372036854775808 ≤ (atV fs bs k).2.1 ∧ (atV fs bs k).2.1 ≤ 9223372036854775807) :
    Calls Try.prog 44 #[.slice a len cap, .slice a2 len2 cap2] w fun e w' => ∃ a' cap' items, e = .returned (.tuple #[.slice a' len cap', .int .i64 (posV fs bs len), .int .i64 0]) ∧ RdI w' a' len cap' items ∧ items.map (fun x => (x.n, x.xs)) = (List.range len).map (fun k => ((atV fs bs k).2.1, (atV fs bs k).2.2.1)) ∧ Below w.heap.size w w' := by
  have h64 : len ≤ 64 := by have := (checkV_ok hch).1; have := h.hl; omega
  by_cases h0 : 0 < len
  · have H := Lib.hid h
    have H2 := Lib.hid h2
    have Hch := Lib.hid hch
    have Hok := Lib.hid hok
    have Hbd := Lib.hid hbd
    clear h h2 hch hok hbd
    go_enter Try.func44, Try.ntmps44
    go_wp2_with fail
    refine (readAll_ok a len cap fs w H.out a2 len2 cap2 bs H2.out hbig Hch.out h0 Hok.out).mono ?_
    rintro e w1 ⟨v0, v1, items, rfl, hr0, hr1, him, hown, hb⟩
    obtain ⟨g, cap1, rfl, hc⟩ := row_at hr1 (by omega)
    have c1 := hc len (by omega)
    rw [List.getElem?_map, List.getElem?_range (by omega)] at c1
    simp only [Option.map_some] at c1
    have hil : items.length = len := by have := congrArg List.length him; simpa using this
    have hbdx : ∀ x ∈ items, -9223372036854775808 ≤ x.n ∧ x.n ≤ 9223372036854775807 := by
      intro x hx
      have : (x.n, x.xs) ∈ items.map (fun x => (x.n, x.xs)) := List.mem_map.2 ⟨x, hx, rfl⟩
      rw [him] at this
      obtain ⟨k, hk, e⟩ := List.mem_map.1 this
      have := Hbd.out k (List.mem_range.1 hk)
      have e1 := congrArg Prod.fst e
      simp only at e1
      rw [← e1]; exact this
    obtain ⟨a', cap', rfl, hri⟩ := items_row hil hr0 (fun x hx => ⟨hown x hx, hbdx x hx⟩)
    have Hb := Lib.hid hb
    have Hri := Lib.hid hri
    have Him := Lib.hid him
    have g3 : (len : Int) < ((len + 1 : Nat) : Int) := by omega
    have g5 : (0 : Int) ≤ (len : Int) := by omega
    clear hr0 hr1 hc hb hri him hown hil hbdx
    go_wp2
    have g6 : (len : Int) < (len : Int) + 1 := by omega
    have g9 : len < len + 1 := by omega
    go_region
    all_goals go_wp2
    go_ret3
    all_goals exact ⟨_, _, items, rfl, Hri.out.below (Below.refl _ w1).drew (Nat.le_refl _), Him.out, Hb.out.drew⟩
  · obtain rfl : len = 0 := by omega
    obtain rfl : fs = [] := by have := h.hl; simpa using this
    have H := Lib.hid h
    have H2 := Lib.hid h2
    clear h h2 hch hok hbd
    have hp : posV [] bs 0 = 0 := by unfold posV; rfl
    rw [hp]
    clear hp
    go_enter Try.func44, Try.ntmps44
    go_wp2_with fail
    refine (readAll_nil a cap w H.out a2 len2 cap2 bs H2.out).mono ?_
    rintro e w1 ⟨v1, rfl, hr1, hb⟩
    obtain ⟨g, cap1, rfl, hc⟩ := row_at hr1 (by omega)
    have c1 := hc 0 (by omega)
    simp only [List.getElem?_cons_zero] at c1
    have Hb := Lib.hid hb
    clear hr1 hc hb
    go_wp2
    go_region
    all_goals go_wp2
    go_ret3
    all_goals exact ⟨_, _, [], rfl, ⟨rfl, Nat.le_refl _, Nat.zero_le _, by simp, fun _ => rfl, by simp⟩, rfl, Hb.out.drew⟩
end Go.Proofs.Ytmfijcniaehooaa
