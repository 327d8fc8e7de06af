/- Text answers as the chapter says. -/
import Derived.Test.YtmfijcniaehooaaWrd
namespace Go.Proofs.Ytmfijcniaehooaa
set_option linter.unusedVariables false
open Go.RowKit

/-- The error and the bytes of Text. -/
def textE (xs : List Int) : Int := if 65535 < xs.length then 2 else 0
def textV (xs : List Int) : List Int := if 65535 < xs.length then [] else varB xs.length ++ xs

set_option maxRecDepth 100000 in
set_option maxHeartbeats 400000 in
theorem text_any (a : Option Addr) (len cap : Nat) (xs : List Int) (w : World) (h : Rd w a len cap xs) :
    Calls Try.prog 33 #[.slice a len cap] w fun e w' =>
      ∃ v, e = .returned (.tuple #[v, .int .i64 (textE xs)]) ∧ Own w' w.heap.size v (textV xs) ∧ Below w.heap.size w w' := by
  have hl := h.hl
  have hm := h.hm
  have hc := h.hc
  unfold maxLen at hm
  by_cases hbig : 65535 < len
  · have hE : textE xs = 2 := by unfold textE; rw [if_pos (by omega)]
    have hV : textV xs = [] := by unfold textV; rw [if_pos (by omega)]
    rw [hE, hV]
    clear hE hV h hl
    go_enter Try.func33, Try.ntmps33
    go_wp2
    go_ret2
    exact ⟨_, rfl, Own.nil _ _, Below.refl _ _⟩
  · have hE : textE xs = 0 := by unfold textE; rw [if_neg (by omega)]
    have hV : textV xs = varB len ++ xs := by unfold textV; rw [if_neg (by omega), hl]
    rw [hE, hV]
    clear hE hV
    have HI := Lib.hid (info_parts Try.infoB)
    have HE : Hid (varE len = 0 ∧ varV len = varB len) := Lib.hid (by unfold varE varV; rw [if_neg (by omega), if_neg (by omega)]; exact ⟨rfl, rfl⟩)
    have Hl := Lib.hid hl
    clear hl
    go_enter Try.func33, Try.ntmps33
    go_wp2_with fail
    refine (var_any _ _ (by omega)).mono ?_
    rintro e w1 ⟨v, rfl, ho, hb⟩
    rw [HE.out.1]
    rw [HE.out.2] at ho
    have h1 := h.below hb (Nat.le_refl _)
    have hvl := varB_len len
    have hsz := hb.size
    have Ho := Lib.hid ho
    have Hb := Lib.hid hb
    have H1 := Lib.hid h1
    clear h h1 ho hb HE
    go_wp2_with (refine wpList_append_rd rfl (.tmp 15) (.tmp 16) 22 rfl w.heap.size Try.infoB Try.underlying22 _ _ rfl Ho.out _ _ _ _ rfl H1.out (by omega) (by omega) ?_; intro v' w2 ho2 hg2)
    go_ret2
    refine ⟨_, rfl, ho2, Hb.out.grown hg2 (by omega) ?_⟩
    intro k hk
    exact (Ho.out.1.lt k hk).1
end Go.Proofs.Ytmfijcniaehooaa
