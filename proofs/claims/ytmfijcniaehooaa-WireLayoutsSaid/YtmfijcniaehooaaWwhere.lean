/- Where answers as the chapter says for bytes that fit the layout. -/
import Derived.Test.YtmfijcniaehooaaWready
namespace Go.Proofs.Ytmfijcniaehooaa
set_option linter.unusedVariables false
open Go.RowKit

theorem row_at {W : World} {base : Nat} {e : TypeId} {v : Value} {n : Nat} {xs : List Value} (h : W.ownsRow base e 1 v n xs) (h0 : 0 < n) : ∃ g cap, v = .slice (some ⟨g, 0, none⟩) n cap ∧ ∀ j, j < n → W.cell? ⟨g, j, none⟩ = xs[j]? := by
  rcases h.2 with ⟨rfl, hn⟩ | ⟨g, cap, cur, rfl, _⟩
  · omega
  · exact ⟨g, cap, rfl, fun j hj => h.cellAt j (by omega)⟩
set_option maxRecDepth 100000 in
set_option maxHeartbeats 1000000 in
/-- Where a field lies, in bytes that are read wholly. -/
theorem where_ok (a : Option Addr) (len cap : Nat) (fs : List Fld) (w : World) (h : RdF w a len cap fs) (a2 : Option Addr) (len2 cap2 : Nat) (bs : List Int) (h2 : Rd w a2 len2 cap2 bs) (hbig : len2 ≤ 140737488355328) (hch : checkV fs = 0) (hok : ∀ k, k < len → (atV fs bs k).1 = 0) (i : Nat) (hi : i < len) :
    Calls Try.prog 47 #[.slice a len cap, .slice a2 len2 cap2, .int .i64 i] w fun e w' => e = .returned (.tuple #[.int .i64 (posV fs bs i), .int .i64 (posV fs bs (i + 1)), .int .i64 0]) ∧ Below w.heap.size w w' := by
  have h64 : len ≤ 64 := by have := (checkV_ok hch).1; have := h.hl; omega
  have H := Lib.hid h
  have H2 := Lib.hid h2
  have Hch := Lib.hid hch
  have Hok := Lib.hid hok
  have g0 : (0 : Int) ≤ (i : Int) := by omega
  have g1 : (i : Int) < (len : Int) := by omega
  have g2 : ¬ ((i : Int) < 0) := by omega
  clear h h2 hch hok
  go_enter Try.func47, Try.ntmps47
  go_wp2_with fail
  refine (readAll_ok a len cap fs w H.out a2 len2 cap2 bs H2.out hbig Hch.out (by omega) Hok.out).mono ?_
  rintro e w1 ⟨v0, v1, items, rfl, hr0, hr1, -, -, hb⟩
  obtain ⟨g, cap1, rfl, hc⟩ := row_at hr1 (by omega)
  have c0 := hc i (by omega)
  have c1 := hc (i + 1) (by omega)
  rw [List.getElem?_map, List.getElem?_range (by omega)] at c0 c1
  simp only [Option.map_some] at c0 c1
  have Hb := Lib.hid hb
  have g3 : (i : Int) < ((len + 1 : Nat) : Int) := by omega
  have g4 : (i : Int) + 1 < ((len + 1 : Nat) : Int) := by omega
  have g5 : (0 : Int) ≤ (i : Int) + 1 := by omega
  clear hr0 hr1 hc hb
  go_wp2
  have g6 : (i : Int) < (len : Int) + 1 := by omega
  have g7 : (i : Int) + 1 < (len : Int) + 1 := by omega
  have g8 : ((i : Int) + 1).toNat = i + 1 := by omega
  have g9 : i < len + 1 := by omega
  have g10 : i + 1 < len + 1 := by omega
  have g11 : IntKind.i64.wrap ((i : Int) + 1) = (i : Int) + 1 := by rw [IntKind.wrap_i64]; omega
  go_region
  all_goals go_wp2
  go_ret3
  all_goals exact ⟨rfl, Hb.out.drew⟩
end Go.Proofs.Ytmfijcniaehooaa
