/- Lemmas for absorb. -/
import Derived.Test.YtnlblmghhkmbbaaSround
import Derived.Test.YtnlblmghhkmbbaaSconcat
import Derived.Stop.RegionWithIn
import Derived.Sort.QuietIn
namespace Go.Proofs.Ytnlblmghhkmbbaa
set_option linter.unusedVariables false
open Go.RowKit Go.Shelf
attribute [local go_sem] Oper.semAt_some

theorem clone_any (a : Option Addr) (len cap : Nat) (xs : List Int) (w : World) (h : Rd w a len cap xs) (hbig : len ≤ 140737488355328) :
    Calls Try.prog 80 #[.slice a len cap] w fun e w' => ∃ v, e = .returned v ∧ Own w' w.heap.size v xs ∧ Below w.heap.size w w' := by
  have hl := h.hl
  cases a with
  | none =>
    have h0 := h.hn rfl
    have h1 := h.hc
    obtain rfl : xs = [] := by
      apply List.eq_nil_of_length_eq_zero; omega
    refine (Try.bytes_Clone_nil len cap w).mono ?_
    rintro e w' ⟨rfl, rfl⟩
    exact ⟨_, rfl, Own.nil _ _, Below.refl _ _⟩
  | some x =>
    refine (Try.bytes_Clone_at x len cap xs w hl hbig ?_).mono ?_
    · intro i hi
      refine h.cells i _ ?_
      simp [getD_at xs i (by omega), List.getElem?_eq_getElem (show i < xs.length by omega)]
    · rintro e w' ⟨v, rfl, ho, _, hb⟩
      exact ⟨v, rfl, ⟨by rw [hl]; exact ho, h.hb⟩, hb⟩
theorem load_at (a : Option Addr) (len cap : Nat) (xs : List Int) (y : B32) (w : World) (h : Rd w a len cap xs) (h4 : 4 ≤ len) (hy : y = loadK xs 4) :
    Calls Try.prog 79 #[.slice a len cap] w fun e w' => e = .returned (.int .u32 (y.toNat : Int)) ∧ w' = w := by
  subst hy; exact load_any a len cap xs w h h4
theorem permute_at (s : St) (w : World) : Calls Try.prog 36 #[.agg #[.int .u32 ((s 0).toNat : Int), .int .u32 ((s 1).toNat : Int), .int .u32 ((s 2).toNat : Int), .int .u32 ((s 3).toNat : Int), .int .u32 ((s 4).toNat : Int), .int .u32 ((s 5).toNat : Int), .int .u32 ((s 6).toNat : Int), .int .u32 ((s 7).toNat : Int)]] w fun e w' =>
    e = .returned (.agg #[.int .u32 ((permV s 0).toNat : Int), .int .u32 ((permV s 1).toNat : Int), .int .u32 ((permV s 2).toNat : Int), .int .u32 ((permV s 3).toNat : Int), .int .u32 ((permV s 4).toNat : Int), .int .u32 ((permV s 5).toNat : Int), .int .u32 ((permV s 6).toNat : Int), .int .u32 ((permV s 7).toNat : Int)]) ∧ Below w.heap.size w w' := by
  have := permute_any s w
  rw [vals_lit, vals_lit] at this
  exact this
theorem xor_rel {w : World} {g : Nat} {t : TypeId} {v : Value} (τ σ : St) (P : List Int) (j : Nat) (hτ : τ = xorW σ P j) (hj : j < 4) {y z : B32} (hz : z = τ j ^^^ y) (hy : y = loadK (P.drop (4 * j)) 4) (hB : Blk w g t (spongeC τ v)) :
    Blk (w.setCell ⟨g, j, none⟩ (.int .u32 (z.toNat : Int))) g t (spongeC (xorW σ P (j + 1)) v) := by
  have h := hB.set_ j (.int .u32 (z.toNat : Int))
  have e : (spongeC τ v).setIfInBounds j (.int .u32 (z.toNat : Int)) = spongeC (xorW σ P (j + 1)) v := by
    rw [xorW, ← hτ, ← hy, ← hz]
    have : j = 0 ∨ j = 1 ∨ j = 2 ∨ j = 3 := by omega
    rcases this with rfl | rfl | rfl | rfl <;> rfl
  rwa [e] at h
theorem sponge_set (τ : St) (v : Value) (i : Nat) (x : B32) (h : i < 8) : (spongeC τ v).setIfInBounds i (.int .u32 (x.toNat : Int)) = spongeC (upd τ i x) v := by
  have : i = 0 ∨ i = 1 ∨ i = 2 ∨ i = 3 ∨ i = 4 ∨ i = 5 ∨ i = 6 ∨ i = 7 := by omega
  rcases this with rfl | rfl | rfl | rfl | rfl | rfl | rfl | rfl <;> rfl
theorem sponge_eq (σ ρ : St) (v : Value) (h : ∀ i, i < 8 → σ i = ρ i) : spongeC σ v = spongeC ρ v := by
  unfold spongeC
  rw [h 0 (by omega), h 1 (by omega), h 2 (by omega), h 3 (by omega), h 4 (by omega), h 5 (by omega), h 6 (by omega), h 7 (by omega)]
theorem state_rel {w : World} {g : Nat} {t : TypeId} {v : Value} (τ ρ : St) (hB : Blk w g t (spongeC τ v)) :
    Blk ((((((((w.setCell ⟨g, 0, none⟩ (.int .u32 ((ρ 0).toNat : Int))).setCell ⟨g, 1, none⟩ (.int .u32 ((ρ 1).toNat : Int))).setCell ⟨g, 2, none⟩ (.int .u32 ((ρ 2).toNat : Int))).setCell ⟨g, 3, none⟩ (.int .u32 ((ρ 3).toNat : Int))).setCell ⟨g, 4, none⟩ (.int .u32 ((ρ 4).toNat : Int))).setCell ⟨g, 5, none⟩ (.int .u32 ((ρ 5).toNat : Int))).setCell ⟨g, 6, none⟩ (.int .u32 ((ρ 6).toNat : Int))).setCell ⟨g, 7, none⟩ (.int .u32 ((ρ 7).toNat : Int))) g t (spongeC ρ v) := by
  have h := (((((((hB.set_ 0 (.int .u32 ((ρ 0).toNat : Int))).set_ 1 (.int .u32 ((ρ 1).toNat : Int))).set_ 2 (.int .u32 ((ρ 2).toNat : Int))).set_ 3 (.int .u32 ((ρ 3).toNat : Int))).set_ 4 (.int .u32 ((ρ 4).toNat : Int))).set_ 5 (.int .u32 ((ρ 5).toNat : Int))).set_ 6 (.int .u32 ((ρ 6).toNat : Int))).set_ 7 (.int .u32 ((ρ 7).toNat : Int))
  rw [sponge_set _ _ 0 _ (by omega), sponge_set _ _ 1 _ (by omega), sponge_set _ _ 2 _ (by omega), sponge_set _ _ 3 _ (by omega), sponge_set _ _ 4 _ (by omega), sponge_set _ _ 5 _ (by omega), sponge_set _ _ 6 _ (by omega), sponge_set _ _ 7 _ (by omega)] at h
  rw [sponge_eq _ ρ v (by
    intro i hi
    have : i = 0 ∨ i = 1 ∨ i = 2 ∨ i = 3 ∨ i = 4 ∨ i = 5 ∨ i = 6 ∨ i = 7 := by omega
    rcases this with rfl | rfl | rfl | rfl | rfl | rfl | rfl | rfl <;> simp [upd])] at h
  exact h
theorem body_end {d : Act} {g b k L ac : Nat} {s σ τ : St} {all P : List Int} {pre : List (BlkNo L)} {hk : 16 * k + 16 ≤ L} {v u : Value} {w w2 w3 W wr w' : World} {a2 : Option Addr}
    (h1 : g < wr.heap.size) (h2 : w2.heap.size + 1 ≤ W.heap.size) (h3 : g < w.heap.size) (h4 : w.heap.size + 2 ≤ w2.heap.size)
    (hB : Blk W g 84 (spongeC σ v)) (hbx : Boxed W w.heap.size 82 u) (hra : Rd W (some ⟨b, 0, none⟩) L ac all) (hbut : But g w3 W)
    (hσ : σ = absL s all (pre.map (·.1))) (hP : P = cutK all k) (hτ : τ = xorW σ P 4) (hbj : But g W wr) (hbp : Below wr.drew.heap.size wr.drew w') (hB9 : Blk w' g 84 (spongeC τ v)) (hbg : b ≠ g) :
    ownPostK (boxKp w2.heap.size a2 L ac) (fun (pre : List (BlkNo L)) W => ((Blk W g 84 (spongeC (absL s all (pre.map (·.1))) v) ∧ Boxed W w.heap.size 82 u) ∧ Rd W (some ⟨b, 0, none⟩) L ac all) ∧ But g w3 W) (fun _ _ _ => False) (pre ++ [⟨k, hk⟩]) W .normal d
     ((((((((w'.setCell ⟨g, 0, none⟩ (.int .u32 ((permV τ 0).toNat : Int))).setCell ⟨g, 1, none⟩ (.int .u32 ((permV τ 1).toNat : Int))).setCell ⟨g, 2, none⟩ (.int .u32 ((permV τ 2).toNat : Int))).setCell ⟨g, 3, none⟩ (.int .u32 ((permV τ 3).toNat : Int))).setCell ⟨g, 4, none⟩ (.int .u32 ((permV τ 4).toNat : Int))).setCell ⟨g, 5, none⟩ (.int .u32 ((permV τ 5).toNat : Int))).setCell ⟨g, 6, none⟩ (.int .u32 ((permV τ 6).toNat : Int))).setCell ⟨g, 7, none⟩ (.int .u32 ((permV τ 7).toNat : Int))) := by
  have h5 : But g W w' := hbj.drew.trans (But.of_below hbp (Nat.le_of_lt h1))
  have h6 := (((((((h5.setCell 0 (.int .u32 ((permV τ 0).toNat : Int))).setCell 1 (.int .u32 ((permV τ 1).toNat : Int))).setCell 2 (.int .u32 ((permV τ 2).toNat : Int))).setCell 3 (.int .u32 ((permV τ 3).toNat : Int))).setCell 4 (.int .u32 ((permV τ 4).toNat : Int))).setCell 5 (.int .u32 ((permV τ 5).toNat : Int))).setCell 6 (.int .u32 ((permV τ 6).toNat : Int))).setCell 7 (.int .u32 ((permV τ 7).toNat : Int))
  have h7 := state_rel τ (permV τ) hB9
  generalize (((((((w'.setCell ⟨g, 0, none⟩ (.int .u32 ((permV τ 0).toNat : Int))).setCell ⟨g, 1, none⟩ (.int .u32 ((permV τ 1).toNat : Int))).setCell ⟨g, 2, none⟩ (.int .u32 ((permV τ 2).toNat : Int))).setCell ⟨g, 3, none⟩ (.int .u32 ((permV τ 3).toNat : Int))).setCell ⟨g, 4, none⟩ (.int .u32 ((permV τ 4).toNat : Int))).setCell ⟨g, 5, none⟩ (.int .u32 ((permV τ 5).toNat : Int))).setCell ⟨g, 6, none⟩ (.int .u32 ((permV τ 6).toNat : Int))).setCell ⟨g, 7, none⟩ (.int .u32 ((permV τ 7).toNat : Int)) = W9 at h6 h7 ⊢
  have e : absL s all ((pre ++ ([⟨k, hk⟩] : List (BlkNo L))).map (·.1)) = permV τ := by
    rw [List.map_append, List.map_cons, List.map_nil, absL_snoc, ← hσ, ← hP, hτ]; rfl
  refine ⟨h6.keeps hB, fun hx => h6.boxed hx (by omega), ⟨⟨?_, h6.boxed hbx (by omega)⟩, h6.rd hra (by intro x e; cases e; exact hbg)⟩, hbut.trans h6⟩
  rw [e]
  exact h7
theorem absorb_kept {g D : Nat} {W w' : World} {v : Value} {o : Obj} (hg : g < W.heap.size) (hb : Below W.drew.heap.size W.drew w') (hK : W.heap[D]? = some o) (hne : g ≠ D) : (w'.setCell ⟨g, 8, none⟩ v).heap[D]? = some o := by
  have h5 : But g W w' := (But.refl g W).drew.trans (But.of_below hb (Nat.le_of_lt hg))
  have h6 := h5.setCell 8 v
  exact (h6.others D (Array.getElem?_eq_some_iff.1 hK).1 (Ne.symm hne)).trans hK
theorem absorb_end {g D L : Nat} {s : St} {all rest bs : List Int} {v u : Value} {w W w' : World} {o : Obj}
    (h3 : g < w.heap.size) (hbw : But g w W) (hB : Blk W g 84 (spongeC (absL s all (List.range (L / 16))) v)) (hK : W.heap[D]? = some (.deferred (some []))) (hD : w.heap.size ≤ D)
    (hb : Below W.drew.heap.size W.drew w') (ho : Own w' W.drew.heap.size u (absR all)) (hall : all = rest ++ bs) (hlen : all.length = L) :
    But g w ((w'.setCell ⟨g, 8, none⟩ u).putObj D o) ∧ ∃ v, Blk ((w'.setCell ⟨g, 8, none⟩ u).putObj D o) g 84 (spongeC (absS s (rest ++ bs)) v) ∧ Own ((w'.setCell ⟨g, 8, none⟩ u).putObj D o) w.heap.size v (absR (rest ++ bs)) := by
  have hgW : g < W.heap.size := Nat.lt_of_lt_of_le h3 hbw.size
  have h5 : But g W w' := (But.refl g W).drew.trans (But.of_below hb (Nat.le_of_lt hgW))
  have h6 := h5.setCell 8 u
  have h7 : Blk (w'.setCell ⟨g, 8, none⟩ u) g 84 (spongeC (absL s all (List.range (L / 16))) u) := ((show Blk W.drew g 84 (spongeC (absL s all (List.range (L / 16))) v) from hB).below hb hgW).set_ 8 u
  have h8 : (w'.setCell ⟨g, 8, none⟩ u).heap[D]? = some (.deferred (some [])) := absorb_kept hgW hb hK (by omega)
  have hs := hbw.size
  have h9 : Own (w'.setCell ⟨g, 8, none⟩ u) w.heap.size u (absR all) := (ho.but ((But.refl g w').setCell 8 u) (by exact hgW)).mono hs
  generalize w'.setCell ⟨g, 8, none⟩ u = W9 at h6 h7 h8 h9 ⊢
  refine ⟨(hbw.trans h6).putNew o hD h3 h8, u, ?_, ?_⟩
  · rw [← hall]
    unfold absS
    rw [hlen]
    exact h7.putNew o (by omega : g ≠ D)
  · rw [← hall]
    exact h9.putNew o h8 rfl
end Go.Proofs.Ytnlblmghhkmbbaa
