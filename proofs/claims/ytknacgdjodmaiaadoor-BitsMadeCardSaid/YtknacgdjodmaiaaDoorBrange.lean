/- A range over a function whose assignment makes memory in each round (a loop variable that has a block of its own): the law, from the library's laws of one round and of the statement. -/
import Derived.RangeFuncWrites
import Derived.Test.YtknacgdjodmaiaaDoorRows
namespace Go.Proofs.YtknacgdjodmaiaaDoor
set_option linter.unusedVariables false
open Go.RowKit
section
variable {F : Fence} {n : Nat} {P : Program} {α : Type}

/-- The two blocks of the statement: its record, and the block of the rounds' deferred calls. -/
def Books (D : Nat) (r : Loop) (W : World) : Prop := W.heap[D + 1]? = some (.loop r) ∧ W.heap[D]? = some (.deferred (some []))
theorem Books.grown {D : Nat} {r : Loop} {W W' : World} {row : Option Nat} (h : Books D r W) (hg : W.grownBy W' row) (hr : ∀ k, row = some k → ∃ o : Obj, W.heap[k]? = some o ∧ o.isWalk = true) : Books D r W' :=
  ⟨(grownBy_keeps hg hr h.1 rfl).trans h.1, (grownBy_keeps hg hr h.2 rfl).trans h.2⟩
theorem Books.keeps {D : Nat} {r : Loop} {W W' : World} (h : Books D r W) (hk : KeepsFrom D W W') : Books D r W' :=
  ⟨hk.same _ _ (by omega) h.1 rfl, hk.same _ _ (Nat.le_refl _) h.2 rfl⟩
theorem Books.put {D : Nat} {r : Loop} {W : World} (h : Books D r W) (r' : Loop) : Books D r' (W.putObj (D + 1) (.loop r')) :=
  ⟨World.putObj_heap_same (Array.getElem?_eq_some_iff.1 h.1).1, (World.putObj_heap_other (by omega)).trans h.2⟩
theorem Books.not_cells {D : Nat} {A : World} {B : Nat} {row : Option Nat} (hB : D ≤ B) (hr : ∀ k, row = some k → B ≤ k ∧ ∃ o : Obj, A.heap[k]? = some o ∧ o.isWalk = true) : ∀ k, row = some k → D ≤ k ∧ ∃ o : Obj, A.heap[k]? = some o ∧ o.isCells = false := by
  intro k e
  obtain ⟨h1, o, ho, hw⟩ := hr k e
  exact ⟨by omega, o, ho, Obj.not_cells_of_walk hw⟩

/-- How a round ends, told by the jump that it leaves. -/
theorem endRound_books {D : Nat} {r : Loop} {W : World} (h : Books D r W) (hs : r.state = .busy) (jump : Option Code) :
    (Instr.endRound (D + 1) jump).run P W = .ok (.bool jump.isNone) (W.putObj (D + 1) (.loop { r with state := if jump.isNone then .ready else .done, pending := jump })) := by
  obtain ⟨st, pe, f, t, p, asg, bd, df⟩ := r
  obtain rfl : st = .busy := hs
  exact run_endRound (P := P) jump h.1

set_option maxHeartbeats 2000000 in
theorem wpIn_rangeFunc_made {g : Operand} {ps : Array Tmp} {assign body : Code} {Q : Exit → Act → World → Prop} {a : Act} {w : World}
    (hro : F.round = none) (h1 : 1 ≤ n) {gf : Nat} {lb : Array Value} (hg : a.eval g = .func (.func gf) #[] lb) (hFg : F.fn gf) (eg : ∀ args w, (callFunc gf args).run P w = .ok (.enter gf args) w)
    {encs : α → Array Value} {Kp : World → World → Prop} {S Sp : List α → Prop} {N : Nat} {w0 : World} (hseq : SeqStopsK F (n - 1) P gf lb encs Kp S Sp N w0)
    (hKt : ∀ {A B C : World}, Kp A B → Kp B C → Kp A C) (hKb : ∀ (W : World) (l : Nat) (o o' : Obj), w.heap.size ≤ l → W.heap[l]? = some o → o.isCells = false → o.isWalk = false → Kp W (W.putObj l o')) (hb0 : Below w0.heap.size w0 w) (hps : ∀ x, (encs x).size = ps.size)
    (I : List α → World → Prop) (Ix : Code → List α → World → Prop) (A : List α → α → Act → World → Prop) (hI : OwnFrom w.heap.size I) (hIx : ∀ c, OwnFrom w.heap.size (Ix c)) (hA : ∀ pre x, OwnFrom w.heap.size (A pre x)) (h0 : I [] w)
    (hassign : ∀ (l : Nat) (pre : List α) (x : α) (W : World), I pre W → pre.length < N →
      assign.wpIn (F.inRound l) (n - 1 - 1) P (Exit.then (fun b W' => KeepsFrom w.heap.size W W' ∧ Kp W W' ∧ A pre x b W') (fun _ _ _ => False)) { tmps := (ps.zip (encs x)).foldl (fun t (p, v) => t.setIfInBounds p v) a.tmps, defers := [] } W)
    (hbody : ∀ (l : Nat) (pre : List α) (x : α) (b : Act) (W : World), A pre x b W → body.wpIn (F.inRound l) (n - 1 - 1) P (ownPostG w.heap.size Kp I Ix (pre ++ [x]) W) b W)
    (hdone : ∀ (D : Nat) (xs : List α) (W : World), w.heap.size ≤ D → S xs → I xs W → W.heap[D]? = some (.deferred (some [])) → Q .normal { a with defers := { target := .collected D, args := #[] } :: a.defers } W)
    (hstop : ∀ (D : Nat) (c : Code) (pre : List α) (W : World), w.heap.size ≤ D → Sp pre → Ix c pre W → W.heap[D]? = some (.deferred (some [])) → c.wpIn F n P Q { a with defers := { target := .collected D, args := #[] } :: a.defers } W) :
    (Code.rangeFunc g ps assign body).wpIn F n P Q a w := by
  refine wpIn_rangeFunc fun fn hfn => ?_
  rw [hro]
  obtain ⟨D, hD⟩ : ∃ D, w.heap.size = D := ⟨_, rfl⟩
  obtain ⟨r0, hr0⟩ : ∃ r : Loop, r = { state := .ready, pending := none, fn, tmps := a.tmps, params := ps, assign, body, defers := D } := ⟨_, rfl⟩
  obtain ⟨W1, hW1⟩ : ∃ W1, W1 = (w.alloc (.deferred (some []))).alloc (.loop r0) := ⟨_, rfl⟩
  have hsz : W1.heap.size = D + 2 := by rw [hW1]; simp [hD]
  have hbk : Books D r0 W1 := by
    rw [hW1]
    constructor
    · have := World.alloc_heap_new (w.alloc (.deferred (some []))) (.loop r0)
      rwa [World.size_alloc, hD] at this
    · have h5 := Below.heap_alloc (w.alloc (.deferred (some []))) (.loop r0) D (by simp [hD])
      have h6 := World.alloc_heap_new w (.deferred (some []))
      rw [hD] at h6
      exact h5.trans h6
  have hI1 : I [] W1 := by rw [hW1]; exact hI.alloc _ (hI.alloc _ h0)
  have hb1 : Below w0.heap.size w0 W1 := by
    rw [hW1]; exact hb0.trans ((((Below.refl _ w).alloc (Nat.le_refl _) _).alloc (by simp) _).mono hb0.size)
  have hcall := hseq (D + 1) (fun pre W => I pre W ∧ Books D r0 W) (fun pre W => ∃ c, Ix c pre W ∧ Books D { r0 with state := .done, pending := some c } W) W1 hb1
    (fun s X Y row hs hgr hr => ⟨hI s X Y row hs.1 hgr (Books.not_cells (by omega) hr), hs.2.grown hgr (fun k e => (hr k e).2)⟩)
    (fun s X Y row ⟨c, hc, hk⟩ hgr hr => ⟨c, hIx c s X Y row hc hgr (Books.not_cells (by omega) hr), hk.grown hgr (fun k e => (hr k e).2)⟩)
  subst hr0
  subst hD
  refine ⟨w.heap.size + 1, [{ target := .collected w.heap.size, args := #[] }], W1, { target := .fn (.func gf) lb, args := #[.func (.yield (w.heap.size + 1)) #[] #[]] }, W1, gf, #[.func (.yield (w.heap.size + 1)) #[] #[]] ++ lb, W1, ?_, ?_, ?_, ?_, fun _ => h1, ?_⟩
  · have := run_enterLoop_outer (P := P) (w := w) fn a.tmps ps assign body
    rw [hW1]; exact this
  · simp only [resolve, hg]
    simp [go_sem]
  · intro f' hf'
    simp [Target.leads] at hf'
    rw [← hf']; exact hFg
  · simp [invoke, go_sem, eg]
  · refine (hcall ?_ ⟨hI1, hbk⟩).mono ?_
    · rintro pre x W ⟨hi, hk⟩ hlen
      have hy := run_yield (P := P) (args := encs x) hk.1 (hps x)
      refine ⟨_, _, _, _, hy, ?_⟩
      refine roundIn_of_wpIn hfn (wpIn_mono (hassign _ pre x W hi hlen) ?_)
      rintro ex b W2 hp
      cases ex with
      | normal =>
        obtain ⟨k1, k2, k3⟩ := hp
        have hk2 := hk.keeps k1
        refine ⟨_, run_beginRound hk2.1 rfl, ?_⟩
        have hb2 : Books w.heap.size { ({ state := .ready, pending := none, fn := fn, tmps := a.tmps, params := ps, assign := assign, body := body, defers := w.heap.size } : Loop) with state := .busy } (W2.putObj (w.heap.size + 1) (.loop { ({ state := .ready, pending := none, fn := fn, tmps := a.tmps, params := ps, assign := assign, body := body, defers := w.heap.size } : Loop) with state := .busy })) := hk2.put _
        have hA2 := (hA pre x).putObj (o' := .loop { ({ state := .ready, pending := none, fn := fn, tmps := a.tmps, params := ps, assign := assign, body := body, defers := w.heap.size } : Loop) with state := .busy }) k3 (by omega) hk2.1 rfl
        have hp2 : Kp W2 (W2.putObj (w.heap.size + 1) (.loop { ({ state := .ready, pending := none, fn := fn, tmps := a.tmps, params := ps, assign := assign, body := body, defers := w.heap.size } : Loop) with state := .busy })) := hKb _ _ _ _ (by omega) hk2.1 rfl rfl
        refine wpIn_mono (hbody _ pre x b _ hA2) ?_
        have leave : ∀ (jump : Option Code) (W3 : World), KeepsFrom w.heap.size (W2.putObj (w.heap.size + 1) (.loop { ({ state := .ready, pending := none, fn := fn, tmps := a.tmps, params := ps, assign := assign, body := body, defers := w.heap.size } : Loop) with state := .busy })) W3 →
            (Instr.endRound (w.heap.size + 1) jump).run P W3 = .ok (.bool jump.isNone) (W3.putObj (w.heap.size + 1) (.loop { ({ state := .ready, pending := none, fn := fn, tmps := a.tmps, params := ps, assign := assign, body := body, defers := w.heap.size } : Loop) with state := if jump.isNone then .ready else .done, pending := jump })) ∧ Books w.heap.size { ({ state := .ready, pending := none, fn := fn, tmps := a.tmps, params := ps, assign := assign, body := body, defers := w.heap.size } : Loop) with state := .busy } W3 := by
          intro jump W3 hkf
          have hb3 := hb2.keeps hkf
          exact ⟨endRound_books hb3 rfl jump, hb3⟩
        rintro e3 a3 W3 hp3
        cases e3 with
        | normal =>
          obtain ⟨j1, j2, j3⟩ := hp3
          obtain ⟨hr3, hb3⟩ := leave none W3 j1
          exact ⟨_, _, hr3, .inl ⟨rfl, ⟨hI.putObj _ j3 (by omega) hb3.1 rfl, hb3.put _⟩, hKt k2 (hKt (hKt hp2 j2) (hKb _ _ _ _ (by omega) hb3.1 rfl rfl))⟩⟩
        | ret =>
          obtain ⟨hr3, hb3⟩ := leave (some .ret) W3 hp3.1
          exact ⟨_, _, hr3, .inr ⟨rfl, .ret, (hIx _).putObj _ hp3.2 (by omega) hb3.1 rfl, hb3.put _⟩⟩
        | exit id =>
          obtain ⟨hr3, hb3⟩ := leave (some (.exit id)) W3 hp3.1
          exact ⟨_, _, hr3, .inr ⟨rfl, .exit id, (hIx _).putObj _ hp3.2 (by omega) hb3.1 rfl, hb3.put _⟩⟩
        | goto t =>
          obtain ⟨hr3, hb3⟩ := leave (some (.goto t)) W3 hp3.1
          exact ⟨_, _, hr3, .inr ⟨rfl, .goto t, (hIx _).putObj _ hp3.2 (by omega) hb3.1 rfl, hb3.put _⟩⟩
        | panic ch => exact hp3.elim
        | outgrown => exact hp3.elim
      | ret => exact hp.elim
      | exit id => exact hp.elim
      | goto t => exact hp.elim
      | panic ch => exact hp.elim
      | outgrown => exact hp.elim
    · rintro e W2 ⟨⟨v, rfl⟩, (⟨xs, hS, hi, hk⟩ | ⟨pre, hSp, c, hi, hk⟩)⟩
      · exact ⟨none, _, by have := run_endLoop (P := P) hk.1 (by simp); exact this, hdone _ xs _ (by omega) hS (hI.putObj _ hi (by omega) hk.1 rfl) ((World.putObj_heap_other (by omega)).trans hk.2)⟩
      · exact ⟨some c, _, by have := run_endLoop (P := P) hk.1 (by simp); exact this, hstop _ c pre _ (by omega) hSp ((hIx c).putObj _ hi (by omega) hk.1 rfl) ((World.putObj_heap_other (by omega)).trans hk.2)⟩
end
end Go.Proofs.YtknacgdjodmaiaaDoor
