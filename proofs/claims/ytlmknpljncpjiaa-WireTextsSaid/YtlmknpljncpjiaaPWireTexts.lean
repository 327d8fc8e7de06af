/- WireTexts: the statement about layer 1 of that name, proved for every input. -/
import Derived.Test.YtlmknpljncpjiaaRows
import Derived.WalkKit
import Derived.ProofKit
import Derived.OpenShut
import Derived.ShutString
import Derived.ChangeOld
import Derived.Below
import Derived.Test.YtlmknpljncpjiaaRtotext
import Derived.Test.YtlmknpljncpjiaaWsanity
namespace Go.Proofs.Ytlmknpljncpjiaa.wireTexts
open Go.ChangeShapes Go.WideShapes Go.ChangeAt Go.RowKit
open Go.ChangeMaps (open_string shut_string)
set_option linter.unusedVariables false

theorem own : ownKnob Try.prog.godebug = none := by kernel_rfl
theorem laidOut : laidOutB Try.prog = true := by kernel_rfl

/-- WHAT THE WALK IS TOLD OF A SLICE OF INTEGERS THAT CAME IN: it is nil; or it leads to a row of 'cap' cells, the numbers 'zs' (the first 'len' are its elements, the rest its spare room), each fitting its kind. -/
def IsRow (k : IntKind) (w : World) (a : Option Addr) (len cap : Nat) (zs : List Int) : Prop :=
  (a = none ∧ len = 0 ∧ cap = 0 ∧ zs = []) ∨
  ∃ x, a = some x ∧ len ≤ cap ∧ cap ≤ maxLen ∧ zs.length = cap ∧ (∀ i, i < zs.length → w.cell? (x.add i) = some (.int k (zs.getD i 0))) ∧ ∀ n ∈ zs, (Lit.int k n).wf = true

theorem rd_of_row {w : World} {a : Option Addr} {len cap : Nat} {z : List Int} (h : IsRow .u8 w a len cap z) : ∃ xs, Rd w a len cap xs := by
  rcases h with ⟨rfl, rfl, rfl, rfl⟩ | ⟨x, rfl, hl, hm, hz, hcell, hwz⟩
  · exact ⟨[], rfl, Nat.le_refl _, Nat.zero_le _, by simp, fun _ => rfl, by simp⟩
  · refine ⟨z.take len, by simp; omega, hl, hm, fun n hn => ?_, (by intro e; cases e), fun h0 => ?_⟩
    · have := hwz n (List.mem_of_mem_take hn)
      simp [Lit.wf, IntKind.min, IntKind.max, IntKind.signed, IntKind.bits] at this
      omega
    · obtain ⟨b, off, spot⟩ := x
      have hc := hcell 0 (by omega)
      have hspot : spot = none := by simpa [Addr.add] using World.cell?_spot hc
      subst hspot
      refine ⟨b, off, rfl, fun i hi => ?_⟩
      have hc := hcell i (by omega)
      have e : (⟨b, off, none⟩ : Addr).add i = ⟨b, off + i, none⟩ := by
        by_cases h0 : i = 0
        · subst h0; rfl
        · simp [Addr.add, h0]
      rw [e] at hc
      rw [hc]
      have hi2 : i < z.length := by omega
      simp [List.getD, List.getElem?_take, hi, hi2]
theorem cells3' {W : World} {g : Nat} {x y z : Value} {t : TypeId} (h : W.heap[g]? = some (.cells #[x, y, z] t (0, 0))) : (W.cell? ⟨g, 0, none⟩ = some x ∧ W.cell? ⟨g, 1, none⟩ = some y ∧ W.cell? ⟨g, 2, none⟩ = some z) ∧ True :=
  ⟨⟨cell_of_row W g 0 _ _ _ h, cell_of_row W g 1 _ _ _ h, cell_of_row W g 2 _ _ _ h⟩, trivial⟩
set_option maxRecDepth 100000 in
set_option maxHeartbeats 4000000 in
theorem walk (a0 : Option Addr) (len0 cap0 : Nat) (z0 : List Int) (a1 : Option Addr) (len1 cap1 : Nat) (z1 : List Int) (w : World) (w0 : IsRow .u8 w a0 len0 cap0 z0) (w1 : IsRow .u8 w a1 len1 cap1 z1) :
    Calls Try.prog 4 #[.slice a0 len0 cap0, .slice a1 len1 cap1] w fun e w' => e = .returned (.bool true) ∧ Below w.heap.size w w' := by
  obtain ⟨xs, hr0⟩ := rd_of_row w0
  obtain ⟨ys, hr1⟩ := rd_of_row w1
  clear w0 w1
  by_cases hbig : 70000 < len0 ∨ 70000 < len1
  · have hcase : (70000 : Int) < (len0 : Int) ∨ ¬ (70000 : Int) < (len0 : Int) ∧ (70000 : Int) < (len1 : Int) := by omega
    clear hr0 hr1 hbig
    rcases hcase with h1 | ⟨h1, h2⟩
    · go_enter Try.func4, Try.ntmps4
      go_wp2_with fail
      refine (sanity_any _).mono ?_
      rintro e u1 ⟨rfl, hb⟩
      have Hb := Lib.hid hb
      clear hb
      go_wp2_with fail
      go_ret
      exact ⟨rfl, Hb.out⟩
    · go_enter Try.func4, Try.ntmps4
      go_wp2_with fail
      refine (sanity_any _).mono ?_
      rintro e u1 ⟨rfl, hb⟩
      have Hb := Lib.hid hb
      clear hb
      go_wp2_with fail
      go_ret
      exact ⟨rfl, Hb.out⟩
  · have h1 : ¬ (70000 : Int) < (len0 : Int) := by omega
    have h2 : ¬ (70000 : Int) < (len1 : Int) := by omega
    have H0 := Lib.hid hr0
    have H1 := Lib.hid hr1
    clear hr0 hr1 hbig
    go_enter Try.func4, Try.ntmps4
    go_wp2_with fail
    refine (text_any _ _ _ xs w H0.out).mono ?_
    rintro e u1 ⟨v1, rfl, o1, b1⟩
    obtain ⟨a2, c2, rfl, r2⟩ := o1.rd
    have Hr2 := Lib.hid r2
    have Hb1 := Lib.hid b1
    have H01 := Lib.hid (H0.out.below b1 (Nat.le_refl _))
    have H11 := Lib.hid (H1.out.below b1 (Nat.le_refl _))
    clear o1 r2 b1 H0 H1
    go_wp2_with fail
    refine (refText_any _ _ _ xs u1 H01.out).mono ?_
    rintro e u2 ⟨v2, rfl, o2, b2⟩
    obtain ⟨a3, c3, rfl, r3⟩ := o2.rd
    have Hr3 := Lib.hid r3
    have Hr2 := Lib.hid (Hr2.out.below b2 (Nat.le_refl _))
    have Hb2 := Lib.hid (Hb1.out.trans (b2.mono Hb1.out.size))
    have H12 := Lib.hid (H11.out.below b2 (Nat.le_refl _))
    clear o2 r3 b2 H01 H11 Hb1
    obtain ⟨T, hT⟩ : ∃ T, T = textV xs := ⟨_, rfl⟩
    obtain ⟨TE, hTE⟩ : ∃ T, T = textE xs := ⟨_, rfl⟩
    rw [← hT] at Hr2 Hr3
    rw [← hT, ← hTE]
    clear hT hTE
    go_wp2_with fail
    obtain ⟨W3, hW3⟩ : ∃ W, W = u2.alloc (.cells #[.slice a3 T.length c3, .int .i64 T.length, .int .i64 TE] 28) := ⟨_, rfl⟩
    have hg3 := heap_alloc_last u2 (.cells #[.slice a3 T.length c3, .int .i64 T.length, .int .i64 TE] 28)
    have b3 : Below u2.heap.size u2 W3 := by rw [hW3]; exact (Below.refl _ u2).alloc (Nat.le_refl _) _
    have hs3 : W3.heap.size = u2.heap.size + 1 := by rw [hW3]; simp
    rw [← hW3] at hg3 ⊢
    clear hW3
    refine (sameBytes_any _ _ _ T _ _ _ T W3 (Hr2.out.below b3 (Nat.le_refl _)) (Hr3.out.below b3 (Nat.le_refl _))).mono ?_
    rintro e u3 ⟨rfl, rfl⟩
    have hdT : decide (T = T) = true := by simp
    rw [hdT]
    have H13 := Lib.hid (H12.out.below b3 (Nat.le_refl _))
    have Hb3 := Lib.hid (Hb2.out.trans (b3.mono Hb2.out.size))
    have hsw : w.heap.size ≤ u2.heap.size := Hb2.out.size
    have Hg3 := Lib.hid hg3
    clear hg3 b3 hdT Hr2 Hr3 H12 Hb2
    go_wp2_with fail
    refine (toText_any _ _ _ ys W3 H13.out).mono ?_
    rintro e u4 ⟨v4, rfl, o4, b4⟩
    have hs4 := b4.size
    have H14 := Lib.hid (H13.out.below b4 (Nat.le_refl _))
    have Hb4 := Lib.hid (Hb3.out.trans (b4.mono Hb3.out.size))
    have Hg4 := Lib.hid ((b4.block u2.heap.size (by omega)).trans Hg3.out)
    have Ho4 := Lib.hid o4
    clear o4 b4 H13 Hb3 Hg3
    go_wp2_with fail
    refine (refToText_any _ _ _ ys u4 H14.out).mono ?_
    rintro e u5 ⟨v5, rfl, o5, b5⟩
    have hs5 := b5.size
    obtain ⟨X, hX⟩ : ∃ X, X = (toTextV ys).1 := ⟨_, rfl⟩
    obtain ⟨n, hn⟩ : ∃ X, X = (toTextV ys).2.1 := ⟨_, rfl⟩
    obtain ⟨er, her⟩ : ∃ X, X = (toTextV ys).2.2 := ⟨_, rfl⟩
    rw [← hX] at Ho4 o5
    rw [← hn, ← her]
    clear hX hn her
    obtain ⟨a5, c5, rfl, _⟩ := o5.rd
    have Ho4 := Lib.hid (Ho4.out.below b5 (Nat.le_refl _))
    have Hb5 := Lib.hid (Hb4.out.trans (b5.mono Hb4.out.size))
    have Hg5 := Lib.hid ((b5.block u2.heap.size (by omega)).trans Hg4.out)
    have Ho5 := Lib.hid o5
    obtain ⟨a4, c4, rfl, _⟩ := Ho4.out.rd
    clear o5 b5 H14 Hb4 Hg4
    go_wp2_with (refine wpList_store_row rfl 28 (.tmp 7) (.tmp 44) rfl u2.heap.size #[.slice a5 X.length c5, .int .i64 n, .int .i64 er] rfl rfl 28 #[.slice a3 T.length c3, .int .i64 T.length, .int .i64 TE] Hg5.out (Try.sizeRaw _ _ _) rfl (oneRaw _ _ _ _ _) ?_)
    have hg6 := setRow_heap u5 u2.heap.size _ #[.slice a5 X.length c5, .int .i64 n, .int .i64 er] _ _ Hg5.out
    have o4 := Ho4.out.setRow (g := u2.heap.size) (by omega) #[.slice a5 X.length c5, .int .i64 n, .int .i64 er]
    have o5 := Ho5.out.setRow (g := u2.heap.size) (by omega) #[.slice a5 X.length c5, .int .i64 n, .int .i64 er]
    have b6 : Below w.heap.size w (u5.setRow u2.heap.size #[.slice a5 X.length c5, .int .i64 n, .int .i64 er]) := Hb5.out.trans (below_setRow' _ _ _ _ hsw)
    have hs6 : (u5.setRow u2.heap.size #[.slice a5 X.length c5, .int .i64 n, .int .i64 er]).heap.size = u5.heap.size := by simp [World.setRow]
    generalize u5.setRow u2.heap.size #[.slice a5 X.length c5, .int .i64 n, .int .i64 er] = u6 at *
    clear Hg5 Ho4 Ho5 Hb5
    have Hg6 := Lib.hid hg6
    have Ho4 := Lib.hid o4
    have Ho5 := Lib.hid o5
    have Hb6 := Lib.hid b6
    clear hg6 o4 o5 b6
    refine (sanity_any u6).mono ?_
    rintro e u7 ⟨rfl, b7⟩
    have hg7 := (b7.block u2.heap.size (by omega)).trans Hg6.out
    obtain ⟨⟨q0, q1, q2⟩, -⟩ := cells3' hg7
    obtain ⟨a4', c4', e4, r4⟩ := (Ho4.out.below b7 (by omega)).rd
    obtain ⟨a5', c5', e5, r5⟩ := (Ho5.out.below b7 (by omega)).rd
    cases e4
    cases e5
    have Hr4 := Lib.hid r4
    have Hr5 := Lib.hid r5
    have Hb7 := Lib.hid (Hb6.out.trans (b7.mono Hb6.out.size))
    clear hg7 r4 r5 b7 Hg6 Ho4 Ho5 Hb6
    go_wp2_with fail
    refine (sameBytes_any _ _ _ X _ _ _ X u7 Hr4.out Hr5.out).mono ?_
    rintro e u8 ⟨rfl, rfl⟩
    have hdX : decide (X = X) = true := by simp
    rw [hdX]
    go_wp2_with fail
    go_ret
    exact ⟨by simp, Hb7.out⟩

/-! ### THE ROW's STEP: WRITTEN OUT: LEAVE IT -/
set_option maxRecDepth 100000 in
theorem lifted (os : Os) (started : os.Started) (H : Type) (enc : TypeId × Value → H) :
    ReturnsInHanded {} Try.checked os 4 .any (Rows.wireTextsSpec.pre6 enc Try.prog Try.f4 Rows.wireTextsRow.domain false) (Rows.wireTextsSpec.post enc Try.prog Try.f4 false true false false) := by
  refine returnsInHanded_of_change (C := Try.checked) own started (by kernel_rfl) Try.func4
    (ChangeSpec.witness6 (enc := enc) (C := Try.checked) false ⟨#[], #[.slice none 0 0, .slice none 0 0], []⟩ 8 (by kernel_rfl) (by kernel_rfl) (by kernel_rfl) (by kernel_rfl)) ?_
  intro W base args ds gs before hval0 hW hcnd _
  have hval : ∀ (j : Nat) t v, Try.f4.params[j]? = some t → args[j]? = some v → Value.okWide Try.prog W .any base t v := hval0
  have hW' := hW
  obtain ⟨p, q, hA0, hV, rfl, hfz, hnd⟩ := hW
  have hA : DataW.TrodAll enc Try.prog W 0 (fun _ => true) true Try.f4.params.toList args.toList ds p := hA0
  rw [Try.params4] at hA hval
  obtain ⟨v0, vs0, d0, ds0, p0, q0, hargs, rfl, rfl, h0, r0⟩ := trodAll_cons hA
  obtain ⟨v1, vs1, d1, ds1, p1, q1, rfl, rfl, rfl, h1, r1⟩ := trodAll_cons r0
  obtain ⟨rfl, rfl, rfl⟩ := trodAll_nil r1
  obtain rfl : args = #[v0, v1] := by cases args; simp_all
  obtain ⟨rfl, rfl⟩ := trodVars_none hV
  obtain ⟨a0, len0, cap0, rfl⟩ := okWide_slice Try.underlying22 (hval 0 22 v0 rfl rfl)
  have k0 := h0
  have lt0 : ∀ x ∈ p0, x.block < W.heap.size := by obtain ⟨m, hm⟩ := k0; exact DataW.trod_lt m _ _ _ hm
  obtain ⟨z0, w0⟩ : ∃ zs, IsRow .u8 W a0 len0 cap0 zs := by
    obtain ⟨fuel, hf⟩ := h0
    rcases open_ints Try.underlying22 Try.underlying5 (by kernel_rfl) hf with ⟨hcs, _⟩ | ⟨x, l, c, zs, hcs, _, hl, hm, hz, _, hcell, hwz⟩
    · simp [Value.cells] at hcs
      obtain ⟨rfl, rfl, rfl⟩ := hcs
      exact ⟨[], .inl ⟨rfl, rfl, rfl, rfl⟩⟩
    · simp [Value.cells] at hcs
      obtain ⟨rfl, rfl, rfl⟩ := hcs
      exact ⟨zs, .inr ⟨_, rfl, hl, hm, by simpa using hz, hcell, hwz⟩⟩
  obtain ⟨a1, len1, cap1, rfl⟩ := okWide_slice Try.underlying22 (hval 1 22 v1 rfl rfl)
  have k1 := h1
  have lt1 : ∀ x ∈ p1, x.block < W.heap.size := by obtain ⟨m, hm⟩ := k1; exact DataW.trod_lt m _ _ _ hm
  obtain ⟨z1, w1⟩ : ∃ zs, IsRow .u8 W a1 len1 cap1 zs := by
    obtain ⟨fuel, hf⟩ := h1
    rcases open_ints Try.underlying22 Try.underlying5 (by kernel_rfl) hf with ⟨hcs, _⟩ | ⟨x, l, c, zs, hcs, _, hl, hm, hz, _, hcell, hwz⟩
    · simp [Value.cells] at hcs
      obtain ⟨rfl, rfl, rfl⟩ := hcs
      exact ⟨[], .inl ⟨rfl, rfl, rfl, rfl⟩⟩
    · simp [Value.cells] at hcs
      obtain ⟨rfl, rfl, rfl⟩ := hcs
      exact ⟨zs, .inr ⟨_, rfl, hl, hm, by simpa using hz, hcell, hwz⟩⟩
  clear hA0 hval0
  refine (walk a0 len0 cap0 z0 a1 len1 cap1 z1 W w0 w1).mono fun e W' ⟨he, bel⟩ => ?_
  subst he
  exact ⟨_, rfl, _, _, _, [], _, [], hW', trodAll_mk1 (shut_bool Try.underlying4 _), (trodAll_cons_mk (Below.trod laidOut (by kernel_rfl) (of_decide_eq_true (by kernel_rfl)) k0 bel lt0) (trodAll_cons_mk (Below.trod laidOut (by kernel_rfl) (of_decide_eq_true (by kernel_rfl)) k1 bel lt1) trodAll_mk0)), rfl, bel.frame _, fun h => by cases h⟩

theorem over : Rows.wireTextsRow.holds Try.pinned (OpenSpec.ofChange Rows.wireTextsSpec) :=
  OpenClaim.holds_of_wide 4 Try.f4 rfl rfl rfl rfl rfl rfl rfl ⟨rfl, rfl, rfl, rfl, rfl⟩ rfl rfl rfl rfl rfl (by kernel_rfl) Try.func4 (by kernel_rfl)
    (of_decide_eq_true (by kernel_rfl)) (by unfold Func.isWrapper; first | (rw [if_pos (by decide +kernel)]; kernel_rfl) | (rw [if_neg (by decide +kernel)]; exact ⟨rfl, rfl⟩))
    (fun os started H enc _ => lifted os started H enc)

/-- ████ THE STATEMENT ████ -/
theorem proved : Rows.WireTextsSaid := over
#print axioms proved
end Go.Proofs.Ytlmknpljncpjiaa.wireTexts
