/- nodesOf: what climb returns, or the error. -/
import Derived.Test.YtnlblmghhkmbbaaSclimb2
import Derived.Defers
import Derived.Recover
import Derived.Laws.Pointers
import Derived.TacticsInMore
namespace Go.Proofs.Ytnlblmghhkmbbaa
set_option linter.unusedVariables false
open Go.RowKit Go.Shelf

theorem RdG.nil_of {w : World} {a : Option Addr} {cap : Nat} {ds : List (List Int)} (h : RdG w a 0 cap ds) : ds = [] := List.eq_nil_of_length_eq_zero h.hl
theorem climb_any (N : Nat) : ∀ (n i : Nat) (la : Option Addr) (ll lc : Nat) (leaf : List Int) (a : Option Addr) (p cap : Nat) (ds : List (List Int)) (w : World), n = N → 1 ≤ n → n ≤ 4096 → i < n → Rd w la ll lc leaf → ll ≤ 140737488354000 → RdG w a p cap ds →
    Calls Try.prog 89 #[.int .i64 n, .int .i64 i, .slice la ll lc, .slice a p cap] w (ClimbPost (climbV n i leaf ds) w) := by
  induction N using Nat.strongRecOn with
  | _ N ih =>
    intro n i la ll lc leaf a p cap ds w hN h1 hm hi hl hll hp
    subst hN
    by_cases hn : n = 1
    · subst hn
      rw [climbV_one]
      by_cases h0 : p = 0
      · subst h0
        rw [if_pos hp.nil_of]
        exact climb_one_ok i la ll lc leaf a cap w hl hll
      · rw [if_neg (by intro e; have := hp.hl; rw [e] at this; simp at this; omega)]
        exact climb_one_no i _ a p cap w (by omega)
    · rw [climbV_two n i leaf ds (by omega) hm]
      by_cases h0 : p = 0
      · subst h0
        rw [if_pos hp.nil_of]
        exact climb_two_nil n i _ a cap w (by omega)
      · rw [if_neg (by intro e; have := hp.hl; rw [e] at this; simp at this; omega)]
        obtain ⟨q, hq⟩ : ∃ q, p = q + 1 := ⟨p - 1, by omega⟩
        obtain ⟨b, off, rfl, -⟩ := hp.hr (by omega)
        obtain ⟨b1, b2, b3⟩ := halfV_bd n (by omega) hm
        by_cases hk : i < halfV n
        · rw [if_pos hk]
          refine climb_lt n i (halfV n) la ll lc leaf b off p cap q ds w (climbV (halfV n) i leaf ds.dropLast) hp hq (by omega) hm rfl hk hi (fun w' hb => ?_) (fun l hl' => ?_)
          · exact ih (halfV n) b2 (halfV n) i la ll lc leaf _ q cap ds.dropLast w' rfl b1 (by omega) hk (hl.below hb (Nat.le_refl _)) hll ((hp.below hb (Nat.le_refl _)).front hq)
          · have := climbN_some _ _ _ _ _ _ (show climbN (halfV n) (halfV n) i leaf ds.dropLast = some l from hl')
            exact ⟨this.1, by omega⟩
        · rw [if_neg hk]
          refine climb_ge n i (halfV n) la ll lc leaf b off p cap q ds w (climbV (n - halfV n) (i - halfV n) leaf ds.dropLast) hp hq (by omega) hm rfl (by omega) hi (fun w' hb => ?_) (fun l hl' => ?_)
          · exact ih (n - halfV n) (by omega) (n - halfV n) (i - halfV n) la ll lc leaf _ q cap ds.dropLast w' rfl (by omega) (by omega) (by omega) (hl.below hb (Nat.le_refl _)) hll ((hp.below hb (Nat.le_refl _)).front hq)
          · have := climbN_some _ _ _ _ _ _ (show climbN (n - halfV n) (n - halfV n) (i - halfV n) leaf ds.dropLast = some l from hl')
            exact ⟨this.1, by omega⟩
set_option maxRecDepth 100000 in
set_option maxHeartbeats 400000 in
theorem ncatch_idle (p q : Addr) (w : World) :
    CallsD Try.prog 88 #[.pointer (some p), .pointer (some q)] .returning w fun e u' w' => e = .returned (.tuple #[]) ∧ u' = .returning ∧ w' = w := by
  refine callsD_of_wpS Try.func88 rfl fun c₀ cs hu => ?_
  apply wpS_seq
  apply wpS_region
  simp [wpOpsS, go_sem, recoverD, hu, Try.ntmps88, Exit.thenS]
  refine wpS_of_wp ?_
  go_wp2
  refine ⟨rfl, .returning, ?_, .tuple #[], by simp [results, Try.results88], rfl, rfl, rfl⟩
  cases c₀
  simp_all
set_option maxRecDepth 100000 in
set_option maxHeartbeats 400000 in
theorem ncatch_pan (b0 b1 : Nat) (w : World) (older : List PanicEntry) (u0 u1 : Value)
    (h0 : w.cell? ⟨b0, 0, none⟩ = some u0) (h1 : w.cell? ⟨b1, 0, none⟩ = some u1)
    (f0 : w.frozen? ⟨b0, 0, none⟩ = false) (f1 : w.frozen? ⟨b1, 0, none⟩ = false) (h01 : b0 < b1) :
    CallsD Try.prog 88 #[.pointer (some ⟨b0, 0, none⟩), .pointer (some ⟨b1, 0, none⟩)] (.panicking ({ v := .iface 128 (.agg #[]), recovered := false } :: older)) w fun e u' w' =>
      e = .returned (.tuple #[]) ∧ u' = .panicking ({ v := .iface 128 (.agg #[]), recovered := true } :: older) ∧ w' = (w.setCell ⟨b0, 0, none⟩ (.slice none 0 0)).setCell ⟨b1, 0, none⟩ (.int .i64 22) := by
  refine callsD_of_wpS Try.func88 rfl fun c₀ cs hu => ?_
  apply wpS_seq
  apply wpS_region
  simp [wpOpsS, go_sem, recoverD, hu, Try.ntmps88, Exit.thenS]
  refine wpS_of_wp ?_
  go_wp2_with fail
  exact ⟨rfl, _, rfl, .tuple #[], by simp [results, Try.results88], rfl, rfl, rfl⟩
/-- The error of nodesOf, where no path is asked for. -/
def placeE (n i : Int) : Int := if 4096 < n then 2 else if i < 0 ∨ n ≤ i then 3 else 0
theorem nodes_boxes (w : World) : ∃ W0, W0 = (w.alloc (.cells #[.slice none 0 0] 98)).alloc (.cells #[.int .i64 0] 25) ∧ Boxed W0 w.heap.size 98 (.slice none 0 0) ∧ Boxed W0 (w.heap.size + 1) 25 (.int .i64 0) ∧ Below w.heap.size w W0 ∧ W0.heap.size = w.heap.size + 2 := by
  refine ⟨_, rfl, ?_, ?_, ?_, by simp⟩
  · exact (Boxed.new w _ _).alloc _
  · have := Boxed.new (w.alloc (.cells #[.slice none 0 0] 98)) 25 (.int .i64 0)
    rw [World.size_alloc] at this; exact this
  · exact ((Below.refl _ w).alloc (Nat.le_refl _) _).alloc (by simp) _
set_option maxRecDepth 100000 in
set_option maxHeartbeats 4000000 in
theorem nodesOf_err (n i : Int) (leaf path : Value) (w : World) (h : placeE n i ≠ 0) :
    Calls Try.prog 72 #[.int .i64 n, .int .i64 i, leaf, path] w fun e w' => e = .returned (.tuple #[.slice none 0 0, .int .i64 (placeE n i)]) ∧ Below w.heap.size w w' := by
  have hc : 4096 < n ∨ (¬ 4096 < n ∧ i < 0) ∨ (¬ 4096 < n ∧ ¬ i < 0 ∧ n ≤ i) := by unfold placeE at h; split at h <;> first | omega | (split at h <;> omega)
  obtain ⟨W0, hW0, hx0, hx1, hb, hs⟩ := nodes_boxes w
  have he : placeE n i = if 4096 < n then 2 else 3 := by
    unfold placeE
    rcases hc with h1 | ⟨h1, h2⟩ | ⟨h1, h2, h3⟩
    · rw [if_pos h1, if_pos h1]
    · rw [if_neg h1, if_neg h1, if_pos (by omega)]
    · rw [if_neg h1, if_neg h1, if_pos (by omega)]
  have c0 := hx0.cell
  have c1 := hx1.cell
  have d0 := hx0.frozen
  have d1 := hx1.frozen
  have Hx := Lib.hid (And.intro hx0 hx1)
  have Hb := Lib.hid hb
  have HW0 := Lib.hid hW0
  have He := Lib.hid he
  have hl : w.heap.size + 1 < W0.heap.size := by omega
  clear hx0 hx1 hb hW0 he h hs
  rcases hc with h1 | ⟨h1, h2⟩ | ⟨h1, h2, h3⟩
  · have hE : (if 4096 < n then (2 : Int) else 3) = 2 := if_pos h1
    rw [hE] at He
    clear hE
    go_enter_defers Try.func72, Try.ntmps72
    go_upto_region 1 with fail
    rw [← HW0.out]
    go_wp2_with fail
    have B0 := Hx.out.1.set (.slice none 0 0)
    have B1 : Boxed _ _ _ _ := (heap_setCell_other W0 ⟨w.heap.size, 0, none⟩ (w.heap.size + 1) (.slice none 0 0) (by simp)).trans Hx.out.2
    have hz1 := Hb.out.setCell (p := ⟨w.heap.size, 0, none⟩) (by simp) (.slice none 0 0)
    clear c0 c1 d0 d1
    generalize W0.setCell ⟨w.heap.size, 0, none⟩ (.slice none 0 0) = w3 at *
    have C0 : Boxed _ _ _ _ := (heap_setCell_other w3 ⟨w.heap.size + 1, 0, none⟩ w.heap.size (.int .i64 2) (by simp)).trans B0
    have C1 := Boxed.set (.int .i64 2) B1
    have hz2 := hz1.setCell (p := ⟨w.heap.size + 1, 0, none⟩) (by simp) (.int .i64 2)
    generalize w3.setCell ⟨w.heap.size + 1, 0, none⟩ (.int .i64 2) = w4 at *
    have z0 := C0.cell
    have z1 := C1.cell
    have HZ := Lib.hid hz2
    clear C0 C1 B0 B1 hz1 hz2
    simp [bodyPostD, Leaves, results, Try.results72, go_sem, z0, z1]
    exact ⟨by rw [He.out], HZ.out⟩
  · have hE : (if 4096 < n then (2 : Int) else 3) = 3 := if_neg h1
    rw [hE] at He
    clear hE
    go_enter_defers Try.func72, Try.ntmps72
    go_upto_region 1 with fail
    rw [← HW0.out]
    go_wp2_with fail
    have B0 := Hx.out.1.set (.slice none 0 0)
    have B1 : Boxed _ _ _ _ := (heap_setCell_other W0 ⟨w.heap.size, 0, none⟩ (w.heap.size + 1) (.slice none 0 0) (by simp)).trans Hx.out.2
    have hz1 := Hb.out.setCell (p := ⟨w.heap.size, 0, none⟩) (by simp) (.slice none 0 0)
    clear c0 c1 d0 d1
    generalize W0.setCell ⟨w.heap.size, 0, none⟩ (.slice none 0 0) = w3 at *
    have C0 : Boxed _ _ _ _ := (heap_setCell_other w3 ⟨w.heap.size + 1, 0, none⟩ w.heap.size (.int .i64 3) (by simp)).trans B0
    have C1 := Boxed.set (.int .i64 3) B1
    have hz2 := hz1.setCell (p := ⟨w.heap.size + 1, 0, none⟩) (by simp) (.int .i64 3)
    generalize w3.setCell ⟨w.heap.size + 1, 0, none⟩ (.int .i64 3) = w4 at *
    have z0 := C0.cell
    have z1 := C1.cell
    have HZ := Lib.hid hz2
    clear C0 C1 B0 B1 hz1 hz2
    simp [bodyPostD, Leaves, results, Try.results72, go_sem, z0, z1]
    exact ⟨by rw [He.out], HZ.out⟩
  · have hE : (if 4096 < n then (2 : Int) else 3) = 3 := if_neg h1
    rw [hE] at He
    clear hE
    go_enter_defers Try.func72, Try.ntmps72
    go_upto_region 1 with fail
    rw [← HW0.out]
    go_wp2_with fail
    have B0 := Hx.out.1.set (.slice none 0 0)
    have B1 : Boxed _ _ _ _ := (heap_setCell_other W0 ⟨w.heap.size, 0, none⟩ (w.heap.size + 1) (.slice none 0 0) (by simp)).trans Hx.out.2
    have hz1 := Hb.out.setCell (p := ⟨w.heap.size, 0, none⟩) (by simp) (.slice none 0 0)
    clear c0 c1 d0 d1
    generalize W0.setCell ⟨w.heap.size, 0, none⟩ (.slice none 0 0) = w3 at *
    have C0 : Boxed _ _ _ _ := (heap_setCell_other w3 ⟨w.heap.size + 1, 0, none⟩ w.heap.size (.int .i64 3) (by simp)).trans B0
    have C1 := Boxed.set (.int .i64 3) B1
    have hz2 := hz1.setCell (p := ⟨w.heap.size + 1, 0, none⟩) (by simp) (.int .i64 3)
    generalize w3.setCell ⟨w.heap.size + 1, 0, none⟩ (.int .i64 3) = w4 at *
    have z0 := C0.cell
    have z1 := C1.cell
    have HZ := Lib.hid hz2
    clear C0 C1 B0 B1 hz1 hz2
    simp [bodyPostD, Leaves, results, Try.results72, go_sem, z0, z1]
    exact ⟨by rw [He.out], HZ.out⟩
theorem Nodes.but {w w' : World} {B g : Nat} {v : Value} {ms : List NodeM} (h : Nodes w B v ms) (hb : But g w w') (hg : g < B) : Nodes w' B v ms := ⟨row_but h.row hb hg, fun m hm => (h.own m hm).but hb hg⟩
def NodesPost (r : Option (List (List Int))) (w : World) (e : Ending) (w' : World) : Prop := match r with
  | some l => ∃ v ms, e = .returned (.tuple #[v, .int .i64 0]) ∧ Nodes w' w.heap.size v ms ∧ ms.map (·.xs) = l ∧ Below w.heap.size w w'
  | none => e = .returned (.tuple #[.slice none 0 0, .int .i64 22]) ∧ Below w.heap.size w w'
attribute [local irreducible] digestV rootV halfV climbV
set_option maxRecDepth 100000 in
set_option maxHeartbeats 4000000 in
theorem nodesOf_any (n i : Nat) (la : Option Addr) (ll lc : Nat) (leaf : List Int) (a : Option Addr) (p cap : Nat) (ds : List (List Int)) (w : World) (hm : n ≤ 4096) (hi : i < n) (hl : Rd w la ll lc leaf) (hll : ll ≤ 140737488354000) (hp : RdG w a p cap ds) :
    Calls Try.prog 72 #[.int .i64 n, .int .i64 i, .slice la ll lc, .slice a p cap] w (NodesPost (climbV n i leaf ds) w) := by
  obtain ⟨W0, hW0, hx0, hx1, hb, hs⟩ := nodes_boxes w
  obtain ⟨r, hr⟩ : ∃ r, r = climbV n i leaf ds := ⟨_, rfl⟩
  have hcall := climb_any n n i la ll lc leaf a p cap ds W0 rfl (by omega) hm hi (hl.below hb (Nat.le_refl _)) hll (hp.below hb (Nat.le_refl _))
  rw [← hr] at hcall ⊢
  have g1 : ¬ (4096 : Int) < (n : Int) := by omega
  have g2 : ¬ (i : Int) < 0 := by omega
  have g3 : ¬ (n : Int) ≤ (i : Int) := by omega
  have hr0 := Lib.hid (show r = none ∨ ∃ l, r = some l by cases r with | none => exact .inl rfl | some l => exact .inr ⟨l, rfl⟩)
  have Hx := Lib.hid (And.intro hx0 hx1)
  have Hb := Lib.hid hb
  have HW0 := Lib.hid hW0
  have Hcall := Lib.hid hcall
  have Hs := Lib.hid hs
  have hmf : ∀ (fn : Fn) (first cap : Array Value) (w : World), (Instr.makeFunc fn first cap).run Try.prog w = .ok (.func fn first cap) w := fun _ _ _ _ => rfl
  have hl0 : w.heap.size + 1 < W0.heap.size := by omega
  clear hx0 hx1 hb hW0 hcall hr hs hl hp
  go_enter_defers Try.func72, Try.ntmps72
  go_upto_region 1 with fail
  rw [← HW0.out]
  go_wp2_with fail
  refine Hcall.out.mono ?_
  intro e w2 h2
  rcases hr0.out with hr1 | ⟨l, hr1⟩
  · subst hr1
    obtain ⟨rfl, hb2⟩ := h2
    have bx0 : Boxed w2 w.heap.size 98 (.slice none 0 0) := (hb2.block _ (by omega)).trans Hx.out.1
    have bx1 : Boxed w2 (w.heap.size + 1) 25 (.int .i64 0) := (hb2.block _ hl0).trans Hx.out.2
    have Hb2 := Lib.hid (Hb.out.trans (hb2.mono Hb.out.size))
    unfold panW
    simp only
    change bodyPostD _ _ _ (Exit.panic _) _ w2
    simp only [bodyPostD]
    refine leaves_cons (f := 88) (args := #[.pointer (some ⟨w.heap.size, 0, none⟩), .pointer (some ⟨w.heap.size + 1, 0, none⟩)]) (by simp) (by simp [go_sem]) ?_
    refine (ncatch_pan w.heap.size (w.heap.size + 1) w2 [] _ _ bx0.cell bx1.cell bx0.frozen bx1.frozen (by omega)).mono ?_
    rintro e u' w'' ⟨rfl, rfl, rfl⟩
    have B0 := bx0.set (.slice none 0 0)
    have B1 : Boxed _ _ _ _ := (heap_setCell_other w2 ⟨w.heap.size, 0, none⟩ (w.heap.size + 1) (.slice none 0 0) (by simp)).trans bx1
    have hz1 := Hb2.out.setCell (p := ⟨w.heap.size, 0, none⟩) (by simp) (.slice none 0 0)
    generalize w2.setCell ⟨w.heap.size, 0, none⟩ (.slice none 0 0) = w3 at *
    have C0 : Boxed _ _ _ _ := (heap_setCell_other w3 ⟨w.heap.size + 1, 0, none⟩ w.heap.size (.int .i64 22) (by simp)).trans B0
    have C1 := Boxed.set (.int .i64 22) B1
    have hz2 := hz1.setCell (p := ⟨w.heap.size + 1, 0, none⟩) (by simp) (.int .i64 22)
    generalize w3.setCell ⟨w.heap.size + 1, 0, none⟩ (.int .i64 22) = w4 at *
    have z0 := C0.cell
    have z1 := C1.cell
    have HZ := Lib.hid hz2
    clear C0 C1 B0 B1 hz1 hz2 bx0 bx1 hb2
    simp [Leaves, settle, results, Try.results72, go_sem, z0, z1]
    exact ⟨rfl, HZ.out⟩
  · subst hr1
    obtain ⟨v, ms, rfl, hN, hml, hb2⟩ := h2
    obtain ⟨va, vc, rfl, -, -, -⟩ := row_slice hN.row
    have bx0 : Boxed w2 w.heap.size 98 (.slice none 0 0) := (hb2.block _ (by omega)).trans Hx.out.1
    have bx1 : Boxed w2 (w.heap.size + 1) 25 (.int .i64 0) := (hb2.block _ hl0).trans Hx.out.2
    have Hb2 := Lib.hid (Hb.out.trans (hb2.mono Hb.out.size))
    have c0 := bx0.cell
    have c1 := bx1.cell
    have d0 := bx0.frozen
    have d1 := bx1.frozen
    have l1 := bx1.lt
    have Hbx := Lib.hid (And.intro bx0 bx1)
    have HN := Lib.hid hN
    have Hml := Lib.hid hml
    clear hb2 hN hml bx0 bx1
    go_wp2_with fail
    simp only [bodyPostD]
    have B0 := Hbx.out.1.set (.slice va ms.length vc)
    have B1 : Boxed _ _ _ _ := (heap_setCell_other w2 ⟨w.heap.size, 0, none⟩ (w.heap.size + 1) (.slice va ms.length vc) (by simp)).trans Hbx.out.2
    have hz1 := Hb2.out.setCell (p := ⟨w.heap.size, 0, none⟩) (by simp) (.slice va ms.length vc)
    have n1 : Nodes (w2.setCell ⟨w.heap.size, 0, none⟩ (.slice va ms.length vc)) W0.heap.size (.slice va ms.length vc) ms := HN.out.but ((But.refl w.heap.size w2).setCell 0 _) (by omega)
    clear c0 c1 d0 d1
    generalize w2.setCell ⟨w.heap.size, 0, none⟩ (.slice va ms.length vc) = w3 at *
    have C0 : Boxed _ _ _ _ := (heap_setCell_other w3 ⟨w.heap.size + 1, 0, none⟩ w.heap.size (.int .i64 0) (by simp)).trans B0
    have C1 := Boxed.set (.int .i64 0) B1
    have hz2 := hz1.setCell (p := ⟨w.heap.size + 1, 0, none⟩) (by simp) (.int .i64 0)
    have n2 : Nodes (w3.setCell ⟨w.heap.size + 1, 0, none⟩ (.int .i64 0)) W0.heap.size (.slice va ms.length vc) ms := n1.but ((But.refl (w.heap.size + 1) w3).setCell 0 _) (by omega)
    generalize w3.setCell ⟨w.heap.size + 1, 0, none⟩ (.int .i64 0) = w4 at *
    have z0 := C0.cell
    have z1 := C1.cell
    have HZ := Lib.hid (And.intro hz2 n2)
    clear C0 C1 B0 B1 hz1 hz2 n1 n2
    refine leaves_cons (f := 88) (args := #[.pointer (some ⟨w.heap.size, 0, none⟩), .pointer (some ⟨w.heap.size + 1, 0, none⟩)]) (by simp) (by simp [go_sem]) ?_
    refine (ncatch_idle _ _ _).mono ?_
    rintro e u' w'' ⟨rfl, rfl, rfl⟩
    simp [Leaves, settle, results, Try.results72, go_sem, z0, z1]
    exact ⟨_, ms, rfl, HZ.out.2.mono (by omega), Hml.out, HZ.out.1⟩
end Go.Proofs.Ytnlblmghhkmbbaa
