/- What the statement SumsCollides calls answers true, for every input that its walk is handed. -/
import Derived.Test.YtjkkjfigoanplaaRows
import Derived.WalkKit
import Derived.ProofKit
import Derived.OpenShut
import Derived.ShutString
import Derived.ChangeOld
import Derived.Below
import Derived.SizedLaws
import Derived.Test.YtjkkjfigoanplaaSmcol
import Derived.Test.YtjkkjfigoanplaaSstr
namespace Go.Proofs.Ytjkkjfigoanplaa.sumsCollides
open Go.ChangeShapes Go.WideShapes Go.ChangeAt Go.RowKit
open Go.ChangeMaps (open_string shut_string)
set_option linter.unusedVariables false

open Go.Shelf
theorem least {P : Nat → Prop} (h : ∃ k, P k) : ∃ k, P k ∧ ∀ j, j < k → ¬ P j := by
  obtain ⟨k, hk⟩ := h
  induction k using Nat.strongRecOn with
  | _ k ih =>
    by_cases hex : ∃ j, j < k ∧ P j
    · obtain ⟨j, hj, hp⟩ := hex
      exact ih j hj hp
    · exact ⟨k, hk, fun j hj hp => hex ⟨j, hj, hp⟩⟩
def Res (X Y : List Int) (E : Int) (w : World) (e : Ending) (w' : World) : Prop :=
  Below w.heap.size w w' ∧ ∃ (ua : Option Addr) (ul uc : Nat) (va : Option Addr) (vl vc : Nat), e = .returned (.tuple #[.slice ua ul uc, .slice va vl vc, .int .i64 E]) ∧ Rd w' ua ul uc X ∧ Rd w' va vl vc Y
theorem res_err {E : Int} {w : World} {e : Ending} {w' : World} (h : e = .returned (.tuple #[.slice none 0 0, .slice none 0 0, .int .i64 E]) ∧ Below w.heap.size w w') : Res [] [] E w e w' :=
  ⟨h.2, none, 0, 0, none, 0, 0, h.1, Rd.nil _, Rd.nil _⟩
/-- What two programs return that keep CollideOk is the same. -/
theorem res_ok (la lb : List (List Int)) : ∃ (X Y : List Int) (E : Int), ∀ (w : World) (e : Ending) (w' : World), CollideOk la lb w e w' → Res X Y E w e w' := by
  by_cases hno : ∃ k, ∃ h1 : k < la.length, ∃ h2 : k < lb.length, clash la[k] lb[k] = true
  · obtain ⟨k, ⟨h1, h2, hc⟩, hmin⟩ := least hno
    refine ⟨la[k], lb[k], 0, fun w e w' h => ?_⟩
    obtain ⟨hb, h⟩ := h
    refine ⟨hb, ?_⟩
    rcases h with ⟨ua, ul, uc, va, vl, vc, xs, ys, rfl, r1, r2, hcl, k', g, g', e1, e2, hm⟩ | ⟨rfl, hm⟩
    · have hkk : k' = k := by
        rcases Nat.lt_trichotomy k' k with h | h | h
        · exact absurd ⟨g, g', by rw [e1, e2]; exact hcl⟩ (hmin k' h)
        · exact h
        · have := hm k h; rw [hc] at this; cases this
      subst hkk
      exact ⟨ua, ul, uc, va, vl, vc, rfl, by rw [e1]; exact r1, by rw [e2]; exact r2⟩
    · have := hm k h1 h2; rw [hc] at this; cases this
  · refine ⟨[], [], 3, fun w e w' h => ?_⟩
    obtain ⟨hb, h⟩ := h
    rcases h with ⟨ua, ul, uc, va, vl, vc, xs, ys, rfl, r1, r2, hcl, k', g, g', e1, e2, hm⟩ | ⟨rfl, hm⟩
    · exact absurd ⟨k', g, g', by rw [e1, e2]; exact hcl⟩ hno
    · exact res_err ⟨rfl, hb⟩
/-- Inputs, for every path. -/
theorem rinputs_any (n i : Nat) (la : Option Addr) (ll lc : Nat) (leaf : List Int) (a : Option Addr) (p cap : Nat) (ds : List (List Int)) (w : World) (hm : n ≤ 4096) (hi : i < n) (hl : Rd w la ll lc leaf) (hll : ll ≤ 1000) (hp : RdG w a p cap ds) (hpp : p ≤ 50) :
    (∀ l, climbV n i leaf ds = some l → Calls Try.prog 73 #[.int .i64 n, .int .i64 i, .slice la ll lc, .slice a p cap] w (InsPost l w)) ∧
    (climbV n i leaf ds = none → Calls Try.prog 73 #[.int .i64 n, .int .i64 i, .slice la ll lc, .slice a p cap] w fun e w' => e = .returned (.tuple #[.slice none 0 0, .int .i64 22]) ∧ Below w.heap.size w w') := by
  have hc := climb_ins n n i leaf ds (Nat.le_refl _) (by omega) hm
  have hpl := hp.hl
  constructor
  · intro l h
    have h' : climbN n n i leaf ds = some l := h
    rw [hc] at h'
    split at h'
    · rename_i heq
      simp only [Option.some.injEq] at h'
      rw [← h', hpl]
      exact rinputs_ok n i la ll lc leaf a p cap ds w hm hi hl (by omega) hp (by omega)
    · cases h'
  · intro h
    have h' : climbN n n i leaf ds = none := h
    rw [hc] at h'
    split at h'
    · cases h'
    · rename_i hne
      exact rinputs_len n i (.slice la ll lc) a p cap w hm hi (by omega) (by omega)
theorem both_collide (n i : Int) (la : Option Addr) (ll lc : Nat) (leaf : List Int) (a : Option Addr) (p cap : Nat) (ds : List (List Int)) (oa : Option Addr) (ol oc : Nat) (other : List Int) (b : Option Addr) (q cap2 : Nat) (es : List (List Int)) (w : World)
    (hl : Rd w la ll lc leaf) (hll : ll ≤ 1000) (hp : RdG w a p cap ds) (hpp : p ≤ 50) (ho : Rd w oa ol oc other) (hol : ol ≤ 1000) (hq : RdG w b q cap2 es) (hqq : q ≤ 50) :
    ∃ (X Y : List Int) (E : Int), (∀ u, Below w.heap.size w u → Calls Try.prog 52 #[.int .i64 n, .int .i64 i, .slice la ll lc, .slice a p cap, .slice oa ol oc, .slice b q cap2] u (Res X Y E u)) ∧ (∀ u, Below w.heap.size w u → Calls Try.prog 53 #[.int .i64 n, .int .i64 i, .slice la ll lc, .slice a p cap, .slice oa ol oc, .slice b q cap2] u (Res X Y E u)) := by
  by_cases h : placeE n i = 0
  · have hn : n ≤ 4096 ∧ 0 ≤ i ∧ i < n := by unfold placeE at h; split at h <;> first | omega | (split at h <;> omega)
    obtain ⟨m, rfl⟩ := Int.eq_ofNat_of_zero_le (show 0 ≤ n by omega)
    obtain ⟨t, rfl⟩ := Int.eq_ofNat_of_zero_le hn.2.1
    have n1 := fun (u : World) (hu : Below w.heap.size w u) => nodesOf_any m t la ll lc leaf a p cap ds u (by omega) (by omega) (hl.below hu (Nat.le_refl _)) (by omega) (hp.below hu (Nat.le_refl _))
    have n2 := fun (u : World) (hu : Below w.heap.size w u) => nodesOf_any m t oa ol oc other b q cap2 es u (by omega) (by omega) (ho.below hu (Nat.le_refl _)) (by omega) (hq.below hu (Nat.le_refl _))
    have r1 := fun (u : World) (hu : Below w.heap.size w u) => rinputs_any m t la ll lc leaf a p cap ds u (by omega) (by omega) (hl.below hu (Nat.le_refl _)) hll (hp.below hu (Nat.le_refl _)) hpp
    have r2 := fun (u : World) (hu : Below w.heap.size w u) => rinputs_any m t oa ol oc other b q cap2 es u (by omega) (by omega) (ho.below hu (Nat.le_refl _)) hol (hq.below hu (Nat.le_refl _)) hqq
    have tr : ∀ {u u' : World}, Below w.heap.size w u → Below u.heap.size u u' → Below w.heap.size w u' := fun h1 h2 => h1.trans (h2.mono h1.size)
    cases hc1 : climbV m t leaf ds with
    | none =>
      rw [hc1] at n1
      exact ⟨[], [], 22, fun u hu => (collide_one _ _ _ _ _ _ u 22 (by omega) (n1 u hu)).mono fun e w' h => res_err h, fun u hu => (rcollide_one _ _ _ _ _ _ u 22 (by omega) ((r1 u hu).2 hc1)).mono fun e w' h => res_err h⟩
    | some l1 =>
      rw [hc1] at n1
      cases hc2 : climbV m t other es with
      | none =>
        rw [hc2] at n2
        exact ⟨[], [], 22, fun u hu => (collide_two _ _ _ _ _ _ u 22 (by omega) l1 (n1 u hu) (fun u' hu' => n2 u' (tr hu hu'))).mono fun e w' h => res_err h, fun u hu => (rcollide_two _ _ _ _ _ _ u 22 (by omega) l1 ((r1 u hu).1 l1 hc1) (fun u' hu' => (r2 u' (tr hu hu')).2 hc2)).mono fun e w' h => res_err h⟩
      | some l2 =>
        rw [hc2] at n2
        have c1 : climbN m m t leaf ds = some l1 := hc1
        have c2 : climbN m m t other es = some l2 := hc2
        have hs1 := climbN_some m m t leaf ds l1 c1
        have hle := climb_len m m t leaf other ds es l1 l2 c1 c2
        have hfl := hl.hl
        have hfo := ho.hl
        have b1 : ∀ x ∈ l1, x.length ≤ 140737488354000 := fun x hx => by have := climb_small m m t leaf ds l1 (fun d hd => (hp.hd d hd).1) c1 x hx; omega
        have b2 : ∀ x ∈ l2, x.length ≤ 140737488354000 := fun x hx => by have := climb_small m m t other es l2 (fun d hd => (hq.hd d hd).1) c2 x hx; omega
        obtain ⟨X, Y, E, hR⟩ := res_ok l1 l2
        exact ⟨X, Y, E, fun u hu => (collide_both _ _ _ _ _ _ u l1 l2 hle (by omega) (n1 u hu) (fun u' hu' => n2 u' (tr hu hu'))).mono fun e w' h => hR _ _ _ h, fun u hu => (rcollide_both _ _ _ _ _ _ u l1 l2 hle (by omega) b1 b2 ((r1 u hu).1 l1 hc1) (fun u' hu' => (r2 u' (tr hu hu')).1 l2 hc2)).mono fun e w' h => hR _ _ _ h⟩
  · exact ⟨[], [], placeE n i, fun u _ => (collide_one _ _ _ _ _ _ u _ h (nodesOf_err n i _ _ u h)).mono fun e w' h => res_err h, fun u _ => (rcollide_one _ _ _ _ _ _ u _ h ((rinputs_err n i _ _ u h).mono fun e w' h => ⟨h.1, by rw [h.2]; exact Below.refl _ _⟩)).mono fun e w' h => res_err h⟩
attribute [local irreducible] Res
set_option maxRecDepth 100000 in
set_option maxHeartbeats 8000000 in
theorem walk (a0 : Int) (a1 : Int) (a2 : Option Addr) (len2 cap2 : Nat) (xs2 : List Int) (a3 : Option Addr) (len3 cap3 : Nat) (xs3 : List (List Int)) (a4 : Option Addr) (len4 cap4 : Nat) (xs4 : List Int) (a5 : Option Addr) (len5 cap5 : Nat) (xs5 : List (List Int)) (w : World) (w0 : (Lit.int .i64 a0).wf = true) (w1 : (Lit.int .i64 a1).wf = true) (w2 : Rd w a2 len2 cap2 xs2 ∧ cap2 ≤ 140737488351232) (w3 : RdG w a3 len3 cap3 xs3) (w4 : Rd w a4 len4 cap4 xs4 ∧ cap4 ≤ 140737488351232) (w5 : RdG w a5 len5 cap5 xs5) :
    Calls Try.prog 7 #[.int .i64 a0, .int .i64 a1, .slice a2 len2 cap2, .slice a3 len3 cap3, .slice a4 len4 cap4, .slice a5 len5 cap5] w fun e w' => e = .returned (.bool true) ∧ Below w.heap.size w w' := by
  obtain ⟨hr2, hc2⟩ := w2
  obtain ⟨hr4, hc4⟩ := w4
  have hcc2 := hr2.hc
  have hcc4 := hr4.hc
  have hcc3 := w3.hc
  have hm3 := w3.hm
  have hcc5 := w5.hc
  have hm5 := w5.hm
  unfold maxLen at hm3 hm5
  have Hr2 := Lib.hid hr2
  have Hr3 := Lib.hid w3
  have Hr4 := Lib.hid hr4
  have Hr5 := Lib.hid w5
  clear hr2 hr4 w3 w5
  by_cases q0 : (1000 : Int) < (len2 : Int)
  · go_enter Try.func7, Try.ntmps7
    go_wp2_with fail
    refine (sane_any _).mono ?_
    rintro e w' ⟨rfl, hb⟩
    go_wp2_with fail
    go_ret
    exact ⟨rfl, hb⟩
  by_cases q1 : (1000 : Int) < (len4 : Int)
  · go_enter Try.func7, Try.ntmps7
    go_wp2_with fail
    refine (sane_any _).mono ?_
    rintro e w' ⟨rfl, hb⟩
    go_wp2_with fail
    go_ret
    exact ⟨rfl, hb⟩
  by_cases q2 : (50 : Int) < (len3 : Int)
  · go_enter Try.func7, Try.ntmps7
    go_wp2_with fail
    refine (sane_any _).mono ?_
    rintro e w' ⟨rfl, hb⟩
    go_wp2_with fail
    go_ret
    exact ⟨rfl, hb⟩
  by_cases q3 : (50 : Int) < (len5 : Int)
  · go_enter Try.func7, Try.ntmps7
    go_wp2_with fail
    refine (sane_any _).mono ?_
    rintro e w' ⟨rfl, hb⟩
    go_wp2_with fail
    go_ret
    exact ⟨rfl, hb⟩
  obtain ⟨X, Y, E, hA, hB⟩ := both_collide a0 a1 a2 len2 cap2 xs2 a3 len3 cap3 xs3 a4 len4 cap4 xs4 a5 len5 cap5 xs5 w Hr2.out (by omega) Hr3.out (by omega) Hr4.out (by omega) Hr5.out (by omega)
  have HA := Lib.hid hA
  have HB := Lib.hid hB
  clear hA hB
  go_enter Try.func7, Try.ntmps7
  go_wp2_with fail
  refine (HA.out w (Below.refl _ _)).mono ?_
  intro e w1 hp
  unfold Res at hp
  obtain ⟨hb1, ua, ul, uc, va, vl, vc, rfl, r1, r2⟩ := hp
  have B1 := Lib.hid hb1
  have R1 := Lib.hid r1
  have R2 := Lib.hid r2
  clear hb1 r1 r2 HA
  go_wp2_with fail
  refine (HB.out w1 B1.out).mono ?_
  intro e w2 hp
  unfold Res at hp
  obtain ⟨hb2, xa, xl, xc, ya, yl, yc, rfl, r3, r4⟩ := hp
  have B2 : Hid (Below w.heap.size w w2) := Lib.hid (B1.out.trans (hb2.mono B1.out.size))
  have R12 := Lib.hid (R1.out.below hb2 (Nat.le_refl _))
  have R22 := Lib.hid (R2.out.below hb2 (Nat.le_refl _))
  have R3 := Lib.hid r3
  have R4 := Lib.hid r4
  clear hb2 r3 r4 HB R1 R2 B1
  go_wp2_with fail
  refine (sane_any w2).mono ?_
  rintro e w3 ⟨rfl, hb3⟩
  have k1 := (R12.out.below hb3 (Nat.le_refl _)).convAny
  have k2 := (R22.out.below hb3 (Nat.le_refl _)).convAny
  have k3 := (R3.out.below hb3 (Nat.le_refl _)).convAny
  have k4 := (R4.out.below hb3 (Nat.le_refl _)).convAny
  have B3 : Hid (Below w.heap.size w w3) := Lib.hid (B2.out.trans (hb3.mono B2.out.size))
  clear hb3
  go_wp2_with fail
  go_ret
  exact ⟨rfl, B3.out⟩
end Go.Proofs.Ytjkkjfigoanplaa.sumsCollides
