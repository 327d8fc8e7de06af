/- What the statement SumsBinding calls answers true, for every input that its walk is handed. -/
import Derived.Test.YtjkkjfigoanplaaRows
import Derived.WalkKit
import Derived.ProofKit
import Derived.OpenShut
import Derived.ShutString
import Derived.ChangeOld
import Derived.Below
import Derived.SizedLaws
import Derived.Test.YtjkkjfigoanplaaSbind
import Derived.Test.YtjkkjfigoanplaaSsamed
import Derived.Test.YtjkkjfigoanplaaSstr
namespace Go.Proofs.Ytjkkjfigoanplaa.sumsBinding
open Go.ChangeShapes Go.WideShapes Go.ChangeAt Go.RowKit
open Go.ChangeMaps (open_string shut_string)
set_option linter.unusedVariables false

open Go.Shelf
/-- What Collide does, beside what Above says of both proofs. -/
def BindPost (E F : Int) (A B : List Int) (same : Prop) (w : World) (e : Ending) (w' : World) : Prop :=
  Below w.heap.size w w' ∧ ((∃ (ua : Option Addr) (ul uc : Nat) (va : Option Addr) (vl vc : Nat) (xs ys : List Int), e = .returned (.tuple #[.slice ua ul uc, .slice va vl vc, .int .i64 0]) ∧ Rd w' ua ul uc xs ∧ Rd w' va vl vc ys ∧ xs ≠ ys ∧ digestV xs = digestV ys ∧ ul ≤ 3000 ∧ vl ≤ 3000 ∧ E = 0 ∧ F = 0 ∧ ¬ same) ∨
    (∃ G : Int, G ≠ 0 ∧ e = .returned (.tuple #[.slice none 0 0, .slice none 0 0, .int .i64 G]) ∧ (E = 0 → F = 0 → (same ∧ G = 3) ∨ (¬ same ∧ A ≠ B))))
theorem collide_any (n i : Int) (la : Option Addr) (ll lc : Nat) (leaf : List Int) (a : Option Addr) (p cap : Nat) (ds : List (List Int)) (oa : Option Addr) (ol oc : Nat) (other : List Int) (b : Option Addr) (q cap2 : Nat) (es : List (List Int)) (w : World)
    (hl : Rd w la ll lc leaf) (hll : ll ≤ 1000) (hp : RdG w a p cap ds) (ho : Rd w oa ol oc other) (hol : ol ≤ 1000) (hq : RdG w b q cap2 es) :
    Calls Try.prog 52 #[.int .i64 n, .int .i64 i, .slice la ll lc, .slice a p cap, .slice oa ol oc, .slice b q cap2] w (BindPost (aboveE n i leaf ds) (aboveE n i other es) (aboveD n i leaf ds) (aboveD n i other es) (leaf = other ∧ ds = es) w) := by
  by_cases h : placeE n i = 0
  · have hn : n ≤ 4096 ∧ 0 ≤ i ∧ i < n := by unfold placeE at h; split at h <;> first | omega | (split at h <;> omega)
    have e1 : ∀ lf dd, aboveE n i lf dd = match climbV n.toNat i.toNat lf dd with | some _ => 0 | none => 22 := by intro lf dd; unfold aboveE; rw [if_neg (by simp [h])]; cases climbV n.toNat i.toNat lf dd <;> rfl
    have e2 : ∀ lf dd, aboveD n i lf dd = match climbV n.toNat i.toNat lf dd with | some l => digestV (l.getLast?.getD []) | none => List.replicate 16 0 := by intro lf dd; unfold aboveD; rw [if_neg (by simp [h])]; cases climbV n.toNat i.toNat lf dd <;> rfl
    obtain ⟨m, rfl⟩ := Int.eq_ofNat_of_zero_le (show 0 ≤ n by omega)
    obtain ⟨t, rfl⟩ := Int.eq_ofNat_of_zero_le hn.2.1
    have h1 := nodesOf_any m t la ll lc leaf a p cap ds w (by omega) (by omega) hl (by omega) hp
    have h2 := fun (w' : World) (hb : Below w.heap.size w w') => nodesOf_any m t oa ol oc other b q cap2 es w' (by omega) (by omega) (ho.below hb (Nat.le_refl _)) (by omega) (hq.below hb (Nat.le_refl _))
    rw [e1, e1, e2, e2]
    simp only [Int.toNat_natCast]
    cases hc1 : climbV m t leaf ds with
    | none =>
      rw [hc1] at h1
      refine (collide_one _ _ _ _ _ _ w 22 (by omega) h1).mono ?_
      rintro e w' ⟨rfl, hb⟩
      exact ⟨hb, .inr ⟨22, by omega, rfl, fun h => by simp at h⟩⟩
    | some l1 =>
      rw [hc1] at h1
      cases hc2 : climbV m t other es with
      | none =>
        rw [hc2] at h2
        refine (collide_two _ _ _ _ _ _ w 22 (by omega) l1 h1 h2).mono ?_
        rintro e w' ⟨rfl, hb⟩
        exact ⟨hb, .inr ⟨22, by omega, rfl, fun _ h => by simp at h⟩⟩
      | some l2 =>
        rw [hc2] at h2
        have hdp : ∀ d ∈ ds, d.length = 16 := fun d hd => (hp.hd d hd).1
        have hdq : ∀ d ∈ es, d.length = 16 := fun d hd => (hq.hd d hd).1
        have c1 : climbN m m t leaf ds = some l1 := hc1
        have c2 : climbN m m t other es = some l2 := hc2
        have hs1 := climbN_some m m t leaf ds l1 c1
        have hle := climb_len m m t leaf other ds es l1 l2 c1 c2
        have hfl := hl.hl
        have hfo := ho.hl
        refine (collide_both _ _ _ _ _ _ w l1 l2 hle (by omega) h1 h2).mono ?_
        rintro e w' ⟨hb, hc⟩
        refine ⟨hb, ?_⟩
        rcases hc with ⟨ua, ul, uc, va, vl, vc, xs, ys, rfl, r1, r2, hcl, k, hk, hk', g1, g2, -⟩ | ⟨rfl, hno⟩
        · obtain ⟨q1, q2⟩ := clash_true hcl
          have b1 := climb_small m m t leaf ds l1 hdp c1 xs (by rw [← g1]; exact List.getElem_mem _)
          have b2 := climb_small m m t other es l2 hdq c2 ys (by rw [← g2]; exact List.getElem_mem _)
          refine .inl ⟨ua, ul, uc, va, vl, vc, xs, ys, rfl, r1, r2, q2, q1, by have := r1.hl; omega, by have := r2.hl; omega, rfl, rfl, ?_⟩
          rintro ⟨rfl, rfl⟩
          rw [c1] at c2
          simp only [Option.some.injEq] at c2
          subst c2
          exact q2 (g1.symm.trans g2)
        · refine .inr ⟨3, by omega, rfl, fun _ _ => ?_⟩
          by_cases hsame : leaf = other ∧ ds = es
          · exact .inl ⟨hsame, rfl⟩
          · refine .inr ⟨hsame, fun hd => hsame (climb_binds m m t leaf other ds es l1 l2 hdp hdq c1 c2 hd ?_)⟩
            intro j x y hx hy
            obtain ⟨x1, rfl⟩ := List.getElem?_eq_some_iff.1 hx
            obtain ⟨y1, rfl⟩ := List.getElem?_eq_some_iff.1 hy
            exact hno j x1 y1
  · have e1 : ∀ lf dd, aboveE n i lf dd = placeE n i := by intro lf dd; unfold aboveE; rw [if_pos h]
    rw [e1, e1]
    refine (collide_one _ _ _ _ _ _ w _ h (nodesOf_err n i _ _ w h)).mono ?_
    rintro e w' ⟨rfl, hb⟩
    exact ⟨hb, .inr ⟨_, h, rfl, fun h' => absurd h' h⟩⟩
attribute [local irreducible] digestV aboveD aboveE BindPost
set_option maxRecDepth 100000 in
set_option maxHeartbeats 8000000 in
theorem walk (a0 : Int) (a1 : Int) (a2 : Option Addr) (len2 cap2 : Nat) (xs2 : List Int) (a3 : Option Addr) (len3 cap3 : Nat) (xs3 : List (List Int)) (a4 : Option Addr) (len4 cap4 : Nat) (xs4 : List Int) (a5 : Option Addr) (len5 cap5 : Nat) (xs5 : List (List Int)) (w : World) (w0 : (Lit.int .i64 a0).wf = true) (w1 : (Lit.int .i64 a1).wf = true) (w2 : Rd w a2 len2 cap2 xs2 ∧ cap2 ≤ 140737488351232) (w3 : RdG w a3 len3 cap3 xs3) (w4 : Rd w a4 len4 cap4 xs4 ∧ cap4 ≤ 140737488351232) (w5 : RdG w a5 len5 cap5 xs5) :
    Calls Try.prog 14 #[.int .i64 a0, .int .i64 a1, .slice a2 len2 cap2, .slice a3 len3 cap3, .slice a4 len4 cap4, .slice a5 len5 cap5] w fun e w' => e = .returned (.bool true) ∧ Below w.heap.size w w' := by
  obtain ⟨hr2, hc2⟩ := w2
  obtain ⟨hr4, hc4⟩ := w4
  have hcc2 := hr2.hc
  have hcc4 := hr4.hc
  have hcc3 := w3.hc
  have hm3 := w3.hm
  have hcc5 := w5.hc
  have hm5 := w5.hm
  unfold maxLen at hm3 hm5
  have Hr2 := Lib.hid hr2
  have Hr3 := Lib.hid w3
  have Hr4 := Lib.hid hr4
  have Hr5 := Lib.hid w5
  clear hr2 hr4 w3 w5
  by_cases q0 : (1000 : Int) < (len2 : Int)
  · go_enter Try.func14, Try.ntmps14
    go_wp2_with fail
    refine (sane_any _).mono ?_
    rintro e w' ⟨rfl, hb⟩
    go_wp2_with fail
    go_ret
    exact ⟨rfl, hb⟩
  by_cases q1 : (1000 : Int) < (len4 : Int)
  · go_enter Try.func14, Try.ntmps14
    go_wp2_with fail
    refine (sane_any _).mono ?_
    rintro e w' ⟨rfl, hb⟩
    go_wp2_with fail
    go_ret
    exact ⟨rfl, hb⟩
  by_cases q2 : (50 : Int) < (len3 : Int)
  · go_enter Try.func14, Try.ntmps14
    go_wp2_with fail
    refine (sane_any _).mono ?_
    rintro e w' ⟨rfl, hb⟩
    go_wp2_with fail
    go_ret
    exact ⟨rfl, hb⟩
  by_cases q3 : (50 : Int) < (len5 : Int)
  · go_enter Try.func14, Try.ntmps14
    go_wp2_with fail
    refine (sane_any _).mono ?_
    rintro e w' ⟨rfl, hb⟩
    go_wp2_with fail
    go_ret
    exact ⟨rfl, hb⟩
  obtain ⟨E, hE⟩ : ∃ E, E = aboveE a0 a1 xs2 xs3 := ⟨_, rfl⟩
  obtain ⟨F, hF⟩ : ∃ F, F = aboveE a0 a1 xs4 xs5 := ⟨_, rfl⟩
  obtain ⟨A, hA⟩ : ∃ A, A = aboveD a0 a1 xs2 xs3 := ⟨_, rfl⟩
  obtain ⟨B, hB⟩ : ∃ B, B = aboveD a0 a1 xs4 xs5 := ⟨_, rfl⟩
  have hAl : A.length = 16 := by rw [hA]; exact aboveD_len _ _ _ _
  have hBl : B.length = 16 := by rw [hB]; exact aboveD_len _ _ _ _
  have HA := Lib.hid (fun (u : World) (hu : Below w.heap.size w u) => above_any a0 a1 a2 len2 cap2 xs2 a3 len3 cap3 xs3 u (Hr2.out.below hu (Nat.le_refl _)) (by omega) (Hr3.out.below hu (Nat.le_refl _)))
  have HB := Lib.hid (fun (u : World) (hu : Below w.heap.size w u) => above_any a0 a1 a4 len4 cap4 xs4 a5 len5 cap5 xs5 u (Hr4.out.below hu (Nat.le_refl _)) (by omega) (Hr5.out.below hu (Nat.le_refl _)))
  have HC := Lib.hid (fun (u : World) (hu : Below w.heap.size w u) => collide_any a0 a1 a2 len2 cap2 xs2 a3 len3 cap3 xs3 a4 len4 cap4 xs4 a5 len5 cap5 xs5 u (Hr2.out.below hu (Nat.le_refl _)) (by omega) (Hr3.out.below hu (Nat.le_refl _)) (Hr4.out.below hu (Nat.le_refl _)) (by omega) (Hr5.out.below hu (Nat.le_refl _)))
  have HS := Lib.hid (fun (u : World) (hu : Below w.heap.size w u) => sameD_any a3 len3 cap3 xs3 a5 len5 cap5 xs5 u (Hr3.out.below hu (Nat.le_refl _)) (Hr5.out.below hu (Nat.le_refl _)) (by omega))
  rw [← hE, ← hA] at HA
  rw [← hF, ← hB] at HB
  rw [← hE, ← hF, ← hA, ← hB] at HC
  have HAl := Lib.hid (And.intro hAl hBl)
  clear hE hF hA hB hAl hBl
  go_enter Try.func14, Try.ntmps14
  go_wp2_with fail
  refine (HA.out w (Below.refl _ _)).mono ?_
  rintro e w1 ⟨rfl, hb1⟩
  obtain ⟨w2, e1, hz2, g7, W3, e2, e3, hg7, hb3, hq3, -⟩ := freshD hb1 A HAl.out.1
  have K7 := Lib.hid hg7
  have B3 := Lib.hid hb3
  have He1 := Lib.hid e1
  have He2 := Lib.hid e2
  have He3 := Lib.hid e3
  have Hz := Lib.hid hz2
  have Z1 := Lib.hid (Try.sizeDig A HAl.out.1)
  have Z2 := Lib.hid (zsize A HAl.out.1)
  have Z3 := Lib.hid (digC_one A)
  have Y1 := Lib.hid (Try.sizeDig B HAl.out.2)
  have Y2 := Lib.hid (zsize B HAl.out.2)
  have Y3 := Lib.hid (digC_one B)
  clear hb1 e1 hz2 e2 e3 hg7 hb3 hq3 HA
  go_upto_region 4 with (rw [He1.out]; refine wpList_store_row rfl 47 (.tmp 13) (.tmp 46) rfl w1.heap.size (digC A) rfl rfl 47 (digC (List.replicate 16 0)) Hz.out Z1.out Z2.out Z3.out ?_)
  rw [He3.out, He2.out]
  clear He1 He2 He3 Hz
  go_wp2_with fail
  refine (HB.out W3 B3.out).mono ?_
  rintro e w4 ⟨rfl, hb4⟩
  have hbw4 : Below w.heap.size w w4 := B3.out.trans (hb4.mono B3.out.size)
  obtain ⟨w5, e1, hz5, g9, W6, e2, e3, hg9, hb6, hq6, -⟩ := freshD hbw4 B HAl.out.2
  have hs4 := hb4.size
  have K76 := Lib.hid ((K7.out.below hb4 K7.out.lt).below hq6 (by have := K7.out.lt; omega))
  have K96 := Lib.hid hg9
  have B6 := Lib.hid hb6
  have He1 := Lib.hid e1
  have He2 := Lib.hid e2
  have He3 := Lib.hid e3
  have Hz := Lib.hid hz5
  clear hb4 hbw4 e1 hz5 e2 e3 hg9 hb6 hq6 hs4 HB K7 B3
  go_upto_region 5 with (rw [He1.out]; refine wpList_store_row rfl 47 (.tmp 15) (.tmp 54) rfl w4.heap.size (digC B) rfl rfl 47 (digC (List.replicate 16 0)) Hz.out Y1.out Y2.out Y3.out ?_)
  rw [He3.out, He2.out]
  clear He1 He2 He3 Hz Z2 Z3 Y2 Y3
  go_wp2_with fail
  refine (HC.out W6 B6.out).mono ?_
  intro e w7 hp
  unfold BindPost at hp
  obtain ⟨hb7, hp⟩ := hp
  have B7 : Hid (Below w.heap.size w w7) := Lib.hid (B6.out.trans (hb7.mono B6.out.size))
  have K77 := Lib.hid (K76.out.below hb7 K76.out.lt)
  have K97 := Lib.hid (K96.out.below hb7 K96.out.lt)
  clear hb7 HC K76 K96
  rcases hp with ⟨ua, ul, uc, va, vl, vc, X, Y, rfl, r1, r2, hne, hdd, hu, hv, hE0, hF0, hsame⟩ | ⟨G, hG, rfl, hcase⟩
  · subst hE0
    subst hF0
    have k1 := r1.convAny
    have k2 := r2.convAny
    have he := str_eq r1.hb r2.hb
    rw [decide_eq_false hne] at he
    have R1 := Lib.hid r1
    have R2 := Lib.hid r2
    have Hdd := Lib.hid hdd
    have Hsame := Lib.hid hsame
    clear r1 r2 hne hdd hsame
    go_wp2_with fail
    refine (digest_any ua ul uc X w7 R1.out (by omega)).mono ?_
    rintro e w8 ⟨rfl, hb8⟩
    have B8 : Hid (Below w.heap.size w w8) := Lib.hid (B7.out.trans (hb8.mono B7.out.size))
    have K78 := Lib.hid (K77.out.below hb8 K77.out.lt)
    have K98 := Lib.hid (K97.out.below hb8 K97.out.lt)
    have R28 := Lib.hid (R2.out.below hb8 (Nat.le_refl _))
    clear hb8 k1 k2 he R1 R2 K77 K97 B7
    rw [Hdd.out]
    have hDl := digestV_len Y
    obtain ⟨DD, hDD⟩ : ∃ d, d = digestV Y := ⟨_, rfl⟩
    rw [← hDD] at hDl ⊢
    have HDD := Lib.hid (And.intro hDD hDl)
    clear hDD hDl Hdd
    go_wp2_with fail
    refine (digest_any va vl vc Y w8 R28.out (by omega)).mono ?_
    rintro e w9 ⟨rfl, hb9⟩
    rw [← HDD.out.1]
    have B9 : Hid (Below w.heap.size w w9) := Lib.hid (B8.out.trans (hb9.mono B8.out.size))
    have K79 := Lib.hid (K78.out.below hb9 K78.out.lt)
    have K99 := Lib.hid (K98.out.below hb9 K98.out.lt)
    have hDE := eqIn_dig w9 DD DD HDD.out.2 HDD.out.2
    rw [beq_self_eq_true] at hDE
    clear hb9 R28 K78 K98 B8
    have k3 := (Hr2.out.below B9.out (Nat.le_refl _)).convAny
    have k4 := (Hr4.out.below B9.out (Nat.le_refl _)).convAny
    have he2 := str_eq Hr2.out.hb Hr4.out.hb
    by_cases hx : xs2 = xs4
    · have HNs := Lib.hid (decide_eq_false (fun h => Hsame.out ⟨hx, h⟩ : ¬ xs3 = xs5))
      rw [decide_eq_true hx] at he2
      clear hx
      go_wp2_with fail
      refine (HS.out w9 B9.out).mono ?_
      rintro e wy ⟨rfl, hby⟩
      rw [HNs.out]
      have By : Hid (Below w.heap.size w wy) := Lib.hid (B9.out.trans (hby.mono B9.out.size))
      have K7y := Lib.hid (K79.out.below hby K79.out.lt)
      have K9y := Lib.hid (K99.out.below hby K99.out.lt)
      clear hby k3 k4 he2
      go_wp2_with fail
      refine (sane_any wy).mono ?_
      rintro e wz ⟨rfl, hbz⟩
      have KA := Lib.hid (K7y.out.below hbz K7y.out.lt)
      have KB := Lib.hid (K9y.out.below hbz K9y.out.lt)
      have Bz : Hid (Below w.heap.size w wz) := Lib.hid (By.out.trans (hbz.mono By.out.size))
      have hAB := eqIn_dig wz A B HAl.out.1 HAl.out.2
      clear hbz
      cases hABv : (A == B)
      all_goals
        rw [hABv] at hAB
        clear hABv
        go_wp2_with (first
        | (refine list_load rfl 47 (.tmp 13) rfl g7 rfl 47 (digC A) (0, 0) _ KA.out Try.underlying47 rfl Z1.out ?_)
        | (refine list_load rfl 47 (.tmp 15) rfl g9 rfl 47 (digC B) (0, 0) _ KB.out Try.underlying47 rfl Y1.out ?_))
        go_ret
        exact ⟨rfl, Bz.out⟩
    · rw [decide_eq_false hx] at he2
      clear hx
      go_wp2_with fail
      refine (sane_any w9).mono ?_
      rintro e wz ⟨rfl, hbz⟩
      have KA := Lib.hid (K79.out.below hbz K79.out.lt)
      have KB := Lib.hid (K99.out.below hbz K99.out.lt)
      have Bz : Hid (Below w.heap.size w wz) := Lib.hid (B9.out.trans (hbz.mono B9.out.size))
      have hAB := eqIn_dig wz A B HAl.out.1 HAl.out.2
      clear hbz
      cases hABv : (A == B)
      all_goals
        rw [hABv] at hAB
        clear hABv
        go_wp2_with (first
        | (refine list_load rfl 47 (.tmp 13) rfl g7 rfl 47 (digC A) (0, 0) _ KA.out Try.underlying47 rfl Z1.out ?_)
        | (refine list_load rfl 47 (.tmp 15) rfl g9 rfl 47 (digC B) (0, 0) _ KB.out Try.underlying47 rfl Y1.out ?_))
        go_ret
        exact ⟨rfl, Bz.out⟩
  · have g0 : (G == 0) = false := by simp [hG]
    have g1 : (G != 0) = true := by simp [hG]
    by_cases hE0 : E = 0
    · by_cases hF0 : F = 0
      · subst hE0
        subst hF0
        rcases hcase rfl rfl with ⟨⟨hx, hy⟩, hG3⟩ | ⟨hns, hAB⟩
        · subst hG3
          have HX := Lib.hid (And.intro hx hy)
          clear hcase hx hy
          have k3 := (Hr2.out.below B7.out (Nat.le_refl _)).convAny
          have k4 := (Hr4.out.below B7.out (Nat.le_refl _)).convAny
          have he2 := str_eq Hr2.out.hb Hr4.out.hb
          rw [decide_eq_true HX.out.1] at he2
          go_wp2_with fail
          refine (HS.out w7 B7.out).mono ?_
          rintro e wy ⟨rfl, hby⟩
          rw [decide_eq_true HX.out.2]
          have By : Hid (Below w.heap.size w wy) := Lib.hid (B7.out.trans (hby.mono B7.out.size))
          have K7y := Lib.hid (K77.out.below hby K77.out.lt)
          have K9y := Lib.hid (K97.out.below hby K97.out.lt)
          clear hby k3 k4 he2
          go_wp2_with fail
          refine (sane_any wy).mono ?_
          rintro e wz ⟨rfl, hbz⟩
          have KA := Lib.hid (K7y.out.below hbz K7y.out.lt)
          have KB := Lib.hid (K9y.out.below hbz K9y.out.lt)
          have Bz : Hid (Below w.heap.size w wz) := Lib.hid (By.out.trans (hbz.mono By.out.size))
          have hAB := eqIn_dig wz A B HAl.out.1 HAl.out.2
          clear hbz
          cases hABv : (A == B)
          all_goals
            rw [hABv] at hAB
            clear hABv
            go_wp2_with (first
            | (refine list_load rfl 47 (.tmp 13) rfl g7 rfl 47 (digC A) (0, 0) _ KA.out Try.underlying47 rfl Z1.out ?_)
            | (refine list_load rfl 47 (.tmp 15) rfl g9 rfl 47 (digC B) (0, 0) _ KB.out Try.underlying47 rfl Y1.out ?_))
            go_ret
            exact ⟨rfl, Bz.out⟩
        · have HNs := Lib.hid hns
          have HNe := Lib.hid hAB
          clear hcase hns hAB
          have k3 := (Hr2.out.below B7.out (Nat.le_refl _)).convAny
          have k4 := (Hr4.out.below B7.out (Nat.le_refl _)).convAny
          have he2 := str_eq Hr2.out.hb Hr4.out.hb
          by_cases hx : xs2 = xs4
          · have HNd := Lib.hid (decide_eq_false (fun h => HNs.out ⟨hx, h⟩ : ¬ xs3 = xs5))
            rw [decide_eq_true hx] at he2
            clear hx
            go_wp2_with fail
            refine (HS.out w7 B7.out).mono ?_
            rintro e wy ⟨rfl, hby⟩
            rw [HNd.out]
            have By : Hid (Below w.heap.size w wy) := Lib.hid (B7.out.trans (hby.mono B7.out.size))
            have K7y := Lib.hid (K77.out.below hby K77.out.lt)
            have K9y := Lib.hid (K97.out.below hby K97.out.lt)
            clear hby k3 k4 he2
            go_wp2_with fail
            refine (sane_any wy).mono ?_
            rintro e wz ⟨rfl, hbz⟩
            have KA := Lib.hid (K7y.out.below hbz K7y.out.lt)
            have KB := Lib.hid (K9y.out.below hbz K9y.out.lt)
            have Bz : Hid (Below w.heap.size w wz) := Lib.hid (By.out.trans (hbz.mono By.out.size))
            have hAB := eqIn_dig wz A B HAl.out.1 HAl.out.2
            clear hbz
            have hABv : (A == B) = false := by simp; exact HNe.out
            rw [hABv] at hAB
            clear hABv
            go_wp2_with (first
              | (refine list_load rfl 47 (.tmp 13) rfl g7 rfl 47 (digC A) (0, 0) _ KA.out Try.underlying47 rfl Z1.out ?_)
              | (refine list_load rfl 47 (.tmp 15) rfl g9 rfl 47 (digC B) (0, 0) _ KB.out Try.underlying47 rfl Y1.out ?_))
            go_ret
            exact ⟨rfl, Bz.out⟩
          · rw [decide_eq_false hx] at he2
            clear hx
            go_wp2_with fail
            refine (sane_any w7).mono ?_
            rintro e wz ⟨rfl, hbz⟩
            have KA := Lib.hid (K77.out.below hbz K77.out.lt)
            have KB := Lib.hid (K97.out.below hbz K97.out.lt)
            have Bz : Hid (Below w.heap.size w wz) := Lib.hid (B7.out.trans (hbz.mono B7.out.size))
            have hAB := eqIn_dig wz A B HAl.out.1 HAl.out.2
            clear hbz
            have hABv : (A == B) = false := by simp; exact HNe.out
            rw [hABv] at hAB
            clear hABv
            go_wp2_with (first
              | (refine list_load rfl 47 (.tmp 13) rfl g7 rfl 47 (digC A) (0, 0) _ KA.out Try.underlying47 rfl Z1.out ?_)
              | (refine list_load rfl 47 (.tmp 15) rfl g9 rfl 47 (digC B) (0, 0) _ KB.out Try.underlying47 rfl Y1.out ?_))
            go_ret
            exact ⟨rfl, Bz.out⟩
      · have f0 : (F == 0) = false := by simp [hF0]
        have f1 : (F != 0) = true := by simp [hF0]
        subst hE0
        clear hcase hF0
        go_wp2_with fail
        refine (sane_any w7).mono ?_
        rintro e wz ⟨rfl, hbz⟩
        go_wp2_with fail
        go_ret
        exact ⟨rfl, B7.out.trans (hbz.mono B7.out.size)⟩
    · have f0 : (E == 0) = false := by simp [hE0]
      have f1 : (E != 0) = true := by simp [hE0]
      clear hcase hE0
      go_wp2_with fail
      refine (sane_any w7).mono ?_
      rintro e wz ⟨rfl, hbz⟩
      go_wp2_with fail
      go_ret
      exact ⟨rfl, B7.out.trans (hbz.mono B7.out.size)⟩
end Go.Proofs.Ytjkkjfigoanplaa.sumsBinding
