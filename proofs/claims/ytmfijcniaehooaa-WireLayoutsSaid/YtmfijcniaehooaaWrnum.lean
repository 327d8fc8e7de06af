/- A Reader gives numbers as the chapter says, and a new one stands at the beginning. -/
import Derived.Test.YtmfijcniaehooaaWrtext
namespace Go.Proofs.Ytmfijcniaehooaa
set_option linter.unusedVariables false
open Go.RowKit

/-- What ToUint (s: ToInt) answers. -/
def numV (s : Bool) (xs : List Int) : Int × Int := if s then toIntV xs else toUintV xs
/-- What a Reader's Uint (s: Int) answers: the number, the error, how far it goes on. -/
def rfixV (xs : List Int) (p : Nat) (width : Int) (s : Bool) : Int × Int × Nat :=
  if width < 1 ∨ 8 < width then (0, 1, 0) else if (xs.length : Int) - p < width then (0, 4, 0)
  else if (numV s ((xs.drop p).take width.toNat)).2 ≠ 0 then (0, (numV s ((xs.drop p).take width.toNat)).2, 0) else ((numV s ((xs.drop p).take width.toNat)).1, 0, width.toNat)

theorem num_u (a : Option Addr) (len cap : Nat) (xs : List Int) (w : World) (h : Rd w a len cap xs) :
    Calls Try.prog 20 #[.slice a len cap] w fun e w' => e = .returned (.tuple #[.int .i64 (numV false xs).1, .int .i64 (numV false xs).2]) ∧ w = w' :=
  (toUint_any a len cap xs w h).mono fun _ _ hh => hh
set_option maxRecDepth 100000 in
set_option maxHeartbeats 400000 in
theorem rfixed_u {w : World} {R p len cap : Nat} {a : Option Addr} {xs : List Int} (h : IsR w R p a len cap xs) (width : Int) (hw1 : -9223372036854775808 ≤ width) (hw2 : width ≤ 9223372036854775807) :
    Calls Try.prog 84 #[.pointer (some ⟨R, 0, none⟩), .int .i64 width, .func (.func 20) #[] #[]] w fun e w' =>
    e = .returned (.tuple #[.int .i64 (rfixV xs p width false).1, .int .i64 (rfixV xs p width false).2.1]) ∧ Moved w w' R (p + (rfixV xs p width false).2.2) a len cap xs := by
  have hl := h.rd.hl
  have H := Lib.hid h
  have hp := h.hp
  clear h
  by_cases hbad : width < 1 ∨ 8 < width
  · have hv : rfixV xs p width false = (0, 1, 0) := by unfold rfixV; rw [if_pos hbad]
    rw [hv]
    clear hv hl
    rcases hbad with hbad | hbad
    all_goals
      go_enter Try.func84, Try.ntmps84
      go_wp2
      go_ret2
      exact ⟨rfl, Moved.of_below H.out (Below.refl _ _)⟩
  · obtain ⟨k, rfl⟩ := Int.eq_ofNat_of_zero_le (show 0 ≤ width by omega)
    have k1 : 1 ≤ k := by omega
    have k8 : k ≤ 8 := by omega
    by_cases hshort : (xs.length : Int) - p < k
    · have hv : rfixV xs p k false = (0, 4, 0) := by unfold rfixV; rw [if_neg hbad, if_pos hshort]
      have hE : aheadE ((xs.length : Int) - p) k = 4 := by unfold aheadE; rw [if_neg (by omega), if_pos hshort]
      rw [hv]
      have HE := Lib.hid hE
      clear hv hE hshort hl hbad
      go_enter Try.func84, Try.ntmps84
      go_wp2_with fail
      refine (ahead_any H.out k (by omega)).mono ?_
      rintro e w1 ⟨a2, l2, c2, rfl, hr, m, rfl⟩
      rw [HE.out]
      have Hm0 := Lib.hid (Moved.of_below H.out (below_drewN w.heap.size w m))
      generalize w.drewN m = w1 at *
      clear hr
      go_wp2
      go_ret2
      exact ⟨rfl, Hm0.out⟩
    · have hE : aheadE ((xs.length : Int) - p) k = 0 := by unfold aheadE; rw [if_neg (by omega), if_neg hshort]
      have hB : aheadB xs p k = (xs.drop p).take k := by unfold aheadB; rw [hE]; simp
      have hs : p + k ≤ len := by omega
      have HE := Lib.hid (And.intro hE hB)
      rcases hN : numV false ((xs.drop p).take k) with ⟨n, er⟩
      have HN := Lib.hid hN
      by_cases her : er = 0
      · subst her
        have hv : rfixV xs p k false = (n, 0, k) := by unfold rfixV; rw [if_neg hbad, if_neg hshort, Int.toNat_natCast, hN]; simp
        rw [hv]
        clear hv hE hB hshort hl hbad hN
        go_enter Try.func84, Try.ntmps84
        go_wp2_with fail
        refine (ahead_any H.out k (by omega)).mono ?_
        rintro e w1 ⟨a2, l2, c2, rfl, hr, m, rfl⟩
        rw [HE.out.1]
        rw [HE.out.2] at hr
        have Hr := Lib.hid (hr.below (below_drewN w.heap.size w m) (Nat.le_refl _))
        have Hm0 := Lib.hid (Moved.of_below H.out (below_drewN w.heap.size w m))
        generalize w.drewN m = w1 at *
        clear hr
        go_wp2_with fail
        refine (num_u _ _ _ _ _ Hr.out).mono ?_
        rintro e w2 ⟨rfl, rfl⟩
        rw [HN.out]
        go_wp2_with fail
        refine (went_any Hm0.out.isR k hs).mono ?_
        rintro e w3 ⟨rfl, hm3⟩
        have Hm3 := Lib.hid (Hm0.out.trans hm3)
        clear hm3
        go_wp2
        go_ret2
        exact ⟨rfl, Hm3.out⟩
      · have hv : rfixV xs p k false = (0, er, 0) := by unfold rfixV; rw [if_neg hbad, if_neg hshort, Int.toNat_natCast, hN]; simp [her]
        have her2 : (er != 0) = true := by simpa using her
        rw [hv]
        clear hv hE hB hshort hl hbad hN her
        go_enter Try.func84, Try.ntmps84
        go_wp2_with fail
        refine (ahead_any H.out k (by omega)).mono ?_
        rintro e w1 ⟨a2, l2, c2, rfl, hr, m, rfl⟩
        rw [HE.out.1]
        rw [HE.out.2] at hr
        have Hr := Lib.hid (hr.below (below_drewN w.heap.size w m) (Nat.le_refl _))
        have Hm0 := Lib.hid (Moved.of_below H.out (below_drewN w.heap.size w m))
        generalize w.drewN m = w1 at *
        clear hr
        go_wp2_with fail
        refine (num_u _ _ _ _ _ Hr.out).mono ?_
        rintro e w2 ⟨rfl, rfl⟩
        rw [HN.out]
        go_wp2
        go_ret2
        exact ⟨rfl, Hm0.out⟩

theorem num_i (a : Option Addr) (len cap : Nat) (xs : List Int) (w : World) (h : Rd w a len cap xs) :
    Calls Try.prog 22 #[.slice a len cap] w fun e w' => e = .returned (.tuple #[.int .i64 (numV true xs).1, .int .i64 (numV true xs).2]) ∧ w = w' :=
  (toInt_any a len cap xs w h).mono fun _ _ hh => hh
set_option maxRecDepth 100000 in
set_option maxHeartbeats 400000 in
theorem rfixed_i {w : World} {R p len cap : Nat} {a : Option Addr} {xs : List Int} (h : IsR w R p a len cap xs) (width : Int) (hw1 : -9223372036854775808 ≤ width) (hw2 : width ≤ 9223372036854775807) :
    Calls Try.prog 84 #[.pointer (some ⟨R, 0, none⟩), .int .i64 width, .func (.func 22) #[] #[]] w fun e w' =>
    e = .returned (.tuple #[.int .i64 (rfixV xs p width true).1, .int .i64 (rfixV xs p width true).2.1]) ∧ Moved w w' R (p + (rfixV xs p width true).2.2) a len cap xs := by
  have hl := h.rd.hl
  have H := Lib.hid h
  have hp := h.hp
  clear h
  by_cases hbad : width < 1 ∨ 8 < width
  · have hv : rfixV xs p width true = (0, 1, 0) := by unfold rfixV; rw [if_pos hbad]
    rw [hv]
    clear hv hl
    rcases hbad with hbad | hbad
    all_goals
      go_enter Try.func84, Try.ntmps84
      go_wp2
      go_ret2
      exact ⟨rfl, Moved.of_below H.out (Below.refl _ _)⟩
  · obtain ⟨k, rfl⟩ := Int.eq_ofNat_of_zero_le (show 0 ≤ width by omega)
    have k1 : 1 ≤ k := by omega
    have k8 : k ≤ 8 := by omega
    by_cases hshort : (xs.length : Int) - p < k
    · have hv : rfixV xs p k true = (0, 4, 0) := by unfold rfixV; rw [if_neg hbad, if_pos hshort]
      have hE : aheadE ((xs.length : Int) - p) k = 4 := by unfold aheadE; rw [if_neg (by omega), if_pos hshort]
      rw [hv]
      have HE := Lib.hid hE
      clear hv hE hshort hl hbad
      go_enter Try.func84, Try.ntmps84
      go_wp2_with fail
      refine (ahead_any H.out k (by omega)).mono ?_
      rintro e w1 ⟨a2, l2, c2, rfl, hr, m, rfl⟩
      rw [HE.out]
      have Hm0 := Lib.hid (Moved.of_below H.out (below_drewN w.heap.size w m))
      generalize w.drewN m = w1 at *
      clear hr
      go_wp2
      go_ret2
      exact ⟨rfl, Hm0.out⟩
    · have hE : aheadE ((xs.length : Int) - p) k = 0 := by unfold aheadE; rw [if_neg (by omega), if_neg hshort]
      have hB : aheadB xs p k = (xs.drop p).take k := by unfold aheadB; rw [hE]; simp
      have hs : p + k ≤ len := by omega
      have HE := Lib.hid (And.intro hE hB)
      rcases hN : numV true ((xs.drop p).take k) with ⟨n, er⟩
      have HN := Lib.hid hN
      by_cases her : er = 0
      · subst her
        have hv : rfixV xs p k true = (n, 0, k) := by unfold rfixV; rw [if_neg hbad, if_neg hshort, Int.toNat_natCast, hN]; simp
        rw [hv]
        clear hv hE hB hshort hl hbad hN
        go_enter Try.func84, Try.ntmps84
        go_wp2_with fail
        refine (ahead_any H.out k (by omega)).mono ?_
        rintro e w1 ⟨a2, l2, c2, rfl, hr, m, rfl⟩
        rw [HE.out.1]
        rw [HE.out.2] at hr
        have Hr := Lib.hid (hr.below (below_drewN w.heap.size w m) (Nat.le_refl _))
        have Hm0 := Lib.hid (Moved.of_below H.out (below_drewN w.heap.size w m))
        generalize w.drewN m = w1 at *
        clear hr
        go_wp2_with fail
        refine (num_i _ _ _ _ _ Hr.out).mono ?_
        rintro e w2 ⟨rfl, rfl⟩
        rw [HN.out]
        go_wp2_with fail
        refine (went_any Hm0.out.isR k hs).mono ?_
        rintro e w3 ⟨rfl, hm3⟩
        have Hm3 := Lib.hid (Hm0.out.trans hm3)
        clear hm3
        go_wp2
        go_ret2
        exact ⟨rfl, Hm3.out⟩
      · have hv : rfixV xs p k true = (0, er, 0) := by unfold rfixV; rw [if_neg hbad, if_neg hshort, Int.toNat_natCast, hN]; simp [her]
        have her2 : (er != 0) = true := by simpa using her
        rw [hv]
        clear hv hE hB hshort hl hbad hN her
        go_enter Try.func84, Try.ntmps84
        go_wp2_with fail
        refine (ahead_any H.out k (by omega)).mono ?_
        rintro e w1 ⟨a2, l2, c2, rfl, hr, m, rfl⟩
        rw [HE.out.1]
        rw [HE.out.2] at hr
        have Hr := Lib.hid (hr.below (below_drewN w.heap.size w m) (Nat.le_refl _))
        have Hm0 := Lib.hid (Moved.of_below H.out (below_drewN w.heap.size w m))
        generalize w.drewN m = w1 at *
        clear hr
        go_wp2_with fail
        refine (num_i _ _ _ _ _ Hr.out).mono ?_
        rintro e w2 ⟨rfl, rfl⟩
        rw [HN.out]
        go_wp2
        go_ret2
        exact ⟨rfl, Hm0.out⟩

set_option maxHeartbeats 400000 in
theorem ruint_any {w : World} {R p len cap : Nat} {a : Option Addr} {xs : List Int} (h : IsR w R p a len cap xs) (width : Int) (hw1 : -9223372036854775808 ≤ width) (hw2 : width ≤ 9223372036854775807) :
    Calls Try.prog 62 #[.pointer (some ⟨R, 0, none⟩), .int .i64 width] w fun e w' =>
    e = .returned (.tuple #[.int .i64 (rfixV xs p width false).1, .int .i64 (rfixV xs p width false).2.1]) ∧ Moved w w' R (p + (rfixV xs p width false).2.2) a len cap xs := by
  have H := Lib.hid h
  clear h
  go_enter Try.func62, Try.ntmps62
  go_wp2_with fail
  refine (rfixed_u H.out width hw1 hw2).mono ?_
  rintro e w1 ⟨rfl, hm⟩
  have Hm := Lib.hid hm
  clear hm
  go_wp2
  go_ret2
  exact ⟨rfl, Hm.out⟩

set_option maxHeartbeats 400000 in
theorem rint_any {w : World} {R p len cap : Nat} {a : Option Addr} {xs : List Int} (h : IsR w R p a len cap xs) (width : Int) (hw1 : -9223372036854775808 ≤ width) (hw2 : width ≤ 9223372036854775807) :
    Calls Try.prog 79 #[.pointer (some ⟨R, 0, none⟩), .int .i64 width] w fun e w' =>
    e = .returned (.tuple #[.int .i64 (rfixV xs p width true).1, .int .i64 (rfixV xs p width true).2.1]) ∧ Moved w w' R (p + (rfixV xs p width true).2.2) a len cap xs := by
  have H := Lib.hid h
  clear h
  go_enter Try.func79, Try.ntmps79
  go_wp2_with fail
  refine (rfixed_i H.out width hw1 hw2).mono ?_
  rintro e w1 ⟨rfl, hm⟩
  have Hm := Lib.hid hm
  clear hm
  go_wp2
  go_ret2
  exact ⟨rfl, Hm.out⟩

theorem Try.zeroR : (Try.prog.info? 137).map (fun i => (i.zero, i.size)) = some (some (.agg #[.int .i64 0, .slice none 0 0]), 2) := by kernel_rfl
set_option maxRecDepth 100000 in
set_option maxHeartbeats 400000 in
theorem newReader_any (a : Option Addr) (len cap : Nat) (xs : List Int) (w : World) (h : Rd w a len cap xs) (hbig : len ≤ 140737488355328) :
    Calls Try.prog 51 #[.slice a len cap] w fun e w' => ∃ R a2 c2, e = .returned (.pointer (some ⟨R, 0, none⟩)) ∧ w.heap.size ≤ R ∧ IsR w' R 0 a2 len c2 xs ∧ Below w.heap.size w w' := by
  have H := Lib.hid h
  have Hl := Lib.hid h.hl
  clear h
  go_enter Try.func51, Try.ntmps51
  go_wp2_with fail
  refine (clone_any _ _ _ _ _ H.out hbig).mono ?_
  rintro e w1 ⟨v, rfl, ho, hb⟩
  obtain ⟨a2, c2, rfl, hr⟩ := ho.rd
  rw [Hl.out] at hr ⊢
  have hsz := hb.size
  have Hr := Lib.hid hr
  have Hb := Lib.hid hb
  clear hr hb ho
  go_wp2
  go_ret
  exact ⟨_, a2, c2, rfl, hsz, ⟨heap_alloc_last _ _, Hr.out.below ((Below.refl _ w1).alloc (Nat.le_refl _) _) (Nat.le_refl _), Nat.zero_le _⟩, Hb.out.alloc hsz _⟩
end Go.Proofs.Ytmfijcniaehooaa
