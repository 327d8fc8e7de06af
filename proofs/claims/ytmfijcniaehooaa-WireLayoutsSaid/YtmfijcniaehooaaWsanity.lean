/- The examples of the chapter hold. -/
import Derived.Test.YtmfijcniaehooaaWsample
import Derived.Lib.SlBytesConst
namespace Go.Proofs.Ytmfijcniaehooaa
set_option linter.unusedVariables false
open Go.RowKit

theorem le_of_some {a R k : Nat} (h : a ≤ R) (hk : some R = some k) : a ≤ k := by
  have : R = k := by simpa using hk
  omega
theorem Own.rdn {w : World} {B : Nat} {v : Value} {xs : List Int} (h : Own w B v xs) {n : Nat} (hn : xs.length = n) : ∃ a cap, v = .slice a n cap ∧ Rd w a n cap xs := by
  subst hn; exact h.rd
set_option maxRecDepth 100000 in
set_option maxHeartbeats 4000000 in
theorem sanity_any (w : World) : Calls Try.prog 15 #[] w fun e w' => e = .returned (.bool true) ∧ Below w.heap.size w w' := by
  go_enter Try.func15, Try.ntmps15
  go_wp2_with fail
  refine (uint_any 258 2 w (by decide) (by decide)).mono ?_
  rintro e w1 ⟨v1, rfl, o1, b1⟩
  rw [ev1]
  rw [ev2] at o1
  obtain ⟨a1, c1, rfl, r1⟩ := o1.rdn (n := 2) rfl
  have Hb1 := Lib.hid b1
  have Hr1 := Lib.hid r1
  clear o1 b1 r1
  go_wp2_with fail
  refine (uint_any 258 1 w1 (by decide) (by decide)).mono ?_
  rintro e w2 ⟨v2, rfl, -, b2⟩
  rw [ev3]
  have Hr2 := Lib.hid (Hr1.out.below b2 (Nat.le_refl _))
  have Hb2 := Lib.hid (Hb1.out.trans (b2.mono Hb1.out.size))
  clear Hb1 Hr1 b2
  go_wp2_with fail
  refine (int_any (-2) 3 w2 (by decide) (by decide)).mono ?_
  rintro e w3 ⟨v3, rfl, o3, b3⟩
  rw [ev4]
  rw [ev5] at o3
  obtain ⟨a3, c3, rfl, r3⟩ := o3.rdn (n := 3) rfl
  have Hr3 := Lib.hid r3
  have Hq3 := Lib.hid (Hr2.out.below b3 (Nat.le_refl _))
  have Hb3 := Lib.hid (Hb2.out.trans (b3.mono Hb2.out.size))
  clear o3 b3 r3 Hr2 Hb2
  go_wp2_with fail
  have m3 : Below w3.heap.size w3 (w3.alloc (.cells #[.int .u8 254, .int .u8 255, .int .u8 255] 5)) := (Below.refl _ w3).alloc (Nat.le_refl _) _
  have Hm3 := Lib.hid m3
  refine (toInt_any _ 3 3 [254, 255, 255] _ (Rd.made w3 [254, 255, 255] #[.int .u8 254, .int .u8 255, .int .u8 255] 5 (0, 0) rfl (by decide) (by decide))).mono ?_
  rintro e w4 ⟨rfl, rfl⟩
  rw [ev6]
  have Hr4 := Lib.hid (Hr3.out.below m3 (Nat.le_refl _))
  have Hq4 := Lib.hid (Hq3.out.below m3 (Nat.le_refl _))
  have Hb4 := Lib.hid (Hb3.out.trans (m3.mono Hb3.out.size))
  obtain ⟨w4, hw4⟩ : ∃ w4, w4 = w3.alloc (.cells #[.int .u8 254, .int .u8 255, .int .u8 255] 5) := ⟨_, rfl⟩
  rw [← hw4] at Hr4 Hq4 Hb4 ⊢
  clear hw4 m3 Hm3 Hr3 Hq3 Hb3
  go_wp2_with fail
  refine (var_any 300 w4 (by decide)).mono ?_
  rintro e w5 ⟨v5, rfl, o5, b5⟩
  rw [ev7]
  rw [ev8] at o5
  obtain ⟨a5, c5, rfl, r5⟩ := o5.rdn (n := 2) rfl
  have Hs5 := Lib.hid r5
  have Hr5 := Lib.hid (Hr4.out.below b5 (Nat.le_refl _))
  have Hq5 := Lib.hid (Hq4.out.below b5 (Nat.le_refl _))
  have Hb5 := Lib.hid (Hb4.out.trans (b5.mono Hb4.out.size))
  clear o5 b5 r5 Hr4 Hq4 Hb4
  go_wp2_with fail
  have m5 : Below w5.heap.size w5 (w5.alloc (.cells #[.int .u8 172, .int .u8 2, .int .u8 9] 5)) := (Below.refl _ w5).alloc (Nat.le_refl _) _
  refine (toVar_any _ 3 3 [172, 2, 9] _ (Rd.made w5 [172, 2, 9] #[.int .u8 172, .int .u8 2, .int .u8 9] 5 (0, 0) rfl (by decide) (by decide))).mono ?_
  rintro e w6 ⟨rfl, rfl⟩
  rw [ev9]
  have k1 := (Hq5.out.below m5 (Nat.le_refl _)).conv (by decide)
  have k3 := (Hr5.out.below m5 (Nat.le_refl _)).conv (by decide)
  have k5 := (Hs5.out.below m5 (Nat.le_refl _)).conv (by decide)
  have Hb6 := Lib.hid (Hb5.out.trans (m5.mono Hb5.out.size))
  obtain ⟨w6, hw6⟩ : ∃ w6, w6 = w5.alloc (.cells #[.int .u8 172, .int .u8 2, .int .u8 9] 5) := ⟨_, rfl⟩
  rw [← hw6] at k1 k3 k5 Hb6 ⊢
  rw [st1] at k1
  rw [st2] at k3
  rw [st3] at k5
  clear hw6 m5 Hr5 Hq5 Hs5 Hb5
  go_wp2_with fail
  refine (width_any 255 true w6 (by decide) (by decide)).mono ?_
  rintro e w7 ⟨rfl, rfl⟩
  rw [ev10]
  go_wp2_with fail
  clear k1 k3 k5
  have hsame := fun (w : World) (C : Array Value) (n c : Nat) => Lib.run_convert_bytes_const (P := Try.prog) w 22 5 C n c Try.underlying22 Try.underlying5
  refine (sample_any w6).mono ?_
  rintro e w7 ⟨a7, rfl, r7, b7⟩
  have Hr7 := Lib.hid r7
  have Hb7 := Lib.hid (Hb6.out.trans (b7.mono Hb6.out.size))
  clear r7 b7 Hb6
  go_wp2_with fail
  clear hsame
  have m7 : Below w7.heap.size w7 ((w7.alloc (.cells #[.int .u8 120, .int .u8 121] 5 (2, 3))).alloc (.cells #[.int .i64 258, .slice none 0 0, .int .i64 0, .slice (some ⟨w7.heap.size, 0, none⟩) 2 2, .int .i64 (-1), .slice none 0 0] 52)) := ((Below.refl _ w7).alloc (Nat.le_refl _) _).alloc (by simp) _
  have hI : RdI ((w7.alloc (.cells #[.int .u8 120, .int .u8 121] 5 (2, 3))).alloc (.cells #[.int .i64 258, .slice none 0 0, .int .i64 0, .slice (some ⟨w7.heap.size, 0, none⟩) 2 2, .int .i64 (-1), .slice none 0 0] 52)) (some ⟨w7.heap.size + 1, 0, none⟩) 3 3 (sampleI (some ⟨w7.heap.size, 0, none⟩)) := by
    have hr := (Rd.made w7 [120, 121] #[.int .u8 120, .int .u8 121] 5 (2, 3) rfl (by decide) (by decide)).below ((Below.refl _ _).alloc (Nat.le_refl _) (.cells #[.int .i64 258, .slice none 0 0, .int .i64 0, .slice (some ⟨w7.heap.size, 0, none⟩) 2 2, .int .i64 (-1), .slice none 0 0] 52)) (Nat.le_refl _)
    have hn : ∀ W, Rd W none 0 0 [] := fun W => ⟨rfl, Nat.le_refl _, Nat.zero_le _, by simp, fun _ => rfl, by simp⟩
    have hc : ∀ j, ((w7.alloc (.cells #[.int .u8 120, .int .u8 121] 5 (2, 3))).alloc (.cells #[.int .i64 258, .slice none 0 0, .int .i64 0, .slice (some ⟨w7.heap.size, 0, none⟩) 2 2, .int .i64 (-1), .slice none 0 0] 52)).cell? ⟨w7.heap.size + 1, j, none⟩ = #[.int .i64 258, .slice none 0 0, .int .i64 0, .slice (some ⟨w7.heap.size, 0, none⟩) 2 2, .int .i64 (-1), .slice none 0 0][j]? := fun j => by
      have := World.cell?_alloc_mark (w7.alloc (.cells #[.int .u8 120, .int .u8 121] 5 (2, 3))) #[.int .i64 258, .slice none 0 0, .int .i64 0, .slice (some ⟨w7.heap.size, 0, none⟩) 2 2, .int .i64 (-1), .slice none 0 0] 52 (0, 0) j
      rw [World.size_alloc] at this
      exact this
    refine ⟨rfl, Nat.le_refl _, by decide, ?_, (by intro e; cases e), fun _ => ⟨w7.heap.size + 1, 0, rfl, ?_⟩⟩
    · intro f hf
      simp only [sampleI, List.mem_cons, List.not_mem_nil, or_false] at hf
      rcases hf with rfl | rfl | rfl
      · exact ⟨by decide, by decide, hn _⟩
      · exact ⟨by show (-9223372036854775808 : Int) ≤ 0; decide, by show (0 : Int) ≤ 9223372036854775807; decide, hr⟩
      · exact ⟨by decide, by decide, hn _⟩
    · intro i hi
      match i, hi with
      | 0, _ => refine ⟨?_, ?_⟩ <;> (rw [hc]; rfl)
      | 1, _ => refine ⟨?_, ?_⟩ <;> (rw [hc]; rfl)
      | 2, _ => refine ⟨?_, ?_⟩ <;> (rw [hc]; rfl)
  refine (packAll_any a7 3 3 sampleF _ (Hr7.out.below m7 (Nat.le_refl _)) (some ⟨w7.heap.size + 1, 0, none⟩) 3 3 (sampleI (some ⟨w7.heap.size, 0, none⟩)) hI).mono ?_
  rintro e w8 ⟨v8, rfl, o8, b8⟩
  rw [ev12]
  rw [ev13] at o8
  obtain ⟨a8, c8, rfl, r8⟩ := o8.rdn (n := 6) rfl
  have Hr8 := Lib.hid r8
  have Hb8 := Lib.hid (Hb7.out.trans ((m7.mono Hb7.out.size).trans (b8.mono (by have := Hb7.out.size; have := m7.size; omega))))
  clear hI o8 r8 m7 b8 Hb7 Hr7
  go_wp2_with fail
  refine (sample_any w8).mono ?_
  rintro e w9 ⟨a9, rfl, r9, b9⟩
  have Hs9 := Lib.hid r9
  have Hr9 := Lib.hid (Hr8.out.below b9 (Nat.le_refl _))
  have Hb9 := Lib.hid (Hb8.out.trans (b9.mono Hb8.out.size))
  clear r9 b9 Hb8 Hr8
  go_wp2_with fail
  refine (where_ok a9 3 3 sampleF w9 Hs9.out a8 6 c8 [2, 1, 2, 120, 121, 255] Hr9.out (by decide) ev11 ev14 1 (by decide)).mono ?_
  rintro e w10 ⟨rfl, b10⟩
  rw [ev15, show (1 + 1 : Nat) = 2 from rfl, ev16]
  have Hr10 := Lib.hid (Hr9.out.below b10 (Nat.le_refl _))
  have Hb10 := Lib.hid (Hb9.out.trans (b10.mono Hb9.out.size))
  clear Hs9 b10 Hb9 Hr9
  go_wp2_with fail
  refine (newReader_any a8 6 c8 [2, 1, 2, 120, 121, 255] w10 Hr10.out (by decide)).mono ?_
  rintro e w11 ⟨R, a11, c11, rfl, hR11, i11, b11⟩
  have Hi11 := Lib.hid i11
  have Hr11 := Lib.hid (Hr10.out.below b11 (Nat.le_refl _))
  have Hb11 := Lib.hid (Hb10.out.trans (b11.mono Hb10.out.size))
  have hRw : w.heap.size ≤ R := Nat.le_trans Hb10.out.size hR11
  clear i11 b11 Hb10 Hr10 hR11
  go_wp2_with fail
  refine (ruint_any Hi11.out 2 (by decide) (by decide)).mono ?_
  rintro e w12 ⟨rfl, m12⟩
  rw [ev17] at m12 ⊢
  have Hi12 := Lib.hid m12.isR
  have Hr12 := Lib.hid (m12.keeps _ _ _ _ Hr11.out)
  have Hb12 := Lib.hid (Hb11.out.grown m12.grown Hb11.out.size (fun k hk => le_of_some hRw hk))
  clear m12 Hb11 Hr11 Hi11
  go_wp2_with fail
  refine (rtext_any Hi12.out).mono ?_
  rintro e w13 ⟨v13, rfl, o13, m13⟩
  rw [show (0 + (258, 0, 2).2.2 : Nat) = 2 from rfl] at o13 m13 ⊢
  rw [ev18] at o13 m13 ⊢
  obtain ⟨a13, c13, rfl, r13⟩ := o13.rdn (n := 2) rfl
  have Hi13 := Lib.hid m13.isR
  have k4 := (m13.keeps _ _ _ _ Hr12.out).conv (by decide)
  have k5 := r13.conv (by decide)
  rw [st4] at k4
  rw [st5] at k5
  have Hb13 := Lib.hid (Hb12.out.grown m13.grown Hb12.out.size (fun k hk => le_of_some hRw hk))
  clear o13 r13 m13 Hb12 Hr12 Hi12
  go_wp2_with fail
  refine (at_any Hi13.out).mono ?_
  rintro e w14 ⟨rfl, rfl⟩
  go_wp2_with fail
  refine (left_any Hi13.out).mono ?_
  rintro e w14 ⟨rfl, n, rfl⟩
  go_wp2_with fail
  go_ret
  exact ⟨by simp, Hb13.out.trans (below_drewN _ _ _)⟩
end Go.Proofs.Ytmfijcniaehooaa
