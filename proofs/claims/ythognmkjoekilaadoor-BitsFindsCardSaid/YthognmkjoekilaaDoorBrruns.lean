/- The reference's Runs. -/
import Derived.Test.YthognmkjoekilaaDoorBrunsp
namespace Go.Proofs.YthognmkjoekilaaDoor
set_option linter.unusedVariables false
open Go.RowKit Go.Shelf

theorem OwnR.addr {w : World} {B n c : Nat} {a : Option Addr} {L : List (Nat × Nat)} (h : OwnR w B (.slice a n c) L) (h0 : 0 < n) : ∃ g, a = some ⟨g, 0, none⟩ ∧ B ≤ g ∧ g < w.heap.size := by
  rcases h.1.2 with ⟨hv, hl⟩ | ⟨g, cap, cur, hv, hg0, hg, -⟩
  · injection hv with h1 h2 h3; omega
  · injection hv with h1 h2 h3
    exact ⟨g, h1, hg0, (Array.getElem?_eq_some_iff.1 hg).1⟩
theorem OwnR.len {w : World} {B n c : Nat} {a : Option Addr} {L : List (Nat × Nat)} (h : OwnR w B (.slice a n c) L) : L.length = n ∧ n ≤ c ∧ c ≤ maxLen := by
  rcases h.1.2 with ⟨hv, hl⟩ | ⟨g, cap, cur, hv, hg0, hg, hnc, hcm, -⟩
  · injection hv with h1 h2 h3
    exact ⟨by omega, by omega, by rw [h3]; exact Nat.zero_le _⟩
  · injection hv with h1 h2 h3
    exact ⟨h2.symm, by omega, by omega⟩
theorem OwnR.belowB {w w' : World} {B B' : Nat} {v : Value} {l : List (Nat × Nat)} (h : OwnR w B v l) (hb : Below B' w w') (hB : w.heap.size ≤ B') : OwnR w' B v l := by
  refine ⟨⟨h.1.1, ?_⟩, h.2⟩
  rcases h.1.2 with hn | ⟨g', cap, cur, rfl, hg0, hgg, rest⟩
  · exact .inl hn
  · exact .inr ⟨g', cap, cur, rfl, hg0, (hb.block g' (Nat.lt_of_lt_of_le (Array.getElem?_eq_some_iff.1 hgg).1 hB)).trans hgg, rest⟩
theorem OwnR.alloc {w : World} {B : Nat} {v : Value} {l : List (Nat × Nat)} (h : OwnR w B v l) (o : Obj) : OwnR (w.alloc o) B v l := ⟨h.1.alloc o, h.2⟩
theorem OwnR.nil (w : World) (B : Nat) : OwnR w B (.slice none 0 0) [] := ⟨World.ownsRow_nil _ _ _ _, by simp⟩
theorem OwnR.frozenAt {w : World} {B g n cap : Nat} {l : List (Nat × Nat)} (h : OwnR w B (.slice (some ⟨g, 0, none⟩) n cap) l) (j : Nat) : w.frozen? ⟨g, j, none⟩ = false := by
  have := h.len.1
  have h1 := h.1
  rw [this] at h1
  exact h1.frozenAt j
section
variable {w : World} {ops : Array Oper} {rest : List Oper} {o : Oper} {a : Act} {Q : Exit → Act → World → Prop}
/-- One range more. -/
theorem wpList_append_range (hgd : o.guard = none) (s x : Operand)
    (ho : o.op = .call { callee := .builtin .append, args := #[s, x], argTypes := #[54, 54] }) (base : Nat)
    (va : Option Addr) (n vc : Nat) (l : List (Nat × Nat)) (hs : a.eval s = .slice va n vc) (hown : OwnR w base (.slice va n vc) l) (g : Nat) (p q : Nat) (pi qi : Int) (hpi : pi = (p : Int)) (hqi : qi = (q : Int)) (hpq : p ≤ 65536 ∧ q ≤ 65536)
    (hx : a.eval x = .slice (some ⟨g, 0, none⟩) 1 1) (hg : Blk w g 60 #[.int .i64 pi, .int .i64 qi])
    (hn : n ≤ 70000) (hbase : base ≤ w.heap.size)
    (h : ∀ a' c' w', OwnR w' base (.slice a' (n + 1) c') (l ++ [(p, q)]) → Below base w w' → wpList Tryd.prog ops Q rest (a.put o.dst (.slice a' (n + 1) c')) w') : wpList Tryd.prog ops Q (o :: rest) a w := by
  obtain ⟨i0, hi, hz0, hz1, hz2⟩ := info_parts Tryd.infoR
  have hvb := hown.1.lt
  have hln := hown.len.1
  have hown1 := hown.1
  rw [hln] at hown1
  subst hpi hqi
  refine wpList_append_own w hgd s x 54 ho base 60 i0 (.agg #[.int .i64 0, .int .i64 0]) 2 16 Tryd.underlying54 hi hz0 hz1 hz2 rfl (by decide) (.slice va n vc) n _ hs hown1 ⟨g, 0, none⟩ 1 1 [.int .i64 (p : Int), .int .i64 (q : Int)] hx (by simp) ?_ ?_ (by unfold maxLen; omega) (by omega) hbase ?_
  · intro j u hu
    have hj : j = 0 ∨ j = 1 := by
      have := (List.getElem?_eq_some_iff.1 hu).1
      simp only [List.length_cons, List.length_nil] at this
      omega
    rcases hj with rfl | rfl
    · have hc := hg.cell 0
      simpa [Addr.add] using hc.trans (by simpa using hu)
    · have hc := hg.cell 1
      simpa [Addr.add] using hc.trans (by simpa using hu)
  · intro u hu
    simp only [List.mem_cons, List.not_mem_nil, or_false] at hu
    rcases hu with rfl | rfl <;> rfl
  · intro v' w' ho' hg' _
    obtain ⟨a', c', rfl⟩ := row_slice ho'
    refine h a' c' w' ⟨?_, fun r hr => ?_⟩ ?_
    · rw [List.length_append, hln]
      have e : rangeCells (l ++ [(p, q)]) = rangeCells l ++ [.int .i64 (p : Int), .int .i64 (q : Int)] := by simp [rangeCells]
      rw [e]
      exact ho'
    · rcases List.mem_append.1 hr with hr | hr
      · exact hown.2 r hr
      · obtain rfl : r = (p, q) := by simpa using hr
        exact hpq
    · exact (Below.refl _ w).grown hg' hbase (fun k e => (hvb k e).1)
end
theorem runsV_at_le (bs : List Int) (k : Nat) (on : Bool) (i : Nat) (hi : i < (runsV bs k on).length) : ((runsV bs k on).getD i (0, 0)).1 + ((runsV bs k on).getD i (0, 0)).2 ≤ k := by
  have e : (runsV bs k on).getD i (0, 0) = (runsV bs k on)[i] := by simp [List.getD, hi]
  rw [e]
  exact (runsV_bd bs k on _ (List.getElem_mem hi)).1
set_option maxRecDepth 100000 in
set_option maxHeartbeats 4000000 in
theorem rruns_any (on : Bool) (M : Nat) (a : Option Addr) (l c : Nat) (bs : List Int) (w : World) (hr : Rd w a l c bs) (hM : M ≤ 65536) (hl : M ≤ 8 * l) :
    Calls Tryd.prog 39 #[.agg #[.int .i64 (M : Int), .slice a l c], .bool on] w fun e w' => ∃ a' n c', e = .returned (.slice a' n c') ∧ OwnR w' w.heap.size (.slice a' n c') (runsV bs M on) ∧ Below w.heap.size w w' := by
  obtain ⟨g, W, e1, e2, hB, hb, -⟩ := boxed (Below.refl _ w) (M : Int) a l c bs hr
  have C := Lib.hid (list_any M a l c bs W hB.rd hM hl)
  have q0 : W.cell? ⟨g, 0, none⟩ = some (.int .i64 (M : Int)) := hB.blk.cell 0
  have q1 : W.cell? ⟨g, 1, none⟩ = some (.slice a l c) := hB.blk.cell 1
  have Hb := Lib.hid hb
  have H2 := Lib.hid e2
  have H1 := Lib.hid e1
  have hsz := hb.size
  clear hr hB hb e1 e2 hl
  go_enter Tryd.func39, Tryd.ntmps39
  go_upto_region 1 with fail
  rw [H2.out, H1.out]
  go_wp2_with fail
  refine C.out.mono ?_
  rintro e w1 ⟨la, lc, rfl, ho, hb1⟩
  have HL := Lib.hid ho.rd.2
  have Hb1 := Lib.hid (Hb.out.trans (hb1.mono hsz))
  have hsw1 : w.heap.size ≤ w1.heap.size := Nat.le_trans hsz hb1.size
  clear ho hb1 C q0 q1 Hb
  go_wp2_with fail
  go_loopw [6, 7] (fun o p wr => ∃ (k n : Nat) (va : Option Addr) (vc : Nat), o = .slice va n vc ∧ p = .int .i64 (k : Int) ∧ k ≤ M ∧ OwnR wr w1.heap.size (.slice va n vc) (runsV bs k on) ∧ Below w1.heap.size w1 wr) (fun _ p _ => M - (intOf p).toNat)
  case atStart => exact ⟨0, 0, none, 0, rfl, rfl, Nat.zero_le _, by rw [runs_zero]; exact OwnR.nil _ _, Below.refl _ _⟩
  case round =>
    obtain ⟨k, n, va, vc, rfl, rfl, hk, hO, hbr⟩ := hrel
    have hRL := HL.out.below hbr (Nat.le_refl _)
    have HO := Lib.hid hO
    have Hbr := Lib.hid hbr
    by_cases hlt : k < M
    · have hki : (k : Int) < (M : Int) := by omega
      obtain ⟨b, off, rfl, hcell⟩ := hRL.hr (by omega)
      have hck := hcell k hlt
      rw [listV_at bs M k hlt] at hck
      have hlcm := HL.out.hm
      have hlc := HL.out.hc
      unfold maxLen at hlcm
      have hmore := runs_more bs k on
      have hnl := hO.len.1
      have hvc := hO.len.2.1
      have hvcm := hO.len.2.2
      unfold maxLen at hvcm
      have hn2 := runsV_len bs k on
      by_cases hB : bitV bs k = on
      · rw [hB] at hck
        rw [decide_eq_true hB] at hmore
        unfold stepR at hmore
        rw [if_pos rfl, hnl] at hmore
        have hsu : w1.heap.size ≤ wr.heap.size := hbr.size
        cases n with
        | zero =>
          rw [if_neg (by omega)] at hmore
          have Hm := Lib.hid hmore
          clear hcell hRL hO hbr hB hmore hnl
          go_upto_region 8 with fail
          clear hck
          refine wp_region_held_drew (S := Below wr.heap.size wr) (by kernel_rfl) ((Below.refl _ wr).drew) (fun _ => ?_)
          have HS : Hid (Below wr.heap.size wr wr.drew) := Lib.hid ((Below.refl _ wr).drew)
          refine wpAnyH_take (i := 0) (v := .int .i64 (-1)) rfl (by kernel_rfl) (by kernel_rfl) (by kernel_rfl) (fun _ _ _ h => h) (Or.inl ⟨by rfl, ?_⟩) HS.out ?_
          · intro u hu; go_simp
          go_simp
          refine wpAnyH_take (i := 1) (v := .bool false) rfl (by kernel_rfl) (by kernel_rfl) (by kernel_rfl) (fun _ _ _ h => h) (Or.inl ⟨by rfl, ?_⟩) HS.out ?_
          · intro u hu; go_simp
          go_simp
          refine wpAnyH_take (i := 2) (v := .bool false) rfl (by kernel_rfl) (by kernel_rfl) (by kernel_rfl) (fun _ _ _ h => h) (Or.inl ⟨by rfl, ?_⟩) HS.out ?_
          · intro u hu; go_simp
          go_simp
          refine wpAnyH_take (i := 3) (v := undef) rfl (by kernel_rfl) (by kernel_rfl) (by kernel_rfl) (fun _ _ _ h => h) (Or.inr ⟨by rfl, rfl⟩) HS.out ?_
          go_simp
          refine wpAnyH_take (i := 4) (v := undef) rfl (by kernel_rfl) (by kernel_rfl) (by kernel_rfl) (fun _ _ _ h => h) (Or.inr ⟨by rfl, rfl⟩) HS.out ?_
          go_simp
          refine wpAnyH_take (i := 5) (v := undef) rfl (by kernel_rfl) (by kernel_rfl) (by kernel_rfl) (fun _ _ _ h => h) (Or.inr ⟨by rfl, rfl⟩) HS.out ?_
          go_simp
          refine wpAnyH_take (i := 6) (v := undef) rfl (by kernel_rfl) (by kernel_rfl) (by kernel_rfl) (fun _ _ _ h => h) (Or.inr ⟨by rfl, rfl⟩) HS.out ?_
          go_simp
          refine wpAnyH_take (i := 7) (v := undef) rfl (by kernel_rfl) (by kernel_rfl) (by kernel_rfl) (fun _ _ _ h => h) (Or.inr ⟨by rfl, rfl⟩) HS.out ?_
          go_simp
          refine wpAnyH_take (i := 8) (v := undef) rfl (by kernel_rfl) (by kernel_rfl) (by kernel_rfl) (fun _ _ _ h => h) (Or.inr ⟨by rfl, rfl⟩) HS.out ?_
          go_simp
          refine wpAnyH_take (i := 9) (v := undef) rfl (by kernel_rfl) (by kernel_rfl) (by kernel_rfl) (fun _ _ _ h => h) (Or.inr ⟨by rfl, rfl⟩) HS.out ?_
          go_simp
          refine wpAnyH_take (i := 10) (v := undef) rfl (by kernel_rfl) (by kernel_rfl) (by kernel_rfl) (fun _ _ _ h => h) (Or.inr ⟨by rfl, rfl⟩) HS.out ?_
          go_simp
          refine wpAnyH_take (i := 11) (v := undef) rfl (by kernel_rfl) (by kernel_rfl) (by kernel_rfl) (fun _ _ _ h => h) (Or.inr ⟨by rfl, rfl⟩) HS.out ?_
          go_simp
          refine wpAnyH_take (i := 12) (v := undef) rfl (by kernel_rfl) (by kernel_rfl) (by kernel_rfl) (fun _ _ _ h => h) (Or.inr ⟨by rfl, rfl⟩) HS.out ?_
          go_simp
          refine wpAnyH_take (i := 13) (v := undef) rfl (by kernel_rfl) (by kernel_rfl) (by kernel_rfl) (fun _ _ _ h => h) (Or.inr ⟨by rfl, rfl⟩) HS.out ?_
          go_simp
          refine wpAnyH_take (i := 14) (v := undef) rfl (by kernel_rfl) (by kernel_rfl) (by kernel_rfl) (fun _ _ _ h => h) (Or.inr ⟨by rfl, rfl⟩) HS.out ?_
          go_simp
          refine wpAnyH_take (i := 15) (v := undef) rfl (by kernel_rfl) (by kernel_rfl) (by kernel_rfl) (fun _ _ _ h => h) (Or.inr ⟨by rfl, rfl⟩) HS.out ?_
          go_simp
          refine wpAnyH_take (i := 16) (v := .bool false) rfl (by kernel_rfl) (by kernel_rfl) (by kernel_rfl) (fun _ _ _ h => h) (Or.inl ⟨by rfl, ?_⟩) HS.out ?_
          · intro u hu; go_simp
          go_simp
          refine wpAnyH_done (by kernel_rfl) ?_ _
          obtain ⟨w9, hw9⟩ : ∃ w9, w9 = wr.drew := ⟨_, rfl⟩
          rw [← hw9]
          have HOd := Lib.hid (HO.out.belowB HS.out (Nat.le_refl _))
          have hbd := HS.out
          rw [← hw9] at HOd hbd
          have hs9 : w1.heap.size ≤ w9.heap.size := Nat.le_trans hsu hbd.size
          clear hw9
          clear HS HO
          go_wp2_with (refine wpList_append_range rfl (.tmp 53) (.tmp 56) rfl w1.heap.size va 0 vc (runsV bs k on) rfl (HOd.out.alloc _) w9.heap.size k 1 (k : Int) 1 rfl rfl ⟨by omega, by omega⟩ rfl (heap_new w9 _) (by omega) (by rw [World.size_alloc]; omega) ?_; intro a3 c3 w3 hO3 hb3)
          have hbU : Below w9.heap.size w9 (w9.alloc (.cells #[.int .i64 (k : Int), .int .i64 1] 60)) := (Below.refl _ w9).alloc (Nat.le_refl _) _
          rw [← Hm.out] at hO3
          have HO3 := Lib.hid hO3
          have Hb3 := Lib.hid (Hbr.out.trans ((hbd.mono hsu).trans ((hbU.mono hs9).trans hb3)))
          clear hO3 hbU hb3 hbd HOd
          go_wp2_with fail
          go_roundw
          case rel => exact ⟨k + 1, _, a3, c3, rfl, by go_num, by omega, HO3.out, Hb3.out⟩
          case measure => simp only [intOf]; omega
        | succ n1 =>
          obtain ⟨ga, rfl, hga0, hga1⟩ := hO.addr (by omega)
          have hle := runsV_at_le bs k on n1 (by omega)
          obtain ⟨c0, c1⟩ := hO.at_ n1 (by omega)
          have hfz := hO.frozenAt (n1 * 2 + 1)
          have hset := fun c hc => hO.stored n1 (by omega) c hc
          rw [show n1 + 1 - 1 = n1 by omega] at hmore
          obtain ⟨r, hr⟩ : ∃ r, r = (runsV bs k on).getD n1 (0, 0) := ⟨_, rfl⟩
          rw [← hr] at hle c0 c1 hmore hset
          obtain ⟨p, q⟩ := r
          simp only at hle c0 c1 hmore hset
          have hn7 : n1 + 1 ≤ 70000 := by omega
          have hp63 : (p : Int) + (q : Int) ≤ 65536 := by omega
          have hwpq : IntKind.i64.wrap ((p : Int) + (q : Int)) = (p : Int) + (q : Int) := IntWalk.i64_in _ (by omega)
          have hn1i : (n1 : Int) < (n1 : Int) + 1 := by omega
          have hgal : ga < wr.heap.size := hga1
          by_cases hend : p + q = k
          · rw [if_pos ⟨by omega, hend⟩] at hmore
            have hst := hset (q + 1) (by omega)
            rw [← hmore] at hst
            have e5 : ((q + 1 : Nat) : Int) = (q : Int) + 1 := by omega
            rw [e5] at hst
            have hendi : (p : Int) + (q : Int) = (k : Int) := by omega
            have Hst := Lib.hid hst
            have H0 := Lib.hid c0
            have H1c := Lib.hid c1
            have Hfz := Lib.hid hfz
            have hendb : ((p : Int) + (q : Int) == (k : Int)) = true := by simpa using hendi
            clear hcell hRL hO hbr hB hmore hnl hset hst c0 c1 hfz hr HO hendi
            go_upto_region 8 with fail
            clear hck
            refine wp_region_held_drew (S := Below wr.heap.size wr) (by kernel_rfl) ((Below.refl _ wr).drew) (fun _ => ?_)
            have HS : Hid (Below wr.heap.size wr wr.drew) := Lib.hid ((Below.refl _ wr).drew)
            refine wpAnyH_take (i := 0) (v := .int .i64 (n1 : Int)) rfl (by kernel_rfl) (by kernel_rfl) (by kernel_rfl) (fun _ _ _ h => h) (Or.inl ⟨by rfl, ?_⟩) HS.out ?_
            · intro u hu; go_simp
            go_simp
            refine wpAnyH_take (i := 1) (v := .bool true) rfl (by kernel_rfl) (by kernel_rfl) (by kernel_rfl) (fun _ _ _ h => h) (Or.inl ⟨by rfl, ?_⟩) HS.out ?_
            · intro u hu; go_simp
            go_simp
            refine wpAnyH_take (i := 2) (v := .bool true) rfl (by kernel_rfl) (by kernel_rfl) (by kernel_rfl) (fun _ _ _ h => h) (Or.inl ⟨by rfl, ?_⟩) HS.out ?_
            · intro u hu; go_simp
            go_simp
            refine wpAnyH_take (i := 3) (v := .slice (some ⟨ga, 0, none⟩) (n1 + 1) vc) rfl (by kernel_rfl) (by kernel_rfl) (by kernel_rfl) (fun _ _ _ h => h) (Or.inl ⟨by rfl, ?_⟩) HS.out ?_
            · intro u hu; go_simp
            go_simp
            refine wpAnyH_take (i := 4) (v := .int .i64 (n1 : Int)) rfl (by kernel_rfl) (by kernel_rfl) (by kernel_rfl) (fun _ _ _ h => h) (Or.inl ⟨by rfl, ?_⟩) HS.out ?_
            · intro u hu; go_simp
            go_simp
            refine wpAnyH_take (i := 5) (v := .pointer (some ⟨ga, n1 * 2, none⟩)) rfl (by kernel_rfl) (by kernel_rfl) (by kernel_rfl) (fun _ _ _ h => h) (Or.inl ⟨by rfl, ?_⟩) HS.out ?_
            · intro u hu; go_simp
            go_simp
            refine wpAnyH_take (i := 6) (v := .pointer (some ⟨ga, n1 * 2, none⟩)) rfl (by kernel_rfl) (by kernel_rfl) (by kernel_rfl) (fun _ _ _ h => h) (Or.inl ⟨by rfl, ?_⟩) HS.out ?_
            · intro u hu; go_simp
            go_simp
            refine wpAnyH_take (i := 7) (v := .int .i64 (p : Int)) rfl (by kernel_rfl) (by kernel_rfl) (by kernel_rfl) (fun _ _ _ h => h) (Or.inl ⟨by rfl, ?_⟩) HS.out ?_
            · intro u hu; have := (hu.cell (p := ⟨ga, n1 * 2, none⟩) hgal).trans H0.out; go_simp
            go_simp
            refine wpAnyH_take (i := 8) (v := .slice (some ⟨ga, 0, none⟩) (n1 + 1) vc) rfl (by kernel_rfl) (by kernel_rfl) (by kernel_rfl) (fun _ _ _ h => h) (Or.inl ⟨by rfl, ?_⟩) HS.out ?_
            · intro u hu; go_simp
            go_simp
            refine wpAnyH_take (i := 9) (v := .int .i64 (n1 : Int)) rfl (by kernel_rfl) (by kernel_rfl) (by kernel_rfl) (fun _ _ _ h => h) (Or.inl ⟨by rfl, ?_⟩) HS.out ?_
            · intro u hu; go_simp
            go_simp
            refine wpAnyH_take (i := 10) (v := .pointer (some ⟨ga, n1 * 2, none⟩)) rfl (by kernel_rfl) (by kernel_rfl) (by kernel_rfl) (fun _ _ _ h => h) (Or.inl ⟨by rfl, ?_⟩) HS.out ?_
            · intro u hu; go_simp
            go_simp
            refine wpAnyH_take (i := 11) (v := .pointer (some ⟨ga, n1 * 2 + 1, none⟩)) rfl (by kernel_rfl) (by kernel_rfl) (by kernel_rfl) (fun _ _ _ h => h) (Or.inl ⟨by rfl, ?_⟩) HS.out ?_
            · intro u hu; go_simp
            go_simp
            refine wpAnyH_take (i := 12) (v := .int .i64 (q : Int)) rfl (by kernel_rfl) (by kernel_rfl) (by kernel_rfl) (fun _ _ _ h => h) (Or.inl ⟨by rfl, ?_⟩) HS.out ?_
            · intro u hu; have := (hu.cell (p := ⟨ga, n1 * 2 + 1, none⟩) hgal).trans H1c.out; go_simp
            go_simp
            refine wpAnyH_take (i := 13) (v := .int .i64 ((p : Int) + (q : Int))) rfl (by kernel_rfl) (by kernel_rfl) (by kernel_rfl) (fun _ _ _ h => h) (Or.inl ⟨by rfl, ?_⟩) HS.out ?_
            · intro u hu; go_simp
            go_simp
            refine wpAnyH_take (i := 14) (v := .int .i64 (k : Int)) rfl (by kernel_rfl) (by kernel_rfl) (by kernel_rfl) (fun _ _ _ h => h) (Or.inl ⟨by rfl, ?_⟩) HS.out ?_
            · intro u hu; go_simp
            go_simp
            refine wpAnyH_take (i := 15) (v := .bool true) rfl (by kernel_rfl) (by kernel_rfl) (by kernel_rfl) (fun _ _ _ h => h) (Or.inl ⟨by rfl, ?_⟩) HS.out ?_
            · intro u hu; go_simp
            go_simp
            refine wpAnyH_take (i := 16) (v := .bool true) rfl (by kernel_rfl) (by kernel_rfl) (by kernel_rfl) (fun _ _ _ h => h) (Or.inl ⟨by rfl, ?_⟩) HS.out ?_
            · intro u hu; go_simp
            go_simp
            refine wpAnyH_done (by kernel_rfl) ?_ _
            have c1 : wr.drew.cell? ⟨ga, n1 * 2 + 1, none⟩ = some (.int .i64 (q : Int)) := H1c.out
            have fz : wr.drew.frozen? ⟨ga, n1 * 2 + 1, none⟩ = false := Hfz.out
            have HOn : Hid (OwnR (wr.drew.setCell ⟨ga, n1 * 2 + 1, none⟩ (.int .i64 ((q : Int) + 1))) w1.heap.size (.slice (some ⟨ga, 0, none⟩) (n1 + 1) vc) (runsV bs (k + 1) on)) := Lib.hid Hst.out
            have Hbn := Lib.hid ((Hbr.out.drew).setCell (p := ⟨ga, n1 * 2 + 1, none⟩) hga0 (.int .i64 ((q : Int) + 1)))
            clear HS Hst H0 H1c Hfz hendb
            go_wp2_with fail
            go_roundw
            case rel => exact ⟨k + 1, n1 + 1, _, vc, rfl, by go_num, by omega, HOn.out, Hbn.out⟩
            case measure => simp only [intOf]; omega
          · rw [if_neg (fun h => hend h.2)] at hmore
            have Hm := Lib.hid hmore
            have H0 := Lib.hid c0
            have H1c := Lib.hid c1
            have hendb : ((p : Int) + (q : Int) == (k : Int)) = false := by simp; omega
            clear hcell hRL hO hbr hB hmore hnl hset c0 c1 hfz hr
            go_upto_region 8 with fail
            clear hck
            refine wp_region_held_drew (S := Below wr.heap.size wr) (by kernel_rfl) ((Below.refl _ wr).drew) (fun _ => ?_)
            have HS : Hid (Below wr.heap.size wr wr.drew) := Lib.hid ((Below.refl _ wr).drew)
            refine wpAnyH_take (i := 0) (v := .int .i64 (n1 : Int)) rfl (by kernel_rfl) (by kernel_rfl) (by kernel_rfl) (fun _ _ _ h => h) (Or.inl ⟨by rfl, ?_⟩) HS.out ?_
            · intro u hu; go_simp
            go_simp
            refine wpAnyH_take (i := 1) (v := .bool true) rfl (by kernel_rfl) (by kernel_rfl) (by kernel_rfl) (fun _ _ _ h => h) (Or.inl ⟨by rfl, ?_⟩) HS.out ?_
            · intro u hu; go_simp
            go_simp
            refine wpAnyH_take (i := 2) (v := .bool true) rfl (by kernel_rfl) (by kernel_rfl) (by kernel_rfl) (fun _ _ _ h => h) (Or.inl ⟨by rfl, ?_⟩) HS.out ?_
            · intro u hu; go_simp
            go_simp
            refine wpAnyH_take (i := 3) (v := .slice (some ⟨ga, 0, none⟩) (n1 + 1) vc) rfl (by kernel_rfl) (by kernel_rfl) (by kernel_rfl) (fun _ _ _ h => h) (Or.inl ⟨by rfl, ?_⟩) HS.out ?_
            · intro u hu; go_simp
            go_simp
            refine wpAnyH_take (i := 4) (v := .int .i64 (n1 : Int)) rfl (by kernel_rfl) (by kernel_rfl) (by kernel_rfl) (fun _ _ _ h => h) (Or.inl ⟨by rfl, ?_⟩) HS.out ?_
            · intro u hu; go_simp
            go_simp
            refine wpAnyH_take (i := 5) (v := .pointer (some ⟨ga, n1 * 2, none⟩)) rfl (by kernel_rfl) (by kernel_rfl) (by kernel_rfl) (fun _ _ _ h => h) (Or.inl ⟨by rfl, ?_⟩) HS.out ?_
            · intro u hu; go_simp
            go_simp
            refine wpAnyH_take (i := 6) (v := .pointer (some ⟨ga, n1 * 2, none⟩)) rfl (by kernel_rfl) (by kernel_rfl) (by kernel_rfl) (fun _ _ _ h => h) (Or.inl ⟨by rfl, ?_⟩) HS.out ?_
            · intro u hu; go_simp
            go_simp
            refine wpAnyH_take (i := 7) (v := .int .i64 (p : Int)) rfl (by kernel_rfl) (by kernel_rfl) (by kernel_rfl) (fun _ _ _ h => h) (Or.inl ⟨by rfl, ?_⟩) HS.out ?_
            · intro u hu; have := (hu.cell (p := ⟨ga, n1 * 2, none⟩) hgal).trans H0.out; go_simp
            go_simp
            refine wpAnyH_take (i := 8) (v := .slice (some ⟨ga, 0, none⟩) (n1 + 1) vc) rfl (by kernel_rfl) (by kernel_rfl) (by kernel_rfl) (fun _ _ _ h => h) (Or.inl ⟨by rfl, ?_⟩) HS.out ?_
            · intro u hu; go_simp
            go_simp
            refine wpAnyH_take (i := 9) (v := .int .i64 (n1 : Int)) rfl (by kernel_rfl) (by kernel_rfl) (by kernel_rfl) (fun _ _ _ h => h) (Or.inl ⟨by rfl, ?_⟩) HS.out ?_
            · intro u hu; go_simp
            go_simp
            refine wpAnyH_take (i := 10) (v := .pointer (some ⟨ga, n1 * 2, none⟩)) rfl (by kernel_rfl) (by kernel_rfl) (by kernel_rfl) (fun _ _ _ h => h) (Or.inl ⟨by rfl, ?_⟩) HS.out ?_
            · intro u hu; go_simp
            go_simp
            refine wpAnyH_take (i := 11) (v := .pointer (some ⟨ga, n1 * 2 + 1, none⟩)) rfl (by kernel_rfl) (by kernel_rfl) (by kernel_rfl) (fun _ _ _ h => h) (Or.inl ⟨by rfl, ?_⟩) HS.out ?_
            · intro u hu; go_simp
            go_simp
            refine wpAnyH_take (i := 12) (v := .int .i64 (q : Int)) rfl (by kernel_rfl) (by kernel_rfl) (by kernel_rfl) (fun _ _ _ h => h) (Or.inl ⟨by rfl, ?_⟩) HS.out ?_
            · intro u hu; have := (hu.cell (p := ⟨ga, n1 * 2 + 1, none⟩) hgal).trans H1c.out; go_simp
            go_simp
            refine wpAnyH_take (i := 13) (v := .int .i64 ((p : Int) + (q : Int))) rfl (by kernel_rfl) (by kernel_rfl) (by kernel_rfl) (fun _ _ _ h => h) (Or.inl ⟨by rfl, ?_⟩) HS.out ?_
            · intro u hu; go_simp
            go_simp
            refine wpAnyH_take (i := 14) (v := .int .i64 (k : Int)) rfl (by kernel_rfl) (by kernel_rfl) (by kernel_rfl) (fun _ _ _ h => h) (Or.inl ⟨by rfl, ?_⟩) HS.out ?_
            · intro u hu; go_simp
            go_simp
            refine wpAnyH_take (i := 15) (v := .bool false) rfl (by kernel_rfl) (by kernel_rfl) (by kernel_rfl) (fun _ _ _ h => h) (Or.inl ⟨by rfl, ?_⟩) HS.out ?_
            · intro u hu; go_simp
            go_simp
            refine wpAnyH_take (i := 16) (v := .bool false) rfl (by kernel_rfl) (by kernel_rfl) (by kernel_rfl) (fun _ _ _ h => h) (Or.inl ⟨by rfl, ?_⟩) HS.out ?_
            · intro u hu; go_simp
            go_simp
            refine wpAnyH_done (by kernel_rfl) ?_ _
            obtain ⟨w9, hw9⟩ : ∃ w9, w9 = wr.drew := ⟨_, rfl⟩
            rw [← hw9]
            have HOd := Lib.hid (HO.out.belowB HS.out (Nat.le_refl _))
            have hbd := HS.out
            rw [← hw9] at HOd hbd
            have hs9 : w1.heap.size ≤ w9.heap.size := Nat.le_trans hsu hbd.size
            clear hw9
            clear HS HO H0 H1c hendb
            obtain ⟨va, hva⟩ : ∃ va : Option Addr, va = some ⟨ga, 0, none⟩ := ⟨_, rfl⟩
            rw [← hva] at HOd ⊢
            clear hva
            go_wp2_with (refine wpList_append_range rfl (.tmp 53) (.tmp 56) rfl w1.heap.size va (n1 + 1) vc (runsV bs k on) rfl (HOd.out.alloc _) w9.heap.size k 1 (k : Int) 1 rfl rfl ⟨by omega, by omega⟩ rfl (heap_new w9 _) (by omega) (by rw [World.size_alloc]; omega) ?_; intro a3 c3 w3 hO3 hb3)
            have hbU : Below w9.heap.size w9 (w9.alloc (.cells #[.int .i64 (k : Int), .int .i64 1] 60)) := (Below.refl _ w9).alloc (Nat.le_refl _) _
            rw [← Hm.out] at hO3
            have HO3 := Lib.hid hO3
            have Hb3 := Lib.hid (Hbr.out.trans ((hbd.mono hsu).trans ((hbU.mono hs9).trans hb3)))
            clear hO3 hbU hb3 hbd HOd
            go_wp2_with fail
            go_roundw
            case rel => exact ⟨k + 1, _, a3, c3, rfl, by go_num, by omega, HO3.out, Hb3.out⟩
            case measure => simp only [intOf]; omega
      · have hB2 : bitV bs k = !on := by cases h : bitV bs k <;> cases on <;> simp_all
        rw [hB2] at hck
        rw [decide_eq_false hB] at hmore
        unfold stepR at hmore
        rw [if_neg (by simp)] at hmore
        have hne : ((!on) != on) = true := by cases on <;> rfl
        have HOn : Hid (OwnR wr w1.heap.size (.slice va n vc) (runsV bs (k + 1) on)) := Lib.hid (by rw [hmore]; exact hO)
        clear hcell hRL hO hbr hB hB2 hmore hnl
        go_wp2_with fail
        go_roundw
        case rel => exact ⟨k + 1, n, va, vc, rfl, by go_num, by omega, HOn.out, Hbr.out⟩
        case measure => simp only [intOf]; omega
    · obtain rfl : M = k := by omega
      clear hRL hO hbr
      go_wp2_with fail
      go_ret
      exact ⟨va, n, vc, rfl, ⟨(HO.out.mono hsw1).1, HO.out.2⟩, Hb1.out.trans (Hbr.out.mono hsw1)⟩
end Go.Proofs.YthognmkjoekilaaDoor
