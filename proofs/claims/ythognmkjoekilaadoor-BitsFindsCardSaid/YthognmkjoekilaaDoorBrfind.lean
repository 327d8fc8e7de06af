/- The reference's Find. -/
import Derived.Test.YthognmkjoekilaaDoorBbest
namespace Go.Proofs.YthognmkjoekilaaDoor
set_option linter.unusedVariables false
open Go.RowKit Go.Shelf

theorem take_more (L : List (Nat × Nat)) (k : Nat) (hk : k < L.length) : L.take (k + 1) = L.take k ++ [L.getD k (0, 0)] := by
  rw [List.take_succ_eq_append_getElem hk]
  simp [List.getD, hk]
theorem refV_first {L : List (Nat × Nat)} {many : Int} {near k : Nat} (hk : k < L.length) (h : ∀ r ∈ L.take k, fitB many near r = false) (hf : fitB many near (L.getD k (0, 0)) = true) : refV L many near 3 = ((max (L.getD k (0, 0)).1 near : Nat) : Int) := by
  unfold refV
  rw [if_pos rfl, find_first (l := L.take k) (by rw [← take_more L k hk]; exact List.take_prefix _ _) h hf]
theorem refV_end {L : List (Nat × Nat)} {many : Int} {near how : Nat} (h : how = 3 → ∀ r ∈ L, fitB many near r = false) : refV L many near how = match selR (decide (how = 2)) many L with | some r => (r.1 : Int) | none => -1 := by
  unfold refV
  by_cases h3 : how = 3
  · rw [if_pos h3, List.find?_eq_none.mpr (fun r hr => by rw [h h3 r hr]; simp)]
    rfl
  · rw [if_neg h3]
    rfl
theorem getD_mem2 {L : List (Nat × Nat)} {k : Nat} (hk : k < L.length) : L.getD k (0, 0) ∈ L := by
  have e : L.getD k (0, 0) = L[k] := by simp [List.getD, hk]
  rw [e]; exact List.getElem_mem _
set_option maxRecDepth 100000 in
set_option maxHeartbeats 8000000 in
theorem rfind1_any (M : Nat) (a : Option Addr) (l c : Nat) (bs : List Int) (many : Int) (near : Nat) (w : World) (hr : Rd w a l c bs) (hv : Vb M bs) (h1 : 1 ≤ many) (h2 : many ≤ 9223372036854775807) (hn : near ≤ M) :
    Calls Tryd.prog 41 #[.agg #[.int .i64 (M : Int), .slice a l c], .int .i64 many, .int .i64 1, .int .i64 (near : Int)] w fun e w' => e = .returned (.int .i64 (refV (runsV bs M false) many near 1)) ∧ Below w.heap.size w w' := by
  have hM := hv.le
  have hlen := hv.len
  have hrl := hr.hl
  obtain ⟨g, W, e1, e2, hB, hb, -⟩ := boxed (Below.refl _ w) (M : Int) a l c bs hr
  have C := Lib.hid (rruns_any false M a l c bs W hB.rd hM (by omega))
  have q0 : W.cell? ⟨g, 0, none⟩ = some (.int .i64 (M : Int)) := hB.blk.cell 0
  have q1 : W.cell? ⟨g, 1, none⟩ = some (.slice a l c) := hB.blk.cell 1
  obtain ⟨L, hL⟩ : ∃ L, L = runsV bs M false := ⟨_, rfl⟩
  have Hbd : Hid (∀ i, i < L.length → (L.getD i (0, 0)).1 + (L.getD i (0, 0)).2 ≤ M) := Lib.hid (fun i hi => by rw [hL] at hi ⊢; exact runsV_at_le bs M false i hi)
  rw [← hL] at C ⊢
  have Hb := Lib.hid hb
  have H2 := Lib.hid e2
  have H1 := Lib.hid e1
  have hsz := hb.size
  clear hr hB hb e1 e2 hL hlen hrl hv
  go_enter Tryd.func41, Tryd.ntmps41
  go_upto_region 1 with fail
  rw [H2.out, H1.out]
  go_wp2_with fail
  refine C.out.mono ?_
  rintro e w1 ⟨a9, n, c9, rfl, hO, hb1⟩
  have hln := hO.len.1
  have hcn := hO.len.2.1
  have hmn := hO.len.2.2
  unfold maxLen at hmn
  have HO := Lib.hid hO
  have Hln := Lib.hid hln
  have Hb1 := Lib.hid (Hb.out.trans (hb1.mono hsz))
  clear hO hb1 C q0 q1 Hb hln
  go_wp2_with fail
  go_loopw [10, 11] (fun o p wr => ∃ (k : Nat) (o' : Value), o = o' ∧ p = .int .i64 (k : Int) ∧ k ≤ n ∧ (1 = 3 → ∀ r ∈ L.take k, fitB many near r = false) ∧ Hid ((o' = .int .i64 (-1) ∧ selR false many (L.take k) = none) ∨ (∃ j, j < k ∧ o' = .int .i64 (j : Int) ∧ selR false many (L.take k) = some (L.getD j (0, 0)))) ∧ Below w1.heap.size w1 wr) (fun _ p _ => n - (intOf p).toNat)
  case atStart => exact ⟨0, _, rfl, rfl, Nat.zero_le _, fun _ r hr => by simp at hr, Lib.hid (.inl ⟨rfl, by simp [selR]⟩), Below.refl _ _⟩
  case round =>
    obtain ⟨k, o', rfl, rfl, hk, hfit, Hs, hbr⟩ := hrel
    have HR := HO.out.belowB hbr (Nat.le_refl _)
    have Hbr := Lib.hid hbr
    have Hfit0 := Lib.hid hfit
    clear hfit
    by_cases hlt : k < n
    · have hki : (k : Int) < (n : Int) := by omega
      obtain ⟨g9, rfl, -, hg9⟩ := HR.addr (by omega)
      obtain ⟨c0, c1⟩ := HR.at_ k (by rw [Hln.out]; exact hlt)
      have hat := fun j hj => HR.at_ j hj
      have hbd := Hbd.out k (by rw [Hln.out]; exact hlt)
      have htk := take_more L k (by rw [Hln.out]; exact hlt)
      obtain ⟨r, hrr⟩ : ∃ r, r = L.getD k (0, 0) := ⟨_, rfl⟩
      have Hrr := Lib.hid hrr
      rw [← hrr] at c0 c1 hbd htk
      obtain ⟨p, q⟩ := r
      simp only at c0 c1 hbd htk
      have C0 := Lib.hid c0
      have C1 := Lib.hid c1
      have Htk := Lib.hid htk
      have Hat := Lib.hid hat
      obtain ⟨mx, hmx⟩ : ∃ m, m = max p near := ⟨_, rfl⟩
      have em : max (p : Int) (near : Int) = (mx : Int) := by omega
      have hmx1 : p ≤ mx := by omega
      have hmx2 : mx ≤ 65536 := by omega
      have Hmx := Lib.hid hmx
      clear hrr htk hat HR hbr hmx
      have hw1 : IntKind.i64.wrap ((p : Int) + (q : Int)) = (p : Int) + (q : Int) := IntWalk.i64_in _ (by omega)
      have hw2 : IntKind.i64.wrap ((p : Int) + (q : Int) - (mx : Int)) = (p : Int) + (q : Int) - (mx : Int) := IntWalk.i64_in _ (by omega)
      by_cases hq : (q : Int) < many
      · -- too short
        have hsel : selR false many (L.take (k + 1)) = selR false many (L.take k) := by
          rw [Htk.out, selR_snoc]
          cases selR false many (L.take k) with
          | none => simp [stepH]; omega
          | some b => first | (simp [stepH]; done) | (simp [stepH]; omega)
        have Hsel := Lib.hid hsel
        have Hfit : Hid (1 = 3 → ∀ r ∈ L.take (k + 1), fitB many near r = false) := Lib.hid (fun h3 r hr => by
          rw [Htk.out] at hr
          rcases List.mem_append.1 hr with hr | hr
          · exact Hfit0.out h3 r hr
          · obtain rfl : r = (p, q) := by simpa using hr
            cases hf : fitB many near (p, q) with
            | false => rfl
            | true => have := fit_long hf; simp only at this; omega)
        clear hsel
        go_wp2_with fail
        go_roundw
        case rel =>
          refine ⟨k + 1, _, rfl, by go_num, by omega, fun h => absurd h (by decide), Lib.hid ?_, Hbr.out⟩
          rcases Hs.out with h | ⟨j, h3, h4, h5⟩
          · exact .inl ⟨h.1, Hsel.out.trans h.2⟩
          · exact .inr ⟨j, by omega, h4, Hsel.out.trans h5⟩
        case measure => simp only [intOf]; omega
      · have hq2 : many ≤ (q : Int) := by omega
        clear hq
        rcases Hs.out with ⟨rfl, hnone⟩ | ⟨j, hj, rfl, hsome⟩
        · have Hsel : Hid (selR false many (L.take (k + 1)) = some (L.getD k (0, 0))) := Lib.hid (by rw [Htk.out, selR_snoc, hnone, ← Hrr.out]; simp [stepH, hq2])
          clear hnone Hs
          go_upto_region 7 with fail
          refine wp_region_held_drew (S := Below wr.heap.size wr) (by kernel_rfl) ((Below.refl _ wr).drew) (fun _ => ?_)
          have HS : Hid (Below wr.heap.size wr wr.drew) := Lib.hid ((Below.refl _ wr).drew)
          clear c0 c1
          refine wpAnyH_take (i := 0) (v := .int .i64 1) rfl (by kernel_rfl) (by kernel_rfl) (by kernel_rfl) (fun _ _ _ h => h) (Or.inl ⟨by rfl, ?_⟩) HS.out ?_
          · intro u hu; go_simp
          go_simp
          refine wpAnyH_take (i := 1) (v := .bool false) rfl (by kernel_rfl) (by kernel_rfl) (by kernel_rfl) (fun _ _ _ h => h) (Or.inl ⟨by rfl, ?_⟩) HS.out ?_
          · intro u hu; go_simp
          go_simp
          refine wpAnyH_take (i := 2) (v := .bool false) rfl (by kernel_rfl) (by kernel_rfl) (by kernel_rfl) (fun _ _ _ h => h) (Or.inl ⟨by rfl, ?_⟩) HS.out ?_
          · intro u hu; go_simp
          go_simp
          refine wpAnyH_take (i := 3) (v := undef) rfl (by kernel_rfl) (by kernel_rfl) (by kernel_rfl) (fun _ _ _ h => h) (Or.inr ⟨by rfl, rfl⟩) HS.out ?_
          go_simp
          refine wpAnyH_take (i := 4) (v := undef) rfl (by kernel_rfl) (by kernel_rfl) (by kernel_rfl) (fun _ _ _ h => h) (Or.inr ⟨by rfl, rfl⟩) HS.out ?_
          go_simp
          refine wpAnyH_take (i := 5) (v := undef) rfl (by kernel_rfl) (by kernel_rfl) (by kernel_rfl) (fun _ _ _ h => h) (Or.inr ⟨by rfl, rfl⟩) HS.out ?_
          go_simp
          refine wpAnyH_take (i := 6) (v := undef) rfl (by kernel_rfl) (by kernel_rfl) (by kernel_rfl) (fun _ _ _ h => h) (Or.inr ⟨by rfl, rfl⟩) HS.out ?_
          go_simp
          refine wpAnyH_take (i := 7) (v := undef) rfl (by kernel_rfl) (by kernel_rfl) (by kernel_rfl) (fun _ _ _ h => h) (Or.inr ⟨by rfl, rfl⟩) HS.out ?_
          go_simp
          refine wpAnyH_take (i := 8) (v := undef) rfl (by kernel_rfl) (by kernel_rfl) (by kernel_rfl) (fun _ _ _ h => h) (Or.inr ⟨by rfl, rfl⟩) HS.out ?_
          go_simp
          refine wpAnyH_take (i := 9) (v := undef) rfl (by kernel_rfl) (by kernel_rfl) (by kernel_rfl) (fun _ _ _ h => h) (Or.inr ⟨by rfl, rfl⟩) HS.out ?_
          go_simp
          refine wpAnyH_take (i := 10) (v := undef) rfl (by kernel_rfl) (by kernel_rfl) (by kernel_rfl) (fun _ _ _ h => h) (Or.inr ⟨by rfl, rfl⟩) HS.out ?_
          go_simp
          refine wpAnyH_take (i := 11) (v := undef) rfl (by kernel_rfl) (by kernel_rfl) (by kernel_rfl) (fun _ _ _ h => h) (Or.inr ⟨by rfl, rfl⟩) HS.out ?_
          go_simp
          refine wpAnyH_take (i := 12) (v := undef) rfl (by kernel_rfl) (by kernel_rfl) (by kernel_rfl) (fun _ _ _ h => h) (Or.inr ⟨by rfl, rfl⟩) HS.out ?_
          go_simp
          refine wpAnyH_take (i := 13) (v := undef) rfl (by kernel_rfl) (by kernel_rfl) (by kernel_rfl) (fun _ _ _ h => h) (Or.inr ⟨by rfl, rfl⟩) HS.out ?_
          go_simp
          refine wpAnyH_take (i := 14) (v := undef) rfl (by kernel_rfl) (by kernel_rfl) (by kernel_rfl) (fun _ _ _ h => h) (Or.inr ⟨by rfl, rfl⟩) HS.out ?_
          go_simp
          refine wpAnyH_take (i := 15) (v := undef) rfl (by kernel_rfl) (by kernel_rfl) (by kernel_rfl) (fun _ _ _ h => h) (Or.inr ⟨by rfl, rfl⟩) HS.out ?_
          go_simp
          refine wpAnyH_take (i := 16) (v := undef) rfl (by kernel_rfl) (by kernel_rfl) (by kernel_rfl) (fun _ _ _ h => h) (Or.inr ⟨by rfl, rfl⟩) HS.out ?_
          go_simp
          refine wpAnyH_take (i := 17) (v := undef) rfl (by kernel_rfl) (by kernel_rfl) (by kernel_rfl) (fun _ _ _ h => h) (Or.inr ⟨by rfl, rfl⟩) HS.out ?_
          go_simp
          refine wpAnyH_take (i := 18) (v := .bool false) rfl (by kernel_rfl) (by kernel_rfl) (by kernel_rfl) (fun _ _ _ h => h) (Or.inl ⟨by rfl, ?_⟩) HS.out ?_
          · intro u hu; go_simp
          go_simp
          refine wpAnyH_take (i := 19) (v := .bool false) rfl (by kernel_rfl) (by kernel_rfl) (by kernel_rfl) (fun _ _ _ h => h) (Or.inl ⟨by rfl, ?_⟩) HS.out ?_
          · intro u hu; go_simp
          go_simp
          refine wpAnyH_take (i := 20) (v := .int .i64 1) rfl (by kernel_rfl) (by kernel_rfl) (by kernel_rfl) (fun _ _ _ h => h) (Or.inl ⟨by rfl, ?_⟩) HS.out ?_
          · intro u hu; go_simp
          go_simp
          refine wpAnyH_take (i := 21) (v := .bool true) rfl (by kernel_rfl) (by kernel_rfl) (by kernel_rfl) (fun _ _ _ h => h) (Or.inl ⟨by rfl, ?_⟩) HS.out ?_
          · intro u hu; go_simp
          go_simp
          refine wpAnyH_take (i := 22) (v := .bool true) rfl (by kernel_rfl) (by kernel_rfl) (by kernel_rfl) (fun _ _ _ h => h) (Or.inl ⟨by rfl, ?_⟩) HS.out ?_
          · intro u hu; go_simp
          go_simp
          refine wpAnyH_take (i := 23) (v := .int .i64 (-1)) rfl (by kernel_rfl) (by kernel_rfl) (by kernel_rfl) (fun _ _ _ h => h) (Or.inl ⟨by rfl, ?_⟩) HS.out ?_
          · intro u hu; go_simp
          go_simp
          refine wpAnyH_take (i := 24) (v := .bool true) rfl (by kernel_rfl) (by kernel_rfl) (by kernel_rfl) (fun _ _ _ h => h) (Or.inl ⟨by rfl, ?_⟩) HS.out ?_
          · intro u hu; go_simp
          go_simp
          refine wpAnyH_take (i := 25) (v := .bool true) rfl (by kernel_rfl) (by kernel_rfl) (by kernel_rfl) (fun _ _ _ h => h) (Or.inl ⟨by rfl, ?_⟩) HS.out ?_
          · intro u hu; go_simp
          go_simp
          refine wpAnyH_take (i := 26) (v := .bool true) rfl (by kernel_rfl) (by kernel_rfl) (by kernel_rfl) (fun _ _ _ h => h) (Or.inl ⟨by rfl, ?_⟩) HS.out ?_
          · intro u hu; go_simp
          go_simp
          refine wpAnyH_done (by kernel_rfl) ?_ _
          obtain ⟨w9, hw9⟩ : ∃ w9, w9 = wr.drew := ⟨_, rfl⟩
          rw [← hw9]
          have hb9 : Below wr.heap.size wr w9 := by rw [hw9]; exact (Below.refl _ wr).drew
          have c0 : w9.cell? ⟨g9, k * 2, none⟩ = some (.int .i64 (p : Int)) := (hb9.cell (p := ⟨g9, k * 2, none⟩) hg9).trans C0.out
          have c1 : w9.cell? ⟨g9, k * 2 + 1, none⟩ = some (.int .i64 (q : Int)) := (hb9.cell (p := ⟨g9, k * 2 + 1, none⟩) hg9).trans C1.out
          have Hb9 := Lib.hid hb9
          clear HS hw9 hb9
          go_upto_region 10 with fail
          refine wp_region_held_drew (S := Below wr.heap.size wr) (by kernel_rfl) (Hb9.out.drew) (fun _ => ?_)
          have HS : Hid (Below wr.heap.size wr w9.drew) := Lib.hid (Hb9.out.drew)
          clear c0 c1
          refine wpAnyH_take (i := 0) (v := .int .i64 1) rfl (by kernel_rfl) (by kernel_rfl) (by kernel_rfl) (fun _ _ _ h => h) (Or.inl ⟨by rfl, ?_⟩) HS.out ?_
          · intro u hu; go_simp
          go_simp
          refine wpAnyH_take (i := 1) (v := .bool false) rfl (by kernel_rfl) (by kernel_rfl) (by kernel_rfl) (fun _ _ _ h => h) (Or.inl ⟨by rfl, ?_⟩) HS.out ?_
          · intro u hu; go_simp
          go_simp
          refine wpAnyH_take (i := 2) (v := .bool false) rfl (by kernel_rfl) (by kernel_rfl) (by kernel_rfl) (fun _ _ _ h => h) (Or.inl ⟨by rfl, ?_⟩) HS.out ?_
          · intro u hu; go_simp
          go_simp
          refine wpAnyH_take (i := 3) (v := undef) rfl (by kernel_rfl) (by kernel_rfl) (by kernel_rfl) (fun _ _ _ h => h) (Or.inr ⟨by rfl, rfl⟩) HS.out ?_
          go_simp
          refine wpAnyH_take (i := 4) (v := undef) rfl (by kernel_rfl) (by kernel_rfl) (by kernel_rfl) (fun _ _ _ h => h) (Or.inr ⟨by rfl, rfl⟩) HS.out ?_
          go_simp
          refine wpAnyH_take (i := 5) (v := undef) rfl (by kernel_rfl) (by kernel_rfl) (by kernel_rfl) (fun _ _ _ h => h) (Or.inr ⟨by rfl, rfl⟩) HS.out ?_
          go_simp
          refine wpAnyH_take (i := 6) (v := undef) rfl (by kernel_rfl) (by kernel_rfl) (by kernel_rfl) (fun _ _ _ h => h) (Or.inr ⟨by rfl, rfl⟩) HS.out ?_
          go_simp
          refine wpAnyH_take (i := 7) (v := undef) rfl (by kernel_rfl) (by kernel_rfl) (by kernel_rfl) (fun _ _ _ h => h) (Or.inr ⟨by rfl, rfl⟩) HS.out ?_
          go_simp
          refine wpAnyH_take (i := 8) (v := undef) rfl (by kernel_rfl) (by kernel_rfl) (by kernel_rfl) (fun _ _ _ h => h) (Or.inr ⟨by rfl, rfl⟩) HS.out ?_
          go_simp
          refine wpAnyH_take (i := 9) (v := undef) rfl (by kernel_rfl) (by kernel_rfl) (by kernel_rfl) (fun _ _ _ h => h) (Or.inr ⟨by rfl, rfl⟩) HS.out ?_
          go_simp
          refine wpAnyH_take (i := 10) (v := undef) rfl (by kernel_rfl) (by kernel_rfl) (by kernel_rfl) (fun _ _ _ h => h) (Or.inr ⟨by rfl, rfl⟩) HS.out ?_
          go_simp
          refine wpAnyH_take (i := 11) (v := undef) rfl (by kernel_rfl) (by kernel_rfl) (by kernel_rfl) (fun _ _ _ h => h) (Or.inr ⟨by rfl, rfl⟩) HS.out ?_
          go_simp
          refine wpAnyH_take (i := 12) (v := undef) rfl (by kernel_rfl) (by kernel_rfl) (by kernel_rfl) (fun _ _ _ h => h) (Or.inr ⟨by rfl, rfl⟩) HS.out ?_
          go_simp
          refine wpAnyH_take (i := 13) (v := undef) rfl (by kernel_rfl) (by kernel_rfl) (by kernel_rfl) (fun _ _ _ h => h) (Or.inr ⟨by rfl, rfl⟩) HS.out ?_
          go_simp
          refine wpAnyH_take (i := 14) (v := undef) rfl (by kernel_rfl) (by kernel_rfl) (by kernel_rfl) (fun _ _ _ h => h) (Or.inr ⟨by rfl, rfl⟩) HS.out ?_
          go_simp
          refine wpAnyH_take (i := 15) (v := undef) rfl (by kernel_rfl) (by kernel_rfl) (by kernel_rfl) (fun _ _ _ h => h) (Or.inr ⟨by rfl, rfl⟩) HS.out ?_
          go_simp
          refine wpAnyH_take (i := 16) (v := undef) rfl (by kernel_rfl) (by kernel_rfl) (by kernel_rfl) (fun _ _ _ h => h) (Or.inr ⟨by rfl, rfl⟩) HS.out ?_
          go_simp
          refine wpAnyH_take (i := 17) (v := undef) rfl (by kernel_rfl) (by kernel_rfl) (by kernel_rfl) (fun _ _ _ h => h) (Or.inr ⟨by rfl, rfl⟩) HS.out ?_
          go_simp
          refine wpAnyH_take (i := 18) (v := .bool false) rfl (by kernel_rfl) (by kernel_rfl) (by kernel_rfl) (fun _ _ _ h => h) (Or.inl ⟨by rfl, ?_⟩) HS.out ?_
          · intro u hu; go_simp
          go_simp
          refine wpAnyH_done (by kernel_rfl) ?_ _
          have Hb := Lib.hid (Hbr.out.trans (HS.out.mono Hbr.out.size))
          clear HS Hb9
          go_wp2_with fail
          go_roundw
          case rel => exact ⟨k + 1, _, rfl, by go_num, by omega, fun h => absurd h (by decide), Lib.hid (.inr ⟨k, by omega, rfl, Hsel.out⟩), Hb.out⟩
          case measure => simp only [intOf]; omega
        · have hjn : (j : Int) < (n : Int) := by omega
          have Hsel : Hid (selR false many (L.take (k + 1)) = some (L.getD j (0, 0))) := Lib.hid (by rw [Htk.out, selR_snoc, hsome]; simp [stepH])
          clear hsome Hs
          go_upto_region 7 with fail
          refine wp_region_held_drew (S := Below wr.heap.size wr) (by kernel_rfl) ((Below.refl _ wr).drew) (fun _ => ?_)
          have HS : Hid (Below wr.heap.size wr wr.drew) := Lib.hid ((Below.refl _ wr).drew)
          clear c0 c1
          refine wpAnyH_take (i := 0) (v := .int .i64 1) rfl (by kernel_rfl) (by kernel_rfl) (by kernel_rfl) (fun _ _ _ h => h) (Or.inl ⟨by rfl, ?_⟩) HS.out ?_
          · intro u hu; go_simp
          go_simp
          refine wpAnyH_take (i := 1) (v := .bool false) rfl (by kernel_rfl) (by kernel_rfl) (by kernel_rfl) (fun _ _ _ h => h) (Or.inl ⟨by rfl, ?_⟩) HS.out ?_
          · intro u hu; go_simp
          go_simp
          refine wpAnyH_take (i := 2) (v := .bool false) rfl (by kernel_rfl) (by kernel_rfl) (by kernel_rfl) (fun _ _ _ h => h) (Or.inl ⟨by rfl, ?_⟩) HS.out ?_
          · intro u hu; go_simp
          go_simp
          refine wpAnyH_take (i := 3) (v := undef) rfl (by kernel_rfl) (by kernel_rfl) (by kernel_rfl) (fun _ _ _ h => h) (Or.inr ⟨by rfl, rfl⟩) HS.out ?_
          go_simp
          refine wpAnyH_take (i := 4) (v := undef) rfl (by kernel_rfl) (by kernel_rfl) (by kernel_rfl) (fun _ _ _ h => h) (Or.inr ⟨by rfl, rfl⟩) HS.out ?_
          go_simp
          refine wpAnyH_take (i := 5) (v := undef) rfl (by kernel_rfl) (by kernel_rfl) (by kernel_rfl) (fun _ _ _ h => h) (Or.inr ⟨by rfl, rfl⟩) HS.out ?_
          go_simp
          refine wpAnyH_take (i := 6) (v := undef) rfl (by kernel_rfl) (by kernel_rfl) (by kernel_rfl) (fun _ _ _ h => h) (Or.inr ⟨by rfl, rfl⟩) HS.out ?_
          go_simp
          refine wpAnyH_take (i := 7) (v := undef) rfl (by kernel_rfl) (by kernel_rfl) (by kernel_rfl) (fun _ _ _ h => h) (Or.inr ⟨by rfl, rfl⟩) HS.out ?_
          go_simp
          refine wpAnyH_take (i := 8) (v := undef) rfl (by kernel_rfl) (by kernel_rfl) (by kernel_rfl) (fun _ _ _ h => h) (Or.inr ⟨by rfl, rfl⟩) HS.out ?_
          go_simp
          refine wpAnyH_take (i := 9) (v := undef) rfl (by kernel_rfl) (by kernel_rfl) (by kernel_rfl) (fun _ _ _ h => h) (Or.inr ⟨by rfl, rfl⟩) HS.out ?_
          go_simp
          refine wpAnyH_take (i := 10) (v := undef) rfl (by kernel_rfl) (by kernel_rfl) (by kernel_rfl) (fun _ _ _ h => h) (Or.inr ⟨by rfl, rfl⟩) HS.out ?_
          go_simp
          refine wpAnyH_take (i := 11) (v := undef) rfl (by kernel_rfl) (by kernel_rfl) (by kernel_rfl) (fun _ _ _ h => h) (Or.inr ⟨by rfl, rfl⟩) HS.out ?_
          go_simp
          refine wpAnyH_take (i := 12) (v := undef) rfl (by kernel_rfl) (by kernel_rfl) (by kernel_rfl) (fun _ _ _ h => h) (Or.inr ⟨by rfl, rfl⟩) HS.out ?_
          go_simp
          refine wpAnyH_take (i := 13) (v := undef) rfl (by kernel_rfl) (by kernel_rfl) (by kernel_rfl) (fun _ _ _ h => h) (Or.inr ⟨by rfl, rfl⟩) HS.out ?_
          go_simp
          refine wpAnyH_take (i := 14) (v := undef) rfl (by kernel_rfl) (by kernel_rfl) (by kernel_rfl) (fun _ _ _ h => h) (Or.inr ⟨by rfl, rfl⟩) HS.out ?_
          go_simp
          refine wpAnyH_take (i := 15) (v := undef) rfl (by kernel_rfl) (by kernel_rfl) (by kernel_rfl) (fun _ _ _ h => h) (Or.inr ⟨by rfl, rfl⟩) HS.out ?_
          go_simp
          refine wpAnyH_take (i := 16) (v := undef) rfl (by kernel_rfl) (by kernel_rfl) (by kernel_rfl) (fun _ _ _ h => h) (Or.inr ⟨by rfl, rfl⟩) HS.out ?_
          go_simp
          refine wpAnyH_take (i := 17) (v := undef) rfl (by kernel_rfl) (by kernel_rfl) (by kernel_rfl) (fun _ _ _ h => h) (Or.inr ⟨by rfl, rfl⟩) HS.out ?_
          go_simp
          refine wpAnyH_take (i := 18) (v := .bool false) rfl (by kernel_rfl) (by kernel_rfl) (by kernel_rfl) (fun _ _ _ h => h) (Or.inl ⟨by rfl, ?_⟩) HS.out ?_
          · intro u hu; go_simp
          go_simp
          refine wpAnyH_take (i := 19) (v := .bool false) rfl (by kernel_rfl) (by kernel_rfl) (by kernel_rfl) (fun _ _ _ h => h) (Or.inl ⟨by rfl, ?_⟩) HS.out ?_
          · intro u hu; go_simp
          go_simp
          refine wpAnyH_take (i := 20) (v := .int .i64 1) rfl (by kernel_rfl) (by kernel_rfl) (by kernel_rfl) (fun _ _ _ h => h) (Or.inl ⟨by rfl, ?_⟩) HS.out ?_
          · intro u hu; go_simp
          go_simp
          refine wpAnyH_take (i := 21) (v := .bool true) rfl (by kernel_rfl) (by kernel_rfl) (by kernel_rfl) (fun _ _ _ h => h) (Or.inl ⟨by rfl, ?_⟩) HS.out ?_
          · intro u hu; go_simp
          go_simp
          refine wpAnyH_take (i := 22) (v := .bool true) rfl (by kernel_rfl) (by kernel_rfl) (by kernel_rfl) (fun _ _ _ h => h) (Or.inl ⟨by rfl, ?_⟩) HS.out ?_
          · intro u hu; go_simp
          go_simp
          refine wpAnyH_take (i := 23) (v := .int .i64 (j : Int)) rfl (by kernel_rfl) (by kernel_rfl) (by kernel_rfl) (fun _ _ _ h => h) (Or.inl ⟨by rfl, ?_⟩) HS.out ?_
          · intro u hu; go_simp
          go_simp
          refine wpAnyH_take (i := 24) (v := .bool false) rfl (by kernel_rfl) (by kernel_rfl) (by kernel_rfl) (fun _ _ _ h => h) (Or.inl ⟨by rfl, ?_⟩) HS.out ?_
          · intro u hu; go_simp
          go_simp
          refine wpAnyH_take (i := 25) (v := .bool false) rfl (by kernel_rfl) (by kernel_rfl) (by kernel_rfl) (fun _ _ _ h => h) (Or.inl ⟨by rfl, ?_⟩) HS.out ?_
          · intro u hu; go_simp
          go_simp
          refine wpAnyH_take (i := 26) (v := .bool false) rfl (by kernel_rfl) (by kernel_rfl) (by kernel_rfl) (fun _ _ _ h => h) (Or.inl ⟨by rfl, ?_⟩) HS.out ?_
          · intro u hu; go_simp
          go_simp
          refine wpAnyH_done (by kernel_rfl) ?_ _
          obtain ⟨w9, hw9⟩ : ∃ w9, w9 = wr.drew := ⟨_, rfl⟩
          rw [← hw9]
          have hb9 : Below wr.heap.size wr w9 := by rw [hw9]; exact (Below.refl _ wr).drew
          have c0 : w9.cell? ⟨g9, k * 2, none⟩ = some (.int .i64 (p : Int)) := (hb9.cell (p := ⟨g9, k * 2, none⟩) hg9).trans C0.out
          have c1 : w9.cell? ⟨g9, k * 2 + 1, none⟩ = some (.int .i64 (q : Int)) := (hb9.cell (p := ⟨g9, k * 2 + 1, none⟩) hg9).trans C1.out
          have Hb9 := Lib.hid hb9
          clear HS hw9 hb9
          go_upto_region 10 with fail
          refine wp_region_held_drew (S := Below wr.heap.size wr) (by kernel_rfl) (Hb9.out.drew) (fun _ => ?_)
          have HS : Hid (Below wr.heap.size wr w9.drew) := Lib.hid (Hb9.out.drew)
          clear c0 c1
          refine wpAnyH_take (i := 0) (v := .int .i64 1) rfl (by kernel_rfl) (by kernel_rfl) (by kernel_rfl) (fun _ _ _ h => h) (Or.inl ⟨by rfl, ?_⟩) HS.out ?_
          · intro u hu; go_simp
          go_simp
          refine wpAnyH_take (i := 1) (v := .bool false) rfl (by kernel_rfl) (by kernel_rfl) (by kernel_rfl) (fun _ _ _ h => h) (Or.inl ⟨by rfl, ?_⟩) HS.out ?_
          · intro u hu; go_simp
          go_simp
          refine wpAnyH_take (i := 2) (v := .bool false) rfl (by kernel_rfl) (by kernel_rfl) (by kernel_rfl) (fun _ _ _ h => h) (Or.inl ⟨by rfl, ?_⟩) HS.out ?_
          · intro u hu; go_simp
          go_simp
          refine wpAnyH_take (i := 3) (v := undef) rfl (by kernel_rfl) (by kernel_rfl) (by kernel_rfl) (fun _ _ _ h => h) (Or.inr ⟨by rfl, rfl⟩) HS.out ?_
          go_simp
          refine wpAnyH_take (i := 4) (v := undef) rfl (by kernel_rfl) (by kernel_rfl) (by kernel_rfl) (fun _ _ _ h => h) (Or.inr ⟨by rfl, rfl⟩) HS.out ?_
          go_simp
          refine wpAnyH_take (i := 5) (v := undef) rfl (by kernel_rfl) (by kernel_rfl) (by kernel_rfl) (fun _ _ _ h => h) (Or.inr ⟨by rfl, rfl⟩) HS.out ?_
          go_simp
          refine wpAnyH_take (i := 6) (v := undef) rfl (by kernel_rfl) (by kernel_rfl) (by kernel_rfl) (fun _ _ _ h => h) (Or.inr ⟨by rfl, rfl⟩) HS.out ?_
          go_simp
          refine wpAnyH_take (i := 7) (v := undef) rfl (by kernel_rfl) (by kernel_rfl) (by kernel_rfl) (fun _ _ _ h => h) (Or.inr ⟨by rfl, rfl⟩) HS.out ?_
          go_simp
          refine wpAnyH_take (i := 8) (v := undef) rfl (by kernel_rfl) (by kernel_rfl) (by kernel_rfl) (fun _ _ _ h => h) (Or.inr ⟨by rfl, rfl⟩) HS.out ?_
          go_simp
          refine wpAnyH_take (i := 9) (v := undef) rfl (by kernel_rfl) (by kernel_rfl) (by kernel_rfl) (fun _ _ _ h => h) (Or.inr ⟨by rfl, rfl⟩) HS.out ?_
          go_simp
          refine wpAnyH_take (i := 10) (v := undef) rfl (by kernel_rfl) (by kernel_rfl) (by kernel_rfl) (fun _ _ _ h => h) (Or.inr ⟨by rfl, rfl⟩) HS.out ?_
          go_simp
          refine wpAnyH_take (i := 11) (v := undef) rfl (by kernel_rfl) (by kernel_rfl) (by kernel_rfl) (fun _ _ _ h => h) (Or.inr ⟨by rfl, rfl⟩) HS.out ?_
          go_simp
          refine wpAnyH_take (i := 12) (v := undef) rfl (by kernel_rfl) (by kernel_rfl) (by kernel_rfl) (fun _ _ _ h => h) (Or.inr ⟨by rfl, rfl⟩) HS.out ?_
          go_simp
          refine wpAnyH_take (i := 13) (v := undef) rfl (by kernel_rfl) (by kernel_rfl) (by kernel_rfl) (fun _ _ _ h => h) (Or.inr ⟨by rfl, rfl⟩) HS.out ?_
          go_simp
          refine wpAnyH_take (i := 14) (v := undef) rfl (by kernel_rfl) (by kernel_rfl) (by kernel_rfl) (fun _ _ _ h => h) (Or.inr ⟨by rfl, rfl⟩) HS.out ?_
          go_simp
          refine wpAnyH_take (i := 15) (v := undef) rfl (by kernel_rfl) (by kernel_rfl) (by kernel_rfl) (fun _ _ _ h => h) (Or.inr ⟨by rfl, rfl⟩) HS.out ?_
          go_simp
          refine wpAnyH_take (i := 16) (v := undef) rfl (by kernel_rfl) (by kernel_rfl) (by kernel_rfl) (fun _ _ _ h => h) (Or.inr ⟨by rfl, rfl⟩) HS.out ?_
          go_simp
          refine wpAnyH_take (i := 17) (v := undef) rfl (by kernel_rfl) (by kernel_rfl) (by kernel_rfl) (fun _ _ _ h => h) (Or.inr ⟨by rfl, rfl⟩) HS.out ?_
          go_simp
          refine wpAnyH_take (i := 18) (v := .bool false) rfl (by kernel_rfl) (by kernel_rfl) (by kernel_rfl) (fun _ _ _ h => h) (Or.inl ⟨by rfl, ?_⟩) HS.out ?_
          · intro u hu; go_simp
          go_simp
          refine wpAnyH_done (by kernel_rfl) ?_ _
          have Hb := Lib.hid (Hbr.out.trans (HS.out.mono Hbr.out.size))
          clear HS Hb9
          go_wp2_with fail
          go_roundw
          case rel => exact ⟨k + 1, _, rfl, by go_num, by omega, fun h => absurd h (by decide), Lib.hid (.inr ⟨j, by omega, rfl, Hsel.out⟩), Hb.out⟩
          case measure => simp only [intOf]; omega
    · obtain rfl : n = k := by omega
      have hfull : L.take n = L := List.take_of_length_le (by rw [Hln.out]; exact Nat.le_refl _)
      have hend := refV_end (L := L) (many := many) (near := near) (how := 1) (fun h3 r hr => Hfit0.out h3 r (by rw [hfull]; exact hr))
      rw [show decide (1 = 2) = false from by decide] at hend
      have hs := Hs.out
      rw [hfull] at hs
      rcases hs with ⟨rfl, hnone⟩ | ⟨j, hj, rfl, hsome⟩
      · rw [hnone] at hend
        have He := Lib.hid hend
        clear hend hnone hfull HR hbr Hs
        go_wp2_with fail
        go_ret
        exact ⟨by rw [He.out]; rfl, Hb1.out.trans (Hbr.out.mono Hb1.out.size)⟩
      · rw [hsome] at hend
        simp only at hend
        have hjn : (j : Int) < (n : Int) := by omega
        obtain ⟨g9, rfl, -, hg9⟩ := HR.addr (by omega)
        obtain ⟨cj, -⟩ := HR.at_ j (by rw [Hln.out]; exact hj)
        obtain ⟨pj, hpj⟩ : ∃ x, x = (L.getD j (0, 0)).1 := ⟨_, rfl⟩
        rw [← hpj] at cj hend
        have He := Lib.hid hend
        clear hend hsome hfull HR hbr Hs hpj
        go_wp2_with fail
        go_ret
        exact ⟨by rw [He.out]; rfl, Hb1.out.trans (Hbr.out.mono Hb1.out.size)⟩
set_option maxRecDepth 100000 in
set_option maxHeartbeats 8000000 in
theorem rfind2_any (M : Nat) (a : Option Addr) (l c : Nat) (bs : List Int) (many : Int) (near : Nat) (w : World) (hr : Rd w a l c bs) (hv : Vb M bs) (h1 : 1 ≤ many) (h2 : many ≤ 9223372036854775807) (hn : near ≤ M) :
    Calls Tryd.prog 41 #[.agg #[.int .i64 (M : Int), .slice a l c], .int .i64 many, .int .i64 2, .int .i64 (near : Int)] w fun e w' => e = .returned (.int .i64 (refV (runsV bs M false) many near 2)) ∧ Below w.heap.size w w' := by
  have hM := hv.le
  have hlen := hv.len
  have hrl := hr.hl
  obtain ⟨g, W, e1, e2, hB, hb, -⟩ := boxed (Below.refl _ w) (M : Int) a l c bs hr
  have C := Lib.hid (rruns_any false M a l c bs W hB.rd hM (by omega))
  have q0 : W.cell? ⟨g, 0, none⟩ = some (.int .i64 (M : Int)) := hB.blk.cell 0
  have q1 : W.cell? ⟨g, 1, none⟩ = some (.slice a l c) := hB.blk.cell 1
  obtain ⟨L, hL⟩ : ∃ L, L = runsV bs M false := ⟨_, rfl⟩
  have Hbd : Hid (∀ i, i < L.length → (L.getD i (0, 0)).1 + (L.getD i (0, 0)).2 ≤ M) := Lib.hid (fun i hi => by rw [hL] at hi ⊢; exact runsV_at_le bs M false i hi)
  rw [← hL] at C ⊢
  have Hb := Lib.hid hb
  have H2 := Lib.hid e2
  have H1 := Lib.hid e1
  have hsz := hb.size
  clear hr hB hb e1 e2 hL hlen hrl hv
  go_enter Tryd.func41, Tryd.ntmps41
  go_upto_region 1 with fail
  rw [H2.out, H1.out]
  go_wp2_with fail
  refine C.out.mono ?_
  rintro e w1 ⟨a9, n, c9, rfl, hO, hb1⟩
  have hln := hO.len.1
  have hcn := hO.len.2.1
  have hmn := hO.len.2.2
  unfold maxLen at hmn
  have HO := Lib.hid hO
  have Hln := Lib.hid hln
  have Hb1 := Lib.hid (Hb.out.trans (hb1.mono hsz))
  clear hO hb1 C q0 q1 Hb hln
  go_wp2_with fail
  go_loopw [10, 11] (fun o p wr => ∃ (k : Nat) (o' : Value), o = o' ∧ p = .int .i64 (k : Int) ∧ k ≤ n ∧ (2 = 3 → ∀ r ∈ L.take k, fitB many near r = false) ∧ Hid ((o' = .int .i64 (-1) ∧ selR true many (L.take k) = none) ∨ (∃ j, j < k ∧ o' = .int .i64 (j : Int) ∧ selR true many (L.take k) = some (L.getD j (0, 0)))) ∧ Below w1.heap.size w1 wr) (fun _ p _ => n - (intOf p).toNat)
  case atStart => exact ⟨0, _, rfl, rfl, Nat.zero_le _, fun _ r hr => by simp at hr, Lib.hid (.inl ⟨rfl, by simp [selR]⟩), Below.refl _ _⟩
  case round =>
    obtain ⟨k, o', rfl, rfl, hk, hfit, Hs, hbr⟩ := hrel
    have HR := HO.out.belowB hbr (Nat.le_refl _)
    have Hbr := Lib.hid hbr
    have Hfit0 := Lib.hid hfit
    clear hfit
    by_cases hlt : k < n
    · have hki : (k : Int) < (n : Int) := by omega
      obtain ⟨g9, rfl, -, hg9⟩ := HR.addr (by omega)
      obtain ⟨c0, c1⟩ := HR.at_ k (by rw [Hln.out]; exact hlt)
      have hat := fun j hj => HR.at_ j hj
      have hbd := Hbd.out k (by rw [Hln.out]; exact hlt)
      have htk := take_more L k (by rw [Hln.out]; exact hlt)
      obtain ⟨r, hrr⟩ : ∃ r, r = L.getD k (0, 0) := ⟨_, rfl⟩
      have Hrr := Lib.hid hrr
      rw [← hrr] at c0 c1 hbd htk
      obtain ⟨p, q⟩ := r
      simp only at c0 c1 hbd htk
      have C0 := Lib.hid c0
      have C1 := Lib.hid c1
      have Htk := Lib.hid htk
      have Hat := Lib.hid hat
      obtain ⟨mx, hmx⟩ : ∃ m, m = max p near := ⟨_, rfl⟩
      have em : max (p : Int) (near : Int) = (mx : Int) := by omega
      have hmx1 : p ≤ mx := by omega
      have hmx2 : mx ≤ 65536 := by omega
      have Hmx := Lib.hid hmx
      clear hrr htk hat HR hbr hmx
      have hw1 : IntKind.i64.wrap ((p : Int) + (q : Int)) = (p : Int) + (q : Int) := IntWalk.i64_in _ (by omega)
      have hw2 : IntKind.i64.wrap ((p : Int) + (q : Int) - (mx : Int)) = (p : Int) + (q : Int) - (mx : Int) := IntWalk.i64_in _ (by omega)
      by_cases hq : (q : Int) < many
      · -- too short
        have hsel : selR true many (L.take (k + 1)) = selR true many (L.take k) := by
          rw [Htk.out, selR_snoc]
          cases selR true many (L.take k) with
          | none => simp [stepH]; omega
          | some b => first | (simp [stepH]; done) | (simp [stepH]; omega)
        have Hsel := Lib.hid hsel
        have Hfit : Hid (2 = 3 → ∀ r ∈ L.take (k + 1), fitB many near r = false) := Lib.hid (fun h3 r hr => by
          rw [Htk.out] at hr
          rcases List.mem_append.1 hr with hr | hr
          · exact Hfit0.out h3 r hr
          · obtain rfl : r = (p, q) := by simpa using hr
            cases hf : fitB many near (p, q) with
            | false => rfl
            | true => have := fit_long hf; simp only at this; omega)
        clear hsel
        go_wp2_with fail
        go_roundw
        case rel =>
          refine ⟨k + 1, _, rfl, by go_num, by omega, fun h => absurd h (by decide), Lib.hid ?_, Hbr.out⟩
          rcases Hs.out with h | ⟨j, h3, h4, h5⟩
          · exact .inl ⟨h.1, Hsel.out.trans h.2⟩
          · exact .inr ⟨j, by omega, h4, Hsel.out.trans h5⟩
        case measure => simp only [intOf]; omega
      · have hq2 : many ≤ (q : Int) := by omega
        clear hq
        rcases Hs.out with ⟨rfl, hnone⟩ | ⟨j, hj, rfl, hsome⟩
        · have Hsel : Hid (selR true many (L.take (k + 1)) = some (L.getD k (0, 0))) := Lib.hid (by rw [Htk.out, selR_snoc, hnone, ← Hrr.out]; simp [stepH, hq2])
          clear hnone Hs
          go_upto_region 7 with fail
          refine wp_region_held_drew (S := Below wr.heap.size wr) (by kernel_rfl) ((Below.refl _ wr).drew) (fun _ => ?_)
          have HS : Hid (Below wr.heap.size wr wr.drew) := Lib.hid ((Below.refl _ wr).drew)
          clear c0 c1
          refine wpAnyH_take (i := 0) (v := .int .i64 2) rfl (by kernel_rfl) (by kernel_rfl) (by kernel_rfl) (fun _ _ _ h => h) (Or.inl ⟨by rfl, ?_⟩) HS.out ?_
          · intro u hu; go_simp
          go_simp
          refine wpAnyH_take (i := 1) (v := .bool true) rfl (by kernel_rfl) (by kernel_rfl) (by kernel_rfl) (fun _ _ _ h => h) (Or.inl ⟨by rfl, ?_⟩) HS.out ?_
          · intro u hu; go_simp
          go_simp
          refine wpAnyH_take (i := 2) (v := .bool true) rfl (by kernel_rfl) (by kernel_rfl) (by kernel_rfl) (fun _ _ _ h => h) (Or.inl ⟨by rfl, ?_⟩) HS.out ?_
          · intro u hu; go_simp
          go_simp
          refine wpAnyH_take (i := 3) (v := .int .i64 (-1)) rfl (by kernel_rfl) (by kernel_rfl) (by kernel_rfl) (fun _ _ _ h => h) (Or.inl ⟨by rfl, ?_⟩) HS.out ?_
          · intro u hu; go_simp
          go_simp
          refine wpAnyH_take (i := 4) (v := .bool true) rfl (by kernel_rfl) (by kernel_rfl) (by kernel_rfl) (fun _ _ _ h => h) (Or.inl ⟨by rfl, ?_⟩) HS.out ?_
          · intro u hu; go_simp
          go_simp
          refine wpAnyH_take (i := 5) (v := .bool true) rfl (by kernel_rfl) (by kernel_rfl) (by kernel_rfl) (fun _ _ _ h => h) (Or.inl ⟨by rfl, ?_⟩) HS.out ?_
          · intro u hu; go_simp
          go_simp
          refine wpAnyH_take (i := 6) (v := undef) rfl (by kernel_rfl) (by kernel_rfl) (by kernel_rfl) (fun _ _ _ h => h) (Or.inr ⟨by rfl, rfl⟩) HS.out ?_
          go_simp
          refine wpAnyH_take (i := 7) (v := undef) rfl (by kernel_rfl) (by kernel_rfl) (by kernel_rfl) (fun _ _ _ h => h) (Or.inr ⟨by rfl, rfl⟩) HS.out ?_
          go_simp
          refine wpAnyH_take (i := 8) (v := undef) rfl (by kernel_rfl) (by kernel_rfl) (by kernel_rfl) (fun _ _ _ h => h) (Or.inr ⟨by rfl, rfl⟩) HS.out ?_
          go_simp
          refine wpAnyH_take (i := 9) (v := undef) rfl (by kernel_rfl) (by kernel_rfl) (by kernel_rfl) (fun _ _ _ h => h) (Or.inr ⟨by rfl, rfl⟩) HS.out ?_
          go_simp
          refine wpAnyH_take (i := 10) (v := undef) rfl (by kernel_rfl) (by kernel_rfl) (by kernel_rfl) (fun _ _ _ h => h) (Or.inr ⟨by rfl, rfl⟩) HS.out ?_
          go_simp
          refine wpAnyH_take (i := 11) (v := undef) rfl (by kernel_rfl) (by kernel_rfl) (by kernel_rfl) (fun _ _ _ h => h) (Or.inr ⟨by rfl, rfl⟩) HS.out ?_
          go_simp
          refine wpAnyH_take (i := 12) (v := undef) rfl (by kernel_rfl) (by kernel_rfl) (by kernel_rfl) (fun _ _ _ h => h) (Or.inr ⟨by rfl, rfl⟩) HS.out ?_
          go_simp
          refine wpAnyH_take (i := 13) (v := undef) rfl (by kernel_rfl) (by kernel_rfl) (by kernel_rfl) (fun _ _ _ h => h) (Or.inr ⟨by rfl, rfl⟩) HS.out ?_
          go_simp
          refine wpAnyH_take (i := 14) (v := undef) rfl (by kernel_rfl) (by kernel_rfl) (by kernel_rfl) (fun _ _ _ h => h) (Or.inr ⟨by rfl, rfl⟩) HS.out ?_
          go_simp
          refine wpAnyH_take (i := 15) (v := undef) rfl (by kernel_rfl) (by kernel_rfl) (by kernel_rfl) (fun _ _ _ h => h) (Or.inr ⟨by rfl, rfl⟩) HS.out ?_
          go_simp
          refine wpAnyH_take (i := 16) (v := undef) rfl (by kernel_rfl) (by kernel_rfl) (by kernel_rfl) (fun _ _ _ h => h) (Or.inr ⟨by rfl, rfl⟩) HS.out ?_
          go_simp
          refine wpAnyH_take (i := 17) (v := .bool true) rfl (by kernel_rfl) (by kernel_rfl) (by kernel_rfl) (fun _ _ _ h => h) (Or.inl ⟨by rfl, ?_⟩) HS.out ?_
          · intro u hu; go_simp
          go_simp
          refine wpAnyH_take (i := 18) (v := .bool true) rfl (by kernel_rfl) (by kernel_rfl) (by kernel_rfl) (fun _ _ _ h => h) (Or.inl ⟨by rfl, ?_⟩) HS.out ?_
          · intro u hu; go_simp
          go_simp
          refine wpAnyH_take (i := 19) (v := .bool true) rfl (by kernel_rfl) (by kernel_rfl) (by kernel_rfl) (fun _ _ _ h => h) (Or.inl ⟨by rfl, ?_⟩) HS.out ?_
          · intro u hu; go_simp
          go_simp
          refine wpAnyH_take (i := 20) (v := undef) rfl (by kernel_rfl) (by kernel_rfl) (by kernel_rfl) (fun _ _ _ h => h) (Or.inr ⟨by rfl, rfl⟩) HS.out ?_
          go_simp
          refine wpAnyH_take (i := 21) (v := undef) rfl (by kernel_rfl) (by kernel_rfl) (by kernel_rfl) (fun _ _ _ h => h) (Or.inr ⟨by rfl, rfl⟩) HS.out ?_
          go_simp
          refine wpAnyH_take (i := 22) (v := undef) rfl (by kernel_rfl) (by kernel_rfl) (by kernel_rfl) (fun _ _ _ h => h) (Or.inr ⟨by rfl, rfl⟩) HS.out ?_
          go_simp
          refine wpAnyH_take (i := 23) (v := undef) rfl (by kernel_rfl) (by kernel_rfl) (by kernel_rfl) (fun _ _ _ h => h) (Or.inr ⟨by rfl, rfl⟩) HS.out ?_
          go_simp
          refine wpAnyH_take (i := 24) (v := undef) rfl (by kernel_rfl) (by kernel_rfl) (by kernel_rfl) (fun _ _ _ h => h) (Or.inr ⟨by rfl, rfl⟩) HS.out ?_
          go_simp
          refine wpAnyH_take (i := 25) (v := undef) rfl (by kernel_rfl) (by kernel_rfl) (by kernel_rfl) (fun _ _ _ h => h) (Or.inr ⟨by rfl, rfl⟩) HS.out ?_
          go_simp
          refine wpAnyH_take (i := 26) (v := .bool true) rfl (by kernel_rfl) (by kernel_rfl) (by kernel_rfl) (fun _ _ _ h => h) (Or.inl ⟨by rfl, ?_⟩) HS.out ?_
          · intro u hu; go_simp
          go_simp
          refine wpAnyH_done (by kernel_rfl) ?_ _
          obtain ⟨w9, hw9⟩ : ∃ w9, w9 = wr.drew := ⟨_, rfl⟩
          rw [← hw9]
          have hb9 : Below wr.heap.size wr w9 := by rw [hw9]; exact (Below.refl _ wr).drew
          have c0 : w9.cell? ⟨g9, k * 2, none⟩ = some (.int .i64 (p : Int)) := (hb9.cell (p := ⟨g9, k * 2, none⟩) hg9).trans C0.out
          have c1 : w9.cell? ⟨g9, k * 2 + 1, none⟩ = some (.int .i64 (q : Int)) := (hb9.cell (p := ⟨g9, k * 2 + 1, none⟩) hg9).trans C1.out
          have Hb9 := Lib.hid hb9
          clear HS hw9 hb9
          go_upto_region 10 with fail
          refine wp_region_held_drew (S := Below wr.heap.size wr) (by kernel_rfl) (Hb9.out.drew) (fun _ => ?_)
          have HS : Hid (Below wr.heap.size wr w9.drew) := Lib.hid (Hb9.out.drew)
          clear c0 c1
          refine wpAnyH_take (i := 0) (v := .int .i64 2) rfl (by kernel_rfl) (by kernel_rfl) (by kernel_rfl) (fun _ _ _ h => h) (Or.inl ⟨by rfl, ?_⟩) HS.out ?_
          · intro u hu; go_simp
          go_simp
          refine wpAnyH_take (i := 1) (v := .bool false) rfl (by kernel_rfl) (by kernel_rfl) (by kernel_rfl) (fun _ _ _ h => h) (Or.inl ⟨by rfl, ?_⟩) HS.out ?_
          · intro u hu; go_simp
          go_simp
          refine wpAnyH_take (i := 2) (v := .bool false) rfl (by kernel_rfl) (by kernel_rfl) (by kernel_rfl) (fun _ _ _ h => h) (Or.inl ⟨by rfl, ?_⟩) HS.out ?_
          · intro u hu; go_simp
          go_simp
          refine wpAnyH_take (i := 3) (v := undef) rfl (by kernel_rfl) (by kernel_rfl) (by kernel_rfl) (fun _ _ _ h => h) (Or.inr ⟨by rfl, rfl⟩) HS.out ?_
          go_simp
          refine wpAnyH_take (i := 4) (v := undef) rfl (by kernel_rfl) (by kernel_rfl) (by kernel_rfl) (fun _ _ _ h => h) (Or.inr ⟨by rfl, rfl⟩) HS.out ?_
          go_simp
          refine wpAnyH_take (i := 5) (v := undef) rfl (by kernel_rfl) (by kernel_rfl) (by kernel_rfl) (fun _ _ _ h => h) (Or.inr ⟨by rfl, rfl⟩) HS.out ?_
          go_simp
          refine wpAnyH_take (i := 6) (v := undef) rfl (by kernel_rfl) (by kernel_rfl) (by kernel_rfl) (fun _ _ _ h => h) (Or.inr ⟨by rfl, rfl⟩) HS.out ?_
          go_simp
          refine wpAnyH_take (i := 7) (v := undef) rfl (by kernel_rfl) (by kernel_rfl) (by kernel_rfl) (fun _ _ _ h => h) (Or.inr ⟨by rfl, rfl⟩) HS.out ?_
          go_simp
          refine wpAnyH_take (i := 8) (v := undef) rfl (by kernel_rfl) (by kernel_rfl) (by kernel_rfl) (fun _ _ _ h => h) (Or.inr ⟨by rfl, rfl⟩) HS.out ?_
          go_simp
          refine wpAnyH_take (i := 9) (v := undef) rfl (by kernel_rfl) (by kernel_rfl) (by kernel_rfl) (fun _ _ _ h => h) (Or.inr ⟨by rfl, rfl⟩) HS.out ?_
          go_simp
          refine wpAnyH_take (i := 10) (v := undef) rfl (by kernel_rfl) (by kernel_rfl) (by kernel_rfl) (fun _ _ _ h => h) (Or.inr ⟨by rfl, rfl⟩) HS.out ?_
          go_simp
          refine wpAnyH_take (i := 11) (v := undef) rfl (by kernel_rfl) (by kernel_rfl) (by kernel_rfl) (fun _ _ _ h => h) (Or.inr ⟨by rfl, rfl⟩) HS.out ?_
          go_simp
          refine wpAnyH_take (i := 12) (v := undef) rfl (by kernel_rfl) (by kernel_rfl) (by kernel_rfl) (fun _ _ _ h => h) (Or.inr ⟨by rfl, rfl⟩) HS.out ?_
          go_simp
          refine wpAnyH_take (i := 13) (v := undef) rfl (by kernel_rfl) (by kernel_rfl) (by kernel_rfl) (fun _ _ _ h => h) (Or.inr ⟨by rfl, rfl⟩) HS.out ?_
          go_simp
          refine wpAnyH_take (i := 14) (v := undef) rfl (by kernel_rfl) (by kernel_rfl) (by kernel_rfl) (fun _ _ _ h => h) (Or.inr ⟨by rfl, rfl⟩) HS.out ?_
          go_simp
          refine wpAnyH_take (i := 15) (v := undef) rfl (by kernel_rfl) (by kernel_rfl) (by kernel_rfl) (fun _ _ _ h => h) (Or.inr ⟨by rfl, rfl⟩) HS.out ?_
          go_simp
          refine wpAnyH_take (i := 16) (v := undef) rfl (by kernel_rfl) (by kernel_rfl) (by kernel_rfl) (fun _ _ _ h => h) (Or.inr ⟨by rfl, rfl⟩) HS.out ?_
          go_simp
          refine wpAnyH_take (i := 17) (v := undef) rfl (by kernel_rfl) (by kernel_rfl) (by kernel_rfl) (fun _ _ _ h => h) (Or.inr ⟨by rfl, rfl⟩) HS.out ?_
          go_simp
          refine wpAnyH_take (i := 18) (v := .bool false) rfl (by kernel_rfl) (by kernel_rfl) (by kernel_rfl) (fun _ _ _ h => h) (Or.inl ⟨by rfl, ?_⟩) HS.out ?_
          · intro u hu; go_simp
          go_simp
          refine wpAnyH_done (by kernel_rfl) ?_ _
          have Hb := Lib.hid (Hbr.out.trans (HS.out.mono Hbr.out.size))
          clear HS Hb9
          go_wp2_with fail
          go_roundw
          case rel => exact ⟨k + 1, _, rfl, by go_num, by omega, fun h => absurd h (by decide), Lib.hid (.inr ⟨k, by omega, rfl, Hsel.out⟩), Hb.out⟩
          case measure => simp only [intOf]; omega
        · have hjn : (j : Int) < (n : Int) := by omega
          obtain ⟨-, cj⟩ := Hat.out j (by rw [Hln.out]; omega)
          obtain ⟨qj, hqj⟩ : ∃ x, x = (L.getD j (0, 0)).2 := ⟨_, rfl⟩
          rw [← hqj] at cj
          have Hrj := Lib.hid hqj
          have CJ := Lib.hid cj
          clear cj hqj
          by_cases hqq : q < qj
          · have hqi : (q : Int) < (qj : Int) := by omega
            have Hsel : Hid (selR true many (L.take (k + 1)) = some (L.getD k (0, 0))) := Lib.hid (by rw [Htk.out, selR_snoc, hsome, ← Hrr.out]; unfold stepH; simp only; rw [← Hrj.out]; exact if_pos ⟨by first | rfl | trivial, hq2, hqq⟩)
            clear hsome Hs
            go_upto_region 7 with fail
            refine wp_region_held_drew (S := Below wr.heap.size wr) (by kernel_rfl) ((Below.refl _ wr).drew) (fun _ => ?_)
            have HS : Hid (Below wr.heap.size wr wr.drew) := Lib.hid ((Below.refl _ wr).drew)
            clear c0 c1
            refine wpAnyH_take (i := 0) (v := .int .i64 2) rfl (by kernel_rfl) (by kernel_rfl) (by kernel_rfl) (fun _ _ _ h => h) (Or.inl ⟨by rfl, ?_⟩) HS.out ?_
            · intro u hu; go_simp
            go_simp
            refine wpAnyH_take (i := 1) (v := .bool true) rfl (by kernel_rfl) (by kernel_rfl) (by kernel_rfl) (fun _ _ _ h => h) (Or.inl ⟨by rfl, ?_⟩) HS.out ?_
            · intro u hu; go_simp
            go_simp
            refine wpAnyH_take (i := 2) (v := .bool true) rfl (by kernel_rfl) (by kernel_rfl) (by kernel_rfl) (fun _ _ _ h => h) (Or.inl ⟨by rfl, ?_⟩) HS.out ?_
            · intro u hu; go_simp
            go_simp
            refine wpAnyH_take (i := 3) (v := .int .i64 (j : Int)) rfl (by kernel_rfl) (by kernel_rfl) (by kernel_rfl) (fun _ _ _ h => h) (Or.inl ⟨by rfl, ?_⟩) HS.out ?_
            · intro u hu; go_simp
            go_simp
            refine wpAnyH_take (i := 4) (v := .bool false) rfl (by kernel_rfl) (by kernel_rfl) (by kernel_rfl) (fun _ _ _ h => h) (Or.inl ⟨by rfl, ?_⟩) HS.out ?_
            · intro u hu; go_simp
            go_simp
            refine wpAnyH_take (i := 5) (v := .bool false) rfl (by kernel_rfl) (by kernel_rfl) (by kernel_rfl) (fun _ _ _ h => h) (Or.inl ⟨by rfl, ?_⟩) HS.out ?_
            · intro u hu; go_simp
            go_simp
            refine wpAnyH_take (i := 6) (v := .slice (some ⟨g9, 0, none⟩) n c9) rfl (by kernel_rfl) (by kernel_rfl) (by kernel_rfl) (fun _ _ _ h => h) (Or.inl ⟨by rfl, ?_⟩) HS.out ?_
            · intro u hu; go_simp
            go_simp
            refine wpAnyH_take (i := 7) (v := .int .i64 (k : Int)) rfl (by kernel_rfl) (by kernel_rfl) (by kernel_rfl) (fun _ _ _ h => h) (Or.inl ⟨by rfl, ?_⟩) HS.out ?_
            · intro u hu; go_simp
            go_simp
            refine wpAnyH_take (i := 8) (v := .pointer (some ⟨g9, k * 2, none⟩)) rfl (by kernel_rfl) (by kernel_rfl) (by kernel_rfl) (fun _ _ _ h => h) (Or.inl ⟨by rfl, ?_⟩) HS.out ?_
            · intro u hu; go_simp
            go_simp
            refine wpAnyH_take (i := 9) (v := .pointer (some ⟨g9, k * 2 + 1, none⟩)) rfl (by kernel_rfl) (by kernel_rfl) (by kernel_rfl) (fun _ _ _ h => h) (Or.inl ⟨by rfl, ?_⟩) HS.out ?_
            · intro u hu; go_simp
            go_simp
            refine wpAnyH_take (i := 10) (v := .int .i64 (q : Int)) rfl (by kernel_rfl) (by kernel_rfl) (by kernel_rfl) (fun _ _ _ h => h) (Or.inl ⟨by rfl, ?_⟩) HS.out ?_
            · intro u hu; have := (hu.cell (p := ⟨g9, k * 2 + 1, none⟩) hg9).trans C1.out; go_simp
            go_simp
            refine wpAnyH_take (i := 11) (v := .slice (some ⟨g9, 0, none⟩) n c9) rfl (by kernel_rfl) (by kernel_rfl) (by kernel_rfl) (fun _ _ _ h => h) (Or.inl ⟨by rfl, ?_⟩) HS.out ?_
            · intro u hu; go_simp
            go_simp
            refine wpAnyH_take (i := 12) (v := .int .i64 (j : Int)) rfl (by kernel_rfl) (by kernel_rfl) (by kernel_rfl) (fun _ _ _ h => h) (Or.inl ⟨by rfl, ?_⟩) HS.out ?_
            · intro u hu; go_simp
            go_simp
            refine wpAnyH_take (i := 13) (v := .pointer (some ⟨g9, j * 2, none⟩)) rfl (by kernel_rfl) (by kernel_rfl) (by kernel_rfl) (fun _ _ _ h => h) (Or.inl ⟨by rfl, ?_⟩) HS.out ?_
            · intro u hu; go_simp
            go_simp
            refine wpAnyH_take (i := 14) (v := .pointer (some ⟨g9, j * 2 + 1, none⟩)) rfl (by kernel_rfl) (by kernel_rfl) (by kernel_rfl) (fun _ _ _ h => h) (Or.inl ⟨by rfl, ?_⟩) HS.out ?_
            · intro u hu; go_simp
            go_simp
            refine wpAnyH_take (i := 15) (v := .int .i64 (qj : Int)) rfl (by kernel_rfl) (by kernel_rfl) (by kernel_rfl) (fun _ _ _ h => h) (Or.inl ⟨by rfl, ?_⟩) HS.out ?_
            · intro u hu; have := (hu.cell (p := ⟨g9, j * 2 + 1, none⟩) hg9).trans CJ.out; go_simp
            go_simp
            refine wpAnyH_take (i := 16) (v := .bool true) rfl (by kernel_rfl) (by kernel_rfl) (by kernel_rfl) (fun _ _ _ h => h) (Or.inl ⟨by rfl, ?_⟩) HS.out ?_
            · intro u hu; go_simp
            go_simp
            refine wpAnyH_take (i := 17) (v := .bool true) rfl (by kernel_rfl) (by kernel_rfl) (by kernel_rfl) (fun _ _ _ h => h) (Or.inl ⟨by rfl, ?_⟩) HS.out ?_
            · intro u hu; go_simp
            go_simp
            refine wpAnyH_take (i := 18) (v := .bool true) rfl (by kernel_rfl) (by kernel_rfl) (by kernel_rfl) (fun _ _ _ h => h) (Or.inl ⟨by rfl, ?_⟩) HS.out ?_
            · intro u hu; go_simp
            go_simp
            refine wpAnyH_take (i := 19) (v := .bool true) rfl (by kernel_rfl) (by kernel_rfl) (by kernel_rfl) (fun _ _ _ h => h) (Or.inl ⟨by rfl, ?_⟩) HS.out ?_
            · intro u hu; go_simp
            go_simp
            refine wpAnyH_take (i := 20) (v := undef) rfl (by kernel_rfl) (by kernel_rfl) (by kernel_rfl) (fun _ _ _ h => h) (Or.inr ⟨by rfl, rfl⟩) HS.out ?_
            go_simp
            refine wpAnyH_take (i := 21) (v := undef) rfl (by kernel_rfl) (by kernel_rfl) (by kernel_rfl) (fun _ _ _ h => h) (Or.inr ⟨by rfl, rfl⟩) HS.out ?_
            go_simp
            refine wpAnyH_take (i := 22) (v := undef) rfl (by kernel_rfl) (by kernel_rfl) (by kernel_rfl) (fun _ _ _ h => h) (Or.inr ⟨by rfl, rfl⟩) HS.out ?_
            go_simp
            refine wpAnyH_take (i := 23) (v := undef) rfl (by kernel_rfl) (by kernel_rfl) (by kernel_rfl) (fun _ _ _ h => h) (Or.inr ⟨by rfl, rfl⟩) HS.out ?_
            go_simp
            refine wpAnyH_take (i := 24) (v := undef) rfl (by kernel_rfl) (by kernel_rfl) (by kernel_rfl) (fun _ _ _ h => h) (Or.inr ⟨by rfl, rfl⟩) HS.out ?_
            go_simp
            refine wpAnyH_take (i := 25) (v := undef) rfl (by kernel_rfl) (by kernel_rfl) (by kernel_rfl) (fun _ _ _ h => h) (Or.inr ⟨by rfl, rfl⟩) HS.out ?_
            go_simp
            refine wpAnyH_take (i := 26) (v := .bool true) rfl (by kernel_rfl) (by kernel_rfl) (by kernel_rfl) (fun _ _ _ h => h) (Or.inl ⟨by rfl, ?_⟩) HS.out ?_
            · intro u hu; go_simp
            go_simp
            refine wpAnyH_done (by kernel_rfl) ?_ _
            obtain ⟨w9, hw9⟩ : ∃ w9, w9 = wr.drew := ⟨_, rfl⟩
            rw [← hw9]
            have hb9 : Below wr.heap.size wr w9 := by rw [hw9]; exact (Below.refl _ wr).drew
            have c0 : w9.cell? ⟨g9, k * 2, none⟩ = some (.int .i64 (p : Int)) := (hb9.cell (p := ⟨g9, k * 2, none⟩) hg9).trans C0.out
            have c1 : w9.cell? ⟨g9, k * 2 + 1, none⟩ = some (.int .i64 (q : Int)) := (hb9.cell (p := ⟨g9, k * 2 + 1, none⟩) hg9).trans C1.out
            have Hb9 := Lib.hid hb9
            clear HS hw9 hb9
            go_upto_region 10 with fail
            refine wp_region_held_drew (S := Below wr.heap.size wr) (by kernel_rfl) (Hb9.out.drew) (fun _ => ?_)
            have HS : Hid (Below wr.heap.size wr w9.drew) := Lib.hid (Hb9.out.drew)
            clear c0 c1
            refine wpAnyH_take (i := 0) (v := .int .i64 2) rfl (by kernel_rfl) (by kernel_rfl) (by kernel_rfl) (fun _ _ _ h => h) (Or.inl ⟨by rfl, ?_⟩) HS.out ?_
            · intro u hu; go_simp
            go_simp
            refine wpAnyH_take (i := 1) (v := .bool false) rfl (by kernel_rfl) (by kernel_rfl) (by kernel_rfl) (fun _ _ _ h => h) (Or.inl ⟨by rfl, ?_⟩) HS.out ?_
            · intro u hu; go_simp
            go_simp
            refine wpAnyH_take (i := 2) (v := .bool false) rfl (by kernel_rfl) (by kernel_rfl) (by kernel_rfl) (fun _ _ _ h => h) (Or.inl ⟨by rfl, ?_⟩) HS.out ?_
            · intro u hu; go_simp
            go_simp
            refine wpAnyH_take (i := 3) (v := undef) rfl (by kernel_rfl) (by kernel_rfl) (by kernel_rfl) (fun _ _ _ h => h) (Or.inr ⟨by rfl, rfl⟩) HS.out ?_
            go_simp
            refine wpAnyH_take (i := 4) (v := undef) rfl (by kernel_rfl) (by kernel_rfl) (by kernel_rfl) (fun _ _ _ h => h) (Or.inr ⟨by rfl, rfl⟩) HS.out ?_
            go_simp
            refine wpAnyH_take (i := 5) (v := undef) rfl (by kernel_rfl) (by kernel_rfl) (by kernel_rfl) (fun _ _ _ h => h) (Or.inr ⟨by rfl, rfl⟩) HS.out ?_
            go_simp
            refine wpAnyH_take (i := 6) (v := undef) rfl (by kernel_rfl) (by kernel_rfl) (by kernel_rfl) (fun _ _ _ h => h) (Or.inr ⟨by rfl, rfl⟩) HS.out ?_
            go_simp
            refine wpAnyH_take (i := 7) (v := undef) rfl (by kernel_rfl) (by kernel_rfl) (by kernel_rfl) (fun _ _ _ h => h) (Or.inr ⟨by rfl, rfl⟩) HS.out ?_
            go_simp
            refine wpAnyH_take (i := 8) (v := undef) rfl (by kernel_rfl) (by kernel_rfl) (by kernel_rfl) (fun _ _ _ h => h) (Or.inr ⟨by rfl, rfl⟩) HS.out ?_
            go_simp
            refine wpAnyH_take (i := 9) (v := undef) rfl (by kernel_rfl) (by kernel_rfl) (by kernel_rfl) (fun _ _ _ h => h) (Or.inr ⟨by rfl, rfl⟩) HS.out ?_
            go_simp
            refine wpAnyH_take (i := 10) (v := undef) rfl (by kernel_rfl) (by kernel_rfl) (by kernel_rfl) (fun _ _ _ h => h) (Or.inr ⟨by rfl, rfl⟩) HS.out ?_
            go_simp
            refine wpAnyH_take (i := 11) (v := undef) rfl (by kernel_rfl) (by kernel_rfl) (by kernel_rfl) (fun _ _ _ h => h) (Or.inr ⟨by rfl, rfl⟩) HS.out ?_
            go_simp
            refine wpAnyH_take (i := 12) (v := undef) rfl (by kernel_rfl) (by kernel_rfl) (by kernel_rfl) (fun _ _ _ h => h) (Or.inr ⟨by rfl, rfl⟩) HS.out ?_
            go_simp
            refine wpAnyH_take (i := 13) (v := undef) rfl (by kernel_rfl) (by kernel_rfl) (by kernel_rfl) (fun _ _ _ h => h) (Or.inr ⟨by rfl, rfl⟩) HS.out ?_
            go_simp
            refine wpAnyH_take (i := 14) (v := undef) rfl (by kernel_rfl) (by kernel_rfl) (by kernel_rfl) (fun _ _ _ h => h) (Or.inr ⟨by rfl, rfl⟩) HS.out ?_
            go_simp
            refine wpAnyH_take (i := 15) (v := undef) rfl (by kernel_rfl) (by kernel_rfl) (by kernel_rfl) (fun _ _ _ h => h) (Or.inr ⟨by rfl, rfl⟩) HS.out ?_
            go_simp
            refine wpAnyH_take (i := 16) (v := undef) rfl (by kernel_rfl) (by kernel_rfl) (by kernel_rfl) (fun _ _ _ h => h) (Or.inr ⟨by rfl, rfl⟩) HS.out ?_
            go_simp
            refine wpAnyH_take (i := 17) (v := undef) rfl (by kernel_rfl) (by kernel_rfl) (by kernel_rfl) (fun _ _ _ h => h) (Or.inr ⟨by rfl, rfl⟩) HS.out ?_
            go_simp
            refine wpAnyH_take (i := 18) (v := .bool false) rfl (by kernel_rfl) (by kernel_rfl) (by kernel_rfl) (fun _ _ _ h => h) (Or.inl ⟨by rfl, ?_⟩) HS.out ?_
            · intro u hu; go_simp
            go_simp
            refine wpAnyH_done (by kernel_rfl) ?_ _
            have Hb := Lib.hid (Hbr.out.trans (HS.out.mono Hbr.out.size))
            clear HS Hb9
            go_wp2_with fail
            go_roundw
            case rel => exact ⟨k + 1, _, rfl, by go_num, by omega, fun h => absurd h (by decide), Lib.hid (.inr ⟨k, by omega, rfl, Hsel.out⟩), Hb.out⟩
            case measure => simp only [intOf]; omega
          · have hqi : (qj : Int) ≤ (q : Int) := by omega
            have Hsel : Hid (selR true many (L.take (k + 1)) = some (L.getD j (0, 0))) := Lib.hid (by rw [Htk.out, selR_snoc, hsome]; unfold stepH; simp only; rw [← Hrj.out]; exact if_neg (fun h => hqq h.2.2))
            clear hsome Hs
            go_upto_region 7 with fail
            refine wp_region_held_drew (S := Below wr.heap.size wr) (by kernel_rfl) ((Below.refl _ wr).drew) (fun _ => ?_)
            have HS : Hid (Below wr.heap.size wr wr.drew) := Lib.hid ((Below.refl _ wr).drew)
            clear c0 c1
            refine wpAnyH_take (i := 0) (v := .int .i64 2) rfl (by kernel_rfl) (by kernel_rfl) (by kernel_rfl) (fun _ _ _ h => h) (Or.inl ⟨by rfl, ?_⟩) HS.out ?_
            · intro u hu; go_simp
            go_simp
            refine wpAnyH_take (i := 1) (v := .bool true) rfl (by kernel_rfl) (by kernel_rfl) (by kernel_rfl) (fun _ _ _ h => h) (Or.inl ⟨by rfl, ?_⟩) HS.out ?_
            · intro u hu; go_simp
            go_simp
            refine wpAnyH_take (i := 2) (v := .bool true) rfl (by kernel_rfl) (by kernel_rfl) (by kernel_rfl) (fun _ _ _ h => h) (Or.inl ⟨by rfl, ?_⟩) HS.out ?_
            · intro u hu; go_simp
            go_simp
            refine wpAnyH_take (i := 3) (v := .int .i64 (j : Int)) rfl (by kernel_rfl) (by kernel_rfl) (by kernel_rfl) (fun _ _ _ h => h) (Or.inl ⟨by rfl, ?_⟩) HS.out ?_
            · intro u hu; go_simp
            go_simp
            refine wpAnyH_take (i := 4) (v := .bool false) rfl (by kernel_rfl) (by kernel_rfl) (by kernel_rfl) (fun _ _ _ h => h) (Or.inl ⟨by rfl, ?_⟩) HS.out ?_
            · intro u hu; go_simp
            go_simp
            refine wpAnyH_take (i := 5) (v := .bool false) rfl (by kernel_rfl) (by kernel_rfl) (by kernel_rfl) (fun _ _ _ h => h) (Or.inl ⟨by rfl, ?_⟩) HS.out ?_
            · intro u hu; go_simp
            go_simp
            refine wpAnyH_take (i := 6) (v := .slice (some ⟨g9, 0, none⟩) n c9) rfl (by kernel_rfl) (by kernel_rfl) (by kernel_rfl) (fun _ _ _ h => h) (Or.inl ⟨by rfl, ?_⟩) HS.out ?_
            · intro u hu; go_simp
            go_simp
            refine wpAnyH_take (i := 7) (v := .int .i64 (k : Int)) rfl (by kernel_rfl) (by kernel_rfl) (by kernel_rfl) (fun _ _ _ h => h) (Or.inl ⟨by rfl, ?_⟩) HS.out ?_
            · intro u hu; go_simp
            go_simp
            refine wpAnyH_take (i := 8) (v := .pointer (some ⟨g9, k * 2, none⟩)) rfl (by kernel_rfl) (by kernel_rfl) (by kernel_rfl) (fun _ _ _ h => h) (Or.inl ⟨by rfl, ?_⟩) HS.out ?_
            · intro u hu; go_simp
            go_simp
            refine wpAnyH_take (i := 9) (v := .pointer (some ⟨g9, k * 2 + 1, none⟩)) rfl (by kernel_rfl) (by kernel_rfl) (by kernel_rfl) (fun _ _ _ h => h) (Or.inl ⟨by rfl, ?_⟩) HS.out ?_
            · intro u hu; go_simp
            go_simp
            refine wpAnyH_take (i := 10) (v := .int .i64 (q : Int)) rfl (by kernel_rfl) (by kernel_rfl) (by kernel_rfl) (fun _ _ _ h => h) (Or.inl ⟨by rfl, ?_⟩) HS.out ?_
            · intro u hu; have := (hu.cell (p := ⟨g9, k * 2 + 1, none⟩) hg9).trans C1.out; go_simp
            go_simp
            refine wpAnyH_take (i := 11) (v := .slice (some ⟨g9, 0, none⟩) n c9) rfl (by kernel_rfl) (by kernel_rfl) (by kernel_rfl) (fun _ _ _ h => h) (Or.inl ⟨by rfl, ?_⟩) HS.out ?_
            · intro u hu; go_simp
            go_simp
            refine wpAnyH_take (i := 12) (v := .int .i64 (j : Int)) rfl (by kernel_rfl) (by kernel_rfl) (by kernel_rfl) (fun _ _ _ h => h) (Or.inl ⟨by rfl, ?_⟩) HS.out ?_
            · intro u hu; go_simp
            go_simp
            refine wpAnyH_take (i := 13) (v := .pointer (some ⟨g9, j * 2, none⟩)) rfl (by kernel_rfl) (by kernel_rfl) (by kernel_rfl) (fun _ _ _ h => h) (Or.inl ⟨by rfl, ?_⟩) HS.out ?_
            · intro u hu; go_simp
            go_simp
            refine wpAnyH_take (i := 14) (v := .pointer (some ⟨g9, j * 2 + 1, none⟩)) rfl (by kernel_rfl) (by kernel_rfl) (by kernel_rfl) (fun _ _ _ h => h) (Or.inl ⟨by rfl, ?_⟩) HS.out ?_
            · intro u hu; go_simp
            go_simp
            refine wpAnyH_take (i := 15) (v := .int .i64 (qj : Int)) rfl (by kernel_rfl) (by kernel_rfl) (by kernel_rfl) (fun _ _ _ h => h) (Or.inl ⟨by rfl, ?_⟩) HS.out ?_
            · intro u hu; have := (hu.cell (p := ⟨g9, j * 2 + 1, none⟩) hg9).trans CJ.out; go_simp
            go_simp
            refine wpAnyH_take (i := 16) (v := .bool false) rfl (by kernel_rfl) (by kernel_rfl) (by kernel_rfl) (fun _ _ _ h => h) (Or.inl ⟨by rfl, ?_⟩) HS.out ?_
            · intro u hu; go_simp
            go_simp
            refine wpAnyH_take (i := 17) (v := .bool false) rfl (by kernel_rfl) (by kernel_rfl) (by kernel_rfl) (fun _ _ _ h => h) (Or.inl ⟨by rfl, ?_⟩) HS.out ?_
            · intro u hu; go_simp
            go_simp
            refine wpAnyH_take (i := 18) (v := .bool false) rfl (by kernel_rfl) (by kernel_rfl) (by kernel_rfl) (fun _ _ _ h => h) (Or.inl ⟨by rfl, ?_⟩) HS.out ?_
            · intro u hu; go_simp
            go_simp
            refine wpAnyH_take (i := 19) (v := .bool false) rfl (by kernel_rfl) (by kernel_rfl) (by kernel_rfl) (fun _ _ _ h => h) (Or.inl ⟨by rfl, ?_⟩) HS.out ?_
            · intro u hu; go_simp
            go_simp
            refine wpAnyH_take (i := 20) (v := .int .i64 2) rfl (by kernel_rfl) (by kernel_rfl) (by kernel_rfl) (fun _ _ _ h => h) (Or.inl ⟨by rfl, ?_⟩) HS.out ?_
            · intro u hu; go_simp
            go_simp
            refine wpAnyH_take (i := 21) (v := .bool false) rfl (by kernel_rfl) (by kernel_rfl) (by kernel_rfl) (fun _ _ _ h => h) (Or.inl ⟨by rfl, ?_⟩) HS.out ?_
            · intro u hu; go_simp
            go_simp
            refine wpAnyH_take (i := 22) (v := .bool false) rfl (by kernel_rfl) (by kernel_rfl) (by kernel_rfl) (fun _ _ _ h => h) (Or.inl ⟨by rfl, ?_⟩) HS.out ?_
            · intro u hu; go_simp
            go_simp
            refine wpAnyH_take (i := 23) (v := undef) rfl (by kernel_rfl) (by kernel_rfl) (by kernel_rfl) (fun _ _ _ h => h) (Or.inr ⟨by rfl, rfl⟩) HS.out ?_
            go_simp
            refine wpAnyH_take (i := 24) (v := undef) rfl (by kernel_rfl) (by kernel_rfl) (by kernel_rfl) (fun _ _ _ h => h) (Or.inr ⟨by rfl, rfl⟩) HS.out ?_
            go_simp
            refine wpAnyH_take (i := 25) (v := .bool false) rfl (by kernel_rfl) (by kernel_rfl) (by kernel_rfl) (fun _ _ _ h => h) (Or.inl ⟨by rfl, ?_⟩) HS.out ?_
            · intro u hu; go_simp
            go_simp
            refine wpAnyH_take (i := 26) (v := .bool false) rfl (by kernel_rfl) (by kernel_rfl) (by kernel_rfl) (fun _ _ _ h => h) (Or.inl ⟨by rfl, ?_⟩) HS.out ?_
            · intro u hu; go_simp
            go_simp
            refine wpAnyH_done (by kernel_rfl) ?_ _
            obtain ⟨w9, hw9⟩ : ∃ w9, w9 = wr.drew := ⟨_, rfl⟩
            rw [← hw9]
            have hb9 : Below wr.heap.size wr w9 := by rw [hw9]; exact (Below.refl _ wr).drew
            have c0 : w9.cell? ⟨g9, k * 2, none⟩ = some (.int .i64 (p : Int)) := (hb9.cell (p := ⟨g9, k * 2, none⟩) hg9).trans C0.out
            have c1 : w9.cell? ⟨g9, k * 2 + 1, none⟩ = some (.int .i64 (q : Int)) := (hb9.cell (p := ⟨g9, k * 2 + 1, none⟩) hg9).trans C1.out
            have Hb9 := Lib.hid hb9
            clear HS hw9 hb9
            go_upto_region 10 with fail
            refine wp_region_held_drew (S := Below wr.heap.size wr) (by kernel_rfl) (Hb9.out.drew) (fun _ => ?_)
            have HS : Hid (Below wr.heap.size wr w9.drew) := Lib.hid (Hb9.out.drew)
            clear c0 c1
            refine wpAnyH_take (i := 0) (v := .int .i64 2) rfl (by kernel_rfl) (by kernel_rfl) (by kernel_rfl) (fun _ _ _ h => h) (Or.inl ⟨by rfl, ?_⟩) HS.out ?_
            · intro u hu; go_simp
            go_simp
            refine wpAnyH_take (i := 1) (v := .bool false) rfl (by kernel_rfl) (by kernel_rfl) (by kernel_rfl) (fun _ _ _ h => h) (Or.inl ⟨by rfl, ?_⟩) HS.out ?_
            · intro u hu; go_simp
            go_simp
            refine wpAnyH_take (i := 2) (v := .bool false) rfl (by kernel_rfl) (by kernel_rfl) (by kernel_rfl) (fun _ _ _ h => h) (Or.inl ⟨by rfl, ?_⟩) HS.out ?_
            · intro u hu; go_simp
            go_simp
            refine wpAnyH_take (i := 3) (v := undef) rfl (by kernel_rfl) (by kernel_rfl) (by kernel_rfl) (fun _ _ _ h => h) (Or.inr ⟨by rfl, rfl⟩) HS.out ?_
            go_simp
            refine wpAnyH_take (i := 4) (v := undef) rfl (by kernel_rfl) (by kernel_rfl) (by kernel_rfl) (fun _ _ _ h => h) (Or.inr ⟨by rfl, rfl⟩) HS.out ?_
            go_simp
            refine wpAnyH_take (i := 5) (v := undef) rfl (by kernel_rfl) (by kernel_rfl) (by kernel_rfl) (fun _ _ _ h => h) (Or.inr ⟨by rfl, rfl⟩) HS.out ?_
            go_simp
            refine wpAnyH_take (i := 6) (v := undef) rfl (by kernel_rfl) (by kernel_rfl) (by kernel_rfl) (fun _ _ _ h => h) (Or.inr ⟨by rfl, rfl⟩) HS.out ?_
            go_simp
            refine wpAnyH_take (i := 7) (v := undef) rfl (by kernel_rfl) (by kernel_rfl) (by kernel_rfl) (fun _ _ _ h => h) (Or.inr ⟨by rfl, rfl⟩) HS.out ?_
            go_simp
            refine wpAnyH_take (i := 8) (v := undef) rfl (by kernel_rfl) (by kernel_rfl) (by kernel_rfl) (fun _ _ _ h => h) (Or.inr ⟨by rfl, rfl⟩) HS.out ?_
            go_simp
            refine wpAnyH_take (i := 9) (v := undef) rfl (by kernel_rfl) (by kernel_rfl) (by kernel_rfl) (fun _ _ _ h => h) (Or.inr ⟨by rfl, rfl⟩) HS.out ?_
            go_simp
            refine wpAnyH_take (i := 10) (v := undef) rfl (by kernel_rfl) (by kernel_rfl) (by kernel_rfl) (fun _ _ _ h => h) (Or.inr ⟨by rfl, rfl⟩) HS.out ?_
            go_simp
            refine wpAnyH_take (i := 11) (v := undef) rfl (by kernel_rfl) (by kernel_rfl) (by kernel_rfl) (fun _ _ _ h => h) (Or.inr ⟨by rfl, rfl⟩) HS.out ?_
            go_simp
            refine wpAnyH_take (i := 12) (v := undef) rfl (by kernel_rfl) (by kernel_rfl) (by kernel_rfl) (fun _ _ _ h => h) (Or.inr ⟨by rfl, rfl⟩) HS.out ?_
            go_simp
            refine wpAnyH_take (i := 13) (v := undef) rfl (by kernel_rfl) (by kernel_rfl) (by kernel_rfl) (fun _ _ _ h => h) (Or.inr ⟨by rfl, rfl⟩) HS.out ?_
            go_simp
            refine wpAnyH_take (i := 14) (v := undef) rfl (by kernel_rfl) (by kernel_rfl) (by kernel_rfl) (fun _ _ _ h => h) (Or.inr ⟨by rfl, rfl⟩) HS.out ?_
            go_simp
            refine wpAnyH_take (i := 15) (v := undef) rfl (by kernel_rfl) (by kernel_rfl) (by kernel_rfl) (fun _ _ _ h => h) (Or.inr ⟨by rfl, rfl⟩) HS.out ?_
            go_simp
            refine wpAnyH_take (i := 16) (v := undef) rfl (by kernel_rfl) (by kernel_rfl) (by kernel_rfl) (fun _ _ _ h => h) (Or.inr ⟨by rfl, rfl⟩) HS.out ?_
            go_simp
            refine wpAnyH_take (i := 17) (v := undef) rfl (by kernel_rfl) (by kernel_rfl) (by kernel_rfl) (fun _ _ _ h => h) (Or.inr ⟨by rfl, rfl⟩) HS.out ?_
            go_simp
            refine wpAnyH_take (i := 18) (v := .bool false) rfl (by kernel_rfl) (by kernel_rfl) (by kernel_rfl) (fun _ _ _ h => h) (Or.inl ⟨by rfl, ?_⟩) HS.out ?_
            · intro u hu; go_simp
            go_simp
            refine wpAnyH_done (by kernel_rfl) ?_ _
            have Hb := Lib.hid (Hbr.out.trans (HS.out.mono Hbr.out.size))
            clear HS Hb9
            go_wp2_with fail
            go_roundw
            case rel => exact ⟨k + 1, _, rfl, by go_num, by omega, fun h => absurd h (by decide), Lib.hid (.inr ⟨j, by omega, rfl, Hsel.out⟩), Hb.out⟩
            case measure => simp only [intOf]; omega
    · obtain rfl : n = k := by omega
      have hfull : L.take n = L := List.take_of_length_le (by rw [Hln.out]; exact Nat.le_refl _)
      have hend := refV_end (L := L) (many := many) (near := near) (how := 2) (fun h3 r hr => Hfit0.out h3 r (by rw [hfull]; exact hr))
      rw [show decide (2 = 2) = true from by decide] at hend
      have hs := Hs.out
      rw [hfull] at hs
      rcases hs with ⟨rfl, hnone⟩ | ⟨j, hj, rfl, hsome⟩
      · rw [hnone] at hend
        have He := Lib.hid hend
        clear hend hnone hfull HR hbr Hs
        go_wp2_with fail
        go_ret
        exact ⟨by rw [He.out]; rfl, Hb1.out.trans (Hbr.out.mono Hb1.out.size)⟩
      · rw [hsome] at hend
        simp only at hend
        have hjn : (j : Int) < (n : Int) := by omega
        obtain ⟨g9, rfl, -, hg9⟩ := HR.addr (by omega)
        obtain ⟨cj, -⟩ := HR.at_ j (by rw [Hln.out]; exact hj)
        obtain ⟨pj, hpj⟩ : ∃ x, x = (L.getD j (0, 0)).1 := ⟨_, rfl⟩
        rw [← hpj] at cj hend
        have He := Lib.hid hend
        clear hend hsome hfull HR hbr Hs hpj
        go_wp2_with fail
        go_ret
        exact ⟨by rw [He.out]; rfl, Hb1.out.trans (Hbr.out.mono Hb1.out.size)⟩
set_option maxRecDepth 100000 in
set_option maxHeartbeats 8000000 in
theorem rfind3_any (M : Nat) (a : Option Addr) (l c : Nat) (bs : List Int) (many : Int) (near : Nat) (w : World) (hr : Rd w a l c bs) (hv : Vb M bs) (h1 : 1 ≤ many) (h2 : many ≤ 9223372036854775807) (hn : near ≤ M) :
    Calls Tryd.prog 41 #[.agg #[.int .i64 (M : Int), .slice a l c], .int .i64 many, .int .i64 3, .int .i64 (near : Int)] w fun e w' => e = .returned (.int .i64 (refV (runsV bs M false) many near 3)) ∧ Below w.heap.size w w' := by
  have hM := hv.le
  have hlen := hv.len
  have hrl := hr.hl
  obtain ⟨g, W, e1, e2, hB, hb, -⟩ := boxed (Below.refl _ w) (M : Int) a l c bs hr
  have C := Lib.hid (rruns_any false M a l c bs W hB.rd hM (by omega))
  have q0 : W.cell? ⟨g, 0, none⟩ = some (.int .i64 (M : Int)) := hB.blk.cell 0
  have q1 : W.cell? ⟨g, 1, none⟩ = some (.slice a l c) := hB.blk.cell 1
  obtain ⟨L, hL⟩ : ∃ L, L = runsV bs M false := ⟨_, rfl⟩
  have Hbd : Hid (∀ i, i < L.length → (L.getD i (0, 0)).1 + (L.getD i (0, 0)).2 ≤ M) := Lib.hid (fun i hi => by rw [hL] at hi ⊢; exact runsV_at_le bs M false i hi)
  rw [← hL] at C ⊢
  have Hb := Lib.hid hb
  have H2 := Lib.hid e2
  have H1 := Lib.hid e1
  have hsz := hb.size
  clear hr hB hb e1 e2 hL hlen hrl hv
  go_enter Tryd.func41, Tryd.ntmps41
  go_upto_region 1 with fail
  rw [H2.out, H1.out]
  go_wp2_with fail
  refine C.out.mono ?_
  rintro e w1 ⟨a9, n, c9, rfl, hO, hb1⟩
  have hln := hO.len.1
  have hcn := hO.len.2.1
  have hmn := hO.len.2.2
  unfold maxLen at hmn
  have HO := Lib.hid hO
  have Hln := Lib.hid hln
  have Hb1 := Lib.hid (Hb.out.trans (hb1.mono hsz))
  clear hO hb1 C q0 q1 Hb hln
  go_wp2_with fail
  go_loopw [10, 11] (fun o p wr => ∃ (k : Nat) (o' : Value), o = o' ∧ p = .int .i64 (k : Int) ∧ k ≤ n ∧ (3 = 3 → ∀ r ∈ L.take k, fitB many near r = false) ∧ Hid ((o' = .int .i64 (-1) ∧ selR false many (L.take k) = none) ∨ (∃ j, j < k ∧ o' = .int .i64 (j : Int) ∧ selR false many (L.take k) = some (L.getD j (0, 0)))) ∧ Below w1.heap.size w1 wr) (fun _ p _ => n - (intOf p).toNat)
  case atStart => exact ⟨0, _, rfl, rfl, Nat.zero_le _, fun _ r hr => by simp at hr, Lib.hid (.inl ⟨rfl, by simp [selR]⟩), Below.refl _ _⟩
  case round =>
    obtain ⟨k, o', rfl, rfl, hk, hfit, Hs, hbr⟩ := hrel
    have HR := HO.out.belowB hbr (Nat.le_refl _)
    have Hbr := Lib.hid hbr
    have Hfit0 := Lib.hid hfit
    clear hfit
    by_cases hlt : k < n
    · have hki : (k : Int) < (n : Int) := by omega
      obtain ⟨g9, rfl, -, hg9⟩ := HR.addr (by omega)
      obtain ⟨c0, c1⟩ := HR.at_ k (by rw [Hln.out]; exact hlt)
      have hat := fun j hj => HR.at_ j hj
      have hbd := Hbd.out k (by rw [Hln.out]; exact hlt)
      have htk := take_more L k (by rw [Hln.out]; exact hlt)
      obtain ⟨r, hrr⟩ : ∃ r, r = L.getD k (0, 0) := ⟨_, rfl⟩
      have Hrr := Lib.hid hrr
      rw [← hrr] at c0 c1 hbd htk
      obtain ⟨p, q⟩ := r
      simp only at c0 c1 hbd htk
      have C0 := Lib.hid c0
      have C1 := Lib.hid c1
      have Htk := Lib.hid htk
      have Hat := Lib.hid hat
      obtain ⟨mx, hmx⟩ : ∃ m, m = max p near := ⟨_, rfl⟩
      have em : max (p : Int) (near : Int) = (mx : Int) := by omega
      have hmx1 : p ≤ mx := by omega
      have hmx2 : mx ≤ 65536 := by omega
      have Hmx := Lib.hid hmx
      clear hrr htk hat HR hbr hmx
      have hw1 : IntKind.i64.wrap ((p : Int) + (q : Int)) = (p : Int) + (q : Int) := IntWalk.i64_in _ (by omega)
      have hw2 : IntKind.i64.wrap ((p : Int) + (q : Int) - (mx : Int)) = (p : Int) + (q : Int) - (mx : Int) := IntWalk.i64_in _ (by omega)
      by_cases hq : (q : Int) < many
      · -- too short
        have hsel : selR false many (L.take (k + 1)) = selR false many (L.take k) := by
          rw [Htk.out, selR_snoc]
          cases selR false many (L.take k) with
          | none => simp [stepH]; omega
          | some b => first | (simp [stepH]; done) | (simp [stepH]; omega)
        have Hsel := Lib.hid hsel
        have Hfit : Hid (3 = 3 → ∀ r ∈ L.take (k + 1), fitB many near r = false) := Lib.hid (fun h3 r hr => by
          rw [Htk.out] at hr
          rcases List.mem_append.1 hr with hr | hr
          · exact Hfit0.out h3 r hr
          · obtain rfl : r = (p, q) := by simpa using hr
            cases hf : fitB many near (p, q) with
            | false => rfl
            | true => have := fit_long hf; simp only at this; omega)
        clear hsel
        go_wp2_with fail
        go_roundw
        case rel =>
          refine ⟨k + 1, _, rfl, by go_num, by omega, (fun _ => Hfit.out rfl), Lib.hid ?_, Hbr.out⟩
          rcases Hs.out with h | ⟨j, h3, h4, h5⟩
          · exact .inl ⟨h.1, Hsel.out.trans h.2⟩
          · exact .inr ⟨j, by omega, h4, Hsel.out.trans h5⟩
        case measure => simp only [intOf]; omega
      · have hq2 : many ≤ (q : Int) := by omega
        clear hq
        rcases Hs.out with ⟨rfl, hnone⟩ | ⟨j, hj, rfl, hsome⟩
        · have Hsel : Hid (selR false many (L.take (k + 1)) = some (L.getD k (0, 0))) := Lib.hid (by rw [Htk.out, selR_snoc, hnone, ← Hrr.out]; simp [stepH, hq2])
          clear hnone Hs
          by_cases hf : many ≤ (p : Int) + (q : Int) - (mx : Int)
          · have hfd : many ≤ (p : Int) + (q : Int) - (mx : Int) := hf
            have Hret : Hid (refV L many near 3 = (mx : Int)) := Lib.hid (by rw [refV_first (k := k) (by rw [Hln.out]; exact hlt) (Hfit0.out rfl) (by rw [← Hrr.out]; unfold fitB; simp only; rw [em]; exact decide_eq_true hf), ← Hrr.out, Hmx.out])
            go_upto_region 7 with fail
            refine wp_region_held_drew (S := Below wr.heap.size wr) (by kernel_rfl) ((Below.refl _ wr).drew) (fun _ => ?_)
            have HS : Hid (Below wr.heap.size wr wr.drew) := Lib.hid ((Below.refl _ wr).drew)
            clear c0 c1
            refine wpAnyH_take (i := 0) (v := .int .i64 3) rfl (by kernel_rfl) (by kernel_rfl) (by kernel_rfl) (fun _ _ _ h => h) (Or.inl ⟨by rfl, ?_⟩) HS.out ?_
            · intro u hu; go_simp
            go_simp
            refine wpAnyH_take (i := 1) (v := .bool false) rfl (by kernel_rfl) (by kernel_rfl) (by kernel_rfl) (fun _ _ _ h => h) (Or.inl ⟨by rfl, ?_⟩) HS.out ?_
            · intro u hu; go_simp
            go_simp
            refine wpAnyH_take (i := 2) (v := .bool false) rfl (by kernel_rfl) (by kernel_rfl) (by kernel_rfl) (fun _ _ _ h => h) (Or.inl ⟨by rfl, ?_⟩) HS.out ?_
            · intro u hu; go_simp
            go_simp
            refine wpAnyH_take (i := 3) (v := undef) rfl (by kernel_rfl) (by kernel_rfl) (by kernel_rfl) (fun _ _ _ h => h) (Or.inr ⟨by rfl, rfl⟩) HS.out ?_
            go_simp
            refine wpAnyH_take (i := 4) (v := undef) rfl (by kernel_rfl) (by kernel_rfl) (by kernel_rfl) (fun _ _ _ h => h) (Or.inr ⟨by rfl, rfl⟩) HS.out ?_
            go_simp
            refine wpAnyH_take (i := 5) (v := undef) rfl (by kernel_rfl) (by kernel_rfl) (by kernel_rfl) (fun _ _ _ h => h) (Or.inr ⟨by rfl, rfl⟩) HS.out ?_
            go_simp
            refine wpAnyH_take (i := 6) (v := undef) rfl (by kernel_rfl) (by kernel_rfl) (by kernel_rfl) (fun _ _ _ h => h) (Or.inr ⟨by rfl, rfl⟩) HS.out ?_
            go_simp
            refine wpAnyH_take (i := 7) (v := undef) rfl (by kernel_rfl) (by kernel_rfl) (by kernel_rfl) (fun _ _ _ h => h) (Or.inr ⟨by rfl, rfl⟩) HS.out ?_
            go_simp
            refine wpAnyH_take (i := 8) (v := undef) rfl (by kernel_rfl) (by kernel_rfl) (by kernel_rfl) (fun _ _ _ h => h) (Or.inr ⟨by rfl, rfl⟩) HS.out ?_
            go_simp
            refine wpAnyH_take (i := 9) (v := undef) rfl (by kernel_rfl) (by kernel_rfl) (by kernel_rfl) (fun _ _ _ h => h) (Or.inr ⟨by rfl, rfl⟩) HS.out ?_
            go_simp
            refine wpAnyH_take (i := 10) (v := undef) rfl (by kernel_rfl) (by kernel_rfl) (by kernel_rfl) (fun _ _ _ h => h) (Or.inr ⟨by rfl, rfl⟩) HS.out ?_
            go_simp
            refine wpAnyH_take (i := 11) (v := undef) rfl (by kernel_rfl) (by kernel_rfl) (by kernel_rfl) (fun _ _ _ h => h) (Or.inr ⟨by rfl, rfl⟩) HS.out ?_
            go_simp
            refine wpAnyH_take (i := 12) (v := undef) rfl (by kernel_rfl) (by kernel_rfl) (by kernel_rfl) (fun _ _ _ h => h) (Or.inr ⟨by rfl, rfl⟩) HS.out ?_
            go_simp
            refine wpAnyH_take (i := 13) (v := undef) rfl (by kernel_rfl) (by kernel_rfl) (by kernel_rfl) (fun _ _ _ h => h) (Or.inr ⟨by rfl, rfl⟩) HS.out ?_
            go_simp
            refine wpAnyH_take (i := 14) (v := undef) rfl (by kernel_rfl) (by kernel_rfl) (by kernel_rfl) (fun _ _ _ h => h) (Or.inr ⟨by rfl, rfl⟩) HS.out ?_
            go_simp
            refine wpAnyH_take (i := 15) (v := undef) rfl (by kernel_rfl) (by kernel_rfl) (by kernel_rfl) (fun _ _ _ h => h) (Or.inr ⟨by rfl, rfl⟩) HS.out ?_
            go_simp
            refine wpAnyH_take (i := 16) (v := undef) rfl (by kernel_rfl) (by kernel_rfl) (by kernel_rfl) (fun _ _ _ h => h) (Or.inr ⟨by rfl, rfl⟩) HS.out ?_
            go_simp
            refine wpAnyH_take (i := 17) (v := undef) rfl (by kernel_rfl) (by kernel_rfl) (by kernel_rfl) (fun _ _ _ h => h) (Or.inr ⟨by rfl, rfl⟩) HS.out ?_
            go_simp
            refine wpAnyH_take (i := 18) (v := .bool false) rfl (by kernel_rfl) (by kernel_rfl) (by kernel_rfl) (fun _ _ _ h => h) (Or.inl ⟨by rfl, ?_⟩) HS.out ?_
            · intro u hu; go_simp
            go_simp
            refine wpAnyH_take (i := 19) (v := .bool false) rfl (by kernel_rfl) (by kernel_rfl) (by kernel_rfl) (fun _ _ _ h => h) (Or.inl ⟨by rfl, ?_⟩) HS.out ?_
            · intro u hu; go_simp
            go_simp
            refine wpAnyH_take (i := 20) (v := .int .i64 3) rfl (by kernel_rfl) (by kernel_rfl) (by kernel_rfl) (fun _ _ _ h => h) (Or.inl ⟨by rfl, ?_⟩) HS.out ?_
            · intro u hu; go_simp
            go_simp
            refine wpAnyH_take (i := 21) (v := .bool true) rfl (by kernel_rfl) (by kernel_rfl) (by kernel_rfl) (fun _ _ _ h => h) (Or.inl ⟨by rfl, ?_⟩) HS.out ?_
            · intro u hu; go_simp
            go_simp
            refine wpAnyH_take (i := 22) (v := .bool true) rfl (by kernel_rfl) (by kernel_rfl) (by kernel_rfl) (fun _ _ _ h => h) (Or.inl ⟨by rfl, ?_⟩) HS.out ?_
            · intro u hu; go_simp
            go_simp
            refine wpAnyH_take (i := 23) (v := .int .i64 (-1)) rfl (by kernel_rfl) (by kernel_rfl) (by kernel_rfl) (fun _ _ _ h => h) (Or.inl ⟨by rfl, ?_⟩) HS.out ?_
            · intro u hu; go_simp
            go_simp
            refine wpAnyH_take (i := 24) (v := .bool true) rfl (by kernel_rfl) (by kernel_rfl) (by kernel_rfl) (fun _ _ _ h => h) (Or.inl ⟨by rfl, ?_⟩) HS.out ?_
            · intro u hu; go_simp
            go_simp
            refine wpAnyH_take (i := 25) (v := .bool true) rfl (by kernel_rfl) (by kernel_rfl) (by kernel_rfl) (fun _ _ _ h => h) (Or.inl ⟨by rfl, ?_⟩) HS.out ?_
            · intro u hu; go_simp
            go_simp
            refine wpAnyH_take (i := 26) (v := .bool true) rfl (by kernel_rfl) (by kernel_rfl) (by kernel_rfl) (fun _ _ _ h => h) (Or.inl ⟨by rfl, ?_⟩) HS.out ?_
            · intro u hu; go_simp
            go_simp
            refine wpAnyH_done (by kernel_rfl) ?_ _
            obtain ⟨w9, hw9⟩ : ∃ w9, w9 = wr.drew := ⟨_, rfl⟩
            rw [← hw9]
            have hb9 : Below wr.heap.size wr w9 := by rw [hw9]; exact (Below.refl _ wr).drew
            have c0 : w9.cell? ⟨g9, k * 2, none⟩ = some (.int .i64 (p : Int)) := (hb9.cell (p := ⟨g9, k * 2, none⟩) hg9).trans C0.out
            have c1 : w9.cell? ⟨g9, k * 2 + 1, none⟩ = some (.int .i64 (q : Int)) := (hb9.cell (p := ⟨g9, k * 2 + 1, none⟩) hg9).trans C1.out
            have Hb9 := Lib.hid hb9
            clear HS hw9 hb9
            go_upto_region 10 with fail
            refine wp_region_held_drew (S := Below wr.heap.size wr) (by kernel_rfl) (Hb9.out.drew) (fun _ => ?_)
            have HS : Hid (Below wr.heap.size wr w9.drew) := Lib.hid (Hb9.out.drew)
            clear c0 c1
            refine wpAnyH_take (i := 0) (v := .int .i64 3) rfl (by kernel_rfl) (by kernel_rfl) (by kernel_rfl) (fun _ _ _ h => h) (Or.inl ⟨by rfl, ?_⟩) HS.out ?_
            · intro u hu; go_simp
            go_simp
            refine wpAnyH_take (i := 1) (v := .bool true) rfl (by kernel_rfl) (by kernel_rfl) (by kernel_rfl) (fun _ _ _ h => h) (Or.inl ⟨by rfl, ?_⟩) HS.out ?_
            · intro u hu; go_simp
            go_simp
            refine wpAnyH_take (i := 2) (v := .bool true) rfl (by kernel_rfl) (by kernel_rfl) (by kernel_rfl) (fun _ _ _ h => h) (Or.inl ⟨by rfl, ?_⟩) HS.out ?_
            · intro u hu; go_simp
            go_simp
            refine wpAnyH_take (i := 3) (v := .slice (some ⟨g9, 0, none⟩) n c9) rfl (by kernel_rfl) (by kernel_rfl) (by kernel_rfl) (fun _ _ _ h => h) (Or.inl ⟨by rfl, ?_⟩) HS.out ?_
            · intro u hu; go_simp
            go_simp
            refine wpAnyH_take (i := 4) (v := .int .i64 (k : Int)) rfl (by kernel_rfl) (by kernel_rfl) (by kernel_rfl) (fun _ _ _ h => h) (Or.inl ⟨by rfl, ?_⟩) HS.out ?_
            · intro u hu; go_simp
            go_simp
            refine wpAnyH_take (i := 5) (v := .pointer (some ⟨g9, k * 2, none⟩)) rfl (by kernel_rfl) (by kernel_rfl) (by kernel_rfl) (fun _ _ _ h => h) (Or.inl ⟨by rfl, ?_⟩) HS.out ?_
            · intro u hu; go_simp
            go_simp
            refine wpAnyH_take (i := 6) (v := .pointer (some ⟨g9, k * 2, none⟩)) rfl (by kernel_rfl) (by kernel_rfl) (by kernel_rfl) (fun _ _ _ h => h) (Or.inl ⟨by rfl, ?_⟩) HS.out ?_
            · intro u hu; go_simp
            go_simp
            refine wpAnyH_take (i := 7) (v := .int .i64 (p : Int)) rfl (by kernel_rfl) (by kernel_rfl) (by kernel_rfl) (fun _ _ _ h => h) (Or.inl ⟨by rfl, ?_⟩) HS.out ?_
            · intro u hu; have := (hu.cell (p := ⟨g9, k * 2, none⟩) hg9).trans C0.out; go_simp
            go_simp
            refine wpAnyH_take (i := 8) (v := .slice (some ⟨g9, 0, none⟩) n c9) rfl (by kernel_rfl) (by kernel_rfl) (by kernel_rfl) (fun _ _ _ h => h) (Or.inl ⟨by rfl, ?_⟩) HS.out ?_
            · intro u hu; go_simp
            go_simp
            refine wpAnyH_take (i := 9) (v := .int .i64 (k : Int)) rfl (by kernel_rfl) (by kernel_rfl) (by kernel_rfl) (fun _ _ _ h => h) (Or.inl ⟨by rfl, ?_⟩) HS.out ?_
            · intro u hu; go_simp
            go_simp
            refine wpAnyH_take (i := 10) (v := .pointer (some ⟨g9, k * 2, none⟩)) rfl (by kernel_rfl) (by kernel_rfl) (by kernel_rfl) (fun _ _ _ h => h) (Or.inl ⟨by rfl, ?_⟩) HS.out ?_
            · intro u hu; go_simp
            go_simp
            refine wpAnyH_take (i := 11) (v := .pointer (some ⟨g9, k * 2 + 1, none⟩)) rfl (by kernel_rfl) (by kernel_rfl) (by kernel_rfl) (fun _ _ _ h => h) (Or.inl ⟨by rfl, ?_⟩) HS.out ?_
            · intro u hu; go_simp
            go_simp
            refine wpAnyH_take (i := 12) (v := .int .i64 (q : Int)) rfl (by kernel_rfl) (by kernel_rfl) (by kernel_rfl) (fun _ _ _ h => h) (Or.inl ⟨by rfl, ?_⟩) HS.out ?_
            · intro u hu; have := (hu.cell (p := ⟨g9, k * 2 + 1, none⟩) hg9).trans C1.out; go_simp
            go_simp
            refine wpAnyH_take (i := 13) (v := .int .i64 ((p : Int) + (q : Int))) rfl (by kernel_rfl) (by kernel_rfl) (by kernel_rfl) (fun _ _ _ h => h) (Or.inl ⟨by rfl, ?_⟩) HS.out ?_
            · intro u hu; go_simp
            go_simp
            refine wpAnyH_take (i := 14) (v := .int .i64 (mx : Int)) rfl (by kernel_rfl) (by kernel_rfl) (by kernel_rfl) (fun _ _ _ h => h) (Or.inl ⟨by rfl, ?_⟩) HS.out ?_
            · intro u hu; go_simp
            go_simp
            refine wpAnyH_take (i := 15) (v := .int .i64 ((p : Int) + (q : Int) - (mx : Int))) rfl (by kernel_rfl) (by kernel_rfl) (by kernel_rfl) (fun _ _ _ h => h) (Or.inl ⟨by rfl, ?_⟩) HS.out ?_
            · intro u hu; go_simp
            go_simp
            refine wpAnyH_take (i := 16) (v := .int .i64 many) rfl (by kernel_rfl) (by kernel_rfl) (by kernel_rfl) (fun _ _ _ h => h) (Or.inl ⟨by rfl, ?_⟩) HS.out ?_
            · intro u hu; go_simp
            go_simp
            refine wpAnyH_take (i := 17) (v := .bool true) rfl (by kernel_rfl) (by kernel_rfl) (by kernel_rfl) (fun _ _ _ h => h) (Or.inl ⟨by rfl, ?_⟩) HS.out ?_
            · intro u hu; go_simp
            go_simp
            refine wpAnyH_take (i := 18) (v := .bool true) rfl (by kernel_rfl) (by kernel_rfl) (by kernel_rfl) (fun _ _ _ h => h) (Or.inl ⟨by rfl, ?_⟩) HS.out ?_
            · intro u hu; go_simp
            go_simp
            refine wpAnyH_done (by kernel_rfl) ?_ _
            have Hb := Lib.hid (Hbr.out.trans (HS.out.mono Hbr.out.size))
            clear HS Hb9
            go_wp2_with fail
            go_ret
            exact ⟨by rw [Hret.out]; rfl, Hb1.out.trans (Hb.out.mono Hb1.out.size)⟩
          · have hfd : (p : Int) + (q : Int) - (mx : Int) < many := by omega
            have Hfit : Hid (3 = 3 → ∀ r ∈ L.take (k + 1), fitB many near r = false) := Lib.hid (fun h3 r hr => by
              rw [Htk.out] at hr
              rcases List.mem_append.1 hr with hr | hr
              · exact Hfit0.out h3 r hr
              · obtain rfl : r = (p, q) := by simpa using hr
                unfold fitB; simp only; rw [em]; exact decide_eq_false hf)
            clear hf
            go_upto_region 7 with fail
            refine wp_region_held_drew (S := Below wr.heap.size wr) (by kernel_rfl) ((Below.refl _ wr).drew) (fun _ => ?_)
            have HS : Hid (Below wr.heap.size wr wr.drew) := Lib.hid ((Below.refl _ wr).drew)
            clear c0 c1
            refine wpAnyH_take (i := 0) (v := .int .i64 3) rfl (by kernel_rfl) (by kernel_rfl) (by kernel_rfl) (fun _ _ _ h => h) (Or.inl ⟨by rfl, ?_⟩) HS.out ?_
            · intro u hu; go_simp
            go_simp
            refine wpAnyH_take (i := 1) (v := .bool false) rfl (by kernel_rfl) (by kernel_rfl) (by kernel_rfl) (fun _ _ _ h => h) (Or.inl ⟨by rfl, ?_⟩) HS.out ?_
            · intro u hu; go_simp
            go_simp
            refine wpAnyH_take (i := 2) (v := .bool false) rfl (by kernel_rfl) (by kernel_rfl) (by kernel_rfl) (fun _ _ _ h => h) (Or.inl ⟨by rfl, ?_⟩) HS.out ?_
            · intro u hu; go_simp
            go_simp
            refine wpAnyH_take (i := 3) (v := undef) rfl (by kernel_rfl) (by kernel_rfl) (by kernel_rfl) (fun _ _ _ h => h) (Or.inr ⟨by rfl, rfl⟩) HS.out ?_
            go_simp
            refine wpAnyH_take (i := 4) (v := undef) rfl (by kernel_rfl) (by kernel_rfl) (by kernel_rfl) (fun _ _ _ h => h) (Or.inr ⟨by rfl, rfl⟩) HS.out ?_
            go_simp
            refine wpAnyH_take (i := 5) (v := undef) rfl (by kernel_rfl) (by kernel_rfl) (by kernel_rfl) (fun _ _ _ h => h) (Or.inr ⟨by rfl, rfl⟩) HS.out ?_
            go_simp
            refine wpAnyH_take (i := 6) (v := undef) rfl (by kernel_rfl) (by kernel_rfl) (by kernel_rfl) (fun _ _ _ h => h) (Or.inr ⟨by rfl, rfl⟩) HS.out ?_
            go_simp
            refine wpAnyH_take (i := 7) (v := undef) rfl (by kernel_rfl) (by kernel_rfl) (by kernel_rfl) (fun _ _ _ h => h) (Or.inr ⟨by rfl, rfl⟩) HS.out ?_
            go_simp
            refine wpAnyH_take (i := 8) (v := undef) rfl (by kernel_rfl) (by kernel_rfl) (by kernel_rfl) (fun _ _ _ h => h) (Or.inr ⟨by rfl, rfl⟩) HS.out ?_
            go_simp
            refine wpAnyH_take (i := 9) (v := undef) rfl (by kernel_rfl) (by kernel_rfl) (by kernel_rfl) (fun _ _ _ h => h) (Or.inr ⟨by rfl, rfl⟩) HS.out ?_
            go_simp
            refine wpAnyH_take (i := 10) (v := undef) rfl (by kernel_rfl) (by kernel_rfl) (by kernel_rfl) (fun _ _ _ h => h) (Or.inr ⟨by rfl, rfl⟩) HS.out ?_
            go_simp
            refine wpAnyH_take (i := 11) (v := undef) rfl (by kernel_rfl) (by kernel_rfl) (by kernel_rfl) (fun _ _ _ h => h) (Or.inr ⟨by rfl, rfl⟩) HS.out ?_
            go_simp
            refine wpAnyH_take (i := 12) (v := undef) rfl (by kernel_rfl) (by kernel_rfl) (by kernel_rfl) (fun _ _ _ h => h) (Or.inr ⟨by rfl, rfl⟩) HS.out ?_
            go_simp
            refine wpAnyH_take (i := 13) (v := undef) rfl (by kernel_rfl) (by kernel_rfl) (by kernel_rfl) (fun _ _ _ h => h) (Or.inr ⟨by rfl, rfl⟩) HS.out ?_
            go_simp
            refine wpAnyH_take (i := 14) (v := undef) rfl (by kernel_rfl) (by kernel_rfl) (by kernel_rfl) (fun _ _ _ h => h) (Or.inr ⟨by rfl, rfl⟩) HS.out ?_
            go_simp
            refine wpAnyH_take (i := 15) (v := undef) rfl (by kernel_rfl) (by kernel_rfl) (by kernel_rfl) (fun _ _ _ h => h) (Or.inr ⟨by rfl, rfl⟩) HS.out ?_
            go_simp
            refine wpAnyH_take (i := 16) (v := undef) rfl (by kernel_rfl) (by kernel_rfl) (by kernel_rfl) (fun _ _ _ h => h) (Or.inr ⟨by rfl, rfl⟩) HS.out ?_
            go_simp
            refine wpAnyH_take (i := 17) (v := undef) rfl (by kernel_rfl) (by kernel_rfl) (by kernel_rfl) (fun _ _ _ h => h) (Or.inr ⟨by rfl, rfl⟩) HS.out ?_
            go_simp
            refine wpAnyH_take (i := 18) (v := .bool false) rfl (by kernel_rfl) (by kernel_rfl) (by kernel_rfl) (fun _ _ _ h => h) (Or.inl ⟨by rfl, ?_⟩) HS.out ?_
            · intro u hu; go_simp
            go_simp
            refine wpAnyH_take (i := 19) (v := .bool false) rfl (by kernel_rfl) (by kernel_rfl) (by kernel_rfl) (fun _ _ _ h => h) (Or.inl ⟨by rfl, ?_⟩) HS.out ?_
            · intro u hu; go_simp
            go_simp
            refine wpAnyH_take (i := 20) (v := .int .i64 3) rfl (by kernel_rfl) (by kernel_rfl) (by kernel_rfl) (fun _ _ _ h => h) (Or.inl ⟨by rfl, ?_⟩) HS.out ?_
            · intro u hu; go_simp
            go_simp
            refine wpAnyH_take (i := 21) (v := .bool true) rfl (by kernel_rfl) (by kernel_rfl) (by kernel_rfl) (fun _ _ _ h => h) (Or.inl ⟨by rfl, ?_⟩) HS.out ?_
            · intro u hu; go_simp
            go_simp
            refine wpAnyH_take (i := 22) (v := .bool true) rfl (by kernel_rfl) (by kernel_rfl) (by kernel_rfl) (fun _ _ _ h => h) (Or.inl ⟨by rfl, ?_⟩) HS.out ?_
            · intro u hu; go_simp
            go_simp
            refine wpAnyH_take (i := 23) (v := .int .i64 (-1)) rfl (by kernel_rfl) (by kernel_rfl) (by kernel_rfl) (fun _ _ _ h => h) (Or.inl ⟨by rfl, ?_⟩) HS.out ?_
            · intro u hu; go_simp
            go_simp
            refine wpAnyH_take (i := 24) (v := .bool true) rfl (by kernel_rfl) (by kernel_rfl) (by kernel_rfl) (fun _ _ _ h => h) (Or.inl ⟨by rfl, ?_⟩) HS.out ?_
            · intro u hu; go_simp
            go_simp
            refine wpAnyH_take (i := 25) (v := .bool true) rfl (by kernel_rfl) (by kernel_rfl) (by kernel_rfl) (fun _ _ _ h => h) (Or.inl ⟨by rfl, ?_⟩) HS.out ?_
            · intro u hu; go_simp
            go_simp
            refine wpAnyH_take (i := 26) (v := .bool true) rfl (by kernel_rfl) (by kernel_rfl) (by kernel_rfl) (fun _ _ _ h => h) (Or.inl ⟨by rfl, ?_⟩) HS.out ?_
            · intro u hu; go_simp
            go_simp
            refine wpAnyH_done (by kernel_rfl) ?_ _
            obtain ⟨w9, hw9⟩ : ∃ w9, w9 = wr.drew := ⟨_, rfl⟩
            rw [← hw9]
            have hb9 : Below wr.heap.size wr w9 := by rw [hw9]; exact (Below.refl _ wr).drew
            have c0 : w9.cell? ⟨g9, k * 2, none⟩ = some (.int .i64 (p : Int)) := (hb9.cell (p := ⟨g9, k * 2, none⟩) hg9).trans C0.out
            have c1 : w9.cell? ⟨g9, k * 2 + 1, none⟩ = some (.int .i64 (q : Int)) := (hb9.cell (p := ⟨g9, k * 2 + 1, none⟩) hg9).trans C1.out
            have Hb9 := Lib.hid hb9
            clear HS hw9 hb9
            go_upto_region 10 with fail
            refine wp_region_held_drew (S := Below wr.heap.size wr) (by kernel_rfl) (Hb9.out.drew) (fun _ => ?_)
            have HS : Hid (Below wr.heap.size wr w9.drew) := Lib.hid (Hb9.out.drew)
            clear c0 c1
            refine wpAnyH_take (i := 0) (v := .int .i64 3) rfl (by kernel_rfl) (by kernel_rfl) (by kernel_rfl) (fun _ _ _ h => h) (Or.inl ⟨by rfl, ?_⟩) HS.out ?_
            · intro u hu; go_simp
            go_simp
            refine wpAnyH_take (i := 1) (v := .bool true) rfl (by kernel_rfl) (by kernel_rfl) (by kernel_rfl) (fun _ _ _ h => h) (Or.inl ⟨by rfl, ?_⟩) HS.out ?_
            · intro u hu; go_simp
            go_simp
            refine wpAnyH_take (i := 2) (v := .bool true) rfl (by kernel_rfl) (by kernel_rfl) (by kernel_rfl) (fun _ _ _ h => h) (Or.inl ⟨by rfl, ?_⟩) HS.out ?_
            · intro u hu; go_simp
            go_simp
            refine wpAnyH_take (i := 3) (v := .slice (some ⟨g9, 0, none⟩) n c9) rfl (by kernel_rfl) (by kernel_rfl) (by kernel_rfl) (fun _ _ _ h => h) (Or.inl ⟨by rfl, ?_⟩) HS.out ?_
            · intro u hu; go_simp
            go_simp
            refine wpAnyH_take (i := 4) (v := .int .i64 (k : Int)) rfl (by kernel_rfl) (by kernel_rfl) (by kernel_rfl) (fun _ _ _ h => h) (Or.inl ⟨by rfl, ?_⟩) HS.out ?_
            · intro u hu; go_simp
            go_simp
            refine wpAnyH_take (i := 5) (v := .pointer (some ⟨g9, k * 2, none⟩)) rfl (by kernel_rfl) (by kernel_rfl) (by kernel_rfl) (fun _ _ _ h => h) (Or.inl ⟨by rfl, ?_⟩) HS.out ?_
            · intro u hu; go_simp
            go_simp
            refine wpAnyH_take (i := 6) (v := .pointer (some ⟨g9, k * 2, none⟩)) rfl (by kernel_rfl) (by kernel_rfl) (by kernel_rfl) (fun _ _ _ h => h) (Or.inl ⟨by rfl, ?_⟩) HS.out ?_
            · intro u hu; go_simp
            go_simp
            refine wpAnyH_take (i := 7) (v := .int .i64 (p : Int)) rfl (by kernel_rfl) (by kernel_rfl) (by kernel_rfl) (fun _ _ _ h => h) (Or.inl ⟨by rfl, ?_⟩) HS.out ?_
            · intro u hu; have := (hu.cell (p := ⟨g9, k * 2, none⟩) hg9).trans C0.out; go_simp
            go_simp
            refine wpAnyH_take (i := 8) (v := .slice (some ⟨g9, 0, none⟩) n c9) rfl (by kernel_rfl) (by kernel_rfl) (by kernel_rfl) (fun _ _ _ h => h) (Or.inl ⟨by rfl, ?_⟩) HS.out ?_
            · intro u hu; go_simp
            go_simp
            refine wpAnyH_take (i := 9) (v := .int .i64 (k : Int)) rfl (by kernel_rfl) (by kernel_rfl) (by kernel_rfl) (fun _ _ _ h => h) (Or.inl ⟨by rfl, ?_⟩) HS.out ?_
            · intro u hu; go_simp
            go_simp
            refine wpAnyH_take (i := 10) (v := .pointer (some ⟨g9, k * 2, none⟩)) rfl (by kernel_rfl) (by kernel_rfl) (by kernel_rfl) (fun _ _ _ h => h) (Or.inl ⟨by rfl, ?_⟩) HS.out ?_
            · intro u hu; go_simp
            go_simp
            refine wpAnyH_take (i := 11) (v := .pointer (some ⟨g9, k * 2 + 1, none⟩)) rfl (by kernel_rfl) (by kernel_rfl) (by kernel_rfl) (fun _ _ _ h => h) (Or.inl ⟨by rfl, ?_⟩) HS.out ?_
            · intro u hu; go_simp
            go_simp
            refine wpAnyH_take (i := 12) (v := .int .i64 (q : Int)) rfl (by kernel_rfl) (by kernel_rfl) (by kernel_rfl) (fun _ _ _ h => h) (Or.inl ⟨by rfl, ?_⟩) HS.out ?_
            · intro u hu; have := (hu.cell (p := ⟨g9, k * 2 + 1, none⟩) hg9).trans C1.out; go_simp
            go_simp
            refine wpAnyH_take (i := 13) (v := .int .i64 ((p : Int) + (q : Int))) rfl (by kernel_rfl) (by kernel_rfl) (by kernel_rfl) (fun _ _ _ h => h) (Or.inl ⟨by rfl, ?_⟩) HS.out ?_
            · intro u hu; go_simp
            go_simp
            refine wpAnyH_take (i := 14) (v := .int .i64 (mx : Int)) rfl (by kernel_rfl) (by kernel_rfl) (by kernel_rfl) (fun _ _ _ h => h) (Or.inl ⟨by rfl, ?_⟩) HS.out ?_
            · intro u hu; go_simp
            go_simp
            refine wpAnyH_take (i := 15) (v := .int .i64 ((p : Int) + (q : Int) - (mx : Int))) rfl (by kernel_rfl) (by kernel_rfl) (by kernel_rfl) (fun _ _ _ h => h) (Or.inl ⟨by rfl, ?_⟩) HS.out ?_
            · intro u hu; go_simp
            go_simp
            refine wpAnyH_take (i := 16) (v := .int .i64 many) rfl (by kernel_rfl) (by kernel_rfl) (by kernel_rfl) (fun _ _ _ h => h) (Or.inl ⟨by rfl, ?_⟩) HS.out ?_
            · intro u hu; go_simp
            go_simp
            refine wpAnyH_take (i := 17) (v := .bool false) rfl (by kernel_rfl) (by kernel_rfl) (by kernel_rfl) (fun _ _ _ h => h) (Or.inl ⟨by rfl, ?_⟩) HS.out ?_
            · intro u hu; go_simp
            go_simp
            refine wpAnyH_take (i := 18) (v := .bool false) rfl (by kernel_rfl) (by kernel_rfl) (by kernel_rfl) (fun _ _ _ h => h) (Or.inl ⟨by rfl, ?_⟩) HS.out ?_
            · intro u hu; go_simp
            go_simp
            refine wpAnyH_done (by kernel_rfl) ?_ _
            have Hb := Lib.hid (Hbr.out.trans (HS.out.mono Hbr.out.size))
            clear HS Hb9
            go_wp2_with fail
            go_roundw
            case rel => exact ⟨k + 1, _, rfl, by go_num, by omega, (fun _ => Hfit.out rfl), Lib.hid (.inr ⟨k, by omega, rfl, Hsel.out⟩), Hb.out⟩
            case measure => simp only [intOf]; omega
        · have hjn : (j : Int) < (n : Int) := by omega
          have Hsel : Hid (selR false many (L.take (k + 1)) = some (L.getD j (0, 0))) := Lib.hid (by rw [Htk.out, selR_snoc, hsome]; simp [stepH])
          clear hsome Hs
          by_cases hf : many ≤ (p : Int) + (q : Int) - (mx : Int)
          · have hfd : many ≤ (p : Int) + (q : Int) - (mx : Int) := hf
            have Hret : Hid (refV L many near 3 = (mx : Int)) := Lib.hid (by rw [refV_first (k := k) (by rw [Hln.out]; exact hlt) (Hfit0.out rfl) (by rw [← Hrr.out]; unfold fitB; simp only; rw [em]; exact decide_eq_true hf), ← Hrr.out, Hmx.out])
            go_upto_region 7 with fail
            refine wp_region_held_drew (S := Below wr.heap.size wr) (by kernel_rfl) ((Below.refl _ wr).drew) (fun _ => ?_)
            have HS : Hid (Below wr.heap.size wr wr.drew) := Lib.hid ((Below.refl _ wr).drew)
            clear c0 c1
            refine wpAnyH_take (i := 0) (v := .int .i64 3) rfl (by kernel_rfl) (by kernel_rfl) (by kernel_rfl) (fun _ _ _ h => h) (Or.inl ⟨by rfl, ?_⟩) HS.out ?_
            · intro u hu; go_simp
            go_simp
            refine wpAnyH_take (i := 1) (v := .bool false) rfl (by kernel_rfl) (by kernel_rfl) (by kernel_rfl) (fun _ _ _ h => h) (Or.inl ⟨by rfl, ?_⟩) HS.out ?_
            · intro u hu; go_simp
            go_simp
            refine wpAnyH_take (i := 2) (v := .bool false) rfl (by kernel_rfl) (by kernel_rfl) (by kernel_rfl) (fun _ _ _ h => h) (Or.inl ⟨by rfl, ?_⟩) HS.out ?_
            · intro u hu; go_simp
            go_simp
            refine wpAnyH_take (i := 3) (v := undef) rfl (by kernel_rfl) (by kernel_rfl) (by kernel_rfl) (fun _ _ _ h => h) (Or.inr ⟨by rfl, rfl⟩) HS.out ?_
            go_simp
            refine wpAnyH_take (i := 4) (v := undef) rfl (by kernel_rfl) (by kernel_rfl) (by kernel_rfl) (fun _ _ _ h => h) (Or.inr ⟨by rfl, rfl⟩) HS.out ?_
            go_simp
            refine wpAnyH_take (i := 5) (v := undef) rfl (by kernel_rfl) (by kernel_rfl) (by kernel_rfl) (fun _ _ _ h => h) (Or.inr ⟨by rfl, rfl⟩) HS.out ?_
            go_simp
            refine wpAnyH_take (i := 6) (v := undef) rfl (by kernel_rfl) (by kernel_rfl) (by kernel_rfl) (fun _ _ _ h => h) (Or.inr ⟨by rfl, rfl⟩) HS.out ?_
            go_simp
            refine wpAnyH_take (i := 7) (v := undef) rfl (by kernel_rfl) (by kernel_rfl) (by kernel_rfl) (fun _ _ _ h => h) (Or.inr ⟨by rfl, rfl⟩) HS.out ?_
            go_simp
            refine wpAnyH_take (i := 8) (v := undef) rfl (by kernel_rfl) (by kernel_rfl) (by kernel_rfl) (fun _ _ _ h => h) (Or.inr ⟨by rfl, rfl⟩) HS.out ?_
            go_simp
            refine wpAnyH_take (i := 9) (v := undef) rfl (by kernel_rfl) (by kernel_rfl) (by kernel_rfl) (fun _ _ _ h => h) (Or.inr ⟨by rfl, rfl⟩) HS.out ?_
            go_simp
            refine wpAnyH_take (i := 10) (v := undef) rfl (by kernel_rfl) (by kernel_rfl) (by kernel_rfl) (fun _ _ _ h => h) (Or.inr ⟨by rfl, rfl⟩) HS.out ?_
            go_simp
            refine wpAnyH_take (i := 11) (v := undef) rfl (by kernel_rfl) (by kernel_rfl) (by kernel_rfl) (fun _ _ _ h => h) (Or.inr ⟨by rfl, rfl⟩) HS.out ?_
            go_simp
            refine wpAnyH_take (i := 12) (v := undef) rfl (by kernel_rfl) (by kernel_rfl) (by kernel_rfl) (fun _ _ _ h => h) (Or.inr ⟨by rfl, rfl⟩) HS.out ?_
            go_simp
            refine wpAnyH_take (i := 13) (v := undef) rfl (by kernel_rfl) (by kernel_rfl) (by kernel_rfl) (fun _ _ _ h => h) (Or.inr ⟨by rfl, rfl⟩) HS.out ?_
            go_simp
            refine wpAnyH_take (i := 14) (v := undef) rfl (by kernel_rfl) (by kernel_rfl) (by kernel_rfl) (fun _ _ _ h => h) (Or.inr ⟨by rfl, rfl⟩) HS.out ?_
            go_simp
            refine wpAnyH_take (i := 15) (v := undef) rfl (by kernel_rfl) (by kernel_rfl) (by kernel_rfl) (fun _ _ _ h => h) (Or.inr ⟨by rfl, rfl⟩) HS.out ?_
            go_simp
            refine wpAnyH_take (i := 16) (v := undef) rfl (by kernel_rfl) (by kernel_rfl) (by kernel_rfl) (fun _ _ _ h => h) (Or.inr ⟨by rfl, rfl⟩) HS.out ?_
            go_simp
            refine wpAnyH_take (i := 17) (v := undef) rfl (by kernel_rfl) (by kernel_rfl) (by kernel_rfl) (fun _ _ _ h => h) (Or.inr ⟨by rfl, rfl⟩) HS.out ?_
            go_simp
            refine wpAnyH_take (i := 18) (v := .bool false) rfl (by kernel_rfl) (by kernel_rfl) (by kernel_rfl) (fun _ _ _ h => h) (Or.inl ⟨by rfl, ?_⟩) HS.out ?_
            · intro u hu; go_simp
            go_simp
            refine wpAnyH_take (i := 19) (v := .bool false) rfl (by kernel_rfl) (by kernel_rfl) (by kernel_rfl) (fun _ _ _ h => h) (Or.inl ⟨by rfl, ?_⟩) HS.out ?_
            · intro u hu; go_simp
            go_simp
            refine wpAnyH_take (i := 20) (v := .int .i64 3) rfl (by kernel_rfl) (by kernel_rfl) (by kernel_rfl) (fun _ _ _ h => h) (Or.inl ⟨by rfl, ?_⟩) HS.out ?_
            · intro u hu; go_simp
            go_simp
            refine wpAnyH_take (i := 21) (v := .bool true) rfl (by kernel_rfl) (by kernel_rfl) (by kernel_rfl) (fun _ _ _ h => h) (Or.inl ⟨by rfl, ?_⟩) HS.out ?_
            · intro u hu; go_simp
            go_simp
            refine wpAnyH_take (i := 22) (v := .bool true) rfl (by kernel_rfl) (by kernel_rfl) (by kernel_rfl) (fun _ _ _ h => h) (Or.inl ⟨by rfl, ?_⟩) HS.out ?_
            · intro u hu; go_simp
            go_simp
            refine wpAnyH_take (i := 23) (v := .int .i64 (j : Int)) rfl (by kernel_rfl) (by kernel_rfl) (by kernel_rfl) (fun _ _ _ h => h) (Or.inl ⟨by rfl, ?_⟩) HS.out ?_
            · intro u hu; go_simp
            go_simp
            refine wpAnyH_take (i := 24) (v := .bool false) rfl (by kernel_rfl) (by kernel_rfl) (by kernel_rfl) (fun _ _ _ h => h) (Or.inl ⟨by rfl, ?_⟩) HS.out ?_
            · intro u hu; go_simp
            go_simp
            refine wpAnyH_take (i := 25) (v := .bool false) rfl (by kernel_rfl) (by kernel_rfl) (by kernel_rfl) (fun _ _ _ h => h) (Or.inl ⟨by rfl, ?_⟩) HS.out ?_
            · intro u hu; go_simp
            go_simp
            refine wpAnyH_take (i := 26) (v := .bool false) rfl (by kernel_rfl) (by kernel_rfl) (by kernel_rfl) (fun _ _ _ h => h) (Or.inl ⟨by rfl, ?_⟩) HS.out ?_
            · intro u hu; go_simp
            go_simp
            refine wpAnyH_done (by kernel_rfl) ?_ _
            obtain ⟨w9, hw9⟩ : ∃ w9, w9 = wr.drew := ⟨_, rfl⟩
            rw [← hw9]
            have hb9 : Below wr.heap.size wr w9 := by rw [hw9]; exact (Below.refl _ wr).drew
            have c0 : w9.cell? ⟨g9, k * 2, none⟩ = some (.int .i64 (p : Int)) := (hb9.cell (p := ⟨g9, k * 2, none⟩) hg9).trans C0.out
            have c1 : w9.cell? ⟨g9, k * 2 + 1, none⟩ = some (.int .i64 (q : Int)) := (hb9.cell (p := ⟨g9, k * 2 + 1, none⟩) hg9).trans C1.out
            have Hb9 := Lib.hid hb9
            clear HS hw9 hb9
            go_upto_region 10 with fail
            refine wp_region_held_drew (S := Below wr.heap.size wr) (by kernel_rfl) (Hb9.out.drew) (fun _ => ?_)
            have HS : Hid (Below wr.heap.size wr w9.drew) := Lib.hid (Hb9.out.drew)
            clear c0 c1
            refine wpAnyH_take (i := 0) (v := .int .i64 3) rfl (by kernel_rfl) (by kernel_rfl) (by kernel_rfl) (fun _ _ _ h => h) (Or.inl ⟨by rfl, ?_⟩) HS.out ?_
            · intro u hu; go_simp
            go_simp
            refine wpAnyH_take (i := 1) (v := .bool true) rfl (by kernel_rfl) (by kernel_rfl) (by kernel_rfl) (fun _ _ _ h => h) (Or.inl ⟨by rfl, ?_⟩) HS.out ?_
            · intro u hu; go_simp
            go_simp
            refine wpAnyH_take (i := 2) (v := .bool true) rfl (by kernel_rfl) (by kernel_rfl) (by kernel_rfl) (fun _ _ _ h => h) (Or.inl ⟨by rfl, ?_⟩) HS.out ?_
            · intro u hu; go_simp
            go_simp
            refine wpAnyH_take (i := 3) (v := .slice (some ⟨g9, 0, none⟩) n c9) rfl (by kernel_rfl) (by kernel_rfl) (by kernel_rfl) (fun _ _ _ h => h) (Or.inl ⟨by rfl, ?_⟩) HS.out ?_
            · intro u hu; go_simp
            go_simp
            refine wpAnyH_take (i := 4) (v := .int .i64 (k : Int)) rfl (by kernel_rfl) (by kernel_rfl) (by kernel_rfl) (fun _ _ _ h => h) (Or.inl ⟨by rfl, ?_⟩) HS.out ?_
            · intro u hu; go_simp
            go_simp
            refine wpAnyH_take (i := 5) (v := .pointer (some ⟨g9, k * 2, none⟩)) rfl (by kernel_rfl) (by kernel_rfl) (by kernel_rfl) (fun _ _ _ h => h) (Or.inl ⟨by rfl, ?_⟩) HS.out ?_
            · intro u hu; go_simp
            go_simp
            refine wpAnyH_take (i := 6) (v := .pointer (some ⟨g9, k * 2, none⟩)) rfl (by kernel_rfl) (by kernel_rfl) (by kernel_rfl) (fun _ _ _ h => h) (Or.inl ⟨by rfl, ?_⟩) HS.out ?_
            · intro u hu; go_simp
            go_simp
            refine wpAnyH_take (i := 7) (v := .int .i64 (p : Int)) rfl (by kernel_rfl) (by kernel_rfl) (by kernel_rfl) (fun _ _ _ h => h) (Or.inl ⟨by rfl, ?_⟩) HS.out ?_
            · intro u hu; have := (hu.cell (p := ⟨g9, k * 2, none⟩) hg9).trans C0.out; go_simp
            go_simp
            refine wpAnyH_take (i := 8) (v := .slice (some ⟨g9, 0, none⟩) n c9) rfl (by kernel_rfl) (by kernel_rfl) (by kernel_rfl) (fun _ _ _ h => h) (Or.inl ⟨by rfl, ?_⟩) HS.out ?_
            · intro u hu; go_simp
            go_simp
            refine wpAnyH_take (i := 9) (v := .int .i64 (k : Int)) rfl (by kernel_rfl) (by kernel_rfl) (by kernel_rfl) (fun _ _ _ h => h) (Or.inl ⟨by rfl, ?_⟩) HS.out ?_
            · intro u hu; go_simp
            go_simp
            refine wpAnyH_take (i := 10) (v := .pointer (some ⟨g9, k * 2, none⟩)) rfl (by kernel_rfl) (by kernel_rfl) (by kernel_rfl) (fun _ _ _ h => h) (Or.inl ⟨by rfl, ?_⟩) HS.out ?_
            · intro u hu; go_simp
            go_simp
            refine wpAnyH_take (i := 11) (v := .pointer (some ⟨g9, k * 2 + 1, none⟩)) rfl (by kernel_rfl) (by kernel_rfl) (by kernel_rfl) (fun _ _ _ h => h) (Or.inl ⟨by rfl, ?_⟩) HS.out ?_
            · intro u hu; go_simp
            go_simp
            refine wpAnyH_take (i := 12) (v := .int .i64 (q : Int)) rfl (by kernel_rfl) (by kernel_rfl) (by kernel_rfl) (fun _ _ _ h => h) (Or.inl ⟨by rfl, ?_⟩) HS.out ?_
            · intro u hu; have := (hu.cell (p := ⟨g9, k * 2 + 1, none⟩) hg9).trans C1.out; go_simp
            go_simp
            refine wpAnyH_take (i := 13) (v := .int .i64 ((p : Int) + (q : Int))) rfl (by kernel_rfl) (by kernel_rfl) (by kernel_rfl) (fun _ _ _ h => h) (Or.inl ⟨by rfl, ?_⟩) HS.out ?_
            · intro u hu; go_simp
            go_simp
            refine wpAnyH_take (i := 14) (v := .int .i64 (mx : Int)) rfl (by kernel_rfl) (by kernel_rfl) (by kernel_rfl) (fun _ _ _ h => h) (Or.inl ⟨by rfl, ?_⟩) HS.out ?_
            · intro u hu; go_simp
            go_simp
            refine wpAnyH_take (i := 15) (v := .int .i64 ((p : Int) + (q : Int) - (mx : Int))) rfl (by kernel_rfl) (by kernel_rfl) (by kernel_rfl) (fun _ _ _ h => h) (Or.inl ⟨by rfl, ?_⟩) HS.out ?_
            · intro u hu; go_simp
            go_simp
            refine wpAnyH_take (i := 16) (v := .int .i64 many) rfl (by kernel_rfl) (by kernel_rfl) (by kernel_rfl) (fun _ _ _ h => h) (Or.inl ⟨by rfl, ?_⟩) HS.out ?_
            · intro u hu; go_simp
            go_simp
            refine wpAnyH_take (i := 17) (v := .bool true) rfl (by kernel_rfl) (by kernel_rfl) (by kernel_rfl) (fun _ _ _ h => h) (Or.inl ⟨by rfl, ?_⟩) HS.out ?_
            · intro u hu; go_simp
            go_simp
            refine wpAnyH_take (i := 18) (v := .bool true) rfl (by kernel_rfl) (by kernel_rfl) (by kernel_rfl) (fun _ _ _ h => h) (Or.inl ⟨by rfl, ?_⟩) HS.out ?_
            · intro u hu; go_simp
            go_simp
            refine wpAnyH_done (by kernel_rfl) ?_ _
            have Hb := Lib.hid (Hbr.out.trans (HS.out.mono Hbr.out.size))
            clear HS Hb9
            go_wp2_with fail
            go_ret
            exact ⟨by rw [Hret.out]; rfl, Hb1.out.trans (Hb.out.mono Hb1.out.size)⟩
          · have hfd : (p : Int) + (q : Int) - (mx : Int) < many := by omega
            have Hfit : Hid (3 = 3 → ∀ r ∈ L.take (k + 1), fitB many near r = false) := Lib.hid (fun h3 r hr => by
              rw [Htk.out] at hr
              rcases List.mem_append.1 hr with hr | hr
              · exact Hfit0.out h3 r hr
              · obtain rfl : r = (p, q) := by simpa using hr
                unfold fitB; simp only; rw [em]; exact decide_eq_false hf)
            clear hf
            go_upto_region 7 with fail
            refine wp_region_held_drew (S := Below wr.heap.size wr) (by kernel_rfl) ((Below.refl _ wr).drew) (fun _ => ?_)
            have HS : Hid (Below wr.heap.size wr wr.drew) := Lib.hid ((Below.refl _ wr).drew)
            clear c0 c1
            refine wpAnyH_take (i := 0) (v := .int .i64 3) rfl (by kernel_rfl) (by kernel_rfl) (by kernel_rfl) (fun _ _ _ h => h) (Or.inl ⟨by rfl, ?_⟩) HS.out ?_
            · intro u hu; go_simp
            go_simp
            refine wpAnyH_take (i := 1) (v := .bool false) rfl (by kernel_rfl) (by kernel_rfl) (by kernel_rfl) (fun _ _ _ h => h) (Or.inl ⟨by rfl, ?_⟩) HS.out ?_
            · intro u hu; go_simp
            go_simp
            refine wpAnyH_take (i := 2) (v := .bool false) rfl (by kernel_rfl) (by kernel_rfl) (by kernel_rfl) (fun _ _ _ h => h) (Or.inl ⟨by rfl, ?_⟩) HS.out ?_
            · intro u hu; go_simp
            go_simp
            refine wpAnyH_take (i := 3) (v := undef) rfl (by kernel_rfl) (by kernel_rfl) (by kernel_rfl) (fun _ _ _ h => h) (Or.inr ⟨by rfl, rfl⟩) HS.out ?_
            go_simp
            refine wpAnyH_take (i := 4) (v := undef) rfl (by kernel_rfl) (by kernel_rfl) (by kernel_rfl) (fun _ _ _ h => h) (Or.inr ⟨by rfl, rfl⟩) HS.out ?_
            go_simp
            refine wpAnyH_take (i := 5) (v := undef) rfl (by kernel_rfl) (by kernel_rfl) (by kernel_rfl) (fun _ _ _ h => h) (Or.inr ⟨by rfl, rfl⟩) HS.out ?_
            go_simp
            refine wpAnyH_take (i := 6) (v := undef) rfl (by kernel_rfl) (by kernel_rfl) (by kernel_rfl) (fun _ _ _ h => h) (Or.inr ⟨by rfl, rfl⟩) HS.out ?_
            go_simp
            refine wpAnyH_take (i := 7) (v := undef) rfl (by kernel_rfl) (by kernel_rfl) (by kernel_rfl) (fun _ _ _ h => h) (Or.inr ⟨by rfl, rfl⟩) HS.out ?_
            go_simp
            refine wpAnyH_take (i := 8) (v := undef) rfl (by kernel_rfl) (by kernel_rfl) (by kernel_rfl) (fun _ _ _ h => h) (Or.inr ⟨by rfl, rfl⟩) HS.out ?_
            go_simp
            refine wpAnyH_take (i := 9) (v := undef) rfl (by kernel_rfl) (by kernel_rfl) (by kernel_rfl) (fun _ _ _ h => h) (Or.inr ⟨by rfl, rfl⟩) HS.out ?_
            go_simp
            refine wpAnyH_take (i := 10) (v := undef) rfl (by kernel_rfl) (by kernel_rfl) (by kernel_rfl) (fun _ _ _ h => h) (Or.inr ⟨by rfl, rfl⟩) HS.out ?_
            go_simp
            refine wpAnyH_take (i := 11) (v := undef) rfl (by kernel_rfl) (by kernel_rfl) (by kernel_rfl) (fun _ _ _ h => h) (Or.inr ⟨by rfl, rfl⟩) HS.out ?_
            go_simp
            refine wpAnyH_take (i := 12) (v := undef) rfl (by kernel_rfl) (by kernel_rfl) (by kernel_rfl) (fun _ _ _ h => h) (Or.inr ⟨by rfl, rfl⟩) HS.out ?_
            go_simp
            refine wpAnyH_take (i := 13) (v := undef) rfl (by kernel_rfl) (by kernel_rfl) (by kernel_rfl) (fun _ _ _ h => h) (Or.inr ⟨by rfl, rfl⟩) HS.out ?_
            go_simp
            refine wpAnyH_take (i := 14) (v := undef) rfl (by kernel_rfl) (by kernel_rfl) (by kernel_rfl) (fun _ _ _ h => h) (Or.inr ⟨by rfl, rfl⟩) HS.out ?_
            go_simp
            refine wpAnyH_take (i := 15) (v := undef) rfl (by kernel_rfl) (by kernel_rfl) (by kernel_rfl) (fun _ _ _ h => h) (Or.inr ⟨by rfl, rfl⟩) HS.out ?_
            go_simp
            refine wpAnyH_take (i := 16) (v := undef) rfl (by kernel_rfl) (by kernel_rfl) (by kernel_rfl) (fun _ _ _ h => h) (Or.inr ⟨by rfl, rfl⟩) HS.out ?_
            go_simp
            refine wpAnyH_take (i := 17) (v := undef) rfl (by kernel_rfl) (by kernel_rfl) (by kernel_rfl) (fun _ _ _ h => h) (Or.inr ⟨by rfl, rfl⟩) HS.out ?_
            go_simp
            refine wpAnyH_take (i := 18) (v := .bool false) rfl (by kernel_rfl) (by kernel_rfl) (by kernel_rfl) (fun _ _ _ h => h) (Or.inl ⟨by rfl, ?_⟩) HS.out ?_
            · intro u hu; go_simp
            go_simp
            refine wpAnyH_take (i := 19) (v := .bool false) rfl (by kernel_rfl) (by kernel_rfl) (by kernel_rfl) (fun _ _ _ h => h) (Or.inl ⟨by rfl, ?_⟩) HS.out ?_
            · intro u hu; go_simp
            go_simp
            refine wpAnyH_take (i := 20) (v := .int .i64 3) rfl (by kernel_rfl) (by kernel_rfl) (by kernel_rfl) (fun _ _ _ h => h) (Or.inl ⟨by rfl, ?_⟩) HS.out ?_
            · intro u hu; go_simp
            go_simp
            refine wpAnyH_take (i := 21) (v := .bool true) rfl (by kernel_rfl) (by kernel_rfl) (by kernel_rfl) (fun _ _ _ h => h) (Or.inl ⟨by rfl, ?_⟩) HS.out ?_
            · intro u hu; go_simp
            go_simp
            refine wpAnyH_take (i := 22) (v := .bool true) rfl (by kernel_rfl) (by kernel_rfl) (by kernel_rfl) (fun _ _ _ h => h) (Or.inl ⟨by rfl, ?_⟩) HS.out ?_
            · intro u hu; go_simp
            go_simp
            refine wpAnyH_take (i := 23) (v := .int .i64 (j : Int)) rfl (by kernel_rfl) (by kernel_rfl) (by kernel_rfl) (fun _ _ _ h => h) (Or.inl ⟨by rfl, ?_⟩) HS.out ?_
            · intro u hu; go_simp
            go_simp
            refine wpAnyH_take (i := 24) (v := .bool false) rfl (by kernel_rfl) (by kernel_rfl) (by kernel_rfl) (fun _ _ _ h => h) (Or.inl ⟨by rfl, ?_⟩) HS.out ?_
            · intro u hu; go_simp
            go_simp
            refine wpAnyH_take (i := 25) (v := .bool false) rfl (by kernel_rfl) (by kernel_rfl) (by kernel_rfl) (fun _ _ _ h => h) (Or.inl ⟨by rfl, ?_⟩) HS.out ?_
            · intro u hu; go_simp
            go_simp
            refine wpAnyH_take (i := 26) (v := .bool false) rfl (by kernel_rfl) (by kernel_rfl) (by kernel_rfl) (fun _ _ _ h => h) (Or.inl ⟨by rfl, ?_⟩) HS.out ?_
            · intro u hu; go_simp
            go_simp
            refine wpAnyH_done (by kernel_rfl) ?_ _
            obtain ⟨w9, hw9⟩ : ∃ w9, w9 = wr.drew := ⟨_, rfl⟩
            rw [← hw9]
            have hb9 : Below wr.heap.size wr w9 := by rw [hw9]; exact (Below.refl _ wr).drew
            have c0 : w9.cell? ⟨g9, k * 2, none⟩ = some (.int .i64 (p : Int)) := (hb9.cell (p := ⟨g9, k * 2, none⟩) hg9).trans C0.out
            have c1 : w9.cell? ⟨g9, k * 2 + 1, none⟩ = some (.int .i64 (q : Int)) := (hb9.cell (p := ⟨g9, k * 2 + 1, none⟩) hg9).trans C1.out
            have Hb9 := Lib.hid hb9
            clear HS hw9 hb9
            go_upto_region 10 with fail
            refine wp_region_held_drew (S := Below wr.heap.size wr) (by kernel_rfl) (Hb9.out.drew) (fun _ => ?_)
            have HS : Hid (Below wr.heap.size wr w9.drew) := Lib.hid (Hb9.out.drew)
            clear c0 c1
            refine wpAnyH_take (i := 0) (v := .int .i64 3) rfl (by kernel_rfl) (by kernel_rfl) (by kernel_rfl) (fun _ _ _ h => h) (Or.inl ⟨by rfl, ?_⟩) HS.out ?_
            · intro u hu; go_simp
            go_simp
            refine wpAnyH_take (i := 1) (v := .bool true) rfl (by kernel_rfl) (by kernel_rfl) (by kernel_rfl) (fun _ _ _ h => h) (Or.inl ⟨by rfl, ?_⟩) HS.out ?_
            · intro u hu; go_simp
            go_simp
            refine wpAnyH_take (i := 2) (v := .bool true) rfl (by kernel_rfl) (by kernel_rfl) (by kernel_rfl) (fun _ _ _ h => h) (Or.inl ⟨by rfl, ?_⟩) HS.out ?_
            · intro u hu; go_simp
            go_simp
            refine wpAnyH_take (i := 3) (v := .slice (some ⟨g9, 0, none⟩) n c9) rfl (by kernel_rfl) (by kernel_rfl) (by kernel_rfl) (fun _ _ _ h => h) (Or.inl ⟨by rfl, ?_⟩) HS.out ?_
            · intro u hu; go_simp
            go_simp
            refine wpAnyH_take (i := 4) (v := .int .i64 (k : Int)) rfl (by kernel_rfl) (by kernel_rfl) (by kernel_rfl) (fun _ _ _ h => h) (Or.inl ⟨by rfl, ?_⟩) HS.out ?_
            · intro u hu; go_simp
            go_simp
            refine wpAnyH_take (i := 5) (v := .pointer (some ⟨g9, k * 2, none⟩)) rfl (by kernel_rfl) (by kernel_rfl) (by kernel_rfl) (fun _ _ _ h => h) (Or.inl ⟨by rfl, ?_⟩) HS.out ?_
            · intro u hu; go_simp
            go_simp
            refine wpAnyH_take (i := 6) (v := .pointer (some ⟨g9, k * 2, none⟩)) rfl (by kernel_rfl) (by kernel_rfl) (by kernel_rfl) (fun _ _ _ h => h) (Or.inl ⟨by rfl, ?_⟩) HS.out ?_
            · intro u hu; go_simp
            go_simp
            refine wpAnyH_take (i := 7) (v := .int .i64 (p : Int)) rfl (by kernel_rfl) (by kernel_rfl) (by kernel_rfl) (fun _ _ _ h => h) (Or.inl ⟨by rfl, ?_⟩) HS.out ?_
            · intro u hu; have := (hu.cell (p := ⟨g9, k * 2, none⟩) hg9).trans C0.out; go_simp
            go_simp
            refine wpAnyH_take (i := 8) (v := .slice (some ⟨g9, 0, none⟩) n c9) rfl (by kernel_rfl) (by kernel_rfl) (by kernel_rfl) (fun _ _ _ h => h) (Or.inl ⟨by rfl, ?_⟩) HS.out ?_
            · intro u hu; go_simp
            go_simp
            refine wpAnyH_take (i := 9) (v := .int .i64 (k : Int)) rfl (by kernel_rfl) (by kernel_rfl) (by kernel_rfl) (fun _ _ _ h => h) (Or.inl ⟨by rfl, ?_⟩) HS.out ?_
            · intro u hu; go_simp
            go_simp
            refine wpAnyH_take (i := 10) (v := .pointer (some ⟨g9, k * 2, none⟩)) rfl (by kernel_rfl) (by kernel_rfl) (by kernel_rfl) (fun _ _ _ h => h) (Or.inl ⟨by rfl, ?_⟩) HS.out ?_
            · intro u hu; go_simp
            go_simp
            refine wpAnyH_take (i := 11) (v := .pointer (some ⟨g9, k * 2 + 1, none⟩)) rfl (by kernel_rfl) (by kernel_rfl) (by kernel_rfl) (fun _ _ _ h => h) (Or.inl ⟨by rfl, ?_⟩) HS.out ?_
            · intro u hu; go_simp
            go_simp
            refine wpAnyH_take (i := 12) (v := .int .i64 (q : Int)) rfl (by kernel_rfl) (by kernel_rfl) (by kernel_rfl) (fun _ _ _ h => h) (Or.inl ⟨by rfl, ?_⟩) HS.out ?_
            · intro u hu; have := (hu.cell (p := ⟨g9, k * 2 + 1, none⟩) hg9).trans C1.out; go_simp
            go_simp
            refine wpAnyH_take (i := 13) (v := .int .i64 ((p : Int) + (q : Int))) rfl (by kernel_rfl) (by kernel_rfl) (by kernel_rfl) (fun _ _ _ h => h) (Or.inl ⟨by rfl, ?_⟩) HS.out ?_
            · intro u hu; go_simp
            go_simp
            refine wpAnyH_take (i := 14) (v := .int .i64 (mx : Int)) rfl (by kernel_rfl) (by kernel_rfl) (by kernel_rfl) (fun _ _ _ h => h) (Or.inl ⟨by rfl, ?_⟩) HS.out ?_
            · intro u hu; go_simp
            go_simp
            refine wpAnyH_take (i := 15) (v := .int .i64 ((p : Int) + (q : Int) - (mx : Int))) rfl (by kernel_rfl) (by kernel_rfl) (by kernel_rfl) (fun _ _ _ h => h) (Or.inl ⟨by rfl, ?_⟩) HS.out ?_
            · intro u hu; go_simp
            go_simp
            refine wpAnyH_take (i := 16) (v := .int .i64 many) rfl (by kernel_rfl) (by kernel_rfl) (by kernel_rfl) (fun _ _ _ h => h) (Or.inl ⟨by rfl, ?_⟩) HS.out ?_
            · intro u hu; go_simp
            go_simp
            refine wpAnyH_take (i := 17) (v := .bool false) rfl (by kernel_rfl) (by kernel_rfl) (by kernel_rfl) (fun _ _ _ h => h) (Or.inl ⟨by rfl, ?_⟩) HS.out ?_
            · intro u hu; go_simp
            go_simp
            refine wpAnyH_take (i := 18) (v := .bool false) rfl (by kernel_rfl) (by kernel_rfl) (by kernel_rfl) (fun _ _ _ h => h) (Or.inl ⟨by rfl, ?_⟩) HS.out ?_
            · intro u hu; go_simp
            go_simp
            refine wpAnyH_done (by kernel_rfl) ?_ _
            have Hb := Lib.hid (Hbr.out.trans (HS.out.mono Hbr.out.size))
            clear HS Hb9
            go_wp2_with fail
            go_roundw
            case rel => exact ⟨k + 1, _, rfl, by go_num, by omega, (fun _ => Hfit.out rfl), Lib.hid (.inr ⟨j, by omega, rfl, Hsel.out⟩), Hb.out⟩
            case measure => simp only [intOf]; omega
    · obtain rfl : n = k := by omega
      have hfull : L.take n = L := List.take_of_length_le (by rw [Hln.out]; exact Nat.le_refl _)
      have hend := refV_end (L := L) (many := many) (near := near) (how := 3) (fun h3 r hr => Hfit0.out h3 r (by rw [hfull]; exact hr))
      rw [show decide (3 = 2) = false from by decide] at hend
      have hs := Hs.out
      rw [hfull] at hs
      rcases hs with ⟨rfl, hnone⟩ | ⟨j, hj, rfl, hsome⟩
      · rw [hnone] at hend
        have He := Lib.hid hend
        clear hend hnone hfull HR hbr Hs
        go_wp2_with fail
        go_ret
        exact ⟨by rw [He.out]; rfl, Hb1.out.trans (Hbr.out.mono Hb1.out.size)⟩
      · rw [hsome] at hend
        simp only at hend
        have hjn : (j : Int) < (n : Int) := by omega
        obtain ⟨g9, rfl, -, hg9⟩ := HR.addr (by omega)
        obtain ⟨cj, -⟩ := HR.at_ j (by rw [Hln.out]; exact hj)
        obtain ⟨pj, hpj⟩ : ∃ x, x = (L.getD j (0, 0)).1 := ⟨_, rfl⟩
        rw [← hpj] at cj hend
        have He := Lib.hid hend
        clear hend hsome hfull HR hbr Hs hpj
        go_wp2_with fail
        go_ret
        exact ⟨by rw [He.out]; rfl, Hb1.out.trans (Hbr.out.mono Hb1.out.size)⟩
end Go.Proofs.YthognmkjoekilaaDoor
