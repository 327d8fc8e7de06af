/- Patch answers as the chapter says. -/
import Derived.Test.YtlmknpljncpjiaaWrefuse
import Derived.Test.YtlmknpljncpjiaaWunpack
import Derived.Test.YtlmknpljncpjiaaWconcat
import Derived.Test.YtlmknpljncpjiaaLbegins
import Derived.BigQuiet
namespace Go.Proofs.Ytlmknpljncpjiaa
set_option linter.unusedVariables false
open Go.RowKit

theorem below_alloc_eq {w w' : World} {o : Obj} (h : w.alloc o = w') : Below w.heap.size w w' := by rw [← h]; exact (Below.refl _ w).alloc (Nat.le_refl _) _
theorem rest_part {w : World} {a : Option Addr} {len cap : Nat} {xs : List Int} (h : Rd w a len cap xs) (q : Nat) (hq : q ≤ len) : Rd w (if cap = q then a else Option.map (fun x => x.add q) a) (len - q) (cap - q) (xs.drop q) := by
  have hc := h.hc
  have hl := h.hl
  by_cases e : cap = q
  · rw [if_pos e, show len - q = 0 by omega, show cap - q = 0 by omega, List.drop_eq_nil_of_le (by omega)]
    exact h.cut0
  · rw [if_neg e]
    have := h.cut2 q (len - q) (by omega)
    rw [List.take_of_length_le (by rw [List.length_drop]; omega)] at this
    exact this
theorem three_parts (w : World) {a1 a2 a3 : Option Addr} {l1 l2 l3 c1 c2 c3 : Nat} {x1 x2 x3 : List Int} (h1 : Rd w a1 l1 c1 x1) (h2 : Rd w a2 l2 c2 x2) (h3 : Rd w a3 l3 c3 x3) :
    RdP (w.alloc (.cells #[.slice a1 l1 c1, .slice a2 l2 c2, .slice a3 l3 c3] 22)).drew (some ⟨w.heap.size, 0, none⟩) 3 3 [⟨a1, l1, c1, x1⟩, ⟨a2, l2, c2, x2⟩, ⟨a3, l3, c3, x3⟩] := by
  have hb := ((Below.refl w.heap.size w).alloc (Nat.le_refl _) (.cells #[.slice a1 l1 c1, .slice a2 l2 c2, .slice a3 l3 c3] 22)).drew
  refine ⟨rfl, Nat.le_refl _, by decide, fun p hp => ?_, fun _ => ⟨_, _, rfl, fun i hi => ?_⟩⟩
  · simp only [List.mem_cons, List.not_mem_nil, or_false] at hp
    rcases hp with rfl | rfl | rfl
    · exact h1.below hb (Nat.le_refl _)
    · exact h2.below hb (Nat.le_refl _)
    · exact h3.below hb (Nat.le_refl _)
  · have hc : ∀ j, (w.alloc (.cells #[.slice a1 l1 c1, .slice a2 l2 c2, .slice a3 l3 c3] 22)).drew.cell? ⟨w.heap.size, j, none⟩ = #[Value.slice a1 l1 c1, .slice a2 l2 c2, .slice a3 l3 c3][j]? := fun j => World.cell?_alloc_mark w _ _ (0, 0) j
    have : i = 0 ∨ i = 1 ∨ i = 2 := by simp at hi; omega
    rcases this with rfl | rfl | rfl
    · exact hc 0
    · exact hc 1
    · exact hc 2
theorem run_kind1 (w : World) : (Instr.index 121 (.agg kindTab) (.int .i64 1)).run Try.prog w = .ok (kindVal 1) w := by kernel_rfl
theorem run_kind2 (w : World) : (Instr.index 121 (.agg kindTab) (.int .i64 2)).run Try.prog w = .ok (kindVal 2) w := by kernel_rfl
theorem run_kind3 (w : World) : (Instr.index 121 (.agg kindTab) (.int .i64 3)).run Try.prog w = .ok (kindVal 3) w := by kernel_rfl
theorem run_kind4 (w : World) : (Instr.index 121 (.agg kindTab) (.int .i64 4)).run Try.prog w = .ok (kindVal 4) w := by kernel_rfl
theorem run_kind5 (w : World) : (Instr.index 121 (.agg kindTab) (.int .i64 5)).run Try.prog w = .ok (kindVal 5) w := by kernel_rfl
theorem run_kind (k : Int) (k1 : 1 ≤ k) (k5 : k ≤ 5) (w : World) : (Instr.index 121 (.agg kindTab) (.int .i64 k)).run Try.prog w = .ok (kindVal k) w := by
  have : k = 1 ∨ k = 2 ∨ k = 3 ∨ k = 4 ∨ k = 5 := by omega
  rcases this with rfl | rfl | rfl | rfl | rfl
  · exact run_kind1 w
  · exact run_kind2 w
  · exact run_kind3 w
  · exact run_kind4 w
  · exact run_kind5 w
set_option maxRecDepth 100000 in
set_option maxHeartbeats 1000000 in
/-- Where, of a field that there is not. -/
theorem where_out (a : Option Addr) (len cap : Nat) (fs : List Fld) (w : World) (h : RdF w a len cap fs) (a2 : Option Addr) (len2 cap2 : Nat) (bs : List Int) (h2 : Rd w a2 len2 cap2 bs) (hbig : len2 ≤ 140737488355328) (hch : checkV fs = 0) (hok : ∀ k, k < len → (atV fs bs k).1 = 0) (i : Int) (hi : i < 0 ∨ (len : Int) ≤ i) :
    Calls Try.prog 47 #[.slice a len cap, .slice a2 len2 cap2, .int .i64 i] w fun e w' => e = .returned (.tuple #[.int .i64 0, .int .i64 0, .int .i64 1]) ∧ Below w.heap.size w w' := by
  have h64 : len ≤ 64 := by have := (checkV_ok hch).1; have := h.hl; omega
  have C : Calls Try.prog 76 #[.slice a len cap, .slice a2 len2 cap2] w fun e w' => ∃ v0 v1, e = .returned (.tuple #[v0, v1, .int .i64 0]) ∧ Below w.heap.size w w' := by
    by_cases h0 : 0 < len
    · refine (readAll_ok a len cap fs w h a2 len2 cap2 bs h2 hbig hch h0 hok).mono ?_
      rintro e w1 ⟨v0, v1, items, rfl, -, -, -, -, hb⟩
      exact ⟨_, _, rfl, hb⟩
    · obtain rfl : len = 0 := by omega
      obtain rfl : fs = [] := by have := h.hl; simpa using this
      refine (readAll_nil a cap w h a2 len2 cap2 bs h2).mono ?_
      rintro e w1 ⟨v1, rfl, -, hb⟩
      exact ⟨_, _, rfl, hb⟩
  have C := Lib.hid C
  clear h h2 hch hok
  by_cases hneg : i < 0
  · clear hi
    go_enter Try.func47, Try.ntmps47
    go_wp2_with fail
    refine C.out.mono ?_
    rintro e w1 ⟨v0, v1, rfl, hb⟩
    have Hb := Lib.hid hb
    clear hb
    go_wp2
    go_ret3
    exact ⟨rfl, Hb.out⟩
  · have hge : i ≥ (len : Int) := by omega
    clear hi
    go_enter Try.func47, Try.ntmps47
    go_wp2_with fail
    refine C.out.mono ?_
    rintro e w1 ⟨v0, v1, rfl, hb⟩
    have Hb := Lib.hid hb
    clear hb
    go_wp2
    go_ret3
    exact ⟨rfl, Hb.out⟩
set_option maxRecDepth 100000 in
set_option maxHeartbeats 1000000 in
/-- Where Where refuses, Patch does. -/
theorem patch_no (a : Option Addr) (len cap : Nat) (w : World) (a2 : Option Addr) (len2 cap2 : Nat) (i : Int) (n : Int) (a3 : Option Addr) (len3 cap3 : Nat) (er : Int) (hne : er ≠ 0)
    (C : ∀ W, Below w.heap.size w W → Calls Try.prog 47 #[.slice a len cap, .slice a2 len2 cap2, .int .i64 i] W fun e w' => e = .returned (.tuple #[.int .i64 0, .int .i64 0, .int .i64 er]) ∧ Below W.heap.size W w') :
    Calls Try.prog 49 #[.slice a len cap, .slice a2 len2 cap2, .int .i64 i, .agg #[.int .i64 n, .slice a3 len3 cap3]] w fun e w' => e = .returned (.tuple #[.slice none 0 0, .int .i64 er]) ∧ Below w.heap.size w w' := by
  obtain ⟨W0, hW0⟩ : ∃ W0, W0 = w.alloc (.cells #[.int .i64 n, .slice a3 len3 cap3] 52) := ⟨_, rfl⟩
  have hb0 : Below w.heap.size w W0 := by rw [hW0]; exact (Below.refl _ w).alloc (Nat.le_refl _) _
  have HW0 := Lib.hid hW0
  have Hb0 := Lib.hid hb0
  have HC := Lib.hid C
  have hne' : (er != 0) = true := by simpa using hne
  clear hW0 hb0 C hne
  go_enter Try.func49, Try.ntmps49
  go_wp2_with fail
  rw [← HW0.out]
  clear HW0
  refine (HC.out W0 Hb0.out).mono ?_
  rintro e w1 ⟨rfl, hb⟩
  have Hb := Lib.hid (Hb0.out.trans (hb.mono Hb0.out.size))
  clear hb
  go_wp2
  go_ret2
  exact ⟨rfl, Hb.out⟩
set_option maxRecDepth 100000 in
set_option maxHeartbeats 4000000 in
/-- A field that is there: refused, or replaced. -/
theorem patch_at_any (i : Nat) (a : Option Addr) (len cap : Nat) (fs : List Fld) (w : World) (h : RdF w a len cap fs) (a2 : Option Addr) (len2 cap2 : Nat) (bs : List Int) (h2 : Rd w a2 len2 cap2 bs) (hbig : len2 + 4105 ≤ 140737488355328) (hch : checkV fs = 0) (hok : ∀ k, k < len → (atV fs bs k).1 = 0)
    (hpos : posV fs bs i ≤ posV fs bs (i + 1) ∧ posV fs bs (i + 1) ≤ len2) (hi : i < len) (x : Itm) (hx : x.Ok w) :
    Calls Try.prog 49 #[.slice a len cap, .slice a2 len2 cap2, .int .i64 (i : Int), .agg #[.int .i64 x.n, .slice x.a x.len x.cap]] w fun e w' =>
      ∃ v, e = .returned (.tuple #[v, .int .i64 (packE (fs.getD i default).kind x.n (fs.getD i default).width x.xs)]) ∧
        (packE (fs.getD i default).kind x.n (fs.getD i default).width x.xs = 0 → Own w' w.heap.size v (bs.take (posV fs bs i) ++ packB (fs.getD i default).kind x.n (fs.getD i default).width x.xs ++ bs.drop (posV fs bs (i + 1)))) ∧ Below w.heap.size w w' := by
  have h64 : len ≤ 64 := by have := (checkV_ok hch).1; have := h.hl; omega
  have hfm : fs.getD i default ∈ fs := by
    have hl := h.hl
    have : fs.getD i default = fs[i] := by simp [List.getD, hl, hi]
    rw [this]; exact List.getElem_mem _
  have hokf := (checkV_ok hch).2 _ hfm
  obtain ⟨g1, g5, g6, g7⟩ := fld_bd hokf
  have hpl := packB_len hokf x.n x.xs
  obtain ⟨n1, n2, hrd⟩ := hx
  obtain ⟨f, hf⟩ : ∃ f, f = fs.getD i default := ⟨_, rfl⟩
  rw [← hf] at hpl g1 g5 g6 g7 ⊢
  have hik := run_kind f.kind g1 g5
  obtain ⟨W0, hW0⟩ : ∃ W0, W0 = w.alloc (.cells #[.int .i64 x.n, .slice x.a x.len x.cap] 52) := ⟨_, rfl⟩
  have hb0 : Below w.heap.size w W0 := by rw [hW0]; exact (Below.refl _ w).alloc (Nat.le_refl _) _
  have hg0 : ∀ j, W0.cell? ⟨w.heap.size, j, none⟩ = #[Value.int .i64 x.n, .slice x.a x.len x.cap][j]? := fun j => by rw [hW0]; exact World.cell?_alloc_mark w _ _ (0, 0) j
  have hs0 : W0.heap.size = w.heap.size + 1 := by rw [hW0]; simp
  have C := Lib.hid (fun W (hW : Below w.heap.size w W) => where_ok a len cap fs W (h.below hW (Nat.le_refl _)) a2 len2 cap2 bs (h2.below hW (Nat.le_refl _)) (by omega) hch hok i hi)
  have H := Lib.hid h
  have H2 := Lib.hid h2
  have Hrd := Lib.hid hrd
  have HW0 := Lib.hid hW0
  have Hb0 := Lib.hid hb0
  have Hg0 := Lib.hid hg0
  have Hs0 := Lib.hid hs0
  have Hf := Lib.hid hf
  have Hpl := Lib.hid hpl
  obtain ⟨p, hp⟩ : ∃ p, p = posV fs bs i := ⟨_, rfl⟩
  obtain ⟨q, hq⟩ : ∃ q, q = posV fs bs (i + 1) := ⟨_, rfl⟩
  rw [← hp, ← hq] at hpos ⊢
  have HP := Lib.hid (And.intro hp hq)
  have g0 : (0 : Int) ≤ (i : Int) := by omega
  have g2 : (i : Int) < (len : Int) := by omega
  clear h h2 hrd hW0 hb0 hg0 hs0 hf hpl hp hq hch hok hfm hokf
  go_enter Try.func49, Try.ntmps49
  go_wp2_with fail
  rw [← HW0.out]
  clear HW0
  refine (C.out W0 Hb0.out).mono ?_
  rintro e w1 ⟨rfl, hb⟩
  rw [← HP.out.1, ← HP.out.2]
  have hbw := Hb0.out.trans (hb.mono Hb0.out.size)
  obtain ⟨b, off, rfl, hcell⟩ := (H.out.below hbw (Nat.le_refl _)).hr (by omega)
  obtain ⟨-, k1, k2⟩ := hcell i hi
  rw [← Hf.out] at k1 k2
  have x0 : w1.cell? ⟨w.heap.size, 0, none⟩ = some (.int .i64 x.n) := (hb.cell (p := ⟨w.heap.size, 0, none⟩) (by have := Hs0.out; simp; omega)).trans (Hg0.out 0)
  have x1 : w1.cell? ⟨w.heap.size, 1, none⟩ = some (.slice x.a x.len x.cap) := (hb.cell (p := ⟨w.heap.size, 1, none⟩) (by have := Hs0.out; simp; omega)).trans (Hg0.out 1)
  have hl1 : w.heap.size < w1.heap.size := by have := hb.size; rw [Hs0.out] at this; omega
  have hl2 : b < w1.heap.size := World.block_lt_of_cell? w1 _ k1
  have Hbw := Lib.hid hbw
  have Hrd1 := Lib.hid (Hrd.out.below hbw (Nat.le_refl _))
  clear hb hbw hcell C Hg0 Hs0 Hb0
  go_wp2_with fail
  go_region_held3 (fun w' => w'.cell? ⟨b, off + i * 3 + 1, none⟩ = some (.int .i64 f.kind) ∧ w'.cell? ⟨b, off + i * 3 + 2, none⟩ = some (.int .i64 f.width) ∧ w'.cell? ⟨w.heap.size, 0, none⟩ = some (.int .i64 x.n) ∧ w'.cell? ⟨w.heap.size, 1, none⟩ = some (.slice x.a x.len x.cap))
    (first | go_keep | (go_split_ands; refine ⟨?_, ?_, ?_, ?_⟩ <;> (rw [hb5.cell (by first | (simp; done) | (simp; omega))]; assumption)) | (go_split_ands; refine ⟨?_, ?_, ?_, ?_⟩ <;> (rw [hb3.cell (by first | (simp; done) | (simp; omega))]; assumption)))
    (first | (go_at_call 73; refine (pack_any _ _ _ _ _ x.xs _ (Hrd1.out.below ((Below.refl w1.heap.size w1).drew.trans (hb3.mono (Nat.le_refl _))) (Nat.le_refl _)) n1 n2 f.kind g1 g5).mono ?_; rintro e w4 ⟨a3, l3, c3, rfl, hr3, hb5⟩) | (go_at_call 70; refine (kinds_any _).mono ?_; rintro e w2 ⟨rfl, hw2⟩; have hb3 := below_alloc_eq hw2; have hs3 := hb3.size; simp at hs3; clear hw2))
  have hs5 := hb5.size
  have hb6 : Below w1.heap.size w1 w4 := (Below.refl w1.heap.size w1).drew.trans ((hb3.mono (Nat.le_refl _)).trans (hb5.mono hs3))
  have Hbw4 := Lib.hid (Hbw.out.trans (hb6.mono Hbw.out.size))
  have Hr3 := Lib.hid hr3
  clear hb3 hb5 hb6 hr3 k1 k2 x0 x1 Hrd1 Hbw
  by_cases hE : packE f.kind x.n f.width x.xs = 0
  · have R2 := H2.out.below Hbw4.out (Nat.le_refl _)
    have hc2 := R2.hc
    have hm2 := R2.hm
    unfold maxLen at hm2
    rw [hE]
    obtain ⟨q1, q2⟩ := hpos
    by_cases hcq : cap2 = q
    · have hif : (cap2 = q) = True := by simp [hcq]
      have HP3 : Hid (RdP (w4.alloc (.cells #[.slice a2 p cap2, .slice a3 l3 c3, .slice a2 (len2 - q) (cap2 - q)] 22)).drew (some ⟨w4.heap.size, 0, none⟩) 3 3 [⟨a2, p, cap2, bs.take p⟩, ⟨a3, l3, c3, packB f.kind x.n f.width x.xs⟩, ⟨a2, len2 - q, cap2 - q, bs.drop q⟩]) := Lib.hid (three_parts w4 (R2.take p (by omega)) Hr3.out (by have := rest_part R2 q q2; rw [if_pos hcq] at this; exact this))
      have l1 : p ≤ cap2 := by omega
      have l2 : q ≤ cap2 := by omega
      have hcv : catV [⟨a2, p, cap2, bs.take p⟩, ⟨a3, l3, c3, packB f.kind x.n f.width x.xs⟩, ⟨a2, len2 - q, cap2 - q, bs.drop q⟩] = bs.take p ++ packB f.kind x.n f.width x.xs ++ bs.drop q := by simp [catV]
      have hcl : (catV [⟨a2, p, cap2, bs.take p⟩, ⟨a3, l3, c3, packB f.kind x.n f.width x.xs⟩, ⟨a2, len2 - q, cap2 - q, bs.drop q⟩]).length ≤ 140737488355328 := by
        rw [hcv, List.length_append, List.length_append, List.length_take, List.length_drop]
        have := Hpl.out
        have := R2.hl
        omega
      obtain ⟨m7, hm7⟩ : ∃ m, m = (catV [⟨a2, p, cap2, bs.take p⟩, ⟨a3, l3, c3, packB f.kind x.n f.width x.xs⟩, ⟨a2, len2 - q, cap2 - q, bs.drop q⟩]).length := ⟨_, rfl⟩
      have hcat := hm7.symm
      have HE := Lib.hid hE
      clear R2 hE hm7 hcq
      go_upto_region 7 with fail
      go_region_held3 (fun _ => True) (trivial) ((go_at_call 78; refine (concat_any _ _ _ _ _ HP3.out hcl).mono ?_; rintro e w5 ⟨v, rfl, ho, hb7⟩; obtain ⟨a7, c7, hv7, -⟩ := ho.rdz hcat; subst hv7; have Ho := Lib.hid ho; have Hb7 := Lib.hid (((Below.refl w4.heap.size w4).alloc (Nat.le_refl _) (.cells #[.slice a2 p cap2, .slice a3 l3 c3, .slice a2 (len2 - q) (cap2 - q)] 22)).drew.trans (hb7.mono (by simp))); clear ho hb7))
      go_wp2
      go_ret2
      refine ⟨.slice a7 m7 c7, by rw [HE.out]; rfl, fun _ => ?_, Hbw4.out.trans (Hb7.out.mono Hbw4.out.size)⟩
      rw [← hcv]
      exact Ho.out.mono (by have := Hbw4.out.size; simp; omega)
    · have hif : (cap2 = q) = False := by simp [hcq]
      have HP3 : Hid (RdP (w4.alloc (.cells #[.slice a2 p cap2, .slice a3 l3 c3, .slice (Option.map (fun x => x.add q) a2) (len2 - q) (cap2 - q)] 22)).drew (some ⟨w4.heap.size, 0, none⟩) 3 3 [⟨a2, p, cap2, bs.take p⟩, ⟨a3, l3, c3, packB f.kind x.n f.width x.xs⟩, ⟨Option.map (fun x => x.add q) a2, len2 - q, cap2 - q, bs.drop q⟩]) := Lib.hid (three_parts w4 (R2.take p (by omega)) Hr3.out (by have := rest_part R2 q q2; rw [if_neg hcq] at this; exact this))
      have l1 : p ≤ cap2 := by omega
      have l2 : q ≤ cap2 := by omega
      have hcv : catV [⟨a2, p, cap2, bs.take p⟩, ⟨a3, l3, c3, packB f.kind x.n f.width x.xs⟩, ⟨Option.map (fun x => x.add q) a2, len2 - q, cap2 - q, bs.drop q⟩] = bs.take p ++ packB f.kind x.n f.width x.xs ++ bs.drop q := by simp [catV]
      have hcl : (catV [⟨a2, p, cap2, bs.take p⟩, ⟨a3, l3, c3, packB f.kind x.n f.width x.xs⟩, ⟨Option.map (fun x => x.add q) a2, len2 - q, cap2 - q, bs.drop q⟩]).length ≤ 140737488355328 := by
        rw [hcv, List.length_append, List.length_append, List.length_take, List.length_drop]
        have := Hpl.out
        have := R2.hl
        omega
      obtain ⟨m7, hm7⟩ : ∃ m, m = (catV [⟨a2, p, cap2, bs.take p⟩, ⟨a3, l3, c3, packB f.kind x.n f.width x.xs⟩, ⟨Option.map (fun x => x.add q) a2, len2 - q, cap2 - q, bs.drop q⟩]).length := ⟨_, rfl⟩
      have hcat := hm7.symm
      have HE := Lib.hid hE
      clear R2 hE hm7 hcq
      go_upto_region 7 with fail
      go_region_held3 (fun _ => True) (trivial) ((go_at_call 78; refine (concat_any _ _ _ _ _ HP3.out hcl).mono ?_; rintro e w5 ⟨v, rfl, ho, hb7⟩; obtain ⟨a7, c7, hv7, -⟩ := ho.rdz hcat; subst hv7; have Ho := Lib.hid ho; have Hb7 := Lib.hid (((Below.refl w4.heap.size w4).alloc (Nat.le_refl _) (.cells #[.slice a2 p cap2, .slice a3 l3 c3, .slice (Option.map (fun x => x.add q) a2) (len2 - q) (cap2 - q)] 22)).drew.trans (hb7.mono (by simp))); clear ho hb7))
      go_wp2
      go_ret2
      refine ⟨.slice a7 m7 c7, by rw [HE.out]; rfl, fun _ => ?_, Hbw4.out.trans (Hb7.out.mono Hbw4.out.size)⟩
      rw [← hcv]
      exact Ho.out.mono (by have := Hbw4.out.size; simp; omega)
  · have hE' : (packE f.kind x.n f.width x.xs != 0) = true := by simpa using hE
    go_wp2
    go_ret2
    exact ⟨_, rfl, fun h => absurd h hE, Hbw4.out⟩
end Go.Proofs.Ytlmknpljncpjiaa
