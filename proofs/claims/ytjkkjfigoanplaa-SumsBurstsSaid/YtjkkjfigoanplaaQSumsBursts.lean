/- What the statement SumsBursts calls answers true, for every input that its walk is handed. -/
import Derived.Test.YtjkkjfigoanplaaRows
import Derived.WalkKit
import Derived.ProofKit
import Derived.OpenShut
import Derived.ShutString
import Derived.ChangeOld
import Derived.Below
import Derived.SizedLaws
import Derived.Test.YtjkkjfigoanplaaSopen
import Derived.Test.YtjkkjfigoanplaaSsane
import Derived.Test.YtjkkjfigoanplaaSmix
import Derived.Test.YtjkkjfigoanplaaSequal
import Derived.StillTailTactics
import Derived.IntWalk
namespace Go.Proofs.Ytjkkjfigoanplaa.sumsBursts
open Go.ChangeShapes Go.WideShapes Go.ChangeAt Go.RowKit
open Go.ChangeMaps (open_string shut_string)
set_option linter.unusedVariables false

open Go.Shelf
theorem items4 (w : World) (a b : List Int) (ha : a.length = 4) (hb : b.length = 4) : ∀ (is : List Nat), (∀ i ∈ is, i < 4) →
    (Op.eqItems 9999 5 1 (digC a) (digC b) is).run Try.prog w = .ok (is.all fun i => a[i]? == b[i]?) w := by
  intro is
  induction is with
  | nil => intro _; simp [Op.eqItems]
  | cons i is ih =>
    intro h
    have hi := h i (by simp)
    have p1 : ∀ (l : List Int), l.length = 4 → (part 5 (digC l) (i * 1)).run Try.prog w = .ok (.int .u8 (l[i]?.getD 0)) w := by
      intro l hl
      have hg := digC_get l i (by omega)
      rw [Nat.mul_one]
      rw [run_part_plain w (by kernel_rfl) hg, List.getD_eq_getElem?_getD]
    have e1 : (Op.equalIn 9999 5 (.int .u8 (a[i]?.getD 0)) (.int .u8 (b[i]?.getD 0))).run Try.prog w = .ok ((a[i]?.getD 0) == (b[i]?.getD 0)) w :=
      run_equalIn_int w 9998 _ _ .u8 _ _ Try.underlying5
    have e2 : (a[i]? == b[i]?) = ((a[i]?.getD 0) == (b[i]?.getD 0)) := by
      rw [List.getElem?_eq_getElem (by omega), List.getElem?_eq_getElem (by omega)]
      simp
    simp only [Op.eqItems, Sem.run_bind, p1 a ha, p1 b hb, Result.andThen_ok, e1, List.all_cons, e2]
    cases hq : ((a[i]?.getD 0) == (b[i]?.getD 0))
    · simp
    · simp [ih (fun j hj => h j (by simp [hj]))]
theorem eql4 (w : World) (x0 x1 x2 x3 : Int) :
    (binOp .eql 68 (.agg #[.int .u8 x0, .int .u8 x1, .int .u8 x2, .int .u8 x3]) (.agg #[.int .u8 0, .int .u8 0, .int .u8 0, .int .u8 0])).run Try.prog w = .ok (.bool (decide (x0 = 0 ∧ x1 = 0 ∧ x2 = 0 ∧ x3 = 0))) w := by
  obtain ⟨i, hi⟩ : ∃ i, Try.prog.info? 5 = some i := Option.isSome_iff_exists.1 (by kernel_rfl)
  have h := items4 w [x0, x1, x2, x3] [0, 0, 0, 0] rfl rfl (List.range 4) (by simp)
  rw [run_eql_struct, run_equalIn_array w 9999 _ _ Try.underlying68 hi]
  rw [show Try.prog.cellsOf 5 = 1 from by kernel_rfl]
  rw [show (#[.int .u8 x0, .int .u8 x1, .int .u8 x2, .int .u8 x3] : Array Value) = digC [x0, x1, x2, x3] from rfl, show (#[.int .u8 0, .int .u8 0, .int .u8 0, .int .u8 0] : Array Value) = digC [0, 0, 0, 0] from rfl, h]
  have : ((List.range 4).all fun i => [x0, x1, x2, x3][i]? == [0, 0, 0, 0][i]?) = decide (x0 = 0 ∧ x1 = 0 ∧ x2 = 0 ∧ x3 = 0) := by
    rw [Bool.eq_iff_iff]; simp [List.range_succ]; try omega
  rw [this]
  rfl
set_option maxRecDepth 100000 in
set_option maxHeartbeats 8000000 in
theorem walk (a0 : Option Addr) (len0 cap0 : Nat) (xs0 : List Int) (a1 : Int) (x2 : List Int) (w : World) (w0 : Rd w a0 len0 cap0 xs0 ∧ cap0 ≤ 140737488351232) (w1 : (Lit.int .i64 a1).wf = true) (w2 : x2.length = 4 ∧ ∀ n ∈ x2, 0 ≤ n ∧ n ≤ 255) :
    Calls Try.prog 8 #[.slice a0 len0 cap0, .int .i64 a1, .agg (digC x2)] w fun e w' => e = .returned (.bool true) ∧ Below w.heap.size w w' := by
  obtain ⟨hr0, hc0⟩ := w0
  obtain ⟨hx4, hxb⟩ := w2
  have ha := wf_i64 w1
  obtain ⟨y0, y1, y2, y3, rfl⟩ : ∃ a b c d, x2 = [a, b, c, d] := by
    rcases x2 with _ | ⟨a, _ | ⟨b, _ | ⟨c, _ | ⟨d, _ | ⟨e, q⟩⟩⟩⟩⟩
    · simp at hx4
    · simp at hx4
    · simp at hx4
    · simp at hx4
    · exact ⟨a, b, c, d, rfl⟩
    · simp at hx4
  have k0 := hxb y0 (by simp)
  have k1 := hxb y1 (by simp)
  have k2 := hxb y2 (by simp)
  have k3 := hxb y3 (by simp)
  have hE := eql4 w y0 y1 y2 y3
  have hE' : ∀ u, (binOp .eql 68 (.agg #[.int .u8 y0, .int .u8 y1, .int .u8 y2, .int .u8 y3]) (.agg #[.int .u8 0, .int .u8 0, .int .u8 0, .int .u8 0])).run Try.prog u = .ok (.bool (decide (y0 = 0 ∧ y1 = 0 ∧ y2 = 0 ∧ y3 = 0))) u := fun u => eql4 u y0 y1 y2 y3
  rw [show digC [y0, y1, y2, y3] = #[.int .u8 y0, .int .u8 y1, .int .u8 y2, .int .u8 y3] from rfl]
  obtain ⟨Z, hZ⟩ : ∃ Z, Z = decide (y0 = 0 ∧ y1 = 0 ∧ y2 = 0 ∧ y3 = 0) := ⟨_, rfl⟩
  rw [← hZ] at hE'
  have HE := Lib.hid hE'
  have HZ := Lib.hid hZ
  clear hE hE' hZ w1 hx4
  by_cases h1 : (3000 : Int) < (len0 : Int)
  · go_enter Try.func8, Try.ntmps8
    go_wp2_with fail
    refine (sane_any _).mono ?_
    rintro e w' ⟨rfl, hb⟩
    go_wp2_with fail
    go_ret
    exact ⟨rfl, ((Below.refl w.heap.size w).alloc (Nat.le_refl _) _).trans (hb.mono (by simp))⟩
  by_cases h2 : (len0 : Int) < 4
  · go_enter Try.func8, Try.ntmps8
    go_wp2_with fail
    refine (sane_any _).mono ?_
    rintro e w' ⟨rfl, hb⟩
    go_wp2_with fail
    go_ret
    exact ⟨rfl, ((Below.refl w.heap.size w).alloc (Nat.le_refl _) _).trans (hb.mono (by simp))⟩
  by_cases h3 : a1 < 0
  · go_enter Try.func8, Try.ntmps8
    go_wp2_with fail
    refine (sane_any _).mono ?_
    rintro e w' ⟨rfl, hb⟩
    go_wp2_with fail
    go_ret
    exact ⟨rfl, ((Below.refl w.heap.size w).alloc (Nat.le_refl _) _).trans (hb.mono (by simp))⟩
  by_cases h4 : (len0 : Int) - 4 < a1
  · go_enter Try.func8, Try.ntmps8
    go_wp2_with fail
    refine (sane_any _).mono ?_
    rintro e w' ⟨rfl, hb⟩
    go_wp2_with fail
    go_ret
    exact ⟨rfl, ((Below.refl w.heap.size w).alloc (Nat.le_refl _) _).trans (hb.mono (by simp))⟩
  rcases Z with _ | _
  case true =>
    have hE := HE.out
    go_enter Try.func8, Try.ntmps8
    go_wp2_with fail
    refine (sane_any _).mono ?_
    rintro e w' ⟨rfl, hb⟩
    go_wp2_with fail
    go_ret
    exact ⟨rfl, ((Below.refl w.heap.size w).alloc (Nat.le_refl _) _).trans (hb.mono (by simp))⟩
  obtain ⟨A, rfl⟩ : ∃ n : Nat, a1 = n := ⟨a1.toNat, by omega⟩
  have hl0 := hr0.hl
  have hcc0 := hr0.hc
  have hne : ¬ (y0 = 0 ∧ y1 = 0 ∧ y2 = 0 ∧ y3 = 0) := by simpa using HZ.out
  have hA : A + 4 ≤ len0 := by omega
  have hfin := mix_burst xs0 hr0.hb A (by omega) y0 y1 y2 y3 k0 k1 k2 k3 hne
  have i1 : ([] : List Int).length + len0 ≤ 140737488355328 := by simp; omega
  obtain ⟨W1, hW1⟩ : ∃ W1, W1 = w.alloc (.cells #[.int .u8 y0, .int .u8 y1, .int .u8 y2, .int .u8 y3] 68) := ⟨_, rfl⟩
  have hg1 : Blk W1 w.heap.size 68 #[.int .u8 y0, .int .u8 y1, .int .u8 y2, .int .u8 y3] := by rw [hW1]; exact heap_new w _
  have hb1 : Below w.heap.size w W1 := by rw [hW1]; exact (Below.refl _ w).alloc (Nat.le_refl _) _
  have hs1 : W1.heap.size = w.heap.size + 1 := by rw [hW1]; simp
  have HR1 := Lib.hid (hr0.below hb1 (Nat.le_refl _))
  have HW1 := Lib.hid hW1
  have HG1 := Lib.hid hg1
  have HB1 := Lib.hid hb1
  have HS1 := Lib.hid hs1
  have HF := Lib.hid hfin
  have HL := Lib.hid hl0
  have HY := Lib.hid hxb
  have Hb0 := Lib.hid hr0.hb
  have i2 : W1.heap.size ≤ W1.heap.size := Nat.le_refl _
  have HO : Hid (Own W1 W1.heap.size (.slice none 0 0) []) := Lib.hid (Own.nil _ _)
  clear hW1 hg1 hb1 hs1 hr0 hfin hne hl0 hxb HZ k0 k1 k2 k3
  have hE := HE.out
  go_enter Try.func8, Try.ntmps8
  go_upto_region 3 with fail
  rw [← HW1.out]
  clear hE
  go_wp2_with (at_builtin; refine wpList_append_rd rfl (.tmp 34) (.tmp 35) 22 rfl W1.heap.size Try.infoB Try.underlying22 _ [] rfl HO.out _ _ _ _ rfl HR1.out i1 i2 ?_; intro v6 w6 ho6 hg6; rw [List.nil_append] at ho6)
  have hb6 : Below W1.heap.size W1 w6 := (Below.refl W1.heap.size W1).grown hg6 i2 (fun k hk => (HO.out.1.lt k hk).1)
  obtain ⟨a6, c6, rfl, hr6⟩ := ho6.rdz HL.out
  obtain ⟨ca, cc, hv, hcc6, hcm6, hvg⟩ := row_slice ho6.1
  obtain ⟨g6, hg6e, hg60, hg61⟩ := hvg (by rw [HL.out]; omega)
  simp only [Value.slice.injEq] at hv
  obtain ⟨rfl, -, rfl⟩ := hv
  subst hg6e
  have Ho6 := Lib.hid ho6
  have Hb6 := Lib.hid hb6
  have Hg60 := Lib.hid (And.intro hg60 hg61)
  unfold maxLen at hcm6
  clear ho6 hb6 hr6 hvg hg60 hg61 hg6
  go_wp2_with fail
  go_loopw [8] (fun i wr => ∃ k : Nat, k ≤ 4 ∧ i = .int .i64 k ∧ Own wr W1.heap.size (.slice (some ⟨g6, 0, none⟩) len0 c6) (mix xs0 A [y0, y1, y2, y3] k) ∧ Below W1.heap.size W1 wr) (fun i _ => 4 - (intOf i).toNat)
  case atStart => exact ⟨0, by omega, rfl, Ho6.out, Hb6.out⟩
  case round =>
    obtain ⟨k, hk, rfl, hO, hbw⟩ := hrel
    by_cases hlt : k < 4
    · have hml : (mix xs0 A [y0, y1, y2, y3] k).length = len0 := by rw [mix_len, HL.out]
      have hmb := mix_bd xs0 A [y0, y1, y2, y3] HY.out Hb0.out k
      obtain ⟨M, hM⟩ : ∃ M, M = mix xs0 A [y0, y1, y2, y3] k := ⟨_, rfl⟩
      have hnext : mix xs0 A [y0, y1, y2, y3] (k + 1) = M.set (A + k) ((((M.getD (A + k) 0).toNat ^^^ ([y0, y1, y2, y3].getD k 0).toNat : Nat) : Int)) := by rw [hM]; rfl
      rw [← hM] at hO hml hmb
      obtain ⟨y, hy⟩ : ∃ y, y = M.getD (A + k) 0 := ⟨_, rfl⟩
      obtain ⟨x, hx⟩ : ∃ x, x = [y0, y1, y2, y3].getD k 0 := ⟨_, rfl⟩
      have hyb : 0 ≤ y ∧ y ≤ 255 := by rw [hy, getD_at _ _ (by omega)]; exact hmb _ (List.getElem_mem _)
      have hxb : 0 ≤ x ∧ x ≤ 255 := by rw [hx, getD_at _ _ (by simp; omega)]; exact HY.out _ (List.getElem_mem _)
      have hxor := u8_xor y x (by omega) (by omega) (by omega) (by omega)
      have hzb := xor_lt y x hyb hxb
      rw [← hy, ← hx] at hnext
      obtain ⟨z, hz⟩ : ∃ z : Int, z = ((y.toNat ^^^ x.toNat : Nat) : Int) := ⟨_, rfl⟩
      rw [← hz] at hxor hzb hnext
      obtain ⟨w9, hw9⟩ : ∃ w9, w9 = wr.drew := ⟨_, rfl⟩
      have hO9 : Own w9 W1.heap.size (.slice (some ⟨g6, 0, none⟩) len0 c6) M := by rw [hw9]; exact ⟨hO.1.drew, hO.2⟩
      have hb9 : Below W1.heap.size W1 w9 := by rw [hw9]; exact hbw.drew
      have hO1 := hO9.1
      rw [hml] at hO1
      have d1 : w9.cell? ⟨g6, A + k, none⟩ = some (.int .u8 y) := by
        have := row_cell hO1 (A + k) (by omega)
        rw [this, hy, List.getElem?_map, List.getElem?_eq_getElem (by omega), getD_at _ _ (by omega)]
        rfl
      have d2 : w9.cell? ⟨w.heap.size, k, none⟩ = some (.int .u8 x) := by
        have := (HG1.out.below hb9 (by rw [HS1.out]; omega)).cell k
        rw [this, hx]
        have : k = 0 ∨ k = 1 ∨ k = 2 ∨ k = 3 := by omega
        rcases this with rfl | rfl | rfl | rfl <;> rfl
      have d3 : w9.frozen? ⟨g6, A + k, none⟩ = false := hO1.frozenAt (A + k)
      have hk0 : (0 : Int) ≤ (k : Int) := by omega
      have hk4 : (k : Int) < 4 := by omega
      have hw1 : IntKind.i64.wrap ((A : Int) + (k : Int)) = (A : Int) + (k : Int) := IntWalk.i64_in _ (by omega)
      have hw2 : ((A : Int) + (k : Int)).toNat = A + k := by omega
      have hw3 : (0 : Int) ≤ (A : Int) + (k : Int) := by omega
      have hw4 : (A : Int) + (k : Int) < (len0 : Int) := by omega
      have HO9 := Lib.hid hO9
      have HB9 := Lib.hid hb9
      have HN := Lib.hid hnext
      have HW9 := Lib.hid hw9
      have HML := Lib.hid hml
      have HZB := Lib.hid hzb
      clear hO1 hO hbw hM hml hmb hy hx hz hO9 hb9 hnext hw9 hzb
      go_wp2_with fail
      refine wp_region_still_tail 15 (by kernel_rfl) (by kernel_rfl) ?_
      rw [show (({ wr with drawn := wr.drawn + 1 } : World)) = w9 from HW9.out.symm]
      simp only [List.take_succ_cons, List.take_zero, List.drop_succ_cons, List.drop_zero]
      repeat still_step
      refine wpStill_nil ?_
      go_wp2_with fail
      go_roundw
      case rel => exact ⟨k + 1, by omega, by go_num, by rw [HN.out]; exact HO9.out.stored HML.out (A + k) z HZB.out, HB9.out.setCell (by have := Hg60.out.1; omega) _⟩
      case measure => simp [intOf]; omega
    · obtain rfl : k = 4 := by omega
      have hml : (mix xs0 A [y0, y1, y2, y3] 4).length = len0 := by rw [mix_len, HL.out]
      obtain ⟨a7, c7, hv7, hr7⟩ := hO.rdz hml
      cases hv7
      have Hr7 := Lib.hid hr7
      have Hbw := Lib.hid hbw
      clear hO hbw hr7 hml
      go_wp2_with fail
      refine (sane_any wr).mono ?_
      rintro e w8 ⟨rfl, hb8⟩
      have Hr8 := Lib.hid (Hr7.out.below hb8 (Nat.le_refl _))
      have HR8 := Lib.hid ((HR1.out.below Hbw.out (Nat.le_refl _)).below hb8 (Nat.le_refl _))
      have Hb8 : Hid (Below w.heap.size w w8) := Lib.hid ((HB1.out.trans (Hbw.out.mono HB1.out.size)).trans (hb8.mono (by have := Hbw.out.size; have := HB1.out.size; omega)))
      clear hb8 Hr7 Hbw
      go_wp2_with fail
      refine (crc_any _ _ _ xs0 w8 HR8.out).mono ?_
      rintro e w9 ⟨rfl, hb9⟩
      have Hr9 := Lib.hid (Hr8.out.below hb9 (Nat.le_refl _))
      have Hb9 : Hid (Below w.heap.size w w9) := Lib.hid (Hb8.out.trans (hb9.mono Hb8.out.size))
      clear hb9 Hr8 Hb8
      go_wp2_with fail
      refine (crc_any _ _ _ _ w9 Hr9.out).mono ?_
      rintro e w10 ⟨rfl, hb10⟩
      have hne : (((crcV xs0).toNat : Int) != ((crcV (mix xs0 A [y0, y1, y2, y3] 4)).toNat : Int)) = true := by
        rw [bne_iff_ne]
        intro h
        exact HF.out (BitVec.eq_of_toNat_eq (by omega))
      obtain ⟨C1, hC1⟩ : ∃ C, C = crcV xs0 := ⟨_, rfl⟩
      obtain ⟨C2, hC2⟩ : ∃ C, C = crcV (mix xs0 A [y0, y1, y2, y3] 4) := ⟨_, rfl⟩
      rw [← hC1, ← hC2] at hne
      rw [← hC2]
      try rw [← hC1]
      clear hC1 hC2
      have Hb10 : Hid (Below w.heap.size w w10) := Lib.hid (Hb9.out.trans (hb10.mono Hb9.out.size))
      clear hb10
      go_wp2_with fail
      go_ret
      exact ⟨rfl, Hb10.out⟩
end Go.Proofs.Ytjkkjfigoanplaa.sumsBursts
