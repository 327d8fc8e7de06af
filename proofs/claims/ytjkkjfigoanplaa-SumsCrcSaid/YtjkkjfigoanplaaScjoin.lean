/- The reference's Join: matrices of the steps. -/
import Derived.Test.YtjkkjfigoanplaaScref
import Derived.Test.YtjkkjfigoanplaaShand
import Derived.Test.YtjkkjfigoanplaaSsane
import Derived.Deep.CutRange
namespace Go.Proofs.Ytjkkjfigoanplaa
set_option linter.unusedVariables false
open Go.RowKit Go.Shelf

def matK (K : Nat) : Nat → B32 := fun i => shifts K (bitW i)
attribute [local irreducible] matF
set_option maxRecDepth 100000 in
set_option maxHeartbeats 1000000 in
theorem applied_any (K : Nat) (c : B32) (w : World) :
    Calls Try.prog 56 #[.agg (matF (matK K) 32), .int .u32 (c.toNat : Int)] w fun e w' => e = .returned (.int .u32 ((shifts K c).toNat : Int)) ∧ Below w.heap.size w w' := by
  obtain ⟨W, hW⟩ : ∃ W, W = w.alloc (.cells (matF (matK K) 32) 75) := ⟨_, rfl⟩
  have hg : Blk W w.heap.size 75 (matF (matK K) 32) := by rw [hW]; exact heap_new w _
  have hb : Below w.heap.size w W := by rw [hW]; exact (Below.refl _ w).alloc (Nat.le_refl _) _
  have HW := Lib.hid hW
  have HG := Lib.hid hg
  have Hb := Lib.hid hb
  clear hW hg hb
  go_enter Try.func56, Try.ntmps56
  go_upto_region 1 with fail
  rw [← HW.out]
  clear HW
  go_wp2_with fail
  go_loop [5, 6] (fun v i => ∃ k : Nat, k ≤ 32 ∧ i = .int .i64 k ∧ v = .int .u32 ((shifts K (lowV c k)).toNat : Int)) (fun _ i => 32 - (intOf i).toNat)
  case atStart => exact ⟨0, by omega, rfl, by rw [low_none, shifts_nil]; rfl⟩
  case round =>
    obtain ⟨k, hk, rfl, rfl⟩ := hrel
    by_cases hlt : k < 32
    · have hk32 : (k : Int) < 32 := by omega
      have hk0 : (0 : Int) ≤ (k : Int) := by omega
      have hls := low_succ c k hlt
      have hbd := bit_div c k
      have hdiv := b_shr c k
      obtain ⟨d, hd⟩ : ∃ d, d = c >>> k := ⟨_, rfl⟩
      rw [← hd] at hdiv
      have hdn : d.toNat = c.toNat / 2 ^ k := by rw [hd, BitVec.toNat_ushiftRight, Nat.shiftRight_eq_div_pow]
      obtain ⟨o, ho⟩ : ∃ o, o = shifts K (lowV c k) := ⟨_, rfl⟩
      rw [← ho]
      have hcell := HG.out.cell k
      rw [mat_get _ _ _ hlt, if_pos hlt] at hcell
      have hm : matK K k = shifts K (bitW k) := rfl
      rw [hm] at hcell
      obtain ⟨q, hq⟩ : ∃ q, q = shifts K (bitW k) := ⟨_, rfl⟩
      rw [← hq] at hcell
      have hx := b_xor o q
      obtain ⟨z, hz⟩ : ∃ z, z = o ^^^ q := ⟨_, rfl⟩
      rw [← hz] at hx
      by_cases hbit : c.getLsbD k = true
      · rw [if_pos hbit] at hls
        have hsn : shifts K (lowV c (k + 1)) = z := by rw [hls, shifts_xor, hz, ho, hq]
        rw [hbit] at hbd
        have ho2 : ((d.toNat : Int) % 2 == 1) = true := by
          have := of_decide_eq_true hbd.symm
          rw [← hdn] at this
          simp; omega
        have HZ := Lib.hid hsn
        clear hls hbd hd hdn ho hm hq hz hbit hsn hk
        go_wp2_with fail
        go_round
        case rel => exact ⟨k + 1, by omega, by go_num, by rw [HZ.out]⟩
        case measure => simp [intOf]; omega
      · rw [if_neg hbit] at hls
        have hsn : shifts K (lowV c (k + 1)) = o := by rw [hls, ho]
        have ho2 : ((d.toNat : Int) % 2 == 1) = false := by
          have hb : c.getLsbD k = false := by simpa using hbit
          rw [hb] at hbd
          have := of_decide_eq_false hbd.symm
          rw [← hdn] at this
          simp; omega
        have HZ := Lib.hid hsn
        clear hls hbd hd hdn ho hm hq hz hbit hsn hk
        go_wp2_with fail
        go_round
        case rel => exact ⟨k + 1, by omega, by go_num, by rw [HZ.out]⟩
        case measure => simp [intOf]; omega
    · obtain rfl : k = 32 := by omega
      rw [low_all]
      obtain ⟨d, hd⟩ : ∃ d, d = shifts K c := ⟨_, rfl⟩
      rw [← hd]
      have HD := Lib.hid hd
      clear hd
      go_wp2_with fail
      go_ret
      exact ⟨ret_int_ (by rw [HD.out]), Hb.out⟩
/-- A block of zeros is the matrix none of whose rows are laid. -/
theorem mat0 (F : Nat → B32) : matF F 0 = #[.int .u32 0, .int .u32 0, .int .u32 0, .int .u32 0, .int .u32 0, .int .u32 0, .int .u32 0, .int .u32 0, .int .u32 0, .int .u32 0, .int .u32 0, .int .u32 0, .int .u32 0, .int .u32 0, .int .u32 0, .int .u32 0, .int .u32 0, .int .u32 0, .int .u32 0, .int .u32 0, .int .u32 0, .int .u32 0, .int .u32 0, .int .u32 0, .int .u32 0, .int .u32 0, .int .u32 0, .int .u32 0, .int .u32 0, .int .u32 0, .int .u32 0, .int .u32 0] := by unfold matF; kernel_rfl
theorem joinR_less (a b : B32) (n : Int) (w : World) (h : n < 0) : Calls Try.prog 17 #[.int .u32 (a.toNat : Int), .int .u32 (b.toNat : Int), .int .i64 n] w fun e w' => e = .returned (.tuple #[.int .u32 0, .int .i64 1]) ∧ w = w' := by
  go_enter Try.func17, Try.ntmps17
  go_wp2
  go_ret2
  exact ⟨rfl, rfl⟩
theorem joinR_more (a b : B32) (n : Int) (w : World) (h : 2147483647 < n) : Calls Try.prog 17 #[.int .u32 (a.toNat : Int), .int .u32 (b.toNat : Int), .int .i64 n] w fun e w' => e = .returned (.tuple #[.int .u32 0, .int .i64 2]) ∧ w = w' := by
  have h0 : ¬ n < 0 := by omega
  go_enter Try.func17, Try.ntmps17
  go_wp2
  go_ret2
  exact ⟨rfl, rfl⟩
set_option maxRecDepth 100000 in
set_option maxHeartbeats 4000000 in
theorem joinR_ok (a b : B32) (n : Nat) (w : World) (hn : n ≤ 2147483647) : Calls Try.prog 17 #[.int .u32 (a.toNat : Int), .int .u32 (b.toNat : Int), .int .i64 n] w fun e w' => e = .returned (.tuple #[.int .u32 ((shifts (8 * n) a ^^^ b).toNat : Int), .int .i64 0]) ∧ Below w.heap.size w w' := by
  have h0 : ¬ (n : Int) < 0 := by omega
  have h1 : ¬ (2147483647 : Int) < (n : Int) := by omega
  obtain ⟨g, W0, e1, e2, hg0, hb0, -, -⟩ := fresh (Below.refl _ w) (matF (matK 8) 0) 75
  have E2 : Hid (w.alloc (.cells #[.int .u32 0, .int .u32 0, .int .u32 0, .int .u32 0, .int .u32 0, .int .u32 0, .int .u32 0, .int .u32 0, .int .u32 0, .int .u32 0, .int .u32 0, .int .u32 0, .int .u32 0, .int .u32 0, .int .u32 0, .int .u32 0, .int .u32 0, .int .u32 0, .int .u32 0, .int .u32 0, .int .u32 0, .int .u32 0, .int .u32 0, .int .u32 0, .int .u32 0, .int .u32 0, .int .u32 0, .int .u32 0, .int .u32 0, .int .u32 0, .int .u32 0, .int .u32 0] 75) = W0) := Lib.hid (by rw [← mat0 (matK 8)]; exact e2)
  have E1 := Lib.hid e1
  have HG0 := Lib.hid hg0
  have HB0 := Lib.hid hb0
  have hgw : w.heap.size ≤ g := by omega
  clear e1 e2 hg0 hb0
  go_enter Try.func17, Try.ntmps17
  go_wp2_with fail
  rw [E2.out, E1.out]
  clear E1 E2
  go_loopw [9] (fun i wr => ∃ k : Nat, k ≤ 32 ∧ i = .int .i64 k ∧ Blk wr g 75 (matF (matK 8) k) ∧ Below w.heap.size w wr) (fun i _ => 32 - (intOf i).toNat)
  case atStart => exact ⟨0, by omega, rfl, HG0.out, HB0.out⟩
  case round =>
    obtain ⟨k, hk, rfl, hblk, hb⟩ := hrel
    by_cases hlt : k < 32
    · have hk32 : (k : Int) < 32 := by omega
      have hk0 : (0 : Int) ≤ (k : Int) := by omega
      have hsh := b_shl 1#32 k
      obtain ⟨q, hq⟩ : ∃ q, q = bitW k := ⟨_, rfl⟩
      have hq' : (1#32 <<< k) = q := by rw [hq]; rfl
      rw [hq'] at hsh
      have hs1 : ((1 : Int) * 2 ^ k) % 4294967296 = (q.toNat : Int) := hsh
      have hs2 : ((2 : Int) ^ k) % 4294967296 = (q.toNat : Int) := by rw [← hs1, Int.one_mul]
      have hst : stepV q 0 = matK 8 k := by unfold stepV matK; rw [hq]; simp
      have hcell := hblk.cell k
      rw [mat_get _ _ _ hlt, if_neg (by omega)] at hcell
      have hf := hblk.frozen k
      have HBk := Lib.hid hblk
      have Hb := Lib.hid hb
      have Hst := Lib.hid hst
      clear hq hq' hsh hst hblk hb hk HG0 HB0
      go_wp2_with fail
      refine (stepR_any q 0 (by omega) (by omega) wr).mono ?_
      rintro e u ⟨rfl, rfl⟩
      rw [Hst.out]
      go_wp2_with fail
      go_roundw
      case rel => exact ⟨k + 1, by omega, by go_num, by rw [← mat_set (matK 8) k hlt _ rfl]; exact HBk.out.set_ k _, Hb.out.setCell hgw _⟩
      case measure => simp [intOf]; omega
    · obtain rfl : k = 32 := by omega
      rw [show ((32 : Nat) : Int) = 32 from rfl]
      have HBk := Lib.hid hblk
      have Hb := Lib.hid hb
      clear hblk hb HG0 HB0
      go_wp2_with fail
      go_loopw [0, 2] (fun va vr wx => ∃ acc K rest : Nat, n = acc + K * rest ∧ rest ≤ n ∧ va = .int .u32 ((shifts (8 * acc) a).toNat : Int) ∧ vr = .int .i64 rest ∧ Blk wx g 75 (matF (matK (8 * K)) 32) ∧ Below w.heap.size w wx) (fun _ r _ => (intOf r).toNat)
      case atStart => exact ⟨0, 1, n, by omega, Nat.le_refl _, rfl, rfl, HBk.out, Hb.out⟩
      case round =>
        obtain ⟨acc, K, rest, hs, hrn, rfl, rfl, hblk, hb⟩ := hrel
        obtain ⟨wo, rfl⟩ : ∃ wo : World, wo = wr := ⟨_, rfl⟩
        by_cases hpos : 0 < rest
        · have hg0 : (0 : Int) < (rest : Int) := by omega
          have hhalf : (rest : Int) / 2 = ((rest / 2 : Nat) : Int) := by omega
          obtain ⟨c, hc⟩ : ∃ c, c = shifts (8 * acc) a := ⟨_, rfl⟩
          rw [← hc]
          have hcp : shifts (8 * K) c = shifts (8 * (acc + K)) a := by rw [hc, ← shifts_add]; congr 1; omega
          obtain ⟨c2, hc2⟩ : ∃ c2, c2 = shifts (8 * K) c := ⟨_, rfl⟩
          have hap := fun u => applied_any (8 * K) c u
          rw [← hc2] at hap
          have hgl := hblk.lt
          have HBk := Lib.hid hblk
          have Hb := Lib.hid hb
          have Hc := Lib.hid (And.intro hc (hc2.trans hcp))
          have Hap := Lib.hid hap
          have Hhalf := Lib.hid hhalf
          have HM := Lib.hid (sizeM (matF (matK (8 * K)) 32) (mat_size _ _))
          have hr4 : (rest : Int) ≤ 2147483647 := by omega
          have Hsum := Lib.hid (And.intro hs hrn)
          obtain ⟨c3, hc3⟩ : ∃ c3, c3 = if rest % 2 = 1 then c2 else c := ⟨_, rfl⟩
          have Hc3 := Lib.hid hc3
          clear hblk hb hc hcp hc2 hap hhalf hs hrn hc3
          go_upto_if 29 with fail
          go_cut [0] from 25 to 46 (fun va wx => va = .int .u32 (c3.toNat : Int) ∧ Below wo.heap.size wo wx)
          case first =>
            by_cases hodd : rest % 2 = 1
            · have ho2 : ((rest : Int) % 2 == 1) = true := by simp; omega
              have e3 : c3 = c2 := by rw [Hc3.out, if_pos hodd]
              have E3 := Lib.hid e3
              clear e3 hodd
              go_wp2_with (refine list_load rfl 75 (.tmp 8) rfl g rfl 75 (matF (matK (8 * K)) 32) (0, 0) _ HBk.out Try.underlying75 rfl HM.out ?_)
              refine (Hap.out wo).mono ?_
              rintro e u ⟨rfl, hbu⟩
              go_wp2_with fail
              go_meet
              exact ⟨by rw [E3.out], hbu⟩
            · have ho2 : ((rest : Int) % 2 == 1) = false := by simp; omega
              have e3 : c3 = c := by rw [Hc3.out, if_neg hodd]
              have E3 := Lib.hid e3
              clear e3 hodd
              go_wp2_with fail
              go_meet
              exact ⟨by rw [E3.out], Below.refl _ _⟩
          case rest =>
            obtain ⟨rfl, hbc⟩ := hcut
            have HBc := Lib.hid (HBk.out.below hbc hgl)
            have Hbc : Hid (Below w.heap.size w wc) := Lib.hid (Hb.out.trans (hbc.mono Hb.out.size))
            obtain ⟨g2, W5, e1, e2, hg5, hb5, hq5, -⟩ := fresh Hbc.out (matF (matK (8 * (2 * K))) 0) 75
            have E2 : Hid (wc.alloc (.cells #[.int .u32 0, .int .u32 0, .int .u32 0, .int .u32 0, .int .u32 0, .int .u32 0, .int .u32 0, .int .u32 0, .int .u32 0, .int .u32 0, .int .u32 0, .int .u32 0, .int .u32 0, .int .u32 0, .int .u32 0, .int .u32 0, .int .u32 0, .int .u32 0, .int .u32 0, .int .u32 0, .int .u32 0, .int .u32 0, .int .u32 0, .int .u32 0, .int .u32 0, .int .u32 0, .int .u32 0, .int .u32 0, .int .u32 0, .int .u32 0, .int .u32 0, .int .u32 0] 75) = W5) := Lib.hid (by rw [← mat0 (matK (8 * (2 * K)))]; exact e2)
            have hgg : g < g2 := by rw [← e1]; exact HBc.out.lt
            have E1 := Lib.hid e1
            have HG5 := Lib.hid hg5
            have HB5 := Lib.hid (HBc.out.below hq5 hgg)
            have Hb5 := Lib.hid hb5
            have hg2w : w.heap.size ≤ g2 := by rw [← e1]; exact Hbc.out.size
            clear hbc e1 e2 hg5 hb5 hq5 HBc Hbc HBk
            go_wp2_with fail
            rw [E2.out, E1.out]
            clear E1 E2
            go_loopw [11] (fun i wx => ∃ k : Nat, k ≤ 32 ∧ i = .int .i64 k ∧ Blk wx g2 75 (matF (matK (8 * (2 * K))) k) ∧ Below g2 W5 wx) (fun i _ => 32 - (intOf i).toNat)
            case atStart => exact ⟨0, by omega, rfl, HG5.out, Below.refl _ _⟩
            case round =>
              obtain ⟨k, hk, rfl, hblk, hbw⟩ := hrel
              by_cases hlt : k < 32
              · have hk32 : (k : Int) < 32 := by omega
                have hk0 : (0 : Int) ≤ (k : Int) := by omega
                have hgb := HB5.out.below hbw hgg
                have hcg := hgb.cell k
                rw [mat_get _ _ _ hlt, if_pos hlt] at hcg
                obtain ⟨q, hq⟩ : ∃ q, q = matK (8 * K) k := ⟨_, rfl⟩
                rw [← hq] at hcg
                have hnext : shifts (8 * K) q = matK (8 * (2 * K)) k := by rw [hq]; unfold matK; rw [← shifts_add]; congr 1; omega
                have hap := fun u => applied_any (8 * K) q u
                rw [hnext] at hap
                obtain ⟨q2, hq2⟩ : ∃ q2, q2 = matK (8 * (2 * K)) k := ⟨_, rfl⟩
                rw [← hq2] at hap
                have hset := mat_set (matK (8 * (2 * K))) k hlt (.int .u32 (q2.toNat : Int)) (by rw [hq2])
                have hcell := hblk.cell k
                rw [mat_get _ _ _ hlt, if_neg (by omega)] at hcell
                have Hblk := Lib.hid hblk
                have Hbw := Lib.hid hbw
                have Hgb := Lib.hid hgb
                have Hcg := Lib.hid hcg
                have Hap := Lib.hid hap
                have Hset := Lib.hid hset
                have Hcell := Lib.hid hcell
                clear hblk hbw hgb hcg hq hnext hap hq2 hset hcell hk
                go_wp2_with fail
                refine wp_region_held_drew (S := Below g2 wr) (by kernel_rfl) (Below.refl g2 wr).drew (fun _ => ?_)
                have HS : Hid (Below g2 wr wr.drew) := Lib.hid (Below.refl g2 wr).drew
                refine wpAnyH_take (i := 0) (v := .int .i64 k) rfl (by kernel_rfl) (by kernel_rfl) (by kernel_rfl) (fun _ _ _ h => h) (Or.inl ⟨by rfl, ?_⟩) HS.out ?_
                · intro u hu; go_simp
                go_simp
                refine wpAnyH_take (i := 1) (v := .agg (matF (matK (8 * K)) 32)) rfl (by kernel_rfl) (by kernel_rfl) (by kernel_rfl) (fun _ _ _ h => h) (load_yields (by rfl) 75 (.tmp 8) rfl g rfl 75 (matF (matK (8 * K)) 32) (0, 0) _ (fun u hu => Hgb.out.below hu hgg) Try.underlying75 rfl HM.out) HS.out ?_
                go_simp
                refine wpAnyH_take (i := 2) (v := .int .i64 k) rfl (by kernel_rfl) (by kernel_rfl) (by kernel_rfl) (fun _ _ _ h => h) (Or.inl ⟨by rfl, ?_⟩) HS.out ?_
                · intro u hu; go_simp
                go_simp
                refine wpAnyH_take (i := 3) (v := .pointer (some ⟨g, k, none⟩)) rfl (by kernel_rfl) (by kernel_rfl) (by kernel_rfl) (fun _ _ _ h => h) (Or.inl ⟨by rfl, ?_⟩) HS.out ?_
                · intro u hu; go_simp
                go_simp
                refine wpAnyH_take (i := 4) (v := .int .u32 (q.toNat : Int)) rfl (by kernel_rfl) (by kernel_rfl) (by kernel_rfl) (fun _ _ _ h => h) (Or.inl ⟨by rfl, ?_⟩) HS.out ?_
                · intro u hu; have := (hu.cell (p := ⟨g, k, none⟩) hgg).trans Hcg.out; go_simp
                go_simp
                refine wpAnyH_ready (rs := [5]) (by kernel_rfl) (by simp) ?_
                refine AllReadyH.cons rfl (fun K hK => ?_) AllReadyH.nil
                go_simp
                refine (Hap.out _).mono ?_
                rintro e w6 ⟨rfl, hb6⟩
                have hbw6 : Below wr.heap.size wr w6 := (Below.refl wr.heap.size wr).drew.trans hb6
                have HS' : Hid (Below g2 wr w6) := Lib.hid (hbw6.mono (Nat.le_of_lt Hblk.out.lt))
                have hB6 := Hblk.out.below hbw6 Hblk.out.lt
                have HB6 := Lib.hid hB6
                clear HS hb6 hbw6 hB6
                have HS := HS'
                clear HS'
                refine hK.out _ _ HS.out (fun _ => ?_)
                clear hK K
                have hc6 := HB6.out.cell k
                rw [mat_get _ _ _ hlt, if_neg (by omega)] at hc6
                have hf6 := HB6.out.frozen k
                refine wpAnyH_take (i := 6) (v := .pointer (some ⟨g2, k, none⟩)) rfl (by kernel_rfl) (by kernel_rfl) (by kernel_rfl) (fun _ _ _ h => h) (Or.inl ⟨by rfl, ?_⟩) HS.out ?_
                · intro u hu; go_simp
                go_simp
                refine wpAnyH_ready (rs := [7]) (by kernel_rfl) (by simp) ?_
                refine AllReadyH.cons rfl (fun K hK => ?_) AllReadyH.nil
                go_simp
                have hS7 : Below g2 wr (w6.setCell ⟨g2, k, none⟩ (.int .u32 (q2.toNat : Int))) := HS.out.setCell (Nat.le_refl _) _
                refine hK.out _ _ hS7 (fun _ => ?_)
                clear hK K
                have HS7 := Lib.hid hS7
                clear hS7 hc6 hf6
                refine wpAnyH_done (by kernel_rfl) ?_ _
                go_wp2_with fail
                go_roundw
                case rel => exact ⟨k + 1, by omega, by go_num, by rw [← Hset.out]; exact HB6.out.set_ k _, Hbw.out.trans HS7.out⟩
                case measure => simp [intOf]; omega
              · obtain rfl : k = 32 := by omega
                rw [show ((32 : Nat) : Int) = 32 from rfl]
                have hgb := HB5.out.below hbw hgg
                have Hblk := Lib.hid hblk
                have Hbw := Lib.hid hbw
                have Hgb := Lib.hid hgb
                have HM2 := Lib.hid (sizeM (matF (matK (8 * (2 * K))) 32) (mat_size _ _))
                have ho := mat_one (matK (8 * (2 * K))) 32
                have hsz : (matF (matK (8 * K)) 32).size = (matF (matK (8 * (2 * K))) 32).size := by rw [mat_size, mat_size]
                have HO := Lib.hid (And.intro ho hsz)
                clear hblk hbw hgb ho hsz
                go_wp2_with (first
                  | (refine list_load rfl 75 (.tmp 10) rfl g2 rfl 75 (matF (matK (8 * (2 * K))) 32) (0, 0) _ Hblk.out Try.underlying75 rfl HM2.out ?_)
                  | (refine wpList_store_row rfl 75 (.tmp 8) (.tmp 44) rfl g (matF (matK (8 * (2 * K))) 32) rfl rfl 75 (matF (matK (8 * K)) 32) Hgb.out HM2.out HO.out.2 HO.out.1 ?_))
                go_roundw
                case rel =>
                  by_cases hodd : rest % 2 = 1
                  · refine ⟨acc + K, 2 * K, rest / 2, ?_, by have := Hsum.out.2; omega, by rw [Hc3.out, if_pos hodd, Hc.out.2], by rw [Hhalf.out], Hgb.out.setRow _, ((Hb5.out.trans (Hbw.out.mono hg2w))).trans (below_setRow _ _ _ _ hgw)⟩
                    have h1 : K * rest = K + 2 * K * (rest / 2) := by
                      conv => lhs; rw [show rest = 1 + 2 * (rest / 2) by omega, Nat.mul_add, Nat.mul_one, ← Nat.mul_assoc, Nat.mul_comm K 2]
                    have h2 := Hsum.out.1
                    omega
                  · refine ⟨acc, 2 * K, rest / 2, ?_, by have := Hsum.out.2; omega, by rw [Hc3.out, if_neg hodd, Hc.out.1], by rw [Hhalf.out], Hgb.out.setRow _, ((Hb5.out.trans (Hbw.out.mono hg2w))).trans (below_setRow _ _ _ _ hgw)⟩
                    have h1 : K * rest = 2 * K * (rest / 2) := by
                      conv => lhs; rw [show rest = 2 * (rest / 2) by omega, ← Nat.mul_assoc, Nat.mul_comm K 2]
                    have h2 := Hsum.out.1
                    omega
                case measure => simp [intOf]; omega
        · obtain rfl : rest = 0 := by omega
          have hacc : acc = n := by omega
          subst hacc
          obtain ⟨c, hc⟩ : ∃ c, c = shifts (8 * acc) a := ⟨_, rfl⟩
          obtain ⟨y, hy⟩ : ∃ y, y = c ^^^ b := ⟨_, rfl⟩
          have hx := b_xor c b
          rw [← hy] at hx
          rw [← hc]
          have HY : Hid (y = shifts (8 * acc) a ^^^ b) := Lib.hid (by rw [hy, hc])
          have Hb := Lib.hid hb
          clear hc hy hs hrn hblk hb HBk
          go_wp2_with fail
          go_ret2
          exact ⟨by first | (rw [HY.out]; rfl) | (rw [HY.out]; simp) | (simp [HY.out]), Hb.out⟩
end Go.Proofs.Ytjkkjfigoanplaa
