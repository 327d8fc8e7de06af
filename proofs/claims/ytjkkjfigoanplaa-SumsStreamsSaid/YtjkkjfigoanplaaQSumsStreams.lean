/- What the statement SumsStreams calls answers true, for every input that its walk is handed. -/
import Derived.Test.YtjkkjfigoanplaaRows
import Derived.WalkKit
import Derived.ProofKit
import Derived.OpenShut
import Derived.ShutString
import Derived.ChangeOld
import Derived.Below
import Derived.SizedLaws
import Derived.Test.YtjkkjfigoanplaaSstr
import Derived.Test.YtjkkjfigoanplaaSsplit
import Derived.Deep.CutRange
namespace Go.Proofs.Ytjkkjfigoanplaa.sumsStreams
open Go.ChangeShapes Go.WideShapes Go.ChangeAt Go.RowKit
open Go.ChangeMaps (open_string shut_string)
set_option linter.unusedVariables false

open Go.Shelf
theorem sizeZ : (Try.prog.info? 43).map (·.size) = some (#[.int .u32 0, .int .u32 0, .int .u32 0, .int .u32 0, .int .u32 0, .int .u32 0, .int .u32 0, .int .u32 0, .slice none 0 0] : Array Value).size := by kernel_rfl
theorem sizeEq (s : St) (v : Value) : (#[.int .u32 0, .int .u32 0, .int .u32 0, .int .u32 0, .int .u32 0, .int .u32 0, .int .u32 0, .int .u32 0, .slice none 0 0] : Array Value).size = (spongeC s v).size := by rfl
theorem sizeEq2 (s t : St) (v v' : Value) : (spongeC s v).size = (spongeC t v').size := by rfl
/-- What stands at each round. -/
structure StI (w0 : World) (gs base : Nat) (ps : List Pc) (k : Nat) (v : Value) (w : World) : Prop where
  sp : ∃ ra rl rc, Blk w gs 43 (spongeC (absS startV (catV (ps.take k))) (.slice ra rl rc)) ∧ Rd w ra rl rc (absR (catV (ps.take k)))
  all : Own w base v (catV (ps.take k))
  below : Below w0.heap.size w0 w
  ok : w0.heap.size ≤ gs ∧ gs < base ∧ base ≤ w.heap.size
theorem Rd.grown {w w' : World} {a : Option Addr} {len cap : Nat} {xs : List Int} {row : Option Nat} (h : Rd w a len cap xs) (hg : w.grownBy w' row) (hne : ∀ x, a = some x → some x.block ≠ row) : Rd w' a len cap xs := by
  refine ⟨h.hl, h.hc, h.hm, h.hb, h.hn, fun h0 => ?_⟩
  obtain ⟨b, off, ha, hc⟩ := h.hr h0
  exact ⟨b, off, ha, fun i hi => hg.cell (hc i hi) (show some b ≠ row from hne _ ha)⟩
theorem freshS {w w1 : World} (h : Below w.heap.size w w1) (s : St) (v : Value) :
    ∃ W3, w1.alloc (.cells #[.int .u32 0, .int .u32 0, .int .u32 0, .int .u32 0, .int .u32 0, .int .u32 0, .int .u32 0, .int .u32 0, .slice none 0 0] 43) = W3 ∧ Blk W3 w1.heap.size 43 #[.int .u32 0, .int .u32 0, .int .u32 0, .int .u32 0, .int .u32 0, .int .u32 0, .int .u32 0, .int .u32 0, .slice none 0 0] ∧
      ∃ g W, w1.heap.size = g ∧ W3.setRow w1.heap.size (spongeC s v) = W ∧ Blk W g 43 (spongeC s v) ∧ Below w.heap.size w W ∧ Below g w1 W ∧ g < W.heap.size := by
  refine ⟨_, rfl, heap_new w1 _, ?_⟩
  obtain ⟨g, W, e1, e2, r⟩ := fresh h (spongeC s v) 43
  exact ⟨g, W, e1, by rw [World.setRow_alloc_new]; exact e2, r⟩
theorem dig_end (l : List Int) : endV (absS startV l) (absR l) = digestV l := rfl
theorem cat_all (ps : List Pc) (n : Nat) (h : ps.length ≤ n) : catV (ps.take n) = catV ps := by rw [List.take_of_length_le h]
theorem cat0 (ps : List Pc) : catV (ps.take 0) = [] := by rw [List.take_zero]; rfl
theorem abs0 (s : St) : absS s [] = s := rfl
theorem absR0 : absR [] = [] := rfl
attribute [local irreducible] spongeC absS absR startV digestV endV catV
set_option maxRecDepth 100000 in
set_option maxHeartbeats 8000000 in
theorem walk (a0 : Option Addr) (len0 cap0 : Nat) (xs0 : List Pc) (w : World) (w0 : RdP w a0 len0 cap0 xs0 ∧ ∀ x ∈ xs0, x.cap ≤ 140737488351232) :
    Calls Try.prog 12 #[.slice a0 len0 cap0] w fun e w' => e = .returned (.bool true) ∧ Below w.heap.size w w' := by
  obtain ⟨hr0, hcap⟩ := w0
  have hl0 := hr0.hl
  have hcc := hr0.hc
  by_cases h200 : (200 : Int) < (len0 : Int)
  · go_enter Try.func12, Try.ntmps12
    go_wp2_with fail
    refine (sane_any _).mono ?_
    rintro e w' ⟨rfl, hb⟩
    go_wp2_with fail
    go_ret
    exact ⟨rfl, hb⟩
  have hsm := small_any a0 len0 cap0 xs0 w hr0 hcap
  have Hsm := Lib.hid hsm
  have Hr0 := Lib.hid hr0
  have Hcap := Lib.hid hcap
  have Hl := Lib.hid hl0
  clear hsm hr0 hcap hl0
  go_enter Try.func12, Try.ntmps12
  go_wp2_with fail
  refine Hsm.out.mono ?_
  rintro e u ⟨b, rfl, hB, rfl⟩
  cases b with
  | false =>
    clear hB Hsm
    go_wp2_with fail
    refine (sane_any _).mono ?_
    rintro e w' ⟨rfl, hb⟩
    go_wp2_with fail
    go_ret
    exact ⟨rfl, hb⟩
  | true =>
  have hsize := hB rfl (by omega)
  have Hsize := Lib.hid hsize
  clear hB Hsm hsize
  go_wp2_with fail
  refine (startS_any w).mono ?_
  rintro e w1 ⟨rfl, hb1⟩
  obtain ⟨gs, W2, e1, e2, hg2, hb2, hq2, hs2⟩ := fresh hb1 (spongeC startV (.slice none 0 0)) 43
  obtain ⟨w1', hw1'⟩ : ∃ u, u = w1.alloc (.cells #[.int .u32 0, .int .u32 0, .int .u32 0, .int .u32 0, .int .u32 0, .int .u32 0, .int .u32 0, .int .u32 0, .slice none 0 0] 43) := ⟨_, rfl⟩
  have hz1 : Blk w1' w1.heap.size 43 #[.int .u32 0, .int .u32 0, .int .u32 0, .int .u32 0, .int .u32 0, .int .u32 0, .int .u32 0, .int .u32 0, .slice none 0 0] := by rw [hw1']; exact heap_new w1 _
  have hset : w1'.setRow w1.heap.size (spongeC startV (.slice none 0 0)) = W2 := by rw [hw1', World.setRow_alloc_new]; exact e2
  have Hw1' := Lib.hid hw1'
  have Hz1 := Lib.hid hz1
  have Hset := Lib.hid hset
  have He1 := Lib.hid e1
  have hgs0 : w.heap.size ≤ gs := by rw [← e1]; exact hb1.size
  have HI : Hid (StI w gs (gs + 1) xs0 0 (.slice none 0 0) W2) := Lib.hid ⟨⟨none, 0, 0, by rw [cat0, abs0]; exact hg2, by rw [cat0, absR0]; exact Rd.nil _⟩,
    by rw [cat0]; exact Own.nil _ _, hb2, hgs0, by omega, hs2⟩
  clear hw1' hz1 hset e1 e2 hg2 hb2 hq2 hs2 hb1
  go_wp2_with (rw [← Hw1'.out]; refine wpList_store_row rfl 43 (.tmp 3) (.tmp 21) rfl w1.heap.size (spongeC startV (.slice none 0 0)) rfl rfl 43 #[.int .u32 0, .int .u32 0, .int .u32 0, .int .u32 0, .int .u32 0, .int .u32 0, .int .u32 0, .int .u32 0, .slice none 0 0] Hz1.out (sizeSponge _ _) (sizeEq _ _) (oneSponge _ _ _ _) ?_)
  rw [Hset.out, He1.out]
  clear Hset He1 Hz1 Hw1'
  go_loopw [4, 5] (fun v i wr => ∃ k : Nat, k ≤ len0 ∧ i = .int .i64 k ∧ StI w gs (gs + 1) xs0 k v wr) (fun _ i _ => len0 - (intOf i).toNat)
  case atStart => exact ⟨0, Nat.zero_le _, rfl, HI.out⟩
  case round =>
    obtain ⟨k, hk, rfl, hI⟩ := hrel
    obtain ⟨ra, rl, rc, hsp, hrest⟩ := hI.sp
    have hall := hI.all
    have hbw := hI.below
    obtain ⟨ho1, ho2, ho3⟩ := hI.ok
    obtain ⟨L, hL⟩ : ∃ L, L = catV (xs0.take k) := ⟨_, rfl⟩
    rw [← hL] at hsp hrest hall
    have hrl : rl < 16 := by rw [← hrest.hl]; exact absR_lt L
    have hcl : L.length ≤ 4000 := by
      have h1 := cat_size xs0 (fun p hp => (Hr0.out.hb p hp).hl) k (by rw [Hl.out]; exact hk)
      have h2 := sizeN_mono xs0 k (len0 - k)
      rw [show k + (len0 - k) = len0 by omega] at h2
      rw [hL]; have := Hsize.out; omega
    have hgl := hsp.lt
    by_cases hlt : k < len0
    · obtain ⟨b, off, rfl, hcell0⟩ := Hr0.out.hr (by omega)
      have hRP := Hr0.out.below hbw (Nat.le_refl _)
      obtain ⟨b', off', e', hcell⟩ := hRP.hr (by omega)
      cases e'
      have hlen := Hl.out
      have hd0 := hcell0 k (by omega)
      have hp0 := Hr0.out.hb xs0[k] (List.getElem_mem _)
      have hb0 := World.block_lt_of_cell? w _ hd0
      have hc' := hcell k (by omega)
      have hp := hRP.hb xs0[k] (List.getElem_mem _)
      have hsn := cat_snoc xs0 k (by omega)
      have hcl1 : (catV (xs0.take (k + 1))).length ≤ 4000 := by
        have h1 := cat_size xs0 (fun p hp => (Hr0.out.hb p hp).hl) (k + 1) (by rw [hlen]; omega)
        have h2 := sizeN_mono xs0 (k + 1) (len0 - (k + 1))
        rw [show (k + 1) + (len0 - (k + 1)) = len0 by omega] at h2
        have := Hsize.out; omega
      obtain ⟨p, hpk⟩ : ∃ p, p = xs0[k] := ⟨_, rfl⟩
      rw [← hpk] at hc' hp hsn hd0 hp0
      obtain ⟨pa, pl, pc, px⟩ := p
      simp only at hc' hp hsn hd0 hp0 hb0
      rw [← hL] at hsn
      have hpl := hp.hl
      have hla : L.length + pl ≤ 4000 := by
        rw [hsn, List.length_append] at hcl1; omega
      have habs := absS_append startV L px
      have habr := absR_append L px
      obtain ⟨σ, hσ⟩ : ∃ σ, σ = absS startV L := ⟨_, rfl⟩
      obtain ⟨σ', hσ'⟩ : ∃ σ', σ' = absS startV (L ++ px) := ⟨_, rfl⟩
      obtain ⟨R, hR⟩ : ∃ R, R = absR L := ⟨_, rfl⟩
      obtain ⟨R', hR'⟩ : ∃ R', R' = absR (L ++ px) := ⟨_, rfl⟩
      rw [← hσ', ← hσ, ← hR] at habs
      rw [← hR', ← hR] at habr
      rw [← hσ] at hsp
      rw [← hR] at hrest
      have hcall := fun (u : World) (hu : Below wr.heap.size wr u) => absorbE_ok σ ra rl rc R pa pl pc px u (hrest.below hu (Nat.le_refl _)) (hp.below hu (Nat.le_refl _)) hrl (by omega)
      rw [← habs, ← habr] at hcall
      have hbs : b < wr.heap.size := World.block_lt_of_cell? wr _ hc'
      obtain ⟨m6, hm6⟩ : ∃ m, m = R'.length := ⟨_, rfl⟩
      have hk0 : (0 : Int) ≤ (k : Int) := by omega
      have hkl : (k : Int) < (len0 : Int) := by omega
      have hvlt := hall.1.lt
      have HC := Lib.hid hcall
      have HD := Lib.hid hc'
      have HP := Lib.hid (And.intro hd0 hp0)
      have Hsp := Lib.hid hsp
      have Hall := Lib.hid hall
      have Hbw := Lib.hid hbw
      have HS' := Lib.hid (And.intro hsn (And.intro hσ' hR'))
      have Hm6 := Lib.hid hm6
      have Hok := Lib.hid (And.intro ho1 (And.intro ho2 ho3))
      have Hvlt := Lib.hid hvlt
      have HL := Lib.hid (And.intro hL hla)
      clear hcell hcell0 hd0 hp0 hRP hlen hc' hp hsn hcl1 hpk hpl hla habs habr hσ hσ' hR hR' hrest hcall hm6 hsp hall hbw hI ho1 ho2 ho3 hcl hL hvlt HI
      go_wp2_with fail
      go_cut [6, 7] from 22 to 45 (fun sv fv wx => fv = .int .i64 0 ∧ ∃ g9 r6 c6, sv = .pointer (some ⟨g9, 0, none⟩) ∧ Blk wx g9 43 (spongeC σ' (.slice r6 m6 c6)) ∧ Rd wx r6 m6 c6 R' ∧ (∀ x, r6 = some x → wr.heap.size ≤ x.block) ∧ Below wr.heap.size wr wx ∧ wr.heap.size ≤ g9)
      case first =>
        refine wp_region_held_drew (S := Below wr.heap.size wr) (by kernel_rfl) (Below.refl _ _).drew (fun _ => ?_)
        have HS : Hid (Below wr.heap.size wr wr.drew) := Lib.hid (Below.refl _ _).drew
        refine wpAnyH_take (i := 0) (v := .agg (spongeC σ (.slice ra rl rc))) rfl (by kernel_rfl) (by kernel_rfl) (by kernel_rfl) (fun _ _ _ h => h) (load_yields (by rfl) 43 (.tmp 3) rfl gs rfl 43 (spongeC σ (.slice ra rl rc)) (0, 0) _ (fun u hu => Hsp.out.below hu hgl) Try.underlying43 rfl (sizeSponge _ _)) HS.out ?_
        go_simp
        refine wpAnyH_take (i := 1) (v := .slice (some ⟨b, off, none⟩) len0 cap0) rfl (by kernel_rfl) (by kernel_rfl) (by kernel_rfl) (fun _ _ _ h => h) (Or.inl ⟨by rfl, ?_⟩) HS.out ?_
        · intro u hu; go_simp
        go_simp
        refine wpAnyH_take (i := 2) (v := .int .i64 k) rfl (by kernel_rfl) (by kernel_rfl) (by kernel_rfl) (fun _ _ _ h => h) (Or.inl ⟨by rfl, ?_⟩) HS.out ?_
        · intro u hu; go_simp
        go_simp
        refine wpAnyH_take (i := 3) (v := .pointer (some ⟨b, off + k, none⟩)) rfl (by kernel_rfl) (by kernel_rfl) (by kernel_rfl) (fun _ _ _ h => h) (Or.inl ⟨by rfl, ?_⟩) HS.out ?_
        · intro u hu; go_simp
        go_simp
        refine wpAnyH_take (i := 4) (v := .slice pa pl pc) rfl (by kernel_rfl) (by kernel_rfl) (by kernel_rfl) (fun _ _ _ h => h) (Or.inl ⟨by rfl, ?_⟩) HS.out ?_
        · intro u hu; have := (hu.cell (p := ⟨b, off + k, none⟩) hbs).trans HD.out; go_simp
        go_simp
        refine wpAnyH_ready (rs := [5, 9]) (by kernel_rfl) (by simp) ?_
        refine AllReadyH.cons rfl (fun K hK => ?_) (AllReadyH.cons rfl (fun K hK => ?_) AllReadyH.nil)
        · go_simp
          refine (HC.out _ HS.out).mono ?_
          rintro e w6 ⟨v6, rfl, ho6, hb6⟩
          obtain ⟨r6, c6, rfl, hr6, hblk6⟩ := ho6.rdb Hm6.out.symm
          have Hr6 := Lib.hid hr6
          have Hblk6 := Lib.hid hblk6
          clear ho6 hr6 hblk6
          have HS' : Hid (Below wr.heap.size wr w6) := Lib.hid (HS.out.trans (hb6.mono HS.out.size))
          have Hblk : Hid (∀ x, r6 = some x → wr.heap.size ≤ x.block) := Lib.hid (fun x hx => by obtain ⟨b9, rfl, hb9⟩ := Hblk6.out x hx; exact Nat.le_trans HS.out.size hb9)
          clear HS hb6 Hblk6
          have HS := HS'
          clear HS'
          refine hK.out _ _ HS.out (fun _ => ?_)
          clear hK K
          refine wpAnyH_take (i := 6) (v := .tuple #[.agg (spongeC σ' (.slice r6 m6 c6)), .int .i64 0]) rfl (by kernel_rfl) (by kernel_rfl) (by kernel_rfl) (fun _ _ _ h => h) (Or.inl ⟨by rfl, ?_⟩) HS.out ?_
          · intro u hu; go_simp
          go_simp
          refine wpAnyH_take (i := 7) (v := .agg (spongeC σ' (.slice r6 m6 c6))) rfl (by kernel_rfl) (by kernel_rfl) (by kernel_rfl) (fun _ _ _ h => h) (Or.inl ⟨by rfl, ?_⟩) HS.out ?_
          · intro u hu; go_simp
          go_simp
          refine wpAnyH_take (i := 8) (v := .int .i64 0) rfl (by kernel_rfl) (by kernel_rfl) (by kernel_rfl) (fun _ _ _ h => h) (Or.inl ⟨by rfl, ?_⟩) HS.out ?_
          · intro u hu; go_simp
          go_simp
          refine wpAnyH_ready (rs := [9]) (by kernel_rfl) (by simp) ?_
          refine AllReadyH.cons rfl (fun K hK => ?_) AllReadyH.nil
          go_simp
          obtain ⟨w7, hw7⟩ : ∃ w7, w7 = w6.alloc (.cells #[.int .u32 0, .int .u32 0, .int .u32 0, .int .u32 0, .int .u32 0, .int .u32 0, .int .u32 0, .int .u32 0, .slice none 0 0] 43) := ⟨_, rfl⟩
          rw [← hw7]
          have hz7 : Blk w7 w6.heap.size 43 #[.int .u32 0, .int .u32 0, .int .u32 0, .int .u32 0, .int .u32 0, .int .u32 0, .int .u32 0, .int .u32 0, .slice none 0 0] := by rw [hw7]; exact heap_new w6 _
          have HS' : Hid (Below wr.heap.size wr w7) := Lib.hid (by rw [hw7]; exact HS.out.alloc HS.out.size _)
          have hgs : wr.heap.size ≤ w6.heap.size := HS.out.size
          obtain ⟨g9, hg9e⟩ : ∃ g9, g9 = w6.heap.size := ⟨_, rfl⟩
          have HR8 : Hid (Rd (w7.setRow g9 (spongeC σ' (.slice r6 m6 c6))) r6 m6 c6 R') := Lib.hid (Hr6.out.below (show Below w6.heap.size w6 _ from (show Below w6.heap.size w6 w7 by rw [hw7]; exact (Below.refl _ w6).alloc (Nat.le_refl _) _).trans (below_setRow w7 w6.heap.size g9 _ (by omega))) (Nat.le_refl _))
          rw [← hg9e] at hz7 hgs ⊢
          have HZ := Lib.hid hz7
          clear HS hw7 hz7 hg9e Hr6
          have HS := HS'
          clear HS'
          refine hK.out _ _ HS.out (fun _ => ?_)
          clear hK K
          refine wpAnyH_ready (rs := [10]) (by kernel_rfl) (by simp) ?_
          refine AllReadyH.cons rfl (fun K hK => ?_) AllReadyH.nil
          rw [if_pos (by rfl)]
          refine wp_store_row 43 (.tmp 6) (.tmp 35) rfl g9 (spongeC σ' (.slice r6 m6 c6)) rfl rfl 43 #[.int .u32 0, .int .u32 0, .int .u32 0, .int .u32 0, .int .u32 0, .int .u32 0, .int .u32 0, .int .u32 0, .slice none 0 0] HZ.out (sizeSponge _ _) (sizeEq _ _) (oneSponge _ _ _ _) ?_
          have hz8 := HZ.out.setRow (spongeC σ' (.slice r6 m6 c6))
          have HS' := HS.out.trans (below_setRow _ wr.heap.size g9 (spongeC σ' (.slice r6 m6 c6)) hgs)
          refine hK.out _ _ HS' (fun _ => ?_)
          clear hK K
          have HS2 := Lib.hid HS'
          have HZ8 := Lib.hid hz8
          clear HS HS' hz8 HZ
          refine wpAnyH_ready (rs := [11]) (by kernel_rfl) (by simp) ?_
          refine AllReadyH.cons rfl (fun K hK => ?_) AllReadyH.nil
          go_simp
          refine hK.out _ _ HS2.out (fun _ => ?_)
          clear hK K
          refine wpAnyH_done (by kernel_rfl) ?_ _
          go_wp2_with fail
          go_meet
          exact ⟨rfl, g9, r6, c6, rfl, HZ8.out, HR8.out, Hblk.out, HS2.out, hgs⟩
        · go_simp
          obtain ⟨w7, hw7⟩ : ∃ w7, w7 = (wr.alloc (.cells #[.int .u32 0, .int .u32 0, .int .u32 0, .int .u32 0, .int .u32 0, .int .u32 0, .int .u32 0, .int .u32 0, .slice none 0 0] 43)).drew := ⟨_, rfl⟩
          rw [← hw7]
          have hz7 : Blk w7 wr.heap.size 43 #[.int .u32 0, .int .u32 0, .int .u32 0, .int .u32 0, .int .u32 0, .int .u32 0, .int .u32 0, .int .u32 0, .slice none 0 0] := by rw [hw7]; exact heap_new wr _
          have hs7 : wr.heap.size < w7.heap.size := hz7.lt
          have HS' : Hid (Below wr.heap.size wr w7) := Lib.hid (by rw [hw7]; exact ((Below.refl wr.heap.size wr).alloc (Nat.le_refl _) _).drew)
          obtain ⟨g9, hg9e⟩ : ∃ g9, g9 = wr.heap.size := ⟨_, rfl⟩
          have hgs : wr.heap.size ≤ g9 := by omega
          rw [← hg9e] at hz7 ⊢
          have HZ := Lib.hid hz7
          have Hg9e := Lib.hid hg9e
          clear HS hw7 hz7 hg9e
          have HS := HS'
          clear HS'
          refine hK.out _ _ HS.out (fun _ => ?_)
          clear hK K
          refine wpAnyH_ready (rs := [5]) (by kernel_rfl) (by simp) ?_
          refine AllReadyH.cons rfl (fun K hK => ?_) AllReadyH.nil
          go_simp
          refine (HC.out _ HS.out).mono ?_
          rintro e w6 ⟨v6, rfl, ho6, hb6⟩
          obtain ⟨r6, c6, rfl, hr6, hblk6⟩ := ho6.rdb Hm6.out.symm
          have Hr6 := Lib.hid hr6
          have Hblk6 := Lib.hid hblk6
          clear ho6 hr6 hblk6
          have HZ' := Lib.hid (HZ.out.below hb6 HZ.out.lt)
          have HS' : Hid (Below wr.heap.size wr w6) := Lib.hid (HS.out.trans (hb6.mono HS.out.size))
          have Hblk : Hid (∀ x, r6 = some x → wr.heap.size ≤ x.block) := Lib.hid (fun x hx => by obtain ⟨b9, rfl, hb9⟩ := Hblk6.out x hx; exact Nat.le_trans HS.out.size hb9)
          have HR8 : Hid (Rd (w6.setRow g9 (spongeC σ' (.slice r6 m6 c6))) r6 m6 c6 R') := Lib.hid (((But.refl g9 w6).setRow _).rd Hr6.out (fun x hx => by obtain ⟨b9, rfl, hb9⟩ := Hblk6.out x hx; rw [Hg9e.out]; show b9 ≠ _; omega))
          clear HS hb6 HZ Hr6 Hblk6
          have HS := HS'
          have HZ := HZ'
          clear HS' HZ'
          refine hK.out _ _ HS.out (fun _ => ?_)
          clear hK K
          refine wpAnyH_take (i := 6) (v := .tuple #[.agg (spongeC σ' (.slice r6 m6 c6)), .int .i64 0]) rfl (by kernel_rfl) (by kernel_rfl) (by kernel_rfl) (fun _ _ _ h => h) (Or.inl ⟨by rfl, ?_⟩) HS.out ?_
          · intro u hu; go_simp
          go_simp
          refine wpAnyH_take (i := 7) (v := .agg (spongeC σ' (.slice r6 m6 c6))) rfl (by kernel_rfl) (by kernel_rfl) (by kernel_rfl) (fun _ _ _ h => h) (Or.inl ⟨by rfl, ?_⟩) HS.out ?_
          · intro u hu; go_simp
          go_simp
          refine wpAnyH_take (i := 8) (v := .int .i64 0) rfl (by kernel_rfl) (by kernel_rfl) (by kernel_rfl) (fun _ _ _ h => h) (Or.inl ⟨by rfl, ?_⟩) HS.out ?_
          · intro u hu; go_simp
          go_simp
          refine wpAnyH_ready (rs := [10]) (by kernel_rfl) (by simp) ?_
          refine AllReadyH.cons rfl (fun K hK => ?_) AllReadyH.nil
          rw [if_pos (by rfl)]
          refine wp_store_row 43 (.tmp 6) (.tmp 35) rfl g9 (spongeC σ' (.slice r6 m6 c6)) rfl rfl 43 #[.int .u32 0, .int .u32 0, .int .u32 0, .int .u32 0, .int .u32 0, .int .u32 0, .int .u32 0, .int .u32 0, .slice none 0 0] HZ.out (sizeSponge _ _) (sizeEq _ _) (oneSponge _ _ _ _) ?_
          have hz8 := HZ.out.setRow (spongeC σ' (.slice r6 m6 c6))
          have HS' := HS.out.trans (below_setRow _ wr.heap.size g9 (spongeC σ' (.slice r6 m6 c6)) hgs)
          refine hK.out _ _ HS' (fun _ => ?_)
          clear hK K
          have HS2 := Lib.hid HS'
          have HZ8 := Lib.hid hz8
          clear HS HS' hz8 HZ
          refine wpAnyH_ready (rs := [11]) (by kernel_rfl) (by simp) ?_
          refine AllReadyH.cons rfl (fun K hK => ?_) AllReadyH.nil
          go_simp
          refine hK.out _ _ HS2.out (fun _ => ?_)
          clear hK K
          refine wpAnyH_done (by kernel_rfl) ?_ _
          go_wp2_with fail
          go_meet
          exact ⟨rfl, g9, r6, c6, rfl, HZ8.out, HR8.out, Hblk.out, HS2.out, hgs⟩
      case rest =>
        obtain ⟨rfl, g9, r6, c6, rfl, hz, hr6, hblk6, hb, hg9⟩ := hcut
        have hgc : Blk wc gs 43 (spongeC σ (.slice ra rl rc)) := Hsp.out.below hb hgl
        have hac := Hall.out.below hb (Nat.le_refl _)
        have hbc : Below w.heap.size w wc := Hbw.out.trans (hb.mono Hbw.out.size)
        obtain ⟨W11, hW11⟩ : ∃ W, W = wc.setRow gs (spongeC σ' (.slice r6 m6 c6)) := ⟨_, rfl⟩
        have hg11 : Blk W11 gs 43 (spongeC σ' (.slice r6 m6 c6)) := by rw [hW11]; exact hgc.setRow _
        have ha11 : Own W11 (gs + 1) u4 L := by rw [hW11]; exact hac.but ((But.refl gs wc).setRow _) (by omega)
        have hr11 : Rd W11 r6 m6 c6 R' := by rw [hW11]; exact ((But.refl gs wc).setRow _).rd hr6 (fun x hx => by have := hblk6 x hx; omega)
        have hb11 : Below w.heap.size w W11 := by rw [hW11]; exact hbc.trans (below_setRow _ _ _ _ hgs0)
        have hs11 : gs + 1 ≤ W11.heap.size := by have := hg11.lt; omega
        have d11 := (hb11.cell (p := ⟨b, off + k, none⟩) hb0).trans HP.out.1
        have hp11 := HP.out.2.below hb11 (Nat.le_refl _)
        have hla : L.length + pl ≤ 140737488355328 := by have := HL.out.2; omega
        have Hz := Lib.hid hz
        have Hgc := Lib.hid hgc
        have HW11 := Lib.hid hW11
        have Hg11 := Lib.hid hg11
        have Ha11 := Lib.hid ha11
        have Hr11 := Lib.hid hr11
        have Hb11 := Lib.hid hb11
        have Hp11 := Lib.hid hp11
        have Hblk6 := Lib.hid hblk6
        clear hz hgc hW11 hg11 ha11 hr11 hb11 hp11 hblk6 hac hbc hr6 hb
        go_upto_region 12 with (first
          | (refine list_load rfl 43 (.tmp 6) rfl g9 rfl 43 (spongeC σ' (.slice r6 m6 c6)) (0, 0) _ Hz.out Try.underlying43 rfl (sizeSponge _ _) ?_)
          | (refine wpList_store_row rfl 43 (.tmp 3) (.tmp 39) rfl gs (spongeC σ' (.slice r6 m6 c6)) rfl rfl 43 (spongeC σ (.slice ra rl rc)) Hgc.out (sizeSponge _ _) (sizeEq2 _ _ _ _) (oneSponge _ _ _ _) ?_))
        rw [← HW11.out]
        clear HW11 Hgc Hz
        go_wp2_with (at_builtin; refine wpList_append_rd rfl (.tmp 40) (.tmp 44) 22 rfl (gs + 1) Try.infoB Try.underlying22 _ L rfl Ha11.out _ _ _ _ rfl Hp11.out hla hs11 ?_; intro v' w12 ho hg)
        have hne : ∀ j, u4.ownBlock = some j → gs + 1 ≤ j ∧ j < wr.heap.size := fun j hj => Hvlt.out j hj
        have hI12 : StI w gs (gs + 1) xs0 (k + 1) v' w12 := by
          refine ⟨⟨r6, m6, c6, ?_, ?_⟩, ?_, ?_, ⟨Hok.out.1, Hok.out.2.1, Nat.le_trans hs11 hg.size⟩⟩
          · rw [HS'.out.1, ← HS'.out.2.1]
            exact (hg.block gs (by omega) (fun e => by have := hne gs e.symm; omega)).trans Hg11.out
          · rw [HS'.out.1, ← HS'.out.2.2]
            exact Rd.grown Hr11.out hg (fun x hx e => by have h1 := Hblk6.out x hx; have h2 := hne _ e.symm; omega)
          · rw [HS'.out.1]; exact ho
          · exact Hb11.out.grown hg (by omega) (fun j hj => by have := (hne j hj).1; omega)
        have HI12 := Lib.hid hI12
        clear hI12 ho hg hne
        go_wp2_with fail
        go_roundw
        case rel => exact ⟨k + 1, by omega, by go_num, HI12.out⟩
        case measure => simp [intOf]; omega
    · obtain rfl : k = len0 := by omega
      have hLall : L = catV xs0 := by rw [hL, cat_all xs0 k (by rw [Hl.out]; exact Nat.le_refl _)]
      obtain ⟨m, hm⟩ : ∃ m, m = L.length := ⟨_, rfl⟩
      obtain ⟨aa, ac, rfl, hra⟩ := hall.rdz hm.symm
      obtain ⟨σ, hσ⟩ : ∃ σ, σ = absS startV L := ⟨_, rfl⟩
      obtain ⟨R, hR⟩ : ∃ R, R = absR L := ⟨_, rfl⟩
      obtain ⟨D, hD⟩ : ∃ D, D = digestV L := ⟨_, rfl⟩
      have hend : endV σ R = D := by rw [hσ, hR, hD]; exact dig_end L
      have hDl : D.length = 16 := by rw [hD]; exact digestV_len L
      rw [← hσ] at hsp
      rw [← hR] at hrest
      have hml : m ≤ 4000 := by omega
      have hcall := fun (u : World) (hu : Below wr.heap.size wr u) => absorbE_ok startV none 0 0 [] aa m ac L u (Rd.nil u) (hra.below hu (Nat.le_refl _)) (by omega) (by omega)
      simp only [List.nil_append] at hcall
      rw [← hσ, ← hR] at hcall
      obtain ⟨m2, hm2⟩ : ∃ m, m = R.length := ⟨_, rfl⟩
      have HC := Lib.hid hcall
      have Hsp := Lib.hid hsp
      have Hrest := Lib.hid hrest
      have Hra := Lib.hid hra
      have Hbw := Lib.hid hbw
      have Hend := Lib.hid hend
      have HDl := Lib.hid hDl
      have HDv := Lib.hid hD
      have Hm2 := Lib.hid hm2
      clear hLall hm hσ hR hD hend hDl hsp hrest hcall hra hall hbw hI ho1 ho2 ho3 hcl hL HI hm2
      go_wp2_with fail
      refine (startS_any wr).mono ?_
      rintro e w1 ⟨rfl, hb1⟩
      have Hb1 := Lib.hid hb1
      clear hb1
      go_wp2_with fail
      refine (HC.out w1 Hb1.out).mono ?_
      rintro e w2 ⟨v2, rfl, ho2, hb2⟩
      obtain ⟨r2, c2, rfl, hr2⟩ := ho2.rdz Hm2.out.symm
      have hb12 := Hb1.out.trans (hb2.mono Hb1.out.size)
      obtain ⟨w3, e1, hz3, g8, W4, e2, e3, hg8, hb4, hq4, -⟩ := freshS hb12 σ (.slice r2 m2 c2)
      have Hr4 := Lib.hid (hr2.below hq4 (by omega))
      have Hg8 := Lib.hid hg8
      have Hb4 := Lib.hid hb4
      have He1 := Lib.hid e1
      have He2 := Lib.hid e2
      have He3 := Lib.hid e3
      have Hz3 := Lib.hid hz3
      clear ho2 hb2 hr2 hb12 e1 hz3 e2 e3 hg8 hb4 hq4 Hb1 HC
      go_upto_region 14 with (rw [He1.out]; refine wpList_store_row rfl 43 (.tmp 8) (.tmp 50) rfl w2.heap.size (spongeC σ (.slice r2 m2 c2)) rfl rfl 43 #[.int .u32 0, .int .u32 0, .int .u32 0, .int .u32 0, .int .u32 0, .int .u32 0, .int .u32 0, .int .u32 0, .slice none 0 0] Hz3.out (sizeSponge _ _) (sizeEq _ _) (oneSponge _ _ _ _) ?_)
      rw [He3.out, He2.out]
      clear He1 He2 He3 Hz3
      have Hsp4 := Lib.hid (Hsp.out.below Hb4.out hgl)
      have Hrest4 := Lib.hid (Hrest.out.below Hb4.out (Nat.le_refl _))
      go_wp2_with (refine list_load rfl 43 (.tmp 3) rfl gs rfl 43 (spongeC σ (.slice ra rl rc)) (0, 0) _ Hsp4.out Try.underlying43 rfl (sizeSponge _ _) ?_)
      refine (endE_ok σ ra rl rc R W4 Hrest4.out hrl).mono ?_
      rintro e w5 ⟨rfl, hb5⟩
      rw [Hend.out]
      have hb45 := Hb4.out.trans (hb5.mono Hb4.out.size)
      obtain ⟨w6, e1, hz6, gd, W7, e2, e3, hgd, hb7, hq7, -⟩ := freshD hb45 D HDl.out
      have hs5 := hb5.size
      have Hgd := Lib.hid hgd
      have Hb7 := Lib.hid hb7
      have Hr7 := Lib.hid ((Hr4.out.below hb5 (Nat.le_refl _)).below hq7 (by omega))
      have Hg87 := Lib.hid ((Hg8.out.below hb5 Hg8.out.lt).below hq7 (by have := Hg8.out.lt; omega))
      have Hsp7 := Lib.hid (Hsp.out.below hb7 hgl)
      have Hrest7 := Lib.hid (Hrest.out.below hb7 (Nat.le_refl _))
      have Hra7 := Lib.hid (Hra.out.below hb7 (Nat.le_refl _))
      have Hbw7 : Hid (Below w.heap.size w W7) := Lib.hid (Hbw.out.trans (hb7.mono Hbw.out.size))
      have He1 := Lib.hid e1
      have He2 := Lib.hid e2
      have He3 := Lib.hid e3
      have Hz6 := Lib.hid hz6
      have z1 := Try.sizeDig D HDl.out
      have z2 := zsize D HDl.out
      have z3 := digC_one D
      clear hb5 hb45 e1 hz6 e2 e3 hgd hb7 hq7 Hr4 Hg8 Hsp4 Hrest4 Hb4 Hsp Hrest Hra hs5
      go_upto_region 15 with (rw [He1.out]; refine wpList_store_row rfl 47 (.tmp 10) (.tmp 55) rfl w5.heap.size (digC D) rfl rfl 47 (digC (List.replicate 16 0)) Hz6.out z1 z2 z3 ?_)
      rw [He3.out, He2.out]
      clear He1 He2 He3 Hz6 z2 z3
      have l1 := Hsp7.out.lt
      have l2 := Hg87.out.lt
      have l3 := Hgd.out.lt
      have Z1 := Lib.hid z1
      clear z1
      refine wp_region_held_drew (S := Below W7.heap.size W7) (by kernel_rfl) (Below.refl _ _).drew (fun _ => ?_)
      have HS : Hid (Below W7.heap.size W7 W7.drew) := Lib.hid (Below.refl _ _).drew
      refine wpAnyH_ready (rs := [0]) (by kernel_rfl) (by simp) ?_
      refine AllReadyH.cons rfl (fun K hK => ?_) AllReadyH.nil
      go_simp
      refine (sane_any _).mono ?_
      rintro e w8 ⟨rfl, hb8⟩
      have HS' : Hid (Below W7.heap.size W7 w8) := Lib.hid (HS.out.trans (hb8.mono HS.out.size))
      clear HS hb8
      have HS := HS'
      clear HS'
      refine hK.out _ _ HS.out (fun _ => ?_)
      clear hK K
      refine wpAnyH_take (i := 1) (v := .bool true) rfl (by kernel_rfl) (by kernel_rfl) (by kernel_rfl) (fun _ _ _ h => h) (Or.inl ⟨by rfl, ?_⟩) HS.out ?_
      · intro u hu; go_simp
      go_simp
      refine wpAnyH_take (i := 2) (v := .int .i64 0) rfl (by kernel_rfl) (by kernel_rfl) (by kernel_rfl) (fun _ _ _ h => h) (Or.inl ⟨by rfl, ?_⟩) HS.out ?_
      · intro u hu; go_simp
      go_simp
      refine wpAnyH_take (i := 3) (v := .bool true) rfl (by kernel_rfl) (by kernel_rfl) (by kernel_rfl) (fun _ _ _ h => h) (Or.inl ⟨by rfl, ?_⟩) HS.out ?_
      · intro u hu; go_simp
      go_simp
      refine wpAnyH_take (i := 4) (v := .bool true) rfl (by kernel_rfl) (by kernel_rfl) (by kernel_rfl) (fun _ _ _ h => h) (Or.inl ⟨by rfl, ?_⟩) HS.out ?_
      · intro u hu; go_simp
      go_simp
      refine wpAnyH_take (i := 5) (v := .bool true) rfl (by kernel_rfl) (by kernel_rfl) (by kernel_rfl) (fun _ _ _ h => h) (Or.inl ⟨by rfl, ?_⟩) HS.out ?_
      · intro u hu; go_simp
      go_simp
      refine wpAnyH_take (i := 6) (v := .int .i64 0) rfl (by kernel_rfl) (by kernel_rfl) (by kernel_rfl) (fun _ _ _ h => h) (Or.inl ⟨by rfl, ?_⟩) HS.out ?_
      · intro u hu; go_simp
      go_simp
      refine wpAnyH_take (i := 7) (v := .bool true) rfl (by kernel_rfl) (by kernel_rfl) (by kernel_rfl) (fun _ _ _ h => h) (Or.inl ⟨by rfl, ?_⟩) HS.out ?_
      · intro u hu; go_simp
      go_simp
      refine wpAnyH_take (i := 8) (v := .bool true) rfl (by kernel_rfl) (by kernel_rfl) (by kernel_rfl) (fun _ _ _ h => h) (Or.inl ⟨by rfl, ?_⟩) HS.out ?_
      · intro u hu; go_simp
      go_simp
      refine wpAnyH_take (i := 9) (v := .bool true) rfl (by kernel_rfl) (by kernel_rfl) (by kernel_rfl) (fun _ _ _ h => h) (Or.inl ⟨by rfl, ?_⟩) HS.out ?_
      · intro u hu; go_simp
      go_simp
      refine wpAnyH_take (i := 10) (v := .agg (spongeC σ (.slice ra rl rc))) rfl (by kernel_rfl) (by kernel_rfl) (by kernel_rfl) (fun _ _ _ h => h) (load_yields (by rfl) 43 (.tmp 3) rfl gs rfl 43 (spongeC σ (.slice ra rl rc)) (0, 0) _ (fun u hu => Hsp7.out.below hu l1) Try.underlying43 rfl (sizeSponge _ _)) HS.out ?_
      go_simp
      refine wpAnyH_take (i := 11) (v := .agg (spongeC σ (.slice r2 m2 c2))) rfl (by kernel_rfl) (by kernel_rfl) (by kernel_rfl) (fun _ _ _ h => h) (load_yields (by rfl) 43 (.tmp 8) rfl g8 rfl 43 (spongeC σ (.slice r2 m2 c2)) (0, 0) _ (fun u hu => Hg87.out.below hu l2) Try.underlying43 rfl (sizeSponge _ _)) HS.out ?_
      go_simp
      refine wpAnyH_ready (rs := [12]) (by kernel_rfl) (by simp) ?_
      refine AllReadyH.cons rfl (fun K hK => ?_) AllReadyH.nil
      go_simp
      refine (sameS_any σ ra rl rc r2 m2 c2 R w8 (Hrest7.out.below HS.out (Nat.le_refl _)) (Hr7.out.below HS.out (Nat.le_refl _))).mono ?_
      rintro e w9 ⟨rfl, hb9⟩
      have HS' : Hid (Below W7.heap.size W7 w9) := Lib.hid (HS.out.trans (hb9.mono HS.out.size))
      clear HS hb9
      have HS := HS'
      clear HS'
      refine hK.out _ _ HS.out (fun _ => ?_)
      clear hK K
      refine wpAnyH_take (i := 13) (v := .bool true) rfl (by kernel_rfl) (by kernel_rfl) (by kernel_rfl) (fun _ _ _ h => h) (Or.inl ⟨by rfl, ?_⟩) HS.out ?_
      · intro u hu; go_simp
      go_simp
      refine wpAnyH_take (i := 14) (v := .bool true) rfl (by kernel_rfl) (by kernel_rfl) (by kernel_rfl) (fun _ _ _ h => h) (Or.inl ⟨by rfl, ?_⟩) HS.out ?_
      · intro u hu; go_simp
      go_simp
      refine wpAnyH_take (i := 15) (v := .agg (digC D)) rfl (by kernel_rfl) (by kernel_rfl) (by kernel_rfl) (fun _ _ _ h => h) (load_yields (by rfl) 47 (.tmp 10) rfl gd rfl 47 (digC D) (0, 0) _ (fun u hu => Hgd.out.below hu l3) Try.underlying47 rfl Z1.out) HS.out ?_
      go_simp
      refine wpAnyH_take (i := 16) (v := .slice aa m ac) rfl (by kernel_rfl) (by kernel_rfl) (by kernel_rfl) (fun _ _ _ h => h) (Or.inl ⟨by rfl, ?_⟩) HS.out ?_
      · intro u hu; go_simp
      go_simp
      refine wpAnyH_ready (rs := [17]) (by kernel_rfl) (by simp) ?_
      refine AllReadyH.cons rfl (fun K hK => ?_) AllReadyH.nil
      go_simp
      refine (digest_any aa m ac L w9 (Hra7.out.below HS.out (Nat.le_refl _)) (by omega)).mono ?_
      rintro e w10 ⟨rfl, hb10⟩
      rw [← HDv.out]
      have HS' : Hid (Below W7.heap.size W7 w10) := Lib.hid (HS.out.trans (hb10.mono HS.out.size))
      clear HS hb10
      have HS := HS'
      clear HS'
      refine hK.out _ _ HS.out (fun _ => ?_)
      clear hK K
      refine wpAnyH_take (i := 18) (v := .bool true) rfl (by kernel_rfl) (by kernel_rfl) (by kernel_rfl) (fun _ _ _ h => h) (Or.inl ⟨by rfl, ?_⟩) HS.out ?_
      · intro u hu; have hE := eqIn_dig u D D HDl.out HDl.out; rw [beq_self_eq_true] at hE; go_simp
      go_simp
      refine wpAnyH_take (i := 19) (v := .bool true) rfl (by kernel_rfl) (by kernel_rfl) (by kernel_rfl) (fun _ _ _ h => h) (Or.inl ⟨by rfl, ?_⟩) HS.out ?_
      · intro u hu; go_simp
      go_simp
      refine wpAnyH_ready (rs := [20]) (by kernel_rfl) (by simp) ?_
      refine AllReadyH.cons rfl (fun K hK => ?_) AllReadyH.nil
      go_simp
      refine hK.out _ _ HS.out (fun _ => ?_)
      clear hK K
      refine wpAnyH_done (by kernel_rfl) ?_ _
      go_wp2_with fail
      go_ret
      exact ⟨rfl, Hbw7.out.trans (HS.out.mono Hbw7.out.size)⟩
end Go.Proofs.Ytjkkjfigoanplaa.sumsStreams
