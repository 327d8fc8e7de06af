/- The laws' common test holds. -/
import Derived.Test.YtnlblmghhkmbbaaSsane0
import Derived.Deep.WholeRow
import Derived.Lib.SlBytesConst
namespace Go.Proofs.Ytnlblmghhkmbbaa
set_option linter.unusedVariables false
open Go.RowKit Go.Shelf

theorem Rd.lit (w : World) (xs : List Int) (t : TypeId) (hb : ∀ n ∈ xs, 0 ≤ n ∧ n ≤ 255) (hm : xs.length ≤ 1000) : Rd (w.alloc (.cells (digC xs) t)) (some ⟨w.heap.size, 0, none⟩) xs.length xs.length xs :=
  Blk.rd (heap_new w _) hb (by unfold maxLen; omega)
theorem fresh {w w1 : World} (h : Below w.heap.size w w1) (cs : Array Value) (t : TypeId) : ∃ g W, w1.heap.size = g ∧ w1.alloc (.cells cs t) = W ∧ Blk W g t cs ∧ Below w.heap.size w W ∧ Below g w1 W ∧ g < W.heap.size :=
  ⟨_, _, rfl, rfl, heap_new w1 _, h.trans ((Below.refl _ w1).alloc h.size _), (Below.refl _ w1).alloc (Nat.le_refl _) _, by simp⟩
theorem Try.sizeRoll' : (Try.prog.info? 31).map (·.size) = some 3 := by kernel_rfl
theorem freshD {w w1 : World} (h : Below w.heap.size w w1) (D : List Int) (hD : D.length = 16) :
    ∃ W3, w1.alloc (.cells #[.int .u8 0, .int .u8 0, .int .u8 0, .int .u8 0, .int .u8 0, .int .u8 0, .int .u8 0, .int .u8 0, .int .u8 0, .int .u8 0, .int .u8 0, .int .u8 0, .int .u8 0, .int .u8 0, .int .u8 0, .int .u8 0] 47) = W3 ∧ Blk W3 w1.heap.size 47 (digC (List.replicate 16 0)) ∧
      ∃ g W, w1.heap.size = g ∧ W3.setRow w1.heap.size (digC D) = W ∧ Blk W g 47 (digC D) ∧ Below w.heap.size w W ∧ Below g w1 W ∧ g < W.heap.size := by
  refine ⟨_, rfl, ?_, ?_⟩
  · rw [← zlit]; exact heap_new w1 _
  · obtain ⟨g, W, e1, e2, r⟩ := fresh h (digC D) 47
    exact ⟨g, W, e1, by rw [World.setRow_alloc_new]; exact e2, r⟩
theorem zsize (D : List Int) (hD : D.length = 16) : (digC (List.replicate 16 0)).size = (digC D).size := by rw [digC_size, digC_size, hD]; rfl
theorem cell_of {B : Nat} {w w' : World} (h : Below B w w') {a : Addr} {v : Value} (hc : w.cell? a = some v) (hB : w.heap.size ≤ B) : w'.cell? a = some v := by
  rw [h.cell (Nat.lt_of_lt_of_le (World.block_lt_of_cell? w a hc) hB)]
  exact hc
/-- What stands while the test goes on: two rolling checksums and two words. -/
structure SaneA (W : World) (g1 g2 gw : Nat) : Prop where
  hr : Blk W g1 31 #[.int .u32 6, .int .u32 10, .int .i64 3]
  hs : Blk W g2 31 #[.int .u32 9, .int .u32 16, .int .i64 3]
  c0 : W.cell? ⟨gw, 0, none⟩ = some (.int .u32 655366)
  c1 : W.cell? ⟨gw, 1, none⟩ = some (.int .u32 1048585)
theorem SaneA.below {B : Nat} {W W' : World} {g1 g2 gw : Nat} (h : SaneA W g1 g2 gw) (hb : Below B W W') (hB : W.heap.size ≤ B) : SaneA W' g1 g2 gw :=
  ⟨h.hr.below hb (Nat.lt_of_lt_of_le h.hr.lt hB), h.hs.below hb (Nat.lt_of_lt_of_le h.hs.lt hB), cell_of hb h.c0 hB, cell_of hb h.c1 hB⟩
theorem op_load_w {P : Program} {ops : Array Oper} {w : World} {K : Act → World → Prop} {Q : Exit → Act → World → Prop} {a : Act} {i : Nat} {o : Oper} (hi : ops[i]? = some o) (hw : Region.wanted o (yielded ops a.tmps) = true) (ty : TypeId) (x : Operand) (ho : o.op = .load ty x)
    (g : Nat) (hx : a.eval x = .pointer (some ⟨g, 0, none⟩)) (t : TypeId) (cs : Array Value) (fr : Nat × Nat) (d : TypeDesc) (hg : w.heap[g]? = some (.cells cs t fr))
    (hu : P.underlying ty = some d) (hd : (match d with | .struct _ | .array _ _ => true | _ => false) = true) (hs : (P.info? ty).map (·.size) = some cs.size) (h : K (a.put o.dst (.agg cs)) w) : wpOp P ops Q i K a w := by
  unfold wpOp
  simp only [hi]
  rw [if_pos hw]
  exact .inl (wp_load_row ty x ho g hx t cs fr d hg hu hd hs h)
theorem neqR (w : World) : (binOp .neq 31 (.agg #[.int .u32 6, .int .u32 10, .int .i64 3]) (.agg #[.int .u32 6, .int .u32 10, .int .i64 3])).run Try.prog w = .ok (.bool false) w := by kernel_rfl
theorem neqS (w : World) : (binOp .neq 31 (.agg #[.int .u32 9, .int .u32 16, .int .i64 3]) (.agg #[.int .u32 9, .int .u32 16, .int .i64 3])).run Try.prog w = .ok (.bool false) w := by kernel_rfl
theorem Rd.litM (w : World) (xs : List Int) (t : TypeId) (fr : Nat × Nat) (hb : ∀ n ∈ xs, 0 ≤ n ∧ n ≤ 255) (hm : xs.length ≤ 1000) : Rd (w.alloc (.cells (digC xs) t fr)) (some ⟨w.heap.size, 0, none⟩) xs.length xs.length xs :=
  ⟨rfl, Nat.le_refl _, by unfold maxLen; omega, hb, (fun h => by cases h), fun _ => ⟨w.heap.size, 0, rfl, fun i hi => by
    rw [Nat.zero_add, World.cell?_alloc_mark w (digC xs) t fr i, digC_get xs i hi]⟩⟩
theorem crc_ne : (((crcV [97]).toNat : Int) != ((crcV [98]).toNat : Int)) = true := by rw [bne, crc_ab]; rfl
/-- The three leaves in memory. -/
def ps3 (g : Nat) : List Pc := [⟨some ⟨g, 0, none⟩, 1, 1, [1]⟩, ⟨some ⟨g + 1, 0, none⟩, 1, 1, [2]⟩, ⟨some ⟨g + 1 + 1, 0, none⟩, 1, 1, [3]⟩]
theorem lvs3 (g : Nat) : lvs (ps3 g) = l3 := rfl
theorem leaves3 (W : World) : ∃ g W9, W.heap.size = g ∧ ((((W.alloc (.cells #[.int .u8 1] 5)).alloc (.cells #[.int .u8 2] 5)).alloc (.cells #[.int .u8 3] 5)).alloc
      (.cells #[.slice (some ⟨W.heap.size, 0, none⟩) 1 1, .slice (some ⟨W.heap.size + 1, 0, none⟩) 1 1, .slice (some ⟨W.heap.size + 1 + 1, 0, none⟩) 1 1] 22)) = W9 ∧ RdP W9 (some ⟨g + 1 + 1 + 1, 0, none⟩) 3 3 (ps3 g) ∧ Below W.heap.size W W9 := by
  refine ⟨_, _, rfl, rfl, ?_, ?_⟩
  · have st : ∀ (w : World) (o : Obj), Below w.heap.size w (w.alloc o) := fun w o => (Below.refl _ w).alloc (Nat.le_refl _) _
    obtain ⟨A, hA⟩ : ∃ A, A = W.alloc (.cells #[.int .u8 1] 5) := ⟨_, rfl⟩
    have rA : Rd A (some ⟨W.heap.size, 0, none⟩) 1 1 [1] := by rw [hA]; exact Rd.lit W [1] 5 (by simp) (by simp)
    have sA : A.heap.size = W.heap.size + 1 := by rw [hA]; simp
    rw [← hA]
    obtain ⟨B, hB⟩ : ∃ B, B = A.alloc (.cells #[.int .u8 2] 5) := ⟨_, rfl⟩
    have rB : Rd B (some ⟨A.heap.size, 0, none⟩) 1 1 [2] := by rw [hB]; exact Rd.lit A [2] 5 (by simp) (by simp)
    have rA1 : Rd B (some ⟨W.heap.size, 0, none⟩) 1 1 [1] := by rw [hB]; exact rA.below (st A _) (Nat.le_refl _)
    have sB : B.heap.size = A.heap.size + 1 := by rw [hB]; simp
    rw [← hB]
    obtain ⟨C, hC⟩ : ∃ C, C = B.alloc (.cells #[.int .u8 3] 5) := ⟨_, rfl⟩
    have rC : Rd C (some ⟨B.heap.size, 0, none⟩) 1 1 [3] := by rw [hC]; exact Rd.lit B [3] 5 (by simp) (by simp)
    have rB1 : Rd C (some ⟨A.heap.size, 0, none⟩) 1 1 [2] := by rw [hC]; exact rB.below (st B _) (Nat.le_refl _)
    have rA2 : Rd C (some ⟨W.heap.size, 0, none⟩) 1 1 [1] := by rw [hC]; exact rA1.below (st B _) (Nat.le_refl _)
    have sC : C.heap.size = B.heap.size + 1 := by rw [hC]; simp
    rw [← hC]
    rw [sB, sA] at rC sC
    rw [sA] at rB1
    have bl := heap_new C (.cells #[.slice (some ⟨W.heap.size, 0, none⟩) 1 1, .slice (some ⟨W.heap.size + 1, 0, none⟩) 1 1, .slice (some ⟨W.heap.size + 1 + 1, 0, none⟩) 1 1] 22)
    rw [sC] at bl
    refine ⟨rfl, Nat.le_refl _, by unfold maxLen; omega, ?_, fun _ => ⟨_, 0, rfl, ?_⟩⟩
    · intro p hp
      simp only [ps3, List.mem_cons, List.not_mem_nil, or_false] at hp
      rcases hp with rfl | rfl | rfl
      · exact rA2.below (st C _) (Nat.le_refl _)
      · exact rB1.below (st C _) (Nat.le_refl _)
      · exact rC.below (st C _) (Nat.le_refl _)
    · intro i hi
      have hb : Blk (C.alloc (.cells #[.slice (some ⟨W.heap.size, 0, none⟩) 1 1, .slice (some ⟨W.heap.size + 1, 0, none⟩) 1 1, .slice (some ⟨W.heap.size + 1 + 1, 0, none⟩) 1 1] 22)) (W.heap.size + 1 + 1 + 1) 22 #[.slice (some ⟨W.heap.size, 0, none⟩) 1 1, .slice (some ⟨W.heap.size + 1, 0, none⟩) 1 1, .slice (some ⟨W.heap.size + 1 + 1, 0, none⟩) 1 1] := bl
      rw [Nat.zero_add, hb.cell i]
      have : i = 0 ∨ i = 1 ∨ i = 2 := by simp only [ps3, List.length_cons, List.length_nil] at hi; omega
      rcases this with rfl | rfl | rfl <;> rfl
  · exact ((((Below.refl _ W).alloc (Nat.le_refl _) _).alloc (by simp) _).alloc (by simp; omega) _).alloc (by simp; omega) _
attribute [local irreducible] digestV rootV halfV climbV proveV crcV endV rollV winV
theorem sum123 (a : Option Addr) (w : World) (h : Rd w a 3 3 [1, 2, 3]) : Calls Try.prog 24 #[.slice a 3 3] w fun e w' => e = .returned (.agg #[.int .u32 6, .int .u32 10, .int .i64 3]) ∧ Below w.heap.size w w' := by
  have := sum_any a 3 3 [1, 2, 3] w h
  rw [roll3] at this
  exact this
theorem slide4 (w : World) : Calls Try.prog 20 #[.agg #[.int .u32 6, .int .u32 10, .int .i64 3], .int .u8 1, .int .u8 4] w fun e w' => e = .returned (.tuple #[.agg #[.int .u32 9, .int .u32 16, .int .i64 3], .int .i64 0]) ∧ Below w.heap.size w w' := by
  have := slideE_ok 6 10 3 1 4 w (by omega) (by omega) (by omega) (by omega) (by omega) (by omega) (by kernel_rfl)
  rw [slide3A, slide3B] at this
  exact this
theorem windows4 (a : Option Addr) (w : World) (h : Rd w a 4 4 [1, 2, 3, 4]) : Calls Try.prog 22 #[.slice a 4 4, .int .i64 3] w fun e w' => ∃ v, e = .returned (.tuple #[v, .int .i64 0]) ∧ w'.ownsRow w.heap.size 23 1 v 2 [.int .u32 655366, .int .u32 1048585] ∧ Below w.heap.size w w' := by
  have := windows_ok a 4 4 3 [1, 2, 3, 4] w h (by omega) (by omega) (by omega)
  rw [show 4 - 3 + 1 = 2 from rfl, win3] at this
  exact this
theorem endS (w : World) : Calls Try.prog 31 #[.agg (spongeC startV (.slice none 0 0))] w fun e w' => e = .returned (.tuple #[.agg (digC (digestV [])), .int .i64 0]) ∧ Below w.heap.size w w' := by
  have := endE_ok startV none 0 0 [] w (Rd.nil w) (by omega)
  rw [end0] at this
  exact this
theorem rt3_len : rt3.length = 16 := rootR_len l3
theorem root3 (g : Nat) (w : World) (h : RdP w (some ⟨g + 1 + 1 + 1, 0, none⟩) 3 3 (ps3 g)) : Calls Try.prog 43 #[.slice (some ⟨g + 1 + 1 + 1, 0, none⟩) 3 3] w fun e w' => e = .returned (.tuple #[.agg (digC rt3), .int .i64 0]) ∧ Below w.heap.size w w' := by
  have := rootE_any _ 3 3 (ps3 g) w h (by intro p hp; simp only [ps3, List.mem_cons, List.not_mem_nil, or_false] at hp; rcases hp with rfl | rfl | rfl <;> simp)
  rw [lvs3, rootE3] at this
  exact this
def pth3 : List (List Int) := (proveV l3 2).reverse
theorem pth3_dig : ∀ d ∈ pth3, Dig d := fun d hd => proveL_dig l3.length l3 2 d (by unfold pth3 proveV at hd; exact List.mem_reverse.1 hd)
theorem own_rdg {w : World} {B n : Nat} {v : Value} {ds : List (List Int)} (h : w.ownsRow B 47 16 v n (digsC ds)) (hd : ∀ d ∈ ds, Dig d) (hn : ds.length = n) : ∃ a cap, v = .slice a n cap ∧ RdG w a n cap ds := by
  obtain ⟨a, cap, rfl, h1, h2, h3⟩ := row_slice h
  refine ⟨a, cap, rfl, hn, h1, h2, hd, fun hp => ?_⟩
  obtain ⟨g, rfl, -, -⟩ := h3 hp
  exact ⟨g, 0, rfl, fun i hi => by rw [Nat.zero_add]; have := row_range h (fun d hd' => (hd d hd').1) i hi; exact this⟩
theorem prove3 (g : Nat) (w : World) (h : RdP w (some ⟨g + 1 + 1 + 1, 0, none⟩) 3 3 (ps3 g)) : Calls Try.prog 45 #[.slice (some ⟨g + 1 + 1 + 1, 0, none⟩) 3 3, .int .i64 2] w fun e w' => ∃ a cap, e = .returned (.tuple #[.slice a 1 cap, .int .i64 0]) ∧ RdG w' a 1 cap pth3 ∧ Below w.heap.size w w' := by
  have := prove_ok _ 3 3 2 (ps3 g) w h (by intro p hp; simp only [ps3, List.mem_cons, List.not_mem_nil, or_false] at hp; rcases hp with rfl | rfl | rfl <;> simp) (by omega) (by omega)
  rw [lvs3, prove3_len] at this
  refine Calls.mono this ?_
  rintro e w' ⟨v, rfl, hr, hb⟩
  obtain ⟨a, cap, rfl, hg⟩ := own_rdg hr pth3_dig (by rw [List.length_reverse]; exact prove3_len)
  exact ⟨a, cap, rfl, hg, hb⟩
theorem aboveNo (b : Option Addr) (a : Option Addr) (cap : Nat) (w : World) (hl : Rd w b 1 1 [1]) (hp : RdG w a 1 cap pth3) :
    Calls Try.prog 48 #[.int .i64 3, .int .i64 0, .slice b 1 1, .slice a 1 cap] w fun e w' => e = .returned (.tuple #[.agg (digC (aboveD 3 0 [1] pth3)), .int .i64 22]) ∧ Below w.heap.size w w' := by
  have := above_any 3 0 b 1 1 [1] a 1 cap pth3 w hl (by omega) hp
  rw [show aboveE 3 0 [1] pth3 = 22 from above3] at this
  exact this
theorem checkOk (b : Option Addr) (a : Option Addr) (cap : Nat) (w : World) (hl : Rd w b 1 1 [3]) (hp : RdG w a 1 cap pth3) :
    Calls Try.prog 50 #[.agg (digC rt3), .int .i64 3, .int .i64 2, .slice b 1 1, .slice a 1 cap] w fun e w' => e = .returned (.int .i64 0) ∧ Below w.heap.size w w' := by
  have := check_any rt3 rt3_len 3 2 b 1 1 [3] a 1 cap pth3 w hl (by omega) hp
  rw [show checkE rt3 (aboveD 3 2 [3] pth3) (aboveE 3 2 [3] pth3) = 0 from check3] at this
  exact this
theorem checkNo (b : Option Addr) (a : Option Addr) (cap : Nat) (w : World) (hl : Rd w b 1 1 [4]) (hp : RdG w a 1 cap pth3) :
    Calls Try.prog 50 #[.agg (digC rt3), .int .i64 3, .int .i64 2, .slice b 1 1, .slice a 1 cap] w fun e w' => e = .returned (.int .i64 22) ∧ Below w.heap.size w w' := by
  have := check_any rt3 rt3_len 3 2 b 1 1 [4] a 1 cap pth3 w hl (by omega) hp
  rw [show checkE rt3 (aboveD 3 2 [4] pth3) (aboveE 3 2 [4] pth3) = 22 from check4] at this
  exact this
theorem RdG.below' {w w' : World} {a : Option Addr} {len cap : Nat} {ds : List (List Int)} (h : RdG w a len cap ds) (hb : Below w.heap.size w w') : RdG w' a len cap ds := h.below hb (Nat.le_refl _)
attribute [local irreducible] rt3 pth3
set_option maxRecDepth 100000 in
set_option maxHeartbeats 4000000 in
theorem sane_any (w : World) : Calls Try.prog 15 #[] w fun e w' => e = .returned (.bool true) ∧ Below w.heap.size w w' := by
  go_enter Try.func15, Try.ntmps15
  go_wp2_with fail
  have hb0 : Below w.heap.size w (w.alloc (.cells (digC [1, 2, 3]) 5)) := (Below.refl _ w).alloc (Nat.le_refl _) _
  refine (sum123 _ _ (Rd.lit w [1, 2, 3] 5 (by simp) (by simp))).mono ?_
  rintro e w1 ⟨rfl, hb1⟩
  have Hb1 : Hid (Below w.heap.size w w1) := Lib.hid (hb0.trans (hb1.mono hb0.size))
  clear hb0 hb1
  go_upto_region 2 with fail
  obtain ⟨g1, W2, e1, e2, hr2, hb2, -, -⟩ := fresh Hb1.out #[.int .u32 6, .int .u32 10, .int .i64 3] 31
  rw [e2, e1]
  have Hr2 := Lib.hid hr2
  have Hb2 := Lib.hid hb2
  clear e1 e2 hr2 hb2 Hb1
  go_wp2_with (refine list_load rfl 31 (.tmp 1) rfl g1 rfl 31 #[.int .u32 6, .int .u32 10, .int .i64 3] (0, 0) _ Hr2.out Try.underlying31 rfl Try.sizeRoll' ?_)
  refine (slide4 W2).mono ?_
  rintro e w3 ⟨rfl, hb3⟩
  have Hr3 := Lib.hid (Hr2.out.below hb3 Hr2.out.lt)
  have Hb3 : Hid (Below w.heap.size w w3) := Lib.hid (Hb2.out.trans (hb3.mono Hb2.out.size))
  clear hb3 Hr2 Hb2
  go_upto_region 3 with fail
  obtain ⟨g2, W4, e1, e2, hs4, hb4, hq4, -⟩ := fresh Hb3.out #[.int .u32 9, .int .u32 16, .int .i64 3] 31
  have hr4 := Hr3.out.below hq4 (by rw [← e1]; exact Hr3.out.lt)
  rw [e2, e1]
  have Hs4 := Lib.hid hs4
  have Hr4 := Lib.hid hr4
  have Hb4 := Lib.hid hb4
  clear e1 e2 hr4 hs4 hb4 hq4 Hb3 Hr3
  go_wp2_with fail
  have hb0 : Below W4.heap.size W4 (W4.alloc (.cells (digC [1, 2, 3, 4]) 5)) := (Below.refl _ W4).alloc (Nat.le_refl _) _
  refine (windows4 _ _ (Rd.lit W4 [1, 2, 3, 4] 5 (by simp) (by simp))).mono ?_
  rintro e w5 ⟨vw, rfl, hw5, hb5⟩
  have hb45 := hb0.trans (hb5.mono hb0.size)
  obtain ⟨aw, cw, rfl, -, -, hgw⟩ := row_slice hw5
  obtain ⟨gw, rfl, -, -⟩ := hgw (by omega)
  have hc0 := row_cell hw5 0 (by omega)
  have hc1 := row_cell hw5 1 (by omega)
  have HA5 : Hid (SaneA w5 g1 g2 gw) := Lib.hid ⟨Hr4.out.below hb45 Hr4.out.lt, Hs4.out.below hb45 Hs4.out.lt, hc0, hc1⟩
  have Hb5 : Hid (Below w.heap.size w w5) := Lib.hid (Hb4.out.trans (hb45.mono Hb4.out.size))
  clear hb0 hw5 hb5 hb45 Hr4 Hs4 Hb4 hc0 hc1 hgw
  go_upto_region 4 with fail
  go_wp2_with fail
  refine (startS_any w5).mono ?_
  rintro e w6 ⟨rfl, hb6⟩
  have HA6 := Lib.hid (HA5.out.below hb6 (Nat.le_refl _))
  have Hb6 : Hid (Below w.heap.size w w6) := Lib.hid (Hb5.out.trans (hb6.mono Hb5.out.size))
  clear hb6 HA5 Hb5
  go_wp2_with fail
  refine (endS w6).mono ?_
  rintro e w7 ⟨rfl, hb7⟩
  have hA7 := HA6.out.below hb7 (Nat.le_refl _)
  have hb7' := Hb6.out.trans (hb7.mono Hb6.out.size)
  have hd7 : (digestV []).length = 16 := digestV_len []
  obtain ⟨W7, e1, hz, g3, W8, e2, e3, hd8, hb8, hq8, -⟩ := freshD hb7' (digestV []) hd7
  have HA8 := Lib.hid (hA7.below hq8 (by omega))
  have He1 := Lib.hid e1
  have He2 := Lib.hid e2
  have He3 := Lib.hid e3
  have Hz := Lib.hid hz
  have Hd8 := Lib.hid hd8
  have Hb8 := Lib.hid hb8
  have z1 := Try.sizeDig (digestV []) hd7
  have z2 := zsize (digestV []) hd7
  have z3 := digC_one (digestV [])
  clear hb7 hA7 hb7' hd7 e1 hz e2 e3 hd8 hb8 hq8 HA6 Hb6
  go_upto_region 5 with (rw [He1.out]; refine wpList_store_row rfl 47 (.tmp 6) (.tmp 30) rfl w7.heap.size (digC (digestV [])) rfl rfl 47 (digC (List.replicate 16 0)) Hz.out z1 z2 z3 ?_)
  rw [He3.out, He2.out]
  clear He1 He2 He3 Hz z1 z2 z3
  go_upto_region 6 with fail
  obtain ⟨gl, W9, e1, e2, hl9, hb9⟩ := leaves3 W8
  have hA9 := HA8.out.below hb9 (Nat.le_refl _)
  have hd9 := Hd8.out.below hb9 Hd8.out.lt
  have hB9 := Hb8.out.trans (hb9.mono Hb8.out.size)
  rw [e2, e1]
  have Hl9 := Lib.hid hl9
  have HA9 := Lib.hid hA9
  have Hd9 := Lib.hid hd9
  have Hb9 := Lib.hid hB9
  clear e1 e2 hl9 hb9 hA9 hd9 hB9 HA8 Hd8 Hb8
  go_wp2_with fail
  refine (root3 gl W9 Hl9.out).mono ?_
  rintro e w10 ⟨rfl, hb10⟩
  have hA10 := HA9.out.below hb10 (Nat.le_refl _)
  have hd10 := Hd9.out.below hb10 Hd9.out.lt
  have hl10 := Hl9.out.below hb10 (Nat.le_refl _)
  have hB10 := Hb9.out.trans (hb10.mono Hb9.out.size)
  obtain ⟨W10, e1, hz, g4, W11, e2, e3, hrt11, hb11, hq11, -⟩ := freshD hB10 rt3 rt3_len
  have HA11 := Lib.hid (hA10.below hq11 (by omega))
  have Hd11 := Lib.hid (hd10.below hq11 (by rw [← e2]; exact hd10.lt))
  have Hl11 := Lib.hid (hl10.below hq11 (by omega))
  have He1 := Lib.hid e1
  have He2 := Lib.hid e2
  have He3 := Lib.hid e3
  have Hz := Lib.hid hz
  have Hrt11 := Lib.hid hrt11
  have Hb11 := Lib.hid hb11
  have z1 := Try.sizeDig rt3 rt3_len
  have z2 := zsize rt3 rt3_len
  have z3 := digC_one rt3
  clear hb10 hA10 hd10 hl10 hB10 e1 hz e2 e3 hrt11 hb11 hq11 HA9 Hd9 Hl9 Hb9
  go_upto_region 7 with (rw [He1.out]; refine wpList_store_row rfl 47 (.tmp 9) (.tmp 39) rfl w10.heap.size (digC rt3) rfl rfl 47 (digC (List.replicate 16 0)) Hz.out z1 z2 z3 ?_)
  rw [He3.out, He2.out]
  clear He1 He2 He3 Hz z1 z2 z3
  go_wp2_with fail
  refine (prove3 gl W11 Hl11.out).mono ?_
  rintro e w12 ⟨ap, cp, rfl, hp12, hb12⟩
  have HP := Lib.hid hp12
  have HA := Lib.hid (HA11.out.below hb12 (Nat.le_refl _))
  have Hd := Lib.hid (Hd11.out.below hb12 Hd11.out.lt)
  have Hrt := Lib.hid (Hrt11.out.below hb12 Hrt11.out.lt)
  have Hb : Hid (Below w.heap.size w w12) := Lib.hid (Hb11.out.trans (hb12.mono Hb11.out.size))
  clear hp12 hb12 HA11 Hd11 Hrt11 Hl11 Hb11
  go_upto_region 10 with fail
  refine wp_region_any (by kernel_rfl) ?_
  obtain ⟨W, hW⟩ : ∃ W, W = World.drew w12 := ⟨_, rfl⟩
  have HAw : Hid (SaneA W g1 g2 gw) := Lib.hid (by rw [hW]; exact ⟨HA.out.hr, HA.out.hs, HA.out.c0, HA.out.c1⟩)
  have Hdw : Hid (Blk W g3 47 (digC (digestV []))) := Lib.hid (by rw [hW]; exact Hd.out)
  have Hrtw : Hid (Blk W g4 47 (digC rt3)) := Lib.hid (by rw [hW]; exact Hrt.out)
  have HPw : Hid (RdG W ap 1 cp pth3) := Lib.hid (by rw [hW]; exact ⟨HP.out.hl, HP.out.hc, HP.out.hm, HP.out.hd, HP.out.hr⟩)
  have Hbw : Hid (Below w.heap.size w W) := Lib.hid (by rw [hW]; exact ⟨Hb.out.os, Hb.out.tape, Hb.out.output, Hb.out.size, Hb.out.block⟩)
  change wpAny _ _ _ _ _ _ _ (World.drew w12)
  rw [← hW]
  clear hW HA Hd Hrt HP Hb
  have hc0 := HAw.out.c0
  have hc1 := HAw.out.c1
  have n1 := neqR
  have n2 := neqS
  refine wpAny_take (i := 1) (v := .agg #[.int .u32 6, .int .u32 10, .int .i64 3]) rfl (by kernel_rfl) (by kernel_rfl) (by kernel_rfl) (fun _ _ _ h => h) (Or.inl ⟨by rfl, ?_⟩) ?_
  · intro w; go_simp
  go_simp
  refine wpAny_all (rs := [0]) (by kernel_rfl) (by simp) (fun j hj => ?_)
  obtain rfl : j = 0 := by simpa using hj
  clear hj
  refine op_load_w rfl (by rfl) 31 (.tmp 1) rfl g1 rfl 31 _ (0, 0) _ HAw.out.hr Try.underlying31 rfl Try.sizeRoll' ?_
  refine wpAny_ready (rs := [2]) (by kernel_rfl) (by simp) ?_
  refine AllReady.cons rfl (fun K hK => ?_) AllReady.nil
  go_simp
  refine hK _ _ ?_
  clear hK K
  refine wpAny_ready (rs := [3]) (by kernel_rfl) (by simp) ?_
  refine AllReady.cons rfl (fun K hK => ?_) AllReady.nil
  go_simp
  refine hK _ _ ?_
  clear hK K
  refine wpAny_take (i := 5) (v := .agg #[.int .u32 9, .int .u32 16, .int .i64 3]) rfl (by kernel_rfl) (by kernel_rfl) (by kernel_rfl) (fun _ _ _ h => h) (Or.inl ⟨by rfl, ?_⟩) ?_
  · intro w; go_simp
  go_simp
  refine wpAny_all (rs := [4]) (by kernel_rfl) (by simp) (fun j hj => ?_)
  obtain rfl : j = 4 := by simpa using hj
  clear hj
  refine op_load_w rfl (by rfl) 31 (.tmp 2) rfl g2 rfl 31 _ (0, 0) _ HAw.out.hs Try.underlying31 rfl Try.sizeRoll' ?_
  refine wpAny_ready (rs := [6]) (by kernel_rfl) (by simp) ?_
  refine AllReady.cons rfl (fun K hK => ?_) AllReady.nil
  go_simp
  refine hK _ _ ?_
  clear hK K
  refine wpAny_ready (rs := [7]) (by kernel_rfl) (by simp) ?_
  refine AllReady.cons rfl (fun K hK => ?_) AllReady.nil
  go_simp
  refine hK _ _ ?_
  clear hK K
  refine wpAny_ready (rs := [8]) (by kernel_rfl) (by simp) ?_
  refine AllReady.cons rfl (fun K hK => ?_) AllReady.nil
  go_simp
  refine hK _ _ ?_
  clear hK K
  refine wpAny_ready (rs := [9]) (by kernel_rfl) (by simp) ?_
  refine AllReady.cons rfl (fun K hK => ?_) AllReady.nil
  go_simp
  refine hK _ _ ?_
  clear hK K
  refine wpAny_ready (rs := [10]) (by kernel_rfl) (by simp) ?_
  refine AllReady.cons rfl (fun K hK => ?_) AllReady.nil
  go_simp
  refine hK _ _ ?_
  clear hK K
  refine wpAny_ready (rs := [11]) (by kernel_rfl) (by simp) ?_
  refine AllReady.cons rfl (fun K hK => ?_) AllReady.nil
  go_simp
  refine hK _ _ ?_
  clear hK K
  refine wpAny_ready (rs := [12]) (by kernel_rfl) (by simp) ?_
  refine AllReady.cons rfl (fun K hK => ?_) AllReady.nil
  go_simp
  refine hK _ _ ?_
  clear hK K
  refine wpAny_ready (rs := [13]) (by kernel_rfl) (by simp) ?_
  refine AllReady.cons rfl (fun K hK => ?_) AllReady.nil
  go_simp
  refine hK _ _ ?_
  clear hK K
  refine wpAny_ready (rs := [14]) (by kernel_rfl) (by simp) ?_
  refine AllReady.cons rfl (fun K hK => ?_) AllReady.nil
  go_simp
  refine hK _ _ ?_
  clear hK K
  refine wpAny_ready (rs := [15]) (by kernel_rfl) (by simp) ?_
  refine AllReady.cons rfl (fun K hK => ?_) AllReady.nil
  go_simp
  refine hK _ _ ?_
  clear hK K
  refine wpAny_ready (rs := [16]) (by kernel_rfl) (by simp) ?_
  refine AllReady.cons rfl (fun K hK => ?_) AllReady.nil
  go_simp
  refine hK _ _ ?_
  clear hK K
  refine wpAny_ready (rs := [17]) (by kernel_rfl) (by simp) ?_
  refine AllReady.cons rfl (fun K hK => ?_) AllReady.nil
  go_simp
  refine hK _ _ ?_
  clear hK K
  refine wpAny_ready (rs := [18]) (by kernel_rfl) (by simp) ?_
  refine AllReady.cons rfl (fun K hK => ?_) AllReady.nil
  go_simp
  refine hK _ _ ?_
  clear hK K
  refine wpAny_ready (rs := [19]) (by kernel_rfl) (by simp) ?_
  refine AllReady.cons rfl (fun K hK => ?_) AllReady.nil
  go_simp
  refine hK _ _ ?_
  clear hK K
  refine wpAny_ready (rs := [20]) (by kernel_rfl) (by simp) ?_
  refine AllReady.cons rfl (fun K hK => ?_) AllReady.nil
  go_simp
  refine hK _ _ ?_
  clear hK K
  have n3 : ∀ w, (binOp .neq 47 (.agg (digC (digestV []))) (.agg (digC (digestV [])))).run Try.prog w = .ok (.bool false) w := fun w => by rw [run_neq_dig w _ _ (digestV_len []) (digestV_len [])]; simp
  have LD := Lib.hid (Try.sizeDig (digestV []) (digestV_len []))
  have LT := Lib.hid (Try.sizeDig rt3 rt3_len)
  refine wpAny_ready (rs := [21, 22]) (by kernel_rfl) (by simp) ?_
  refine AllReady.cons rfl (fun K hK => ?_) (AllReady.cons rfl (fun K hK => ?_) AllReady.nil)
  · rw [if_pos (by rfl)]
    refine wp_load_row 47 (.tmp 6) rfl g3 rfl 47 (digC (digestV [])) (0, 0) _ Hdw.out Try.underlying47 rfl LD.out ?_
    refine hK _ _ ?_
    clear hK K
    refine any_seq (k := 22) (by rfl) (by kernel_rfl) ?_
    simp only [List.drop_succ_cons, List.drop_zero]
    go_wp2_with fail
    refine (digest_any none 0 0 [] W (Rd.nil W) (by omega)).mono ?_
    rintro e w13 ⟨rfl, hb13⟩
    have Hrt := Lib.hid (Hrtw.out.below hb13 Hrtw.out.lt)
    have HP := Lib.hid (HPw.out.below' hb13)
    have Hd := Lib.hid (Hdw.out.below hb13 Hdw.out.lt)
    have Hb : Hid (Below w.heap.size w w13) := Lib.hid (Hbw.out.trans (hb13.mono Hbw.out.size))
    clear hb13 Hrtw HPw Hdw Hbw hc0 hc1 n1 n2 HAw
    go_upto_region 12 with fail
    clear Hd LD n3
    go_wp2_with fail
    have hx0 : Below w13.heap.size w13 (w13.alloc (.cells (digC [1]) 5)) := (Below.refl _ w13).alloc (Nat.le_refl _) _
    refine (aboveNo _ ap cp _ (Rd.lit w13 [1] 5 (by simp) (by simp)) (HP.out.below' hx0)).mono ?_
    rintro e w14 ⟨rfl, hx1⟩
    have hx2 := hx0.trans (hx1.mono hx0.size)
    have hp14 := HP.out.below' hx2
    have hr14 := Hrt.out.below hx2 Hrt.out.lt
    obtain ⟨W14, e1, hz, g5, W15, e2, e3, -, hb15, hq15, -⟩ := freshD (Hb.out.trans (hx2.mono Hb.out.size)) (aboveD 3 0 [1] pth3) (aboveD_len 3 0 [1] pth3)
    have HP15 := Lib.hid (hp14.below hq15 (by omega))
    have Hrt15 := Lib.hid (hr14.below hq15 (by rw [← e2]; exact hr14.lt))
    have Hb15 := Lib.hid hb15
    have He1 := Lib.hid e1
    have He2 := Lib.hid e2
    have He3 := Lib.hid e3
    have Hz := Lib.hid hz
    have z1 := Try.sizeDig (aboveD 3 0 [1] pth3) (aboveD_len 3 0 [1] pth3)
    have z2 := zsize (aboveD 3 0 [1] pth3) (aboveD_len 3 0 [1] pth3)
    have z3 := digC_one (aboveD 3 0 [1] pth3)
    clear hx0 hx1 hx2 hp14 hr14 e1 hz e2 e3 hb15 hq15 HP Hrt Hb
    go_upto_region 13 with (rw [He1.out]; refine wpList_store_row rfl 47 (.tmp 13) (.tmp 103) rfl w14.heap.size (digC (aboveD 3 0 [1] pth3)) rfl rfl 47 (digC (List.replicate 16 0)) Hz.out z1 z2 z3 ?_)
    rw [He3.out, He2.out]
    clear He1 He2 He3 Hz z1 z2 z3
    go_wp2_with (refine list_load rfl 47 (.tmp 9) rfl g4 rfl 47 (digC rt3) (0, 0) _ Hrt15.out Try.underlying47 rfl LT.out ?_)
    have hx0 : Below W15.heap.size W15 (W15.alloc (.cells (digC [3]) 5)) := (Below.refl _ W15).alloc (Nat.le_refl _) _
    refine (checkOk _ ap cp _ (Rd.lit W15 [3] 5 (by simp) (by simp)) (HP15.out.below' hx0)).mono ?_
    rintro e w16 ⟨rfl, hx1⟩
    have hx2 := hx0.trans (hx1.mono hx0.size)
    have HP16 := Lib.hid (HP15.out.below' hx2)
    have Hrt16 := Lib.hid (Hrt15.out.below hx2 Hrt15.out.lt)
    have Hb16 : Hid (Below w.heap.size w w16) := Lib.hid (Hb15.out.trans (hx2.mono Hb15.out.size))
    clear hx0 hx1 hx2 HP15 Hrt15 Hb15
    go_wp2_with (refine list_load rfl 47 (.tmp 9) rfl g4 rfl 47 (digC rt3) (0, 0) _ Hrt16.out Try.underlying47 rfl LT.out ?_)
    have hx0 : Below w16.heap.size w16 (w16.alloc (.cells (digC [4]) 5)) := (Below.refl _ w16).alloc (Nat.le_refl _) _
    refine (checkNo _ ap cp _ (Rd.lit w16 [4] 5 (by simp) (by simp)) (HP16.out.below' hx0)).mono ?_
    rintro e w17 ⟨rfl, hx1⟩
    have Hb17 : Hid (Below w.heap.size w w17) := Lib.hid (Hb16.out.trans ((hx0.trans (hx1.mono hx0.size)).mono Hb16.out.size))
    clear hx0 hx1 HP16 Hrt16 Hb16
    have cv := Lib.run_convert_bytes_const (P := Try.prog) w17 22 5 #[.int .u8 97] 1 1 Try.underlying22 Try.underlying5
    go_wp2_with fail
    clear cv
    have hx0 : Below w17.heap.size w17 (w17.alloc (.cells (digC [97]) 5 (1, 2))) := (Below.refl _ w17).alloc (Nat.le_refl _) _
    refine (crc_any _ 1 1 [97] _ (Rd.litM w17 [97] 5 (1, 2) (by simp) (by simp))).mono ?_
    rintro e w18 ⟨rfl, hx1⟩
    have Hb18 : Hid (Below w.heap.size w w18) := Lib.hid (Hb17.out.trans ((hx0.trans (hx1.mono hx0.size)).mono Hb17.out.size))
    clear hx0 hx1 Hb17
    have cv := Lib.run_convert_bytes_const (P := Try.prog) w18 22 5 #[.int .u8 98] 1 1 Try.underlying22 Try.underlying5
    go_wp2_with fail
    clear cv
    have hx0 : Below w18.heap.size w18 (w18.alloc (.cells (digC [98]) 5 (1, 2))) := (Below.refl _ w18).alloc (Nat.le_refl _) _
    refine (crc_any _ 1 1 [98] _ (Rd.litM w18 [98] 5 (1, 2) (by simp) (by simp))).mono ?_
    rintro e w19 ⟨rfl, hx1⟩
    have Hb19 : Hid (Below w.heap.size w w19) := Lib.hid (Hb18.out.trans ((hx0.trans (hx1.mono hx0.size)).mono Hb18.out.size))
    clear hx0 hx1 Hb18
    go_wp2_with fail
    refine bodyPost_ret (results_tmp rfl _ _ _) rfl ⟨?_, Hb19.out⟩
    refine Eq.trans ?_ (congrArg (fun b => Ending.returned (.bool b)) crc_ne)
    rfl
  · go_simp
    refine (digest_any none 0 0 [] W (Rd.nil W) (by omega)).mono ?_
    rintro e w13 ⟨rfl, hb13⟩
    have Hrt := Lib.hid (Hrtw.out.below hb13 Hrtw.out.lt)
    have HP := Lib.hid (HPw.out.below' hb13)
    have Hd := Lib.hid (Hdw.out.below hb13 Hdw.out.lt)
    have Hb : Hid (Below w.heap.size w w13) := Lib.hid (Hbw.out.trans (hb13.mono Hbw.out.size))
    clear hb13 Hrtw HPw Hdw Hbw hc0 hc1 n1 n2 HAw
    refine hK _ _ ?_
    clear hK K
    refine wpAny_all (rs := [21]) (by kernel_rfl) (by simp) (fun j hj => ?_)
    obtain rfl : j = 21 := by simpa using hj
    clear hj
    refine op_load_w rfl (by rfl) 47 (.tmp 6) rfl g3 rfl 47 (digC (digestV [])) (0, 0) _ Hd.out Try.underlying47 rfl LD.out ?_
    refine any_seq (k := 23) (by rfl) (by kernel_rfl) ?_
    simp only [List.drop_succ_cons, List.drop_zero]
    go_upto_region 12 with fail
    clear Hd LD n3
    go_wp2_with fail
    have hx0 : Below w13.heap.size w13 (w13.alloc (.cells (digC [1]) 5)) := (Below.refl _ w13).alloc (Nat.le_refl _) _
    refine (aboveNo _ ap cp _ (Rd.lit w13 [1] 5 (by simp) (by simp)) (HP.out.below' hx0)).mono ?_
    rintro e w14 ⟨rfl, hx1⟩
    have hx2 := hx0.trans (hx1.mono hx0.size)
    have hp14 := HP.out.below' hx2
    have hr14 := Hrt.out.below hx2 Hrt.out.lt
    obtain ⟨W14, e1, hz, g5, W15, e2, e3, -, hb15, hq15, -⟩ := freshD (Hb.out.trans (hx2.mono Hb.out.size)) (aboveD 3 0 [1] pth3) (aboveD_len 3 0 [1] pth3)
    have HP15 := Lib.hid (hp14.below hq15 (by omega))
    have Hrt15 := Lib.hid (hr14.below hq15 (by rw [← e2]; exact hr14.lt))
    have Hb15 := Lib.hid hb15
    have He1 := Lib.hid e1
    have He2 := Lib.hid e2
    have He3 := Lib.hid e3
    have Hz := Lib.hid hz
    have z1 := Try.sizeDig (aboveD 3 0 [1] pth3) (aboveD_len 3 0 [1] pth3)
    have z2 := zsize (aboveD 3 0 [1] pth3) (aboveD_len 3 0 [1] pth3)
    have z3 := digC_one (aboveD 3 0 [1] pth3)
    clear hx0 hx1 hx2 hp14 hr14 e1 hz e2 e3 hb15 hq15 HP Hrt Hb
    go_upto_region 13 with (rw [He1.out]; refine wpList_store_row rfl 47 (.tmp 13) (.tmp 103) rfl w14.heap.size (digC (aboveD 3 0 [1] pth3)) rfl rfl 47 (digC (List.replicate 16 0)) Hz.out z1 z2 z3 ?_)
    rw [He3.out, He2.out]
    clear He1 He2 He3 Hz z1 z2 z3
    go_wp2_with (refine list_load rfl 47 (.tmp 9) rfl g4 rfl 47 (digC rt3) (0, 0) _ Hrt15.out Try.underlying47 rfl LT.out ?_)
    have hx0 : Below W15.heap.size W15 (W15.alloc (.cells (digC [3]) 5)) := (Below.refl _ W15).alloc (Nat.le_refl _) _
    refine (checkOk _ ap cp _ (Rd.lit W15 [3] 5 (by simp) (by simp)) (HP15.out.below' hx0)).mono ?_
    rintro e w16 ⟨rfl, hx1⟩
    have hx2 := hx0.trans (hx1.mono hx0.size)
    have HP16 := Lib.hid (HP15.out.below' hx2)
    have Hrt16 := Lib.hid (Hrt15.out.below hx2 Hrt15.out.lt)
    have Hb16 : Hid (Below w.heap.size w w16) := Lib.hid (Hb15.out.trans (hx2.mono Hb15.out.size))
    clear hx0 hx1 hx2 HP15 Hrt15 Hb15
    go_wp2_with (refine list_load rfl 47 (.tmp 9) rfl g4 rfl 47 (digC rt3) (0, 0) _ Hrt16.out Try.underlying47 rfl LT.out ?_)
    have hx0 : Below w16.heap.size w16 (w16.alloc (.cells (digC [4]) 5)) := (Below.refl _ w16).alloc (Nat.le_refl _) _
    refine (checkNo _ ap cp _ (Rd.lit w16 [4] 5 (by simp) (by simp)) (HP16.out.below' hx0)).mono ?_
    rintro e w17 ⟨rfl, hx1⟩
    have Hb17 : Hid (Below w.heap.size w w17) := Lib.hid (Hb16.out.trans ((hx0.trans (hx1.mono hx0.size)).mono Hb16.out.size))
    clear hx0 hx1 HP16 Hrt16 Hb16
    have cv := Lib.run_convert_bytes_const (P := Try.prog) w17 22 5 #[.int .u8 97] 1 1 Try.underlying22 Try.underlying5
    go_wp2_with fail
    clear cv
    have hx0 : Below w17.heap.size w17 (w17.alloc (.cells (digC [97]) 5 (1, 2))) := (Below.refl _ w17).alloc (Nat.le_refl _) _
    refine (crc_any _ 1 1 [97] _ (Rd.litM w17 [97] 5 (1, 2) (by simp) (by simp))).mono ?_
    rintro e w18 ⟨rfl, hx1⟩
    have Hb18 : Hid (Below w.heap.size w w18) := Lib.hid (Hb17.out.trans ((hx0.trans (hx1.mono hx0.size)).mono Hb17.out.size))
    clear hx0 hx1 Hb17
    have cv := Lib.run_convert_bytes_const (P := Try.prog) w18 22 5 #[.int .u8 98] 1 1 Try.underlying22 Try.underlying5
    go_wp2_with fail
    clear cv
    have hx0 : Below w18.heap.size w18 (w18.alloc (.cells (digC [98]) 5 (1, 2))) := (Below.refl _ w18).alloc (Nat.le_refl _) _
    refine (crc_any _ 1 1 [98] _ (Rd.litM w18 [98] 5 (1, 2) (by simp) (by simp))).mono ?_
    rintro e w19 ⟨rfl, hx1⟩
    have Hb19 : Hid (Below w.heap.size w w19) := Lib.hid (Hb18.out.trans ((hx0.trans (hx1.mono hx0.size)).mono Hb18.out.size))
    clear hx0 hx1 Hb18
    go_wp2_with fail
    refine bodyPost_ret (results_tmp rfl _ _ _) rfl ⟨?_, Hb19.out⟩
    refine Eq.trans ?_ (congrArg (fun b => Ending.returned (.bool b)) crc_ne)
    rfl
end Go.Proofs.Ytnlblmghhkmbbaa
