/- The lowest nodes that collide. -/
import Derived.Test.YtjkkjfigoanplaaScheck
import Derived.Test.YtjkkjfigoanplaaSstr
import Derived.BigQuiet
namespace Go.Proofs.Ytjkkjfigoanplaa
set_option linter.unusedVariables false
open Go.RowKit Go.Shelf

set_option maxRecDepth 100000 in
set_option maxHeartbeats 400000 in
theorem bytesEqual_any (a : Option Addr) (al ac : Nat) (xs : List Int) (b : Option Addr) (bl bc : Nat) (ys : List Int) (w : World) (h1 : Rd w a al ac xs) (h2 : Rd w b bl bc ys) :
    Calls Try.prog 91 #[.slice a al ac, .slice b bl bc] w fun e w' => e = .returned (.bool (decide (xs = ys))) ∧ w' = w := by
  have k1 := h1.convAny
  have k2 := h2.convAny
  have he := str_eq h1.hb h2.hb
  go_enter Try.func91, Try.ntmps91
  go_wp2_with fail
  go_ret
  exact ⟨rfl, rfl⟩
theorem nodesC_all (ms : List NodeM) (i j : Nat) (hi : i < ms.length) (hj : j < 17) : (nodesC ms)[17 * i + j]? = (nodeC (digestV ms[i].xs) ms[i].v)[j]? := by
  induction ms generalizing i with
  | nil => simp at hi
  | cons m ms ih =>
    have hd : (nodeC (digestV m.xs) m.v).toList.length = 17 := by rw [Array.length_toList, nodeC_size _ _ (digestV_len _)]
    have e : nodesC (m :: ms) = (nodeC (digestV m.xs) m.v).toList ++ nodesC ms := by unfold nodesC; rw [List.flatMap_cons]
    rw [e]
    cases i with
    | zero =>
      rw [List.getElem?_append_left (by rw [hd]; omega), Nat.mul_zero, Nat.zero_add, Array.getElem?_toList]
      rfl
    | succ i =>
      rw [List.getElem?_append_right (by rw [hd]; omega), hd, show 17 * (i + 1) + j - 17 = 17 * i + j by omega, ih i (by simpa using hi)]
      rfl
theorem node_range {w : World} {B g cap : Nat} {ms : List NodeM} (h : w.ownsRow B 92 17 (.slice (some ⟨g, 0, none⟩) ms.length cap) ms.length (nodesC ms)) (i : Nat) (hi : i < ms.length) : w.rangeAt g (17 * i) (nodeC (digestV ms[i].xs) ms[i].v).toList := by
  intro j v hv
  have hj : j < 17 := by have := (List.getElem?_eq_some_iff.1 hv).1; rw [Array.length_toList, nodeC_size _ _ (digestV_len _)] at this; exact this
  rw [row_cell h (17 * i + j) (by omega), nodesC_all ms i j hi hj, ← Array.getElem?_toList]
  exact hv
theorem blk_dig {w : World} {g : Nat} {t : TypeId} {d : List Int} {v : Value} (hd : d.length = 16) (h : Blk w g t (nodeC d v)) : w.rangeAt g 0 (digC d).toList := by
  intro j u hu
  have hj : j < 16 := by have := (List.getElem?_eq_some_iff.1 hu).1; rw [Array.length_toList, digC_size, hd] at this; exact this
  rw [Nat.zero_add, h.cell j]
  unfold nodeC
  rw [Array.getElem?_push_lt (by rw [digC_size, hd]; exact hj), ← hu, Array.getElem?_toList, Array.getElem?_eq_getElem]
theorem node_last (d : List Int) (v : Value) (hd : d.length = 16) : (nodeC d v)[16]? = some v := by
  unfold nodeC
  have : (digC d).size = 16 := by rw [digC_size, hd]
  rw [← this, Array.getElem?_push_size]
theorem sizeNode (d : List Int) (v : Value) (hd : d.length = 16) : (Try.prog.info? 92).map (·.size) = some (nodeC d v).size := by rw [nodeC_size d v hd]; kernel_rfl
theorem sizeNodeL (d : List Int) (v : Value) (hd : d.length = 16) : (Try.prog.info? 92).map (·.size) = some (nodeC d v).toList.length := by rw [Array.length_toList]; exact sizeNode d v hd
theorem sizeDigL (d : List Int) (hd : d.length = 16) : (Try.prog.info? 47).map (·.size) = some (digC d).toList.length := by rw [Array.length_toList]; exact Try.sizeDig d hd
theorem freshN {w w1 : World} (h : Below w.heap.size w w1) (d : List Int) (hd : d.length = 16) (v : Value) :
    ∃ W3, w1.alloc (.cells #[.int .u8 0, .int .u8 0, .int .u8 0, .int .u8 0, .int .u8 0, .int .u8 0, .int .u8 0, .int .u8 0, .int .u8 0, .int .u8 0, .int .u8 0, .int .u8 0, .int .u8 0, .int .u8 0, .int .u8 0, .int .u8 0, .slice none 0 0] 92) = W3 ∧ Blk W3 w1.heap.size 92 #[.int .u8 0, .int .u8 0, .int .u8 0, .int .u8 0, .int .u8 0, .int .u8 0, .int .u8 0, .int .u8 0, .int .u8 0, .int .u8 0, .int .u8 0, .int .u8 0, .int .u8 0, .int .u8 0, .int .u8 0, .int .u8 0, .slice none 0 0] ∧
      ∃ g W, w1.heap.size = g ∧ W3.setRow w1.heap.size (nodeC d v) = W ∧ Blk W g 92 (nodeC d v) ∧ Below w.heap.size w W ∧ Below g w1 W ∧ g < W.heap.size := by
  refine ⟨_, rfl, heap_new w1 _, ?_⟩
  obtain ⟨g, W, e1, e2, r⟩ := fresh h (nodeC d v) 92
  exact ⟨g, W, e1, by rw [World.setRow_alloc_new]; exact e2, r⟩
/-- Two nodes collide: the same digest, of different bytes. -/
def clash (xs ys : List Int) : Bool := (digestV xs == digestV ys) && !decide (xs = ys)
/-- What the lowest nodes that collide are digests of. -/
def CollPost (ms ns : List NodeM) (w : World) (e : Ending) (w' : World) : Prop :=
  Below w.heap.size w w' ∧ ((∃ k, ∃ h : k < ms.length, ∃ h' : k < ns.length, e = .returned (.tuple #[ms[k].v, ns[k].v, .int .i64 0]) ∧ clash ms[k].xs ns[k].xs = true ∧ ∀ j (hj : j < k), clash (ms[j]'(by omega)).xs (ns[j]'(by omega)).xs = false) ∨
    (e = .returned (.tuple #[.slice none 0 0, .slice none 0 0, .int .i64 3]) ∧ ∀ j (hj : j < ms.length) (hj' : j < ns.length), clash ms[j].xs ns[j].xs = false))
theorem res3 {fn : Func} {t u v : Tmp} (h : fn.results = #[.tmp t, .tmp u, .tmp v]) (tmps : Array Value) (P : Program) (w : World) :
    (results fn tmps).run P w = .ok (.tuple #[tmps.getD t undef, tmps.getD u undef, tmps.getD v undef]) w := by
  simp [results, h]
attribute [local irreducible] digestV nodeC nodesC clash
set_option maxRecDepth 100000 in
set_option maxHeartbeats 4000000 in
theorem collision_any (B : Nat) (v1 v2 : Value) (ms ns : List NodeM) (w : World) (h1 : Nodes w B v1 ms) (h2 : Nodes w B v2 ns) (hlen : ms.length = ns.length) (h4 : ms.length ≤ 4096) :
    Calls Try.prog 74 #[v1, v2] w (CollPost ms ns w) := by
  obtain ⟨a1, c1, rfl, hc1, hm1, hg1⟩ := row_slice h1.row
  obtain ⟨a2, c2, rfl, hc2, hm2, hg2⟩ := row_slice h2.row
  obtain ⟨n, hn⟩ : ∃ n, n = ms.length := ⟨_, rfl⟩
  have H1 := Lib.hid h1
  have H2 := Lib.hid h2
  have Hn := Lib.hid hn
  have Hlen := Lib.hid hlen
  have Hg1 := Lib.hid hg1
  have Hg2 := Lib.hid hg2
  have hn4 : n ≤ 4096 := by omega
  rw [← hlen, ← hn]
  clear h1 h2 hlen hg1 hg2 hc1 hc2 hm1 hm2 h4 hn
  go_enter Try.func74, Try.ntmps74
  go_wp2_with fail
  go_loopw [12] (fun i wr => ∃ k : Nat, k ≤ n ∧ i = .int .i64 k ∧ Below w.heap.size w wr ∧ ∀ j (hj : j < ms.length) (hj' : j < ns.length), j < k → clash ms[j].xs ns[j].xs = false) (fun i _ => n - (intOf i).toNat)
  case atStart => exact ⟨0, by omega, rfl, Below.refl _ _, fun j _ _ h => by omega⟩
  case round =>
    obtain ⟨k, hk, rfl, hbw, hno⟩ := hrel
    by_cases hlt : k < n
    · have hk1 : k < ms.length := by rw [← Hn.out]; exact hlt
      have hk2 : k < ns.length := by rw [← Hlen.out]; exact hk1
      obtain ⟨g1, rfl, -, hgl1⟩ := Hg1.out (by omega)
      obtain ⟨g2, rfl, -, hgl2⟩ := Hg2.out (by omega)
      have N1 := H1.out.below hbw (Nat.le_refl _)
      have N2 := H2.out.below hbw (Nat.le_refl _)
      have R1 := node_range N1.row k hk1
      have R2 := node_range N2.row k hk2
      have O1 := N1.own ms[k] (List.getElem_mem _)
      have O2 := N2.own ns[k] (List.getElem_mem _)
      have hcl : clash ms[k].xs ns[k].xs = ((digestV ms[k].xs == digestV ns[k].xs) && !decide (ms[k].xs = ns[k].xs)) := by unfold clash; rfl
      have hD1l := digestV_len ms[k].xs
      have hD2l := digestV_len ns[k].xs
      rw [Nat.mul_comm 17 k] at R1 R2
      obtain ⟨m1, hm1⟩ : ∃ m, m = ms[k] := ⟨_, rfl⟩
      obtain ⟨m2, hm2⟩ : ∃ m, m = ns[k] := ⟨_, rfl⟩
      have HM := Lib.hid (And.intro hm1 hm2)
      rw [← hm1] at R1 O1 hD1l
      rw [← hm2] at R2 O2 hD2l
      rw [← hm1, ← hm2] at hcl
      obtain ⟨u1, x1⟩ := m1
      obtain ⟨u2, x2⟩ := m2
      simp only at R1 R2 O1 O2 hcl hD1l hD2l
      obtain ⟨D1, hD1⟩ : ∃ d, d = digestV x1 := ⟨_, rfl⟩
      obtain ⟨D2, hD2⟩ : ∃ d, d = digestV x2 := ⟨_, rfl⟩
      rw [← hD1] at R1 hcl hD1l
      rw [← hD2] at R2 hcl hD2l
      obtain ⟨ua, uc, rfl, hu1⟩ := O1.rdz rfl
      obtain ⟨va, vc, rfl, hu2⟩ := O2.rdz rfl
      obtain ⟨W3, e1, hz3, g8, W4, e2, e3, hg8, hb4, hq4, hs4⟩ := freshN hbw D1 hD1l (.slice ua x1.length uc)
      obtain ⟨W5, d1, hz5, g9, W6, d2, d3, hg9, hb6, hq6, hs6⟩ := freshN hb4 D2 hD2l (.slice va x2.length vc)
      have hwr := hbw.size
      have R2' := rangeAt_below R2 hq4 (by omega)
      have G8 := Lib.hid (hg8.below hq6 (by omega))
      have G9 := Lib.hid hg9
      have U1 := Lib.hid ((hu1.below hq4 (by omega)).below hq6 (by omega))
      have U2 := Lib.hid ((hu2.below hq4 (by omega)).below hq6 (by omega))
      have RX1 := Lib.hid R1
      have RX2 := Lib.hid R2'
      have He1 := Lib.hid e1
      have He2 := Lib.hid e2
      have He3 := Lib.hid e3
      have Hz3 := Lib.hid hz3
      have Hd1 := Lib.hid d1
      have Hd2 := Lib.hid d2
      have Hd3 := Lib.hid d3
      have Hz5 := Lib.hid hz5
      have B6 := Lib.hid hb6
      have HCL := Lib.hid hcl
      have Hno := Lib.hid hno
      have L1 := Lib.hid (sizeNodeL D1 (.slice ua x1.length uc) hD1l)
      have L2 := Lib.hid (sizeNodeL D2 (.slice va x2.length vc) hD2l)
      have S1 := Lib.hid (sizeNode D1 (.slice ua x1.length uc) hD1l)
      have S2 := Lib.hid (sizeNode D2 (.slice va x2.length vc) hD2l)
      have Z1 := Lib.hid (show (#[.int .u8 0, .int .u8 0, .int .u8 0, .int .u8 0, .int .u8 0, .int .u8 0, .int .u8 0, .int .u8 0, .int .u8 0, .int .u8 0, .int .u8 0, .int .u8 0, .int .u8 0, .int .u8 0, .int .u8 0, .int .u8 0, .slice none 0 0] : Array Value).size = (nodeC D1 (.slice ua x1.length uc)).size by rw [nodeC_size _ _ hD1l]; rfl)
      have Z2 := Lib.hid (show (#[.int .u8 0, .int .u8 0, .int .u8 0, .int .u8 0, .int .u8 0, .int .u8 0, .int .u8 0, .int .u8 0, .int .u8 0, .int .u8 0, .int .u8 0, .int .u8 0, .int .u8 0, .int .u8 0, .int .u8 0, .int .u8 0, .slice none 0 0] : Array Value).size = (nodeC D2 (.slice va x2.length vc)).size by rw [nodeC_size _ _ hD2l]; rfl)
      have hki : (k : Int) < (n : Int) := by omega
      have hk0 : (0 : Int) ≤ (k : Int) := by omega
      have hk4 : (k : Int) ≤ 4096 := by omega
      have HDl := Lib.hid (And.intro hD1l hD2l)
      clear N1 N2 R1 R2 R2' O1 O2 hcl hD1l hD2l hm1 hm2 hD1 hD2 hu1 hu2 e1 hz3 e2 e3 hg8 hb4 hq4 hs4 d1 hz5 d2 d3 hg9 hb6 hq6 hs6 hbw hno
      go_upto_region 4 with (first
        | (refine wpList_load_mid rfl 92 (.tmp 15) rfl g1 (k * 17) rfl (nodeC D1 (.slice ua x1.length uc)).toList _ RX1.out Try.underlying92 rfl L1.out ?_; rw [Array.toArray_toList])
        | (rw [He1.out]; refine wpList_store_row rfl 92 (.tmp 8) (.tmp 16) rfl wr.heap.size (nodeC D1 (.slice ua x1.length uc)) rfl rfl 92 #[.int .u8 0, .int .u8 0, .int .u8 0, .int .u8 0, .int .u8 0, .int .u8 0, .int .u8 0, .int .u8 0, .int .u8 0, .int .u8 0, .int .u8 0, .int .u8 0, .int .u8 0, .int .u8 0, .int .u8 0, .int .u8 0, .slice none 0 0] Hz3.out S1.out Z1.out (oneNode D1 _ _ _) ?_))
      rw [He3.out, He2.out]
      clear He1 He2 He3 Hz3 Z1 RX1 L1
      go_upto_region 5 with (first
        | (refine wpList_load_mid rfl 92 (.tmp 19) rfl g2 (k * 17) rfl (nodeC D2 (.slice va x2.length vc)).toList _ RX2.out Try.underlying92 rfl L2.out ?_; rw [Array.toArray_toList])
        | (rw [Hd1.out]; refine wpList_store_row rfl 92 (.tmp 9) (.tmp 20) rfl W4.heap.size (nodeC D2 (.slice va x2.length vc)) rfl rfl 92 #[.int .u8 0, .int .u8 0, .int .u8 0, .int .u8 0, .int .u8 0, .int .u8 0, .int .u8 0, .int .u8 0, .int .u8 0, .int .u8 0, .int .u8 0, .int .u8 0, .int .u8 0, .int .u8 0, .int .u8 0, .int .u8 0, .slice none 0 0] Hz5.out S2.out Z2.out (oneNode D2 _ _ _) ?_))
      rw [Hd3.out, Hd2.out]
      clear Hd1 Hd2 Hd3 Hz5 Z2 RX2 L2 S1 S2
      have RD1 := Lib.hid (blk_dig HDl.out.1 G8.out)
      have RD2 := Lib.hid (blk_dig HDl.out.2 G9.out)
      have T1 := Lib.hid (sizeDigL D1 HDl.out.1)
      have T2 := Lib.hid (sizeDigL D2 HDl.out.2)
      have q8 : W6.cell? ⟨g8, 16, none⟩ = some (.slice ua x1.length uc) := by rw [G8.out.cell 16]; exact node_last D1 _ HDl.out.1
      have q9 : W6.cell? ⟨g9, 16, none⟩ = some (.slice va x2.length vc) := by rw [G9.out.cell 16]; exact node_last D2 _ HDl.out.2
      have hE := eqIn_dig W6 D1 D2 HDl.out.1 HDl.out.2
      have hcl := HCL.out
      clear HCL
      cases hD : (D1 == D2)
      · rw [hD] at hE hcl
        have hclf : clash x1 x2 = false := by rw [hcl]; rfl
        have HCf := Lib.hid hclf
        clear hcl hclf hD
        go_wp2_with (first
          | (refine wpList_load_mid rfl 47 (.tmp 21) rfl g8 0 rfl (digC D1).toList _ RD1.out Try.underlying47 rfl T1.out ?_; rw [Array.toArray_toList])
          | (refine wpList_load_mid rfl 47 (.tmp 23) rfl g9 0 rfl (digC D2).toList _ RD2.out Try.underlying47 rfl T2.out ?_; rw [Array.toArray_toList]))
        go_roundw
        case rel => exact ⟨k + 1, by omega, by go_num, B6.out, fun j hj hj' h => by
            by_cases hjk : j = k
            · subst hjk; rw [← HM.out.1, ← HM.out.2]; exact HCf.out
            · exact Hno.out j hj hj' (by omega)⟩
        case measure => simp [intOf]; omega
      · rw [hD] at hE hcl
        by_cases hx : x1 = x2
        · have hclf : clash x1 x2 = false := by rw [hcl, decide_eq_true hx]; rfl
          have HCf := Lib.hid hclf
          have Hx := Lib.hid (decide_eq_true hx)
          clear hcl hclf hD hx
          go_wp2_with (first
          | (refine wpList_load_mid rfl 47 (.tmp 21) rfl g8 0 rfl (digC D1).toList _ RD1.out Try.underlying47 rfl T1.out ?_; rw [Array.toArray_toList])
          | (refine wpList_load_mid rfl 47 (.tmp 23) rfl g9 0 rfl (digC D2).toList _ RD2.out Try.underlying47 rfl T2.out ?_; rw [Array.toArray_toList]))
          refine (bytesEqual_any ua x1.length uc x1 va x2.length vc x2 W6 U1.out U2.out).mono ?_
          rintro e w7 ⟨rfl, rfl⟩
          rw [Hx.out]
          go_wp2_with fail
          go_roundw
          case rel => exact ⟨k + 1, by omega, by go_num, B6.out, fun j hj hj' h => by
              by_cases hjk : j = k
              · subst hjk; rw [← HM.out.1, ← HM.out.2]; exact HCf.out
              · exact Hno.out j hj hj' (by omega)⟩
          case measure => simp [intOf]; omega
        · have hclf : clash x1 x2 = true := by rw [hcl, decide_eq_false hx]; rfl
          have HCf := Lib.hid hclf
          have Hx := Lib.hid (decide_eq_false hx)
          clear hcl hclf hD hx
          go_wp2_with (first
          | (refine wpList_load_mid rfl 47 (.tmp 21) rfl g8 0 rfl (digC D1).toList _ RD1.out Try.underlying47 rfl T1.out ?_; rw [Array.toArray_toList])
          | (refine wpList_load_mid rfl 47 (.tmp 23) rfl g9 0 rfl (digC D2).toList _ RD2.out Try.underlying47 rfl T2.out ?_; rw [Array.toArray_toList]))
          refine (bytesEqual_any ua x1.length uc x1 va x2.length vc x2 W6 U1.out U2.out).mono ?_
          rintro e w7 ⟨rfl, rfl⟩
          rw [Hx.out]
          go_wp2_with fail
          go_quiet (fail)
          go_wp2_with fail
          refine bodyPost_ret (res3 rfl _ _ _) rfl ?_
          refine ⟨below_drewN B6.out _, .inl ⟨k, hk1, hk2, ?_, ?_, ?_⟩⟩
          · rw [← HM.out.1, ← HM.out.2]; rfl
          · rw [← HM.out.1, ← HM.out.2]; exact HCf.out
          · exact fun j hj => Hno.out j _ _ hj
    · obtain rfl : k = n := by omega
      have Hno := Lib.hid hno
      have Hbw := Lib.hid hbw
      clear hno hbw
      go_wp2_with fail
      refine bodyPost_ret (res3 rfl _ _ _) rfl ?_
      refine ⟨Hbw.out, .inr ⟨rfl, fun j hj hj' => Hno.out j hj hj' (by rw [Hn.out]; exact hj)⟩⟩
end Go.Proofs.Ytjkkjfigoanplaa
