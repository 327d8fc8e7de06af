/- slices.Reverse of digests, in a row of the call's own. -/
import Derived.Test.YtnlblmghhkmbbaaSdigs
import Derived.StillTailTactics
import Derived.Deep.DeepCutAuto
namespace Go.Proofs.Ytnlblmghhkmbbaa
set_option linter.unusedVariables false
open Go.RowKit Go.Shelf

/-- k have been turned from either end. -/
def RevI (ds es : List (List Int)) (k : Nat) : Prop := es.length = ds.length ∧ ∀ i, i < ds.length → es[i]? = if i < k ∨ ds.length < i + k + 1 then ds[ds.length - 1 - i]? else ds[i]?
theorem RevI.step {ds es : List (List Int)} {k : Nat} (h : RevI ds es k) (hk : 2 * k + 1 < ds.length) {x y : List Int} (hx : es[k]? = some x) (hy : es[ds.length - 1 - k]? = some y) : RevI ds ((es.set k y).set (ds.length - 1 - k) x) (k + 1) := by
  refine ⟨by simp [h.1], fun i hi => ?_⟩
  have hxk := h.2 k (by omega)
  have hyk := h.2 (ds.length - 1 - k) (by omega)
  rw [hx, if_neg (by omega)] at hxk
  rw [hy, if_neg (by omega)] at hyk
  by_cases h1 : i = ds.length - 1 - k
  · subst h1
    rw [List.getElem?_set_self (by simp [h.1]; omega), if_pos (by omega), hxk]
    congr 1; omega
  · rw [List.getElem?_set_ne (by omega)]
    by_cases h2 : i = k
    · subst h2
      rw [List.getElem?_set_self (by rw [h.1]; omega), if_pos (by omega), hyk]
    · rw [List.getElem?_set_ne (by omega), h.2 i hi]
      by_cases h3 : i < k ∨ ds.length < i + k + 1
      · rw [if_pos h3, if_pos (by omega)]
      · rw [if_neg h3, if_neg (by omega)]
theorem RevI.done {ds es : List (List Int)} {k : Nat} (h : RevI ds es k) (hk : ds.length ≤ 2 * k + 1) : es = ds.reverse := by
  apply List.ext_getElem?
  intro i
  by_cases hi : i < ds.length
  · rw [h.2 i hi, List.getElem?_reverse hi]
    by_cases h1 : i < k ∨ ds.length < i + k + 1
    · rw [if_pos h1]
    · rw [if_neg h1]
      congr 1; omega
  · rw [List.getElem?_eq_none (by rw [h.1]; omega), List.getElem?_eq_none (by simp; omega)]
theorem RevI.mem {ds es : List (List Int)} {k : Nat} (h : RevI ds es k) (hd : ∀ d ∈ ds, Dig d) : ∀ d ∈ es, Dig d := by
  intro d hde
  obtain ⟨i, hi⟩ := List.mem_iff_getElem?.1 hde
  have hil : i < ds.length := by have := (List.getElem?_eq_some_iff.1 hi).1; rw [h.1] at this; exact this
  rw [h.2 i hil] at hi
  split at hi <;> exact hd d (List.mem_iff_getElem?.2 ⟨_, hi⟩)
theorem op_load {P : Program} {ops : Array Oper} {w : World} {K : Act → World → Prop} {Q : Exit → Act → World → Prop} {a : Act} {i : Nat} {o : Oper} (hi : ops[i]? = some o) (hgd : o.guard = none) (ty : TypeId) (x : Operand) (ho : o.op = .load ty x)
    (b off : Nat) (hx : a.eval x = .pointer (some ⟨b, off, none⟩)) (cs : Array Value) (d : TypeDesc) (hc : w.rangeAt b off cs.toList)
    (hu : P.underlying ty = some d) (hd : d.isRow = true) (hs : (P.info? ty).map (·.size) = some cs.toList.length) (h : K (a.put o.dst (.agg cs)) w) : wpOp P ops Q i K a w := by
  have hw : Region.wanted o (yielded ops a.tmps) = true := by simp [Region.wanted, hgd]
  unfold wpOp
  simp only [hi]
  rw [if_pos hw]
  refine .inl (wp_load_mid ty x ho b off hx cs.toList d hc hu hd hs ?_)
  rw [Array.toArray_toList]
  exact h
theorem still_load {P : Program} {ops : Array Oper} {w : World} {Q : Act → Prop} {a : Act} {o : Oper} {rest : List Oper} (hgd : o.guard = none) (ty : TypeId) (x : Operand) (ho : o.op = .load ty x)
    (b off : Nat) (hx : a.eval x = .pointer (some ⟨b, off, none⟩)) (cs : Array Value) (d : TypeDesc) (hc : w.rangeAt b off cs.toList)
    (hu : P.underlying ty = some d) (hd : d.isRow = true) (hi : (P.info? ty).map (·.size) = some cs.toList.length) (h : wpStill P ops w Q rest (a.put o.dst (.agg cs))) : wpStill P ops w Q (o :: rest) a := by
  have hw : Region.wanted o (yielded ops a.tmps) = true := by simp [Region.wanted, hgd]
  rw [wpStill, if_pos hw]
  unfold Oper.still execOp
  have hl := run_loadVar_mid (P := P) w b off ty cs.toList d hc hu hd hi
  rw [Array.toArray_toList] at hl
  simp only [ho, hx, Instr.loadAt, Instr.sureAddr, Sem.run_bind, Sem.run_pure, Result.andThen_ok, hl, Oper.stillUpon]
  exact ⟨trivial, h⟩
theorem sizeDig2 (d : List Int) (h : d.length = 16) : (Try.prog.info? 47).map (·.size) = some (digC d).toList.length := by rw [Array.length_toList]; exact Try.sizeDig d h
set_option maxRecDepth 100000 in
set_option maxHeartbeats 4000000 in
theorem reverse_any (B n : Nat) (v : Value) (ds : List (List Int)) (w : World) (h : w.ownsRow B 47 16 v n (digsC ds)) (hd : ∀ d ∈ ds, Dig d) (hn : n ≤ 100000) :
    Calls Try.prog 70 #[v] w fun e w' => e = .returned (.tuple #[]) ∧ w'.ownsRow B 47 16 v n (digsC ds.reverse) ∧ Below B w w' := by
  have hdl : ∀ d ∈ ds, d.length = 16 := fun d hh => (hd d hh).1
  have hnl : ds.length = n := by have h1 := h.1; rw [digsC_len ds hdl] at h1; omega
  obtain ⟨va, cap, rfl, hnc, hcm, hg⟩ := row_slice h
  have H := Lib.hid h
  have Hd := Lib.hid hd
  have Hnl := Lib.hid hnl
  have Hg := Lib.hid hg
  clear h hd hdl hnl hg
  go_enter Try.func70, Try.ntmps70
  go_wp2_with fail
  go_loopw [2, 3] (fun i j wr => ∃ (k : Nat) (es : List (List Int)), k ≤ n ∧ i = .int .i64 k ∧ j = .int .i64 ((n : Int) - 1 - k) ∧ wr.ownsRow B 47 16 (.slice va n cap) n (digsC es) ∧ RevI ds es k ∧ Below B w wr) (fun i _ _ => n - (intOf i).toNat)
  case atStart => exact ⟨0, ds, Nat.zero_le _, rfl, by go_num, H.out, ⟨rfl, fun i hi => by rw [if_neg (by omega)]⟩, Below.refl _ _⟩
  case round =>
    obtain ⟨k, es, hk, rfl, rfl, hrow, hrev, hb⟩ := hrel
    by_cases hlt : 2 * k + 1 < n
    · obtain ⟨g, rfl, hBg, -⟩ := Hg.out (by omega)
      obtain ⟨j, hj⟩ : ∃ j, j = n - 1 - k := ⟨_, rfl⟩
      have hel : es.length = n := by rw [hrev.1, Hnl.out]
      have hed : ∀ d ∈ es, d.length = 16 := fun d hh => (hrev.mem Hd.out d hh).1
      have hji : (n : Int) - 1 - (k : Int) = (j : Int) := by omega
      obtain ⟨x, hx⟩ : ∃ x, es[k]? = some x := ⟨_, List.getElem?_eq_getElem (by omega)⟩
      obtain ⟨y, hy⟩ : ∃ y, es[j]? = some y := ⟨_, List.getElem?_eq_getElem (by omega)⟩
      have hkx : es[k]'(by omega) = x := by have := List.getElem?_eq_getElem (l := es) (i := k) (by omega); rw [hx] at this; cases this; rfl
      have hjy : es[j]'(by omega) = y := by have := List.getElem?_eq_getElem (l := es) (i := j) (by omega); rw [hy] at this; cases this; rfl
      have hxl : x.length = 16 := by rw [← hkx]; exact hed _ (List.getElem_mem _)
      have hyl : y.length = 16 := by rw [← hjy]; exact hed _ (List.getElem_mem _)
      obtain ⟨w9, hw9⟩ : ∃ w9, w9 = wr.drew := ⟨_, rfl⟩
      have hrow9 : w9.ownsRow B 47 16 (.slice (some ⟨g, 0, none⟩) n cap) n (digsC es) := by rw [hw9]; exact hrow.drew
      have rx := row_range hrow9 hed k (by omega)
      have ry := row_range hrow9 hed j (by omega)
      rw [hkx] at rx
      rw [hjy] at ry
      have L := Lib.hid (And.intro (sizeDig2 x hxl) (sizeDig2 y hyl))
      have t1 := row_there hrow9 hed k (by omega)
      have t2 := row_there hrow9 hed j (by omega)
      have hrevs := hrev.step (x := x) (y := y) (by rw [Hnl.out]; omega) hx (by rw [Hnl.out, ← hj]; exact hy)
      rw [Hnl.out, ← hj] at hrevs
      have hrs : (((w9.setCells g (16 * k) (digC y).toList).setCells g (16 * j) (digC x).toList)).ownsRow B 47 16 (.slice (some ⟨g, 0, none⟩) n cap) n (digsC ((es.set k y).set j x)) := by
        have r1 := row_setCells (digC y).toList (16 * k) w9 _ hrow9
        rw [setMany_digs es y hed hyl k (by omega)] at r1
        have r2 := row_setCells (digC x).toList (16 * j) _ _ r1
        rw [setMany_digs _ x (by
          intro d hh
          rcases List.mem_or_eq_of_mem_set hh with hh | rfl
          · exact hed d hh
          · exact hyl) hxl j (by simp; omega)] at r2
        exact r2
      have hbs : Below B w ((w9.setCells g (16 * k) (digC y).toList).setCells g (16 * j) (digC x).toList) := by
        have b9 : Below B w w9 := by rw [hw9]; exact hb.drew
        exact b9.trans (((but_setCells _ _ _).trans (but_setCells _ _ _)).below.mono hBg)
      rw [Nat.mul_comm 16 k] at rx t1
      rw [Nat.mul_comm 16 j] at ry t2
      rw [Nat.mul_comm 16 k, Nat.mul_comm 16 j] at hrs hbs
      have hjn' : j < n := by omega
      have hkn' : k < n := by omega
      have RX := Lib.hid rx
      have RY := Lib.hid ry
      have T1 := Lib.hid t1
      have T2 : Hid ((w9.setCells g (k * 16) (digC y).toList).there g (j * 16) 16) := Lib.hid (World.there_setCells t2 _ _ _)
      have Hrs := Lib.hid hrs
      have Hbs := Lib.hid hbs
      have Hrevs := Lib.hid hrevs
      have Hw9 := Lib.hid hw9
      have z1 := Lib.hid (And.intro (Try.sizeDig x hxl) (Try.sizeDig y hyl))
      have hs1 : (digC x).size = 16 := by rw [digC_size, hxl]
      have hs2 : (digC y).size = 16 := by rw [digC_size, hyl]
      have Hs := Lib.hid (And.intro hs1 hs2)
      have hlt1 : decide ((k : Int) < (j : Int)) = true := decide_eq_true (by omega)
      have hk0 : (0 : Int) ≤ (k : Int) := by omega
      have hj0 : (0 : Int) ≤ (j : Int) := by omega
      have hkn : (k : Int) < (n : Int) := by omega
      have hjn : (j : Int) < (n : Int) := by omega
      have Hjj : Hid ((j : Int) - 1 = (n : Int) - 1 - ((k + 1 : Nat) : Int)) := Lib.hid (by omega)
      rw [hji]
      clear t1 t2 hrs hbs hrevs hw9 hs1 hs2 rx ry hrow9 hrow hrev hb hkx hjy hx hy hxl hyl hed hel hj
      go_wp2_with fail
      refine wp_region_any (by kernel_rfl) ?_
      rw [show (({ wr with drawn := wr.drawn + 1 } : World)) = w9 from Hw9.out.symm]
      refine wpAny_take (i := 0) (v := .slice (some ⟨g, 0, none⟩) n cap) rfl (by kernel_rfl) (by kernel_rfl) (by kernel_rfl) (fun _ _ _ h => h) (Or.inl ⟨by rfl, ?_⟩) ?_
      · intro w; go_simp
      refine wpAny_take (i := 1) (v := .int .i64 k) rfl (by kernel_rfl) (by kernel_rfl) (by kernel_rfl) (fun _ _ _ h => h) (Or.inl ⟨by rfl, ?_⟩) ?_
      · intro w; go_simp
      refine wpAny_take (i := 2) (v := .slice (some ⟨g, 0, none⟩) n cap) rfl (by kernel_rfl) (by kernel_rfl) (by kernel_rfl) (fun _ _ _ h => h) (Or.inl ⟨by rfl, ?_⟩) ?_
      · intro w; go_simp
      refine wpAny_take (i := 3) (v := .int .i64 j) rfl (by kernel_rfl) (by kernel_rfl) (by kernel_rfl) (fun _ _ _ h => h) (Or.inl ⟨by rfl, ?_⟩) ?_
      · intro w; go_simp
      refine wpAny_take (i := 4) (v := .slice (some ⟨g, 0, none⟩) n cap) rfl (by kernel_rfl) (by kernel_rfl) (by kernel_rfl) (fun _ _ _ h => h) (Or.inl ⟨by rfl, ?_⟩) ?_
      · intro w; go_simp
      refine wpAny_take (i := 5) (v := .int .i64 j) rfl (by kernel_rfl) (by kernel_rfl) (by kernel_rfl) (fun _ _ _ h => h) (Or.inl ⟨by rfl, ?_⟩) ?_
      · intro w; go_simp
      refine wpAny_take (i := 8) (v := .slice (some ⟨g, 0, none⟩) n cap) rfl (by kernel_rfl) (by kernel_rfl) (by kernel_rfl) (fun _ _ _ h => h) (Or.inl ⟨by rfl, ?_⟩) ?_
      · intro w; go_simp
      refine wpAny_take (i := 9) (v := .int .i64 k) rfl (by kernel_rfl) (by kernel_rfl) (by kernel_rfl) (fun _ _ _ h => h) (Or.inl ⟨by rfl, ?_⟩) ?_
      · intro w; go_simp
      refine wpAny_take (i := 6) (v := .pointer (some ⟨g, j * 16, none⟩)) rfl (by kernel_rfl) (by kernel_rfl) (by kernel_rfl) (fun _ _ _ h => h) (Or.inl ⟨by rfl, ?_⟩) ?_
      · intro w; go_simp
      refine wpAny_take (i := 10) (v := .pointer (some ⟨g, k * 16, none⟩)) rfl (by kernel_rfl) (by kernel_rfl) (by kernel_rfl) (fun _ _ _ h => h) (Or.inl ⟨by rfl, ?_⟩) ?_
      · intro w; go_simp
      go_simp
      refine wpAny_all (rs := [7, 11]) (by kernel_rfl) (by simp) ?_
      intro i hi
      rcases List.mem_cons.1 hi with rfl | hi
      · clear hi
        refine op_load rfl rfl 47 (.tmp 20) rfl g (j * 16) rfl (digC y) _ RY.out Try.underlying47 rfl L.out.2 ?_
        refine wpAny_all (rs := [11]) (by kernel_rfl) (by simp) (fun i hi => ?_)
        obtain rfl : i = 11 := by simpa using hi
        clear hi
        refine op_load rfl rfl 47 (.tmp 24) rfl g (k * 16) rfl (digC x) _ RX.out Try.underlying47 rfl L.out.1 ?_
        refine any_seq (k := 12) (by rfl) (by kernel_rfl) ?_
        simp only [List.drop_succ_cons, List.drop_zero]
        go_wp2_with (first
          | (refine wpList_store_mid rfl 47 (.tmp 26) (.tmp 21) rfl g (k * 16) (digC y) rfl rfl (by rw [Hs.out.2]; exact T1.out) z1.out.2 (digC_one y) ?_)
          | (refine wpList_store_mid rfl 47 (.tmp 27) (.tmp 25) rfl g (j * 16) (digC x) rfl rfl (by rw [Hs.out.1]; exact T2.out) z1.out.1 (digC_one x) ?_))
        go_roundw
        case rel => exact ⟨k + 1, (es.set k y).set j x, by omega, by go_num, by rw [← Hjj.out], Hrs.out, Hrevs.out, Hbs.out⟩
        case measure => simp [intOf]; omega
      · obtain rfl : i = 11 := by simpa using hi
        clear hi
        refine op_load rfl rfl 47 (.tmp 24) rfl g (k * 16) rfl (digC x) _ RX.out Try.underlying47 rfl L.out.1 ?_
        refine wpAny_all (rs := [7]) (by kernel_rfl) (by simp) (fun i hi => ?_)
        obtain rfl : i = 7 := by simpa using hi
        clear hi
        refine op_load rfl rfl 47 (.tmp 20) rfl g (j * 16) rfl (digC y) _ RY.out Try.underlying47 rfl L.out.2 ?_
        refine any_seq (k := 12) (by rfl) (by kernel_rfl) ?_
        simp only [List.drop_succ_cons, List.drop_zero]
        go_wp2_with (first
          | (refine wpList_store_mid rfl 47 (.tmp 26) (.tmp 21) rfl g (k * 16) (digC y) rfl rfl (by rw [Hs.out.2]; exact T1.out) z1.out.2 (digC_one y) ?_)
          | (refine wpList_store_mid rfl 47 (.tmp 27) (.tmp 25) rfl g (j * 16) (digC x) rfl rfl (by rw [Hs.out.1]; exact T2.out) z1.out.1 (digC_one x) ?_))
        go_roundw
        case rel => exact ⟨k + 1, (es.set k y).set j x, by omega, by go_num, by rw [← Hjj.out], Hrs.out, Hrevs.out, Hbs.out⟩
        case measure => simp [intOf]; omega
    · have he := hrev.done (by rw [Hnl.out]; omega)
      subst he
      have Hrow := Lib.hid hrow
      have Hb := Lib.hid hb
      have hge : ¬ ((k : Int) < (n : Int) - 1 - (k : Int)) := by omega
      clear hrow hb hrev
      go_wp2_with fail
      go_end0
      exact ⟨rfl, Hrow.out, Hb.out⟩
end Go.Proofs.Ytnlblmghhkmbbaa
