/- Fields of numbers and bytes are read as the chapter says. -/
import Derived.Test.YtmfijcniaehooaaWrnum
namespace Go.Proofs.Ytmfijcniaehooaa
set_option linter.unusedVariables false
open Go.RowKit

/-- The panic by which a field that cannot be read ends. -/
def pan (er : Int) : Ending := .panicked [{ v := .iface 24 (.int .i64 er), recovered := false }]
theorem returned_ne_pan {v : Value} {er : Int} : Ending.returned v ≠ pan er := by intro h; cases h
section
variable (w : World)

set_option maxHeartbeats 400000 in
theorem mustInt_ok (n : Int) : Calls Try.prog 89 #[.int .i64 n, .int .i64 0] w fun e w' => e = .returned (.int .i64 n) ∧ w = w' := by
  go_enter Try.func89, Try.ntmps89
  go_wp2
  go_ret
  exact ⟨rfl, rfl⟩
set_option maxHeartbeats 400000 in
theorem mustInt_bad (n : Int) (er : Int) (h : er ≠ 0) : Calls Try.prog 89 #[.int .i64 n, .int .i64 er] w fun e w' => e = pan er ∧ w = w' := by
  have h2 : (er != 0) = true := by simpa using h
  clear h
  go_enter Try.func89, Try.ntmps89
  go_wp2
  exact ⟨rfl, rfl, rfl⟩

set_option maxHeartbeats 400000 in
theorem mustBytes_ok (a : Option Addr) (l c : Nat) : Calls Try.prog 97 #[.slice a l c, .int .i64 0] w fun e w' => e = .returned (.slice a l c) ∧ w = w' := by
  go_enter Try.func97, Try.ntmps97
  go_wp2
  go_ret
  exact ⟨rfl, rfl⟩
set_option maxHeartbeats 400000 in
theorem mustBytes_bad (a : Option Addr) (l c : Nat) (er : Int) (h : er ≠ 0) : Calls Try.prog 97 #[.slice a l c, .int .i64 er] w fun e w' => e = pan er ∧ w = w' := by
  have h2 : (er != 0) = true := by simpa using h
  clear h
  go_enter Try.func97, Try.ntmps97
  go_wp2
  exact ⟨rfl, rfl, rfl⟩
end
/-- What reading a field gave: an item, and the place behind it; or a panic. -/
def Read1 (w : World) (R : Nat) (a : Option Addr) (len cap : Nat) (xs : List Int) (p : Nat) (er n : Int) (bs : List Int) (st : Nat) (e : Ending) (w' : World) : Prop :=
  (er = 0 ∧ ∃ a1 l1 c1, e = .returned (.agg #[.int .i64 n, .slice a1 l1 c1]) ∧ Own w' w.heap.size (.slice a1 l1 c1) bs ∧ Moved w w' R (p + st) a len cap xs) ∨
  (er ≠ 0 ∧ e = pan er ∧ w.grownBy w' (some R))
theorem Moved.pre {w w1 w2 : World} {R q : Nat} {a : Option Addr} {len cap : Nat} {xs : List Int} (hb : Below w.heap.size w w1) (k : Moved w1 w2 R q a len cap xs) : Moved w w2 R q a len cap xs :=
  ⟨k.isR, grown_trans (grown_of_below hb _) k.grown, fun a2 l2 c2 ys hr => k.keeps _ _ _ _ (hr.below hb (Nat.le_refl _)), fun B v ys ho => k.owns _ _ _ (ho.below hb (Nat.le_refl _))⟩
theorem Moved.alloc {w w2 : World} {R q : Nat} {a : Option Addr} {len cap : Nat} {xs : List Int} (k : Moved w w2 R q a len cap xs) (o : Obj) : Moved w (w2.alloc o) R q a len cap xs :=
  k.trans (Moved.of_below k.isR ((Below.refl _ _).alloc (Nat.le_refl _) _))
theorem Rd.later {w w2 w3 : World} {a : Option Addr} {len cap : Nat} {xs : List Int} (h0 : Rd w a len cap xs) (h2 : Rd w2 a len cap xs) (hb : Below w.heap.size w2 w3) : Rd w3 a len cap xs := by
  refine ⟨h2.hl, h2.hc, h2.hm, h2.hb, h2.hn, fun hpos => ?_⟩
  obtain ⟨b, off, ha, hc0⟩ := h0.hr hpos
  obtain ⟨b', off', ha', hc⟩ := h2.hr hpos
  rw [ha] at ha'
  cases ha'
  have hlt : b < w.heap.size := World.block_lt_of_cell? w _ (hc0 0 hpos)
  exact ⟨b, off, ha, fun i hi => (hb.cell (p := ⟨b, off + i, none⟩) hlt).trans (hc i hi)⟩
theorem Own.later {w w2 w3 : World} {B : Nat} {v : Value} {xs : List Int} (h0 : Own w B v xs) (h2 : Own w2 B v xs) (hb : Below w.heap.size w2 w3) : Own w3 B v xs := by
  refine ⟨⟨h2.1.1, ?_⟩, h2.2⟩
  rcases h2.1.2 with hn | ⟨g, cap, cur, rfl, hg0, hg, rest⟩
  · exact .inl hn
  · refine .inr ⟨g, cap, cur, rfl, hg0, ?_, rest⟩
    rw [hb.block g (h0.1.lt g (by simp [Value.ownBlock])).2]
    exact hg
/-- What is changed above leaves it so. -/
theorem Moved.low {w w2 w3 : World} {R p q : Nat} {a : Option Addr} {len cap : Nat} {xs : List Int} (h0 : IsR w R p a len cap xs) (k : Moved w w2 R q a len cap xs) (hb : Below w.heap.size w2 w3) : Moved w w3 R q a len cap xs :=
  ⟨⟨(hb.block R h0.lt).trans k.isR.blk, h0.rd.later k.isR.rd hb, k.isR.hp⟩,
    ⟨hb.os.trans k.grown.os, hb.tape.trans k.grown.tape, hb.output.trans k.grown.output, Nat.le_trans k.grown.size hb.size, fun i hi hne => (hb.block i hi).trans (k.grown.block i hi hne)⟩,
    fun a2 l2 c2 ys hr => hr.later (k.keeps _ _ _ _ hr) hb, fun B v ys ho => ho.later (k.owns _ _ _ ho) hb⟩
theorem below_setRow' (w : World) (B g : Nat) (cs : Array Value) (h : B ≤ g) : Below B w (w.setRow g cs) :=
  ⟨rfl, rfl, rfl, by simp, fun k hk => setRow_other w g k cs (by omega)⟩
theorem Try.sizeDatum (u v : Value) : (Try.prog.info? 52).map (·.size) = some (#[u, v] : Array Value).size := by kernel_rfl
theorem Own.setRow {w : World} {B g : Nat} {v : Value} {xs : List Int} (h : Own w B v xs) (hg : g < B) (cs : Array Value) : Own (w.setRow g cs) B v xs := by
  refine ⟨⟨h.1.1, ?_⟩, h.2⟩
  rcases h.1.2 with hn | ⟨k, cap, cur, rfl, hk, hkk, rest⟩
  · exact .inl hn
  · exact .inr ⟨k, cap, cur, rfl, hk, (setRow_other w g k cs (by omega)).trans hkk, rest⟩
theorem oneDatum (n : Int) (a : Option Addr) (l c : Nat) : (#[.int .i64 n, .slice a l c] : Array Value).all (fun x => x.oneCell') = true := by kernel_rfl
section
variable {w : World} {R p len cap : Nat} {a : Option Addr} {xs : List Int} (h : IsR w R p a len cap xs) (width : Int) (hw1 : -9223372036854775808 ≤ width) (hw2 : width ≤ 9223372036854775807)
include h hw1 hw2
set_option maxRecDepth 100000 in
set_option maxHeartbeats 400000 in
theorem rd1_any : Calls Try.prog 88 #[.pointer (some ⟨R, 0, none⟩), .int .i64 width] w
    (Read1 w R a len cap xs p (rfixV xs p width false).2.1 (rfixV xs p width false).1 [] (rfixV xs p width false).2.2) := by
  have H := Lib.hid h
  have hR := h.lt
  clear h
  have hb0 : Below w.heap.size w (w.alloc (.cells #[.int .i64 0, .slice none 0 0] 52)) := (Below.refl _ w).alloc (Nat.le_refl _) _
  have H1 := Lib.hid (H.out.below hb0 (Nat.le_refl _))
  have Hb0 := Lib.hid hb0
  clear hb0
  by_cases her : (rfixV xs p width false).2.1 = 0
  · rcases hv : rfixV xs p width false with ⟨n, er, st⟩
    rw [hv] at her
    simp only at her ⊢
    subst her
    have HV := Lib.hid hv
    clear hv
    go_enter Try.func88, Try.ntmps88
    go_wp2_with fail
    refine (ruint_any H1.out width hw1 hw2).mono ?_
    rintro e w1 ⟨rfl, hm⟩
    rw [HV.out] at hm ⊢
    have hg := hm.grown.block w.heap.size (by simp) (by simp; omega)
    rw [heap_alloc_last] at hg
    have Hm := Lib.hid (Moved.pre Hb0.out hm)
    clear hm
    go_wp2_with fail
    refine (mustInt_ok w1 n).mono ?_
    rintro e w2 ⟨rfl, rfl⟩
    go_wp2_with (refine wpList_store_row rfl 52 (.tmp 4) (.tmp 11) rfl w.heap.size #[.int .i64 n, .slice none 0 0] rfl rfl 52 #[.int .i64 0, .slice none 0 0] hg (Try.sizeDatum _ _) rfl (oneDatum _ _ _ _) ?_)
    refine bodyPost_ret (v := .agg #[.int .i64 n, .slice none 0 0]) ?_ rfl ?_
    · exact results_cell_row rfl _ _ w.heap.size 52 #[.int .i64 n, .slice none 0 0] (0, 0) _ rfl (setRow_heap _ _ _ _ _ _ hg) Try.underlying52 rfl (Try.sizeDatum _ _)
    · exact .inl ⟨rfl, none, 0, 0, rfl, Own.nil _ _, Moved.low H.out Hm.out (below_setRow' _ _ _ _ (Nat.le_refl _))⟩
  · rcases hv : rfixV xs p width false with ⟨n, er, st⟩
    rw [hv] at her
    simp only at her ⊢
    have HV := Lib.hid hv
    have Her := Lib.hid her
    clear hv her
    go_enter Try.func88, Try.ntmps88
    go_wp2_with fail
    refine (ruint_any H1.out width hw1 hw2).mono ?_
    rintro e w1 ⟨rfl, hm⟩
    rw [HV.out] at hm ⊢
    have Hm := Lib.hid (Moved.pre Hb0.out hm)
    clear hm
    go_wp2_with fail
    refine (mustInt_bad w1 n er Her.out).mono ?_
    rintro e w2 ⟨rfl, rfl⟩
    unfold pan
    go_wp2
    exact ⟨rfl, .inr ⟨Her.out, rfl, Hm.out.grown⟩⟩
set_option maxRecDepth 100000 in
set_option maxHeartbeats 400000 in
theorem rd2_any : Calls Try.prog 91 #[.pointer (some ⟨R, 0, none⟩), .int .i64 width] w
    (Read1 w R a len cap xs p (rfixV xs p width true).2.1 (rfixV xs p width true).1 [] (rfixV xs p width true).2.2) := by
  have H := Lib.hid h
  have hR := h.lt
  clear h
  have hb0 : Below w.heap.size w (w.alloc (.cells #[.int .i64 0, .slice none 0 0] 52)) := (Below.refl _ w).alloc (Nat.le_refl _) _
  have H1 := Lib.hid (H.out.below hb0 (Nat.le_refl _))
  have Hb0 := Lib.hid hb0
  clear hb0
  by_cases her : (rfixV xs p width true).2.1 = 0
  · rcases hv : rfixV xs p width true with ⟨n, er, st⟩
    rw [hv] at her
    simp only at her ⊢
    subst her
    have HV := Lib.hid hv
    clear hv
    go_enter Try.func91, Try.ntmps91
    go_wp2_with fail
    refine (rint_any H1.out width hw1 hw2).mono ?_
    rintro e w1 ⟨rfl, hm⟩
    rw [HV.out] at hm ⊢
    have hg := hm.grown.block w.heap.size (by simp) (by simp; omega)
    rw [heap_alloc_last] at hg
    have Hm := Lib.hid (Moved.pre Hb0.out hm)
    clear hm
    go_wp2_with fail
    refine (mustInt_ok w1 n).mono ?_
    rintro e w2 ⟨rfl, rfl⟩
    go_wp2_with (refine wpList_store_row rfl 52 (.tmp 4) (.tmp 11) rfl w.heap.size #[.int .i64 n, .slice none 0 0] rfl rfl 52 #[.int .i64 0, .slice none 0 0] hg (Try.sizeDatum _ _) rfl (oneDatum _ _ _ _) ?_)
    refine bodyPost_ret (v := .agg #[.int .i64 n, .slice none 0 0]) ?_ rfl ?_
    · exact results_cell_row rfl _ _ w.heap.size 52 #[.int .i64 n, .slice none 0 0] (0, 0) _ rfl (setRow_heap _ _ _ _ _ _ hg) Try.underlying52 rfl (Try.sizeDatum _ _)
    · exact .inl ⟨rfl, none, 0, 0, rfl, Own.nil _ _, Moved.low H.out Hm.out (below_setRow' _ _ _ _ (Nat.le_refl _))⟩
  · rcases hv : rfixV xs p width true with ⟨n, er, st⟩
    rw [hv] at her
    simp only at her ⊢
    have HV := Lib.hid hv
    have Her := Lib.hid her
    clear hv her
    go_enter Try.func91, Try.ntmps91
    go_wp2_with fail
    refine (rint_any H1.out width hw1 hw2).mono ?_
    rintro e w1 ⟨rfl, hm⟩
    rw [HV.out] at hm ⊢
    have Hm := Lib.hid (Moved.pre Hb0.out hm)
    clear hm
    go_wp2_with fail
    refine (mustInt_bad w1 n er Her.out).mono ?_
    rintro e w2 ⟨rfl, rfl⟩
    unfold pan
    go_wp2
    exact ⟨rfl, .inr ⟨Her.out, rfl, Hm.out.grown⟩⟩
omit hw1 hw2 in
set_option maxRecDepth 100000 in
set_option maxHeartbeats 400000 in
theorem rd3_any : Calls Try.prog 94 #[.pointer (some ⟨R, 0, none⟩), .int .i64 width] w
    (Read1 w R a len cap xs p (toVarV (xs.drop p)).2.2 (toVarV (xs.drop p)).1 [] (toVarV (xs.drop p)).2.1.toNat) := by
  have H := Lib.hid h
  have hR := h.lt
  clear h
  have hb0 : Below w.heap.size w (w.alloc (.cells #[.int .i64 0, .slice none 0 0] 52)) := (Below.refl _ w).alloc (Nat.le_refl _) _
  have H1 := Lib.hid (H.out.below hb0 (Nat.le_refl _))
  have Hb0 := Lib.hid hb0
  clear hb0
  rcases hv : toVarV (xs.drop p) with ⟨n, st, er⟩
  have HV := Lib.hid hv
  clear hv
  simp only
  by_cases her : er = 0
  · subst her
    go_enter Try.func94, Try.ntmps94
    go_wp2_with fail
    refine (rvar_any H1.out).mono ?_
    rintro e w1 ⟨rfl, hm⟩
    rw [HV.out] at hm ⊢
    have hg := hm.grown.block w.heap.size (by simp) (by simp; omega)
    rw [heap_alloc_last] at hg
    have Hm := Lib.hid (Moved.pre Hb0.out hm)
    clear hm
    go_wp2_with fail
    refine (mustInt_ok w1 n).mono ?_
    rintro e w2 ⟨rfl, rfl⟩
    go_wp2_with (refine wpList_store_row rfl 52 (.tmp 4) (.tmp 10) rfl w.heap.size #[.int .i64 n, .slice none 0 0] rfl rfl 52 #[.int .i64 0, .slice none 0 0] hg (Try.sizeDatum _ _) rfl (oneDatum _ _ _ _) ?_)
    refine bodyPost_ret (v := .agg #[.int .i64 n, .slice none 0 0]) ?_ rfl ?_
    · exact results_cell_row rfl _ _ w.heap.size 52 #[.int .i64 n, .slice none 0 0] (0, 0) _ rfl (setRow_heap _ _ _ _ _ _ hg) Try.underlying52 rfl (Try.sizeDatum _ _)
    · exact .inl ⟨rfl, none, 0, 0, rfl, Own.nil _ _, Moved.low H.out Hm.out (below_setRow' _ _ _ _ (Nat.le_refl _))⟩
  · have Her := Lib.hid her
    clear her
    go_enter Try.func94, Try.ntmps94
    go_wp2_with fail
    refine (rvar_any H1.out).mono ?_
    rintro e w1 ⟨rfl, hm⟩
    rw [HV.out] at hm ⊢
    have Hm := Lib.hid (Moved.pre Hb0.out hm)
    clear hm
    go_wp2_with fail
    refine (mustInt_bad w1 n er Her.out).mono ?_
    rintro e w2 ⟨rfl, rfl⟩
    unfold pan
    go_wp2
    exact ⟨rfl, .inr ⟨Her.out, rfl, Hm.out.grown⟩⟩
omit hw1 in
set_option maxRecDepth 100000 in
set_option maxHeartbeats 400000 in
theorem rd4_any (hbig : len ≤ 140737488355328) : Calls Try.prog 96 #[.pointer (some ⟨R, 0, none⟩), .int .i64 width] w
    (Read1 w R a len cap xs p (aheadE ((xs.length : Int) - p) width) 0 (aheadB xs p width) (stepV (aheadE ((xs.length : Int) - p) width) width)) := by
  have H := Lib.hid h
  have hR := h.lt
  clear h
  have hb0 : Below w.heap.size w (w.alloc (.cells #[.int .i64 0, .slice none 0 0] 52)) := (Below.refl _ w).alloc (Nat.le_refl _) _
  have H1 := Lib.hid (H.out.below hb0 (Nat.le_refl _))
  have Hb0 := Lib.hid hb0
  clear hb0
  obtain ⟨er, hv⟩ : ∃ er, er = aheadE ((xs.length : Int) - p) width := ⟨_, rfl⟩
  rw [← hv]
  have HV := Lib.hid hv
  clear hv
  by_cases her : er = 0
  · subst her
    go_enter Try.func96, Try.ntmps96
    go_wp2_with fail
    refine (bytes_any H1.out width hw2 hbig).mono ?_
    rintro e w1 ⟨v, rfl, ho, hm⟩
    rw [← HV.out] at hm ⊢
    obtain ⟨a1, c1, rfl, hr⟩ := ho.rd
    have hg := hm.grown.block w.heap.size (by simp) (by simp; omega)
    rw [heap_alloc_last] at hg
    have Hm := Lib.hid (Moved.pre Hb0.out hm)
    have Ho := Lib.hid ho
    clear hm ho hr
    go_wp2_with fail
    refine (mustBytes_ok w1 a1 _ c1).mono ?_
    rintro e w2 ⟨rfl, rfl⟩
    go_wp2_with (refine wpList_store_row rfl 52 (.tmp 4) (.tmp 11) rfl w.heap.size #[.int .i64 0, .slice a1 (aheadB xs p width).length c1] rfl rfl 52 #[.int .i64 0, .slice none 0 0] hg (Try.sizeDatum _ _) rfl (oneDatum _ _ _ _) ?_)
    refine bodyPost_ret (v := .agg #[.int .i64 0, .slice a1 (aheadB xs p width).length c1]) ?_ rfl ?_
    · exact results_cell_row rfl _ _ w.heap.size 52 #[.int .i64 0, .slice a1 (aheadB xs p width).length c1] (0, 0) _ rfl (setRow_heap _ _ _ _ _ _ hg) Try.underlying52 rfl (Try.sizeDatum _ _)
    · have ho2 := Ho.out.setRow (g := w.heap.size) (by simp) #[.int .i64 0, .slice a1 (aheadB xs p width).length c1]
      exact .inl ⟨rfl, a1, _, c1, rfl, ho2.mono (by simp), Moved.low H.out Hm.out (below_setRow' _ _ _ _ (Nat.le_refl _))⟩
  · have Her := Lib.hid her
    clear her
    go_enter Try.func96, Try.ntmps96
    go_wp2_with fail
    refine (bytes_any H1.out width hw2 hbig).mono ?_
    rintro e w1 ⟨v, rfl, ho, hm⟩
    rw [← HV.out] at hm ⊢
    obtain ⟨a1, c1, rfl, hr⟩ := ho.rd
    have Hm := Lib.hid (Moved.pre Hb0.out hm)
    clear hm ho hr
    go_wp2_with fail
    refine (mustBytes_bad w1 a1 _ c1 er Her.out).mono ?_
    rintro e w2 ⟨rfl, rfl⟩
    unfold pan
    go_wp2
    exact ⟨rfl, .inr ⟨Her.out, rfl, Hm.out.grown⟩⟩
end
end Go.Proofs.Ytmfijcniaehooaa
