/- Prove answers as the chapter says. -/
import Derived.Test.YtnlblmghhkmbbaaSrev
import Derived.Test.YtnlblmghhkmbbaaSroot
import Derived.Great.BuildSlice
namespace Go.Proofs.Ytnlblmghhkmbbaa
set_option linter.unusedVariables false
open Go.RowKit Go.Shelf

/-- The path of a leaf, from the root down. -/
def proveL : Nat → List (List Int) → Nat → List (List Int)
  | 0, _, _ => []
  | f + 1, l, i => if l.length ≤ 1 then [] else
    if halfV l.length ≤ i then rootV (l.take (halfV l.length)) :: proveL f (l.drop (halfV l.length)) (i - halfV l.length)
    else rootV (l.drop (halfV l.length)) :: proveL f (l.take (halfV l.length)) i
theorem proveL_fuel (f : Nat) : ∀ (g : Nat) (l : List (List Int)) (i : Nat), l.length ≤ f → l.length ≤ g → l.length ≤ 4096 → proveL f l i = proveL g l i := by
  induction f with
  | zero =>
    intro g l i h1 h2 _
    cases g with
    | zero => rfl
    | succ g => rw [proveL, proveL, if_pos (by omega)]
  | succ f ih =>
    intro g l i h1 h2 h3
    cases g with
    | zero => rw [proveL, proveL, if_pos (by omega)]
    | succ g =>
      rw [proveL, proveL]
      by_cases hl : l.length ≤ 1
      · rw [if_pos hl, if_pos hl]
      · rw [if_neg hl, if_neg hl]
        obtain ⟨b1, b2, b3⟩ := halfV_bd l.length (by omega) h3
        rw [ih g _ _ (by rw [List.length_drop]; omega) (by rw [List.length_drop]; omega) (by rw [List.length_drop]; omega),
          ih g _ _ (by rw [List.length_take]; omega) (by rw [List.length_take]; omega) (by rw [List.length_take]; omega)]
def proveV (l : List (List Int)) (i : Nat) : List (List Int) := proveL l.length l i
theorem proveV_one (l : List (List Int)) (i : Nat) (h : l.length ≤ 1) : proveV l i = [] := by
  unfold proveV
  cases hl : l.length with
  | zero => rfl
  | succ n => rw [proveL, if_pos (by omega)]
theorem proveV_two (l : List (List Int)) (i : Nat) (h : 2 ≤ l.length) (hm : l.length ≤ 4096) : proveV l i =
    if halfV l.length ≤ i then rootV (l.take (halfV l.length)) :: proveV (l.drop (halfV l.length)) (i - halfV l.length) else rootV (l.drop (halfV l.length)) :: proveV (l.take (halfV l.length)) i := by
  obtain ⟨b1, b2, b3⟩ := halfV_bd l.length h hm
  obtain ⟨f, hf⟩ : ∃ f, l.length = f + 1 := ⟨l.length - 1, by omega⟩
  unfold proveV
  conv => lhs; rw [hf, proveL, if_neg (by omega)]
  rw [proveL_fuel f (l.drop (halfV l.length)).length _ _ (by rw [List.length_drop]; omega) (Nat.le_refl _) (by rw [List.length_drop]; omega),
    proveL_fuel f (l.take (halfV l.length)).length _ _ (by rw [List.length_take]; omega) (Nat.le_refl _) (by rw [List.length_take]; omega)]
theorem proveL_dig (f : Nat) : ∀ (l : List (List Int)) (i : Nat), ∀ d ∈ proveL f l i, Dig d := by
  induction f with
  | zero => intro l i d hd; simp [proveL] at hd
  | succ f ih =>
    intro l i d hd
    rw [proveL] at hd
    split at hd
    · simp at hd
    · split at hd
      · rcases List.mem_cons.1 hd with rfl | hd
        · exact rootV_dig _
        · exact ih _ _ _ hd
      · rcases List.mem_cons.1 hd with rfl | hd
        · exact rootV_dig _
        · exact ih _ _ _ hd
theorem proveL_len (f : Nat) : ∀ (l : List (List Int)) (i : Nat), (proveL f l i).length ≤ f := by
  induction f with
  | zero => intro l i; simp [proveL]
  | succ f ih =>
    intro l i
    rw [proveL]
    split
    · simp
    · split
      · rw [List.length_cons]; have := ih (l.drop (halfV l.length)) (i - halfV l.length); omega
      · rw [List.length_cons]; have := ih (l.take (halfV l.length)) i; omega
def proveE (l : List (List Int)) (i : Int) : Int := if 4096 < l.length then 2 else if i < 0 ∨ (l.length : Int) ≤ i then 3 else 0
theorem Try.infoG : (Try.prog.info? 47).map (fun i => (i.zero, i.size, i.bytes)) = some (some (.agg #[.int .u8 0, .int .u8 0, .int .u8 0, .int .u8 0, .int .u8 0, .int .u8 0, .int .u8 0, .int .u8 0, .int .u8 0, .int .u8 0, .int .u8 0, .int .u8 0, .int .u8 0, .int .u8 0, .int .u8 0, .int .u8 0]), 16, 16) := by kernel_rfl
theorem fill_dig (d : List Int) (h : d.length = 16) : Instr.fill (fun i => some (i * 16, 16)) ((Array.range (1 * 16)).map ((.agg #[.int .u8 0, .int .u8 0, .int .u8 0, .int .u8 0, .int .u8 0, .int .u8 0, .int .u8 0, .int .u8 0, .int .u8 0, .int .u8 0, .int .u8 0, .int .u8 0, .int .u8 0, .int .u8 0, .int .u8 0, .int .u8 0] : Value).cells[· % (.agg #[.int .u8 0, .int .u8 0, .int .u8 0, .int .u8 0, .int .u8 0, .int .u8 0, .int .u8 0, .int .u8 0, .int .u8 0, .int .u8 0, .int .u8 0, .int .u8 0, .int .u8 0, .int .u8 0, .int .u8 0, .int .u8 0] : Value).cells.size]!)) [(0, .agg (digC d))] = some (digC d) := by
  rw [digC_lit d h]
  kernel_rfl
theorem wpList_build_dig {ops : Array Oper} {rest : List Oper} {o : Oper} {a : Act} {w : World} {Q : Exit → Act → World → Prop} (hg : o.guard = none) (x : Operand) (ho : o.op = .buildSlice 56 1 #[(0, x)]) (d : List Int) (hd : d.length = 16) (hx : a.eval x = .agg (digC d))
    (h : wpList Try.prog ops Q rest (a.put o.dst (.slice (some ⟨w.heap.size, 0, none⟩) 1 1)) (w.alloc (.cells (digC d) 47))) : wpList Try.prog ops Q (o :: rest) a w := by
  obtain ⟨i0, hi, hz0, hz1, hz2⟩ := info_parts Try.infoG
  refine wpList_buildSlice hg 56 47 1 #[(0, x)] ho (digC d) i0 _ Try.underlying56 hi hz0 (by rw [hz1]; omega) (by rw [hz1]; omega) ?_ h
  rw [hz1]
  have : ((#[(0, x)] : Array (Nat × Operand)).map fun (i, x) => (i, a.eval x)).toList = [(0, .agg (digC d))] := by simp [hx]
  rw [this]
  exact fill_dig d hd
attribute [local irreducible] digestV rootV halfV proveV
/-- What holds while the path is gathered. -/
structure ProvI (w0 : World) (ls : List (List Int)) (i0 : Nat) (acc : List (List Int)) (a : Option Addr) (len cap i : Nat) (ps : List Pc) (v : Value) (w : World) : Prop where
  rd : RdP w0 a len cap ps
  small : ∀ p ∈ ps, p.len ≤ 140737488354000
  lt : i < len
  le : len ≤ 4096
  eq : proveV ls i0 = acc ++ proveV (lvs ps) i
  few : acc.length + len ≤ 4096
  dig : ∀ d ∈ acc, Dig d
  row : w.ownsRow w0.heap.size 47 16 v acc.length (digsC acc)
  below : Below w0.heap.size w0 w
set_option maxRecDepth 100000 in
set_option maxHeartbeats 4000000 in
theorem prove_ok (a : Option Addr) (len cap i : Nat) (ps : List Pc) (w : World) (h : RdP w a len cap ps) (hs : ∀ p ∈ ps, p.len ≤ 140737488354000) (hm : len ≤ 4096) (hi : i < len) :
    Calls Try.prog 45 #[.slice a len cap, .int .i64 i] w fun e w' => ∃ v, e = .returned (.tuple #[v, .int .i64 0]) ∧ w'.ownsRow w.heap.size 47 16 v (proveV (lvs ps) i).length (digsC (proveV (lvs ps) i).reverse) ∧ Below w.heap.size w w' := by
  have g1 : ¬ (4096 : Int) < (len : Int) := by omega
  have g2 : ¬ ((i : Int) < 0) := by omega
  have g3 : ¬ ((len : Int) ≤ (i : Int)) := by omega
  have HI : Hid (ProvI w (lvs ps) i [] a len cap i ps (.slice none 0 0) w) := Lib.hid ⟨h, hs, hi, hm, by rw [List.nil_append], by rw [List.length_nil]; omega, fun d hd => absurd hd (List.not_mem_nil), World.ownsRow_nil _ _ _ _, Below.refl _ _⟩
  clear h hs hi
  go_enter Try.func45, Try.ntmps45
  go_wp2_with fail
  go_loopw [0, 1, 6] (fun s j v wr => ∃ (acc : List (List Int)) (a' : Option Addr) (len' cap' i' : Nat) (ps' : List Pc), s = .slice a' len' cap' ∧ j = .int .i64 i' ∧ ProvI w (lvs ps) i acc a' len' cap' i' ps' v wr)
    (fun s _ _ _ => match s with | .slice _ l _ => l | _ => 0)
  case atStart => exact ⟨[], a, len, cap, i, ps, rfl, rfl, HI.out⟩
  case round =>
    obtain ⟨acc, a', len', cap', i', ps', rfl, rfl, hI⟩ := hrel
    obtain ⟨va, vc, rfl, -, -, -⟩ := row_slice hI.row
    have hll : (lvs ps').length = len' := by unfold lvs; rw [List.length_map, hI.rd.hl]
    have hle := hI.le
    have hlt := hI.lt
    by_cases h2 : 2 ≤ len'
    · obtain ⟨b, off, rfl, -⟩ := hI.rd.hr (by omega)
      obtain ⟨b1, b2, b3⟩ := halfV_bd len' h2 hle
      obtain ⟨k, hk⟩ : ∃ k, k = halfV len' := ⟨_, rfl⟩
      rw [← hk] at b1 b2 b3
      have hlc := hI.rd.hc
      have hcm := hI.rd.hm
      have hp := proveV_two (lvs ps') i' (by omega) (by omega)
      rw [hll, ← hk] at hp
      have ht : (lvs ps').take k = lvs ((ps'.drop 0).take k) := by unfold lvs; rw [List.drop_zero, List.map_take]
      have hd' : (lvs ps').drop k = lvs ((ps'.drop k).take (len' - k)) := by
        unfold lvs; rw [List.take_of_length_le (by rw [List.length_drop, hI.rd.hl]; omega), List.map_drop]
      rw [ht, hd'] at hp
      have hck : (cap' = k) = False := eq_false (by omega)
      have hk0 : (0 : Int) ≤ (k : Int) := by omega
      have hkl : (k : Int) ≤ (len' : Int) := by omega
      have hkc : (k : Int) ≤ (cap' : Int) := by omega
      have hgt : (1 : Int) < (len' : Int) := by omega
      have r1 := hI.rd.part 0 k cap' (by omega) (by omega) hcm
      have r2 := hI.rd.part k (len' - k) (cap' - k) (by omega) (by omega) (by omega)
      have s1 : ∀ p ∈ (ps'.drop 0).take k, p.len ≤ 140737488354000 := fun p hp => hI.small p (List.mem_of_mem_drop (List.mem_of_mem_take hp))
      have s2 : ∀ p ∈ (ps'.drop k).take (len' - k), p.len ≤ 140737488354000 := fun p hp => hI.small p (List.mem_of_mem_drop (List.mem_of_mem_take hp))
      have HI2 := Lib.hid hI
      have Hk := Lib.hid hk
      have Hp := Lib.hid hp
      have R1 := Lib.hid r1
      have R2 := Lib.hid r2
      have S1 := Lib.hid s1
      have S2 := Lib.hid s2
      clear hI hk hp r1 r2 s1 s2 ht hd' hll
      go_wp2_with fail
      refine (firstPart_any len' wr h2 hle).mono ?_
      rintro e w2 ⟨rfl, rfl⟩
      rw [← Hk.out]
      by_cases hik : k ≤ i'
      · have hik' : (k : Int) ≤ (i' : Int) := by omega
        have hsub : (i' : Int) - (k : Int) = ((i' - k : Nat) : Int) := by omega
        have hpe : proveV (lvs ps') i' = rootV (lvs ((ps'.drop 0).take k)) :: proveV (lvs ((ps'.drop k).take (len' - k))) (i' - k) := by rw [Hp.out]; exact if_pos hik
        have Hpe := Lib.hid hpe
        clear hpe
        go_wp2_with fail
        refine (root_any (k) (some ⟨b, off, none⟩) (k) (cap') ((ps'.drop 0).take k) w2 rfl (R1.out.below HI2.out.below (Nat.le_refl _)) S1.out (by omega) (by omega)).mono ?_
        rintro e w3 ⟨u, rfl, hb3⟩
        have hdig := rootV_dig (lvs ((ps'.drop 0).take k))
        obtain ⟨d, hd⟩ : ∃ d, d = rootV (lvs ((ps'.drop 0).take k)) := ⟨_, rfl⟩
        rw [← hd] at hdig ⊢
        have hf := run_field_node d u hdig.1
        have Hb3 : Hid (Below w.heap.size w w3) := Lib.hid (HI2.out.below.trans (hb3.mono HI2.out.below.size))
        have Hrow3 : Hid (w3.ownsRow w.heap.size 47 16 (.slice va acc.length vc) acc.length (digsC acc)) := Lib.hid (row_below HI2.out.row hb3 (Nat.le_refl _))
        have HII := Lib.hid (info_parts Try.infoG)
        have Hd := Lib.hid hd
        have Hdig := Lib.hid hdig
        have hfew := HI2.out.few
        have hsz := digC_size d
        rw [hdig.1] at hsz
        have Hsz := Lib.hid hsz
        clear hb3 hd hdig hsz
        go_wp2_with (first | (refine wpList_build_dig rfl (.tmp 47) rfl d Hdig.out.1 rfl ?_) | (obtain ⟨i0, hi, hz0, hz1, hz2⟩ := HII.out; refine wpList_append_one rfl (.tmp 44) (.tmp 48) 56 rfl w.heap.size 47 i0 _ 16 16 Try.underlying56 hi hz0 hz1 hz2 rfl (by decide) (.slice va acc.length vc) acc.length _ rfl (Hrow3.out.alloc _) w3.heap.size (digC d) rfl (heap_new w3 _) Hsz.out (digC_one d) (by omega) (by unfold maxLen; omega) (by simp; have := Hb3.out.size; omega) ?_; clear hi hz0 hz1 hz2; intro v' w5 hrow5 hg5))
        have hvb := (Hrow3.out.alloc (.cells (digC d) 47)).lt
        have hI5 : ProvI w (lvs ps) i (acc ++ [d]) (some ⟨b, off + k, none⟩) (len' - k) (cap' - k) (i' - k) ((ps'.drop k).take (len' - k)) v' w5 := by
          refine ⟨R2.out, S2.out, by omega, by omega, ?_, by rw [List.length_append, List.length_singleton]; omega, ?_, ?_, ?_⟩
          · rw [HI2.out.eq, Hpe.out, Hd.out, List.append_assoc]; rfl
          · intro x hx
            rcases List.mem_append.1 hx with hx | hx
            · exact HI2.out.dig x hx
            · rw [List.mem_singleton] at hx; rw [hx]; exact Hdig.out
          · rw [digsC_append, digsC_one, List.length_append, List.length_singleton]; exact hrow5
          · exact (Hb3.out.alloc Hb3.out.size _).grown hg5 (by simp; have := Hb3.out.size; omega) (fun k e => (hvb k e).1)
        have HI5 := Lib.hid hI5
        clear hI5 hvb hrow5 hg5
        obtain ⟨a5, c5, rfl, -, -, -⟩ := row_slice HI5.out.row
        go_wp2_with fail
        go_roundw
        case rel => exact ⟨acc ++ [d], (some ⟨b, off + k, none⟩), len' - k, cap' - k, i' - k, (ps'.drop k).take (len' - k), rfl, by go_num, HI5.out⟩
        case measure => show len' - k < len'; omega
      · have hik' : ¬ (k : Int) ≤ (i' : Int) := by omega
        have hpe : proveV (lvs ps') i' = rootV (lvs ((ps'.drop k).take (len' - k))) :: proveV (lvs ((ps'.drop 0).take k)) (i') := by rw [Hp.out]; exact if_neg hik
        have Hpe := Lib.hid hpe
        clear hpe
        go_wp2_with fail
        refine (root_any (len' - k) (some ⟨b, off + k, none⟩) (len' - k) (cap' - k) ((ps'.drop k).take (len' - k)) w2 rfl (R2.out.below HI2.out.below (Nat.le_refl _)) S2.out (by omega) (by omega)).mono ?_
        rintro e w3 ⟨u, rfl, hb3⟩
        have hdig := rootV_dig (lvs ((ps'.drop k).take (len' - k)))
        obtain ⟨d, hd⟩ : ∃ d, d = rootV (lvs ((ps'.drop k).take (len' - k))) := ⟨_, rfl⟩
        rw [← hd] at hdig ⊢
        have hf := run_field_node d u hdig.1
        have Hb3 : Hid (Below w.heap.size w w3) := Lib.hid (HI2.out.below.trans (hb3.mono HI2.out.below.size))
        have Hrow3 : Hid (w3.ownsRow w.heap.size 47 16 (.slice va acc.length vc) acc.length (digsC acc)) := Lib.hid (row_below HI2.out.row hb3 (Nat.le_refl _))
        have HII := Lib.hid (info_parts Try.infoG)
        have Hd := Lib.hid hd
        have Hdig := Lib.hid hdig
        have hfew := HI2.out.few
        have hsz := digC_size d
        rw [hdig.1] at hsz
        have Hsz := Lib.hid hsz
        clear hb3 hd hdig hsz
        go_wp2_with (first | (refine wpList_build_dig rfl (.tmp 47) rfl d Hdig.out.1 rfl ?_) | (obtain ⟨i0, hi, hz0, hz1, hz2⟩ := HII.out; refine wpList_append_one rfl (.tmp 44) (.tmp 48) 56 rfl w.heap.size 47 i0 _ 16 16 Try.underlying56 hi hz0 hz1 hz2 rfl (by decide) (.slice va acc.length vc) acc.length _ rfl (Hrow3.out.alloc _) w3.heap.size (digC d) rfl (heap_new w3 _) Hsz.out (digC_one d) (by omega) (by unfold maxLen; omega) (by simp; have := Hb3.out.size; omega) ?_; clear hi hz0 hz1 hz2; intro v' w5 hrow5 hg5))
        have hvb := (Hrow3.out.alloc (.cells (digC d) 47)).lt
        have hI5 : ProvI w (lvs ps) i (acc ++ [d]) (some ⟨b, off, none⟩) (k) (cap') (i') ((ps'.drop 0).take k) v' w5 := by
          refine ⟨R1.out, S1.out, by omega, by omega, ?_, by rw [List.length_append, List.length_singleton]; omega, ?_, ?_, ?_⟩
          · rw [HI2.out.eq, Hpe.out, Hd.out, List.append_assoc]; rfl
          · intro x hx
            rcases List.mem_append.1 hx with hx | hx
            · exact HI2.out.dig x hx
            · rw [List.mem_singleton] at hx; rw [hx]; exact Hdig.out
          · rw [digsC_append, digsC_one, List.length_append, List.length_singleton]; exact hrow5
          · exact (Hb3.out.alloc Hb3.out.size _).grown hg5 (by simp; have := Hb3.out.size; omega) (fun k e => (hvb k e).1)
        have HI5 := Lib.hid hI5
        clear hI5 hvb hrow5 hg5
        obtain ⟨a5, c5, rfl, -, -, -⟩ := row_slice HI5.out.row
        go_wp2_with fail
        go_roundw
        case rel => exact ⟨acc ++ [d], (some ⟨b, off, none⟩), k, cap', i', (ps'.drop 0).take k, rfl, by go_num, HI5.out⟩
        case measure => show k < len'; omega
    · have hp1 := proveV_one (lvs ps') i' (by omega)
      have he := hI.eq
      rw [hp1, List.append_nil] at he
      have hgt : ¬ (1 : Int) < (len' : Int) := by omega
      have hfew := hI.few
      have Hrev := Lib.hid (reverse_any w.heap.size acc.length (.slice va acc.length vc) acc wr hI.row hI.dig (by omega))
      have He := Lib.hid he
      have Hb := Lib.hid hI.below
      clear hI hp1 he hll
      go_wp2_with fail
      refine Hrev.out.mono ?_
      rintro e w2 ⟨rfl, hrow, hb⟩
      have Hrow := Lib.hid hrow
      have Hb2 := Lib.hid (Hb.out.trans hb)
      clear hrow hb
      go_wp2_with fail
      go_ret2
      exact ⟨_, rfl, by rw [He.out]; exact Hrow.out, Hb2.out⟩
end Go.Proofs.Ytnlblmghhkmbbaa
