/- The way up a digest tree, without the program; nodes in a row. -/
import Derived.Test.YtnlblmghhkmbbaaSprove
namespace Go.Proofs.Ytnlblmghhkmbbaa
set_option linter.unusedVariables false
open Go.RowKit Go.Shelf

/-- A node in a row: its input, and the slice that holds this. -/
structure NodeM where
  v : Value
  xs : List Int
/-- What the nodes from a leaf up to the root are digests of; none if the path has another length. -/
def climbN : Nat → Nat → Nat → List Int → List (List Int) → Option (List (List Int))
  | 0, _, _, _, _ => none
  | f + 1, n, i, leaf, path => if n = 1 then (if path = [] then some [0 :: leaf] else none) else
    if path = [] then none else
    if i < halfV n then (climbN f (halfV n) i leaf path.dropLast).map fun l => l ++ [1 :: (digestV (l.getLast?.getD []) ++ path.getLast?.getD [])]
    else (climbN f (n - halfV n) (i - halfV n) leaf path.dropLast).map fun l => l ++ [1 :: (path.getLast?.getD [] ++ digestV (l.getLast?.getD []))]
theorem climbN_fuel (f : Nat) : ∀ (g n i : Nat) (leaf : List Int) (path : List (List Int)), n ≤ f → n ≤ g → 1 ≤ n → n ≤ 4096 → climbN f n i leaf path = climbN g n i leaf path := by
  induction f with
  | zero => intro g n i leaf path h1 h2 h3 _; omega
  | succ f ih =>
    intro g n i leaf path h1 h2 h3 h4
    cases g with
    | zero => omega
    | succ g =>
      rw [climbN, climbN]
      by_cases hn : n = 1
      · rw [if_pos hn, if_pos hn]
      · rw [if_neg hn, if_neg hn]
        obtain ⟨b1, b2, b3⟩ := halfV_bd n (by omega) h4
        rw [ih g (halfV n) i leaf _ (by omega) (by omega) (by omega) (by omega), ih g (n - halfV n) (i - halfV n) leaf _ (by omega) (by omega) (by omega) (by omega)]
def climbV (n i : Nat) (leaf : List Int) (path : List (List Int)) : Option (List (List Int)) := climbN n n i leaf path
theorem climbV_one (i : Nat) (leaf : List Int) (path : List (List Int)) : climbV 1 i leaf path = if path = [] then some [0 :: leaf] else none := by
  unfold climbV; rw [climbN, if_pos rfl]
theorem climbV_two (n i : Nat) (leaf : List Int) (path : List (List Int)) (h : 2 ≤ n) (hm : n ≤ 4096) : climbV n i leaf path =
    if path = [] then none else
    if i < halfV n then (climbV (halfV n) i leaf path.dropLast).map fun l => l ++ [1 :: (digestV (l.getLast?.getD []) ++ path.getLast?.getD [])]
    else (climbV (n - halfV n) (i - halfV n) leaf path.dropLast).map fun l => l ++ [1 :: (path.getLast?.getD [] ++ digestV (l.getLast?.getD []))] := by
  obtain ⟨b1, b2, b3⟩ := halfV_bd n h hm
  obtain ⟨f, rfl⟩ : ∃ f, n = f + 1 := ⟨n - 1, by omega⟩
  unfold climbV
  rw [climbN, if_neg (by omega)]
  rw [climbN_fuel f (halfV (f + 1)) _ _ _ _ (by omega) (Nat.le_refl _) (by omega) (by omega), climbN_fuel f (f + 1 - halfV (f + 1)) _ _ _ _ (by omega) (Nat.le_refl _) (by omega) (by omega)]
theorem climbN_some (f : Nat) : ∀ (n i : Nat) (leaf : List Int) (path l : List (List Int)), climbN f n i leaf path = some l → l ≠ [] ∧ l.length ≤ f := by
  induction f with
  | zero => intro n i leaf path l h; cases h
  | succ f ih =>
    intro n i leaf path l h
    rw [climbN] at h
    split at h
    · split at h
      · cases h; simp
      · cases h
    · split at h
      · cases h
      · split at h
        · obtain ⟨l', hl', rfl⟩ := Option.map_eq_some_iff.1 h
          have := ih _ _ _ _ _ hl'
          simp; omega
        · obtain ⟨l', hl', rfl⟩ := Option.map_eq_some_iff.1 h
          have := ih _ _ _ _ _ hl'
          simp; omega
def nodesC (ms : List NodeM) : List Value := ms.flatMap fun m => (nodeC (digestV m.xs) m.v).toList
theorem nodesC_append (xs ys : List NodeM) : nodesC (xs ++ ys) = nodesC xs ++ nodesC ys := by unfold nodesC; rw [List.flatMap_append]
theorem nodesC_one (m : NodeM) : nodesC [m] = (nodeC (digestV m.xs) m.v).toList := by unfold nodesC; simp
theorem nodesC_len (ms : List NodeM) : (nodesC ms).length = ms.length * 17 := by
  induction ms with
  | nil => rfl
  | cons m ms ih =>
    unfold nodesC at ih ⊢
    rw [List.flatMap_cons, List.length_append, ih, Array.length_toList, nodeC_size _ _ (digestV_len _), List.length_cons]
    omega
theorem nodesC_get (ms : List NodeM) (i j : Nat) (hi : i < ms.length) (hj : j < 16) : (nodesC ms)[17 * i + j]? = some (.int .u8 ((digestV ms[i].xs).getD j 0)) := by
  induction ms generalizing i with
  | nil => simp at hi
  | cons m ms ih =>
    have hd : (nodeC (digestV m.xs) m.v).toList.length = 17 := by rw [Array.length_toList, nodeC_size _ _ (digestV_len _)]
    have e : nodesC (m :: ms) = (nodeC (digestV m.xs) m.v).toList ++ nodesC ms := by unfold nodesC; rw [List.flatMap_cons]
    rw [e]
    cases i with
    | zero =>
      rw [List.getElem?_append_left (by rw [hd]; omega), Nat.mul_zero, Nat.zero_add, Array.getElem?_toList]
      unfold nodeC
      rw [Array.getElem?_push_lt (by rw [digC_size, digestV_len]; exact hj)]
      have := digC_get (digestV m.xs) j (by rw [digestV_len]; exact hj)
      rw [Array.getElem?_eq_getElem (by rw [digC_size, digestV_len]; exact hj)] at this
      exact this
    | succ i =>
      rw [List.getElem?_append_right (by rw [hd]; omega), hd, show 17 * (i + 1) + j - 17 = 17 * i + j by omega, ih i (by simpa using hi)]
      rfl
/-- A slice of nodes of the call's own. -/
structure Nodes (w : World) (B : Nat) (v : Value) (ms : List NodeM) : Prop where
  row : w.ownsRow B 92 17 v ms.length (nodesC ms)
  own : ∀ m ∈ ms, Own w B m.v m.xs
theorem Nodes.below {w w' : World} {B B' : Nat} {v : Value} {ms : List NodeM} (h : Nodes w B v ms) (hb : Below B' w w') (hB : w.heap.size ≤ B') : Nodes w' B v ms := ⟨row_below h.row hb hB, fun m hm => (h.own m hm).below hb hB⟩
theorem Nodes.mono {w : World} {B B' : Nat} {v : Value} {ms : List NodeM} (h : Nodes w B v ms) (hB : B' ≤ B) : Nodes w B' v ms := ⟨row_mono h.row hB, fun m hm => (h.own m hm).mono hB⟩
/-- What a slice of bytes owns stays as it is when a row of other elements grows. -/
theorem Own.grown_other {w w' : World} {B B2 : Nat} {u v : Value} {xs : List Int} {e : TypeId} {size n : Nat} {cs : List Value} (h : Own w B u xs) (hr : w.ownsRow B2 e size v n cs) (he : e ≠ 5) (hg : w.grownBy w' v.ownBlock) : Own w' B u xs := by
  refine ⟨⟨h.1.1, ?_⟩, h.2⟩
  rcases h.1.2 with hn | ⟨g, cap, cur, rfl, hg0, hgg, rest⟩
  · exact .inl hn
  · refine .inr ⟨g, cap, cur, rfl, hg0, ?_, rest⟩
    refine (hg.block g (Array.getElem?_eq_some_iff.1 hgg).1 (fun e' => ?_)).trans hgg
    rcases hr.2 with ⟨rfl, _⟩ | ⟨g', cap', cur', rfl, _, hg', _⟩
    · simp [Value.ownBlock] at e'
    · obtain rfl : g = g' := by simpa [Value.ownBlock] using e'
      rw [hgg] at hg'
      simp at hg'
      exact he hg'.2.symm
theorem nodes_range {w : World} {B g cap : Nat} {ms : List NodeM} (h : w.ownsRow B 92 17 (.slice (some ⟨g, 0, none⟩) ms.length cap) ms.length (nodesC ms)) (i : Nat) (hi : i < ms.length) : w.rangeAt g (17 * i) (digC (digestV ms[i].xs)).toList := by
  intro j v hv
  have hj : j < 16 := by have := (List.getElem?_eq_some_iff.1 hv).1; rw [Array.length_toList, digC_size, digestV_len] at this; exact this
  rw [row_cell h (17 * i + j) (by omega), nodesC_get ms i j hi hj]
  rw [Array.getElem?_toList, digC_get _ j (by rw [digestV_len]; exact hj)] at hv
  exact hv
theorem Try.infoN : (Try.prog.info? 92).map (fun i => (i.zero, i.size, i.bytes)) = some (some (.agg #[.int .u8 0, .int .u8 0, .int .u8 0, .int .u8 0, .int .u8 0, .int .u8 0, .int .u8 0, .int .u8 0, .int .u8 0, .int .u8 0, .int .u8 0, .int .u8 0, .int .u8 0, .int .u8 0, .int .u8 0, .int .u8 0, .slice none 0 0]), 17, 40) := by kernel_rfl
theorem fill_node (d : List Int) (v : Value) (h : d.length = 16) : Instr.fill (fun i => some (i * 17, 17)) ((Array.range (1 * 17)).map ((.agg #[.int .u8 0, .int .u8 0, .int .u8 0, .int .u8 0, .int .u8 0, .int .u8 0, .int .u8 0, .int .u8 0, .int .u8 0, .int .u8 0, .int .u8 0, .int .u8 0, .int .u8 0, .int .u8 0, .int .u8 0, .int .u8 0, .slice none 0 0] : Value).cells[· % (.agg #[.int .u8 0, .int .u8 0, .int .u8 0, .int .u8 0, .int .u8 0, .int .u8 0, .int .u8 0, .int .u8 0, .int .u8 0, .int .u8 0, .int .u8 0, .int .u8 0, .int .u8 0, .int .u8 0, .int .u8 0, .int .u8 0, .slice none 0 0] : Value).cells.size]!)) [(0, .agg (nodeC d v))] = some (nodeC d v) := by
  rw [nodeC_lit d v h]
  kernel_rfl
theorem wpList_build_node {ops : Array Oper} {rest : List Oper} {o : Oper} {a : Act} {w : World} {Q : Exit → Act → World → Prop} (hg : o.guard = none) (x : Operand) (ho : o.op = .buildSlice 98 1 #[(0, x)]) (d : List Int) (v : Value) (hd : d.length = 16) (hx : a.eval x = .agg (nodeC d v))
    (h : wpList Try.prog ops Q rest (a.put o.dst (.slice (some ⟨w.heap.size, 0, none⟩) 1 1)) (w.alloc (.cells (nodeC d v) 92))) : wpList Try.prog ops Q (o :: rest) a w := by
  obtain ⟨i0, hi, hz0, hz1, hz2⟩ := info_parts Try.infoN
  refine wpList_buildSlice hg 98 92 1 #[(0, x)] ho (nodeC d v) i0 _ Try.underlying98 hi hz0 (by rw [hz1]; omega) (by rw [hz1]; omega) ?_ h
  rw [hz1]
  have : ((#[(0, x)] : Array (Nat × Operand)).map fun (i, x) => (i, a.eval x)).toList = [(0, .agg (nodeC d v))] := by simp [hx]
  rw [this]
  exact fill_node d v hd
end Go.Proofs.Ytnlblmghhkmbbaa
