/- Digest trees, without the program. -/
import Derived.Test.YtnlblmghhkmbbaaShalf
namespace Go.Proofs.Ytnlblmghhkmbbaa
set_option linter.unusedVariables false
open Go.RowKit Go.Shelf

/-- The root of the tree of some leaves (of one or more). -/
def rootN : Nat → List (List Int) → List Int
  | 0, l => digestV (0 :: l.headD [])
  | f + 1, l => if l.length ≤ 1 then digestV (0 :: l.headD []) else digestV (1 :: (rootN f (l.take (halfV l.length)) ++ rootN f (l.drop (halfV l.length))))
def rootV (l : List (List Int)) : List Int := rootN l.length l
theorem rootN_dig (f : Nat) (l : List (List Int)) : Dig (rootN f l) := by
  cases f with
  | zero => exact digestV_dig _
  | succ f => unfold rootN; split <;> exact digestV_dig _
theorem rootV_dig (l : List (List Int)) : Dig (rootV l) := rootN_dig _ _
theorem rootN_fuel (f : Nat) : ∀ (g : Nat) (l : List (List Int)), l.length ≤ f → l.length ≤ g → l.length ≤ 4096 → rootN f l = rootN g l := by
  induction f with
  | zero =>
    intro g l h1 h2 _
    have : l = [] := List.eq_nil_of_length_eq_zero (by omega)
    subst this
    cases g <;> simp [rootN]
  | succ f ih =>
    intro g l h1 h2 h3
    cases g with
    | zero =>
      have : l = [] := List.eq_nil_of_length_eq_zero (by omega)
      subst this
      simp [rootN]
    | succ g =>
      unfold rootN
      by_cases hl : l.length ≤ 1
      · rw [if_pos hl, if_pos hl]
      · rw [if_neg hl, if_neg hl]
        obtain ⟨b1, b2, b3⟩ := halfV_bd l.length (by omega) h3
        rw [ih g _ (by rw [List.length_take]; omega) (by rw [List.length_take]; omega) (by rw [List.length_take]; omega),
          ih g _ (by rw [List.length_drop]; omega) (by rw [List.length_drop]; omega) (by rw [List.length_drop]; omega)]
theorem rootV_one (x : List Int) : rootV [x] = digestV (0 :: x) := by
  unfold rootV rootN; simp
theorem rootV_two (l : List (List Int)) (h : 2 ≤ l.length) (hm : l.length ≤ 4096) : rootV l = digestV (1 :: (rootV (l.take (halfV l.length)) ++ rootV (l.drop (halfV l.length)))) := by
  obtain ⟨b1, b2, b3⟩ := halfV_bd l.length h hm
  obtain ⟨f, hf⟩ : ∃ f, l.length = f + 1 := ⟨l.length - 1, by omega⟩
  unfold rootV
  rw [hf, rootN, if_neg (by omega), ← hf]
  rw [rootN_fuel f _ _ (by rw [List.length_take]; omega) (Nat.le_refl _) (by rw [List.length_take]; omega),
    rootN_fuel f _ _ (by rw [List.length_drop]; omega) (Nat.le_refl _) (by rw [List.length_drop]; omega)]
theorem nodeC_lit2 (l : List Int) (v : Value) (h : l.length = 16) : nodeC l v = #[.int .u8 (l[0]?.getD 0), .int .u8 (l[1]?.getD 0), .int .u8 (l[2]?.getD 0), .int .u8 (l[3]?.getD 0), .int .u8 (l[4]?.getD 0), .int .u8 (l[5]?.getD 0), .int .u8 (l[6]?.getD 0), .int .u8 (l[7]?.getD 0), .int .u8 (l[8]?.getD 0), .int .u8 (l[9]?.getD 0), .int .u8 (l[10]?.getD 0), .int .u8 (l[11]?.getD 0), .int .u8 (l[12]?.getD 0), .int .u8 (l[13]?.getD 0), .int .u8 (l[14]?.getD 0), .int .u8 (l[15]?.getD 0), v] := by
  unfold nodeC
  rw [digC_lit2 l h]
  rfl
/-- The leaves of parts. -/
def lvs (ps : List Pc) : List (List Int) := ps.map (·.xs)
theorem RdP.part {w : World} {b off len cap : Nat} {ps : List Pc} (h : RdP w (some ⟨b, off, none⟩) len cap ps) (i m c : Nat) (hi : i + m ≤ len) (hc : m ≤ c) (hcm : c ≤ maxLen) : RdP w (some ⟨b, off + i, none⟩) m c ((ps.drop i).take m) := by
  have hl := h.hl
  refine ⟨by simp [hl]; omega, hc, hcm, fun p hp => h.hb p (List.mem_of_mem_drop (List.mem_of_mem_take hp)), fun h0 => ⟨b, off + i, rfl, fun j hj => ?_⟩⟩
  obtain ⟨b', off', e, hcell⟩ := h.hr (by omega)
  cases e
  have hj' : j < m := by have := hj; simp at this; omega
  have := hcell (i + j) (by omega)
  rw [Nat.add_assoc, this]
  simp
end Go.Proofs.Ytnlblmghhkmbbaa
