/- The library's sorts: what they make of a row of ranges. -/
import Derived.Test.YtknacgdjodmaiaaDoorBgathero
import Derived.Shelf.SlSortCmp.WholeK
namespace Go.Proofs.YtknacgdjodmaiaaDoor
set_option linter.unusedVariables false
open Go.RowKit Go.Shelf Go.Lib Go.Sort

theorem ltAt (x y : Nat × Nat) : ltOf cmpAt x y = decide (x.1 < y.1) := by
  unfold ltOf cmpAt Lib.compareInt
  by_cases h1 : (x.1 : Int) < (y.1 : Int)
  · simp [h1]; omega
  · by_cases h2 : (y.1 : Int) < (x.1 : Int) <;> simp [h1, h2] <;> omega
theorem swoAt : SWO (ltOf cmpAt) where
  irrefl x := by rw [ltAt]; simp
  trans x y z h1 h2 := by rw [ltAt] at *; simp at *; omega
  ntrans x y z h1 h2 := by rw [ltAt] at *; simp at *; omega
/-- The sort by place: the ranges in ascending order. -/
theorem sortR_any (tk us : List (Nat × Nat)) (hp : us.Perm tk) (hs : us.Pairwise (fun x y => x.1 < y.1)) (hlen : tk.length < 4611686018427387904) : SortR tk us := by
  intro W B g n cap hO hB
  obtain ⟨rfl, hBg, hlt, hH⟩ := hO.holds
  have eg : ∀ (args : Array Value) (w : World), (callFunc 99 args).run Tryd.prog w = .ok (.enter 99 args) w := enters_of Tryd.func99 (by kernel_rfl) rfl
  have hf : CmpR 99 cmpAt := longest2_any
  refine (AnyQ.slices_SortFunc (P := Tryd.prog) (ρ := Tryd.sortRange_ren) Tryd.sortRange 2 Tryd.isAgg60 Tryd.sizeOf60 encR encR_len encR_one cmpAt swoAt 99 #[] g 0 cap tk.toArray W eg (hf.lays g 0 tk.toArray.size W) hH hlt hlen).mono ?_
  rintro e w' ⟨rfl, d', m, os, hperm, hsort, rfl⟩
  have hz : d'.size = tk.length := hperm.1
  have h1 : d'.toList.Perm tk := by
    have := hperm.2.2
    rw [show (d'.extract 0 tk.toArray.size) = d' by rw [show tk.toArray.size = d'.size by simp [hz]]; simp, show (tk.toArray.extract 0 tk.toArray.size) = tk.toArray by simp] at this
    simpa using this
  have h2 : d'.toList.Pairwise (fun x y => x.1 ≤ y.1) := by
    rw [List.pairwise_iff_getElem]
    intro i j hi hj hij
    have := hsort i j (Nat.zero_le _) hij (by simp; simp at hj; omega)
    rw [ltAt, getElem!_pos d' j (by simpa using hj), getElem!_pos d' i (by simpa using hi)] at this
    simp at this
    simpa using this
  have h3 : us.Pairwise (fun x y => x.1 ≤ y.1) := hs.imp (fun h => Nat.le_of_lt h)
  have he : d'.toList = us := by
    refine List.Perm.eq_of_pairwise (le := fun x y => x.1 ≤ y.1) ?_ h2 h3 (h1.trans hp.symm)
    intro a b ha hb h4 h5
    have hau : a ∈ us := hp.symm.subset (h1.subset ha)
    have heq : a.1 = b.1 := Nat.le_antisymm h4 h5
    obtain ⟨i, hi, rfl⟩ := List.getElem_of_mem hau
    obtain ⟨j, hj, rfl⟩ := List.getElem_of_mem hb
    rw [List.pairwise_iff_getElem] at hs
    rcases Nat.lt_trichotomy i j with h | h | h
    · have := hs i j hi hj h; omega
    · subst h; rfl
    · have := hs j i hj hi h; omega
  obtain rfl : d' = us.toArray := by rw [← he]
  obtain ⟨hO2, hB2⟩ := hO.sorted (m := m) (os := os) (l' := us) hp.length_eq (fun r hr => hO.2 r (hp.subset hr))
  exact ⟨rfl, hO2, hB2.below.mono hBg⟩
/-- The stable sort of few. -/
theorem stableR_few (rs ss : List (Nat × Nat)) (h0 : rs ≠ []) (h20 : rs.length < 20) (hss : Sort.insertionSort (ltOf cmpLong) rs.toArray 0 rs.length = ss.toArray) (hl : ss.length = rs.length) (hb : ∀ r ∈ ss, r.1 ≤ 65536 ∧ r.2 ≤ 65536) : StableR rs ss := by
  intro W B a n cap hO hB
  obtain ⟨g, rfl⟩ : ∃ g, a = some ⟨g, 0, none⟩ := by
    rcases hO.1.2 with ⟨hv, h1⟩ | ⟨g, cap', cur, hv, -⟩
    · exact absurd (List.eq_nil_of_length_eq_zero h1) h0
    · injection hv with h1; exact ⟨g, h1⟩
  obtain ⟨hn, hBg, hlt, hH⟩ := hO.holds
  have eg : ∀ (args : Array Value) (w : World), (callFunc 96 args).run Tryd.prog w = .ok (.enter 96 args) w := enters_of Tryd.func96 (by kernel_rfl) rfl
  refine (sortStable_few 96 cmpLong longest1_any eg g cap n rs W hH hlt hn.symm (by omega)).mono ?_
  rintro e w' ⟨rfl, m, os, rfl⟩
  rw [hss]
  obtain ⟨hO2, hB2⟩ := hO.sorted (m := m) (os := os) (l' := ss) hl hb
  exact ⟨rfl, hO2, hB2.below.mono hBg⟩
end Go.Proofs.YtknacgdjodmaiaaDoor
