/- Sets of bits: what joins, complements, counts and lists of bits are (pure). -/
import Derived.Test.YthognmkjoekilaaDoorBmb
namespace Go.Proofs.YthognmkjoekilaaDoor
set_option linter.unusedVariables false

def andF (x y : Int) : Int := ((x.toNat &&& y.toNat : Nat) : Int)
def orF (x y : Int) : Int := ((x.toNat ||| y.toNat : Nat) : Int)
/-- A function of bytes that goes bit by bit. -/
def Bitly (φ : Int → Int → Int) (f : Bool → Bool → Bool) : Prop := ∀ x y : Int, (0 ≤ x ∧ x ≤ 255) → (0 ≤ y ∧ y ≤ 255) → (0 ≤ φ x y ∧ φ x y ≤ 255) ∧ ∀ t, t < 8 → (φ x y).toNat.testBit t = f (x.toNat.testBit t) (y.toNat.testBit t)
theorem and_bitly : Bitly andF (· && ·) := fun x y hx hy => by
  refine ⟨?_, fun t ht => by unfold andF; rw [Int.toNat_natCast, Nat.testBit_and]⟩
  unfold andF
  have := Nat.and_le_left (n := x.toNat) (m := y.toNat)
  omega
theorem or_bitly : Bitly orF (· || ·) := fun x y hx hy => by
  refine ⟨?_, fun t ht => by unfold orF; rw [Int.toNat_natCast, Nat.testBit_or]⟩
  unfold orF
  have := Nat.or_lt_two_pow (n := 8) (x := x.toNat) (y := y.toNat) (by omega) (by omega)
  omega
theorem an_bitly : Bitly anF (fun a b => a && !b) := fun x y hx hy => by
  refine ⟨anF_bd x y hx hy, fun t ht => ?_⟩
  unfold anF
  rw [Int.toNat_natCast, Nat.testBit_and]
  have := Nat.testBit_two_pow_sub_succ (n := 8) (x := y.toNat) (by omega) t
  rw [show 2 ^ 8 - (y.toNat + 1) = 255 - y.toNat by omega] at this
  rw [this]; simp [ht]
theorem joinN_bs {φ : Int → Int → Int} {f : Bool → Bool → Bool} (hφ : Bitly φ f) {xs ys : List Int} (hx : isBs xs) (hy : isBs ys) (n : Nat) (h1 : xs.length = n) (h2 : n ≤ ys.length) : isBs (joinN φ xs ys n n) := by
  intro x hm
  unfold joinN at hm
  obtain ⟨i, hi, rfl⟩ := List.mem_map.mp hm
  have hi' := List.mem_range.mp hi
  rw [if_pos hi']
  exact (hφ _ _ (hx _ (getD_mem (by omega))) (hy _ (getD_mem (by omega)))).1
theorem joinN_bit {φ : Int → Int → Int} {f : Bool → Bool → Bool} (hφ : Bitly φ f) {xs ys : List Int} (hx : isBs xs) (hy : isBs ys) (n : Nat) (h1 : xs.length = n) (h2 : n ≤ ys.length) (j : Nat) (hj : j < 8 * n) :
    bitV (joinN φ xs ys n n) j = f (bitV xs j) (bitV ys j) := by
  have hi : j / 8 < n := by omega
  have e : (joinN φ xs ys n n).getD (j / 8) 0 = φ (xs.getD (j / 8) 0) (ys.getD (j / 8) 0) := by
    simp [joinN, List.getD, hi]
  unfold bitV
  rw [e]
  exact (hφ _ _ (hx _ (getD_mem (by omega))) (hy _ (getD_mem (by omega)))).2 _ (by omega)
/-- What a valid bitmap is. -/
structure Vb (M : Nat) (bs : List Int) : Prop where
  is : isBs bs
  le : M ≤ 65536
  len : bs.length = (M + 7) / 8
  high : ∀ j, M ≤ j → j < 8 * bs.length → bitV bs j = false
theorem Vb.of {N : Int} {bs : List Int} (hb : isBs bs) (h : validB N bs = true) : ∃ M : Nat, N = (M : Int) ∧ Vb M bs := by
  obtain ⟨h0, h1, h2, h3⟩ := (validB_iff N bs).mp h
  exact ⟨N.toNat, by omega, hb, by omega, by omega, h3⟩
theorem Vb.valid {M : Nat} {bs : List Int} (h : Vb M bs) : validB (M : Int) bs = true :=
  (validB_iff _ _).mpr ⟨by omega, by have := h.le; omega, by have := h.len; omega, fun j h1 h2 => h.high j (by omega) h2⟩
theorem Vb.of2 {M : Nat} {bs : List Int} (hb : isBs bs) (h : validB (M : Int) bs = true) : Vb M bs := by
  obtain ⟨K, hK, k⟩ := Vb.of hb h
  have : K = M := by omega
  exact this ▸ k
/-- Valid bitmaps with the same bits are the same. -/
theorem Vb.ext {M : Nat} {xs ys : List Int} (hx : Vb M xs) (hy : Vb M ys) (h : ∀ j, j < M → bitV xs j = bitV ys j) : xs = ys := by
  refine bits_ext hx.is hy.is (hx.len.trans hy.len.symm) fun j hj => ?_
  by_cases h1 : j < M
  · exact h j h1
  · rw [hx.high j (by omega) hj, hy.high j (by omega) (by have := hx.len; have := hy.len; omega)]
theorem Vb.join {φ : Int → Int → Int} {f : Bool → Bool → Bool} (hφ : Bitly φ f) (h0 : f false false = false) {M n : Nat} {xs ys : List Int} (hx : Vb M xs) (hy : Vb M ys) (hn : xs.length = n) : Vb M (joinN φ xs ys n n) := by
  have e1 := hx.len
  have e2 := hy.len
  refine ⟨joinN_bs hφ hx.is hy.is n hn (by omega), hx.le, by rw [joinN_len]; omega, fun j h1 h2 => ?_⟩
  rw [joinN_len] at h2
  rw [joinN_bit hφ hx.is hy.is n hn (by omega) j h2, hx.high j h1 (by omega), hy.high j h1 (by omega), h0]
theorem Vb.joinBit {φ : Int → Int → Int} {f : Bool → Bool → Bool} (hφ : Bitly φ f) {M n : Nat} {xs ys : List Int} (hx : Vb M xs) (hy : Vb M ys) (hn : xs.length = n) (j : Nat) (hj : j < M) : bitV (joinN φ xs ys n n) j = f (bitV xs j) (bitV ys j) := by
  have e1 := hx.len
  have e2 := hy.len
  exact joinN_bit hφ hx.is hy.is n hn (by omega) j (by omega)
theorem zeros_bs (m : Nat) : isBs (List.replicate m 0) := fun x hx => by
  have := (List.mem_replicate.mp hx).2
  omega
theorem zeros_bit (m j : Nat) : bitV (List.replicate m 0) j = false := by
  unfold bitV
  have : (List.replicate m (0 : Int)).getD (j / 8) 0 = 0 := by
    simp only [List.getD, List.getElem?_replicate]
    split <;> rfl
  rw [this]
  exact Nat.zero_testBit _
theorem notV_bit {M m : Nat} {bs : List Int} (hb : isBs bs) (hm : bs.length = m) (j : Nat) (hj : j < 8 * m) : bitV (notV M m bs) j = (decide (j < M) && !bitV bs j) := by
  have hl : (fillV (List.replicate m 0) 0 M true).length = m := by rw [fillV_len]; simp
  have hf := fillV_bs (zeros_bs m) 0 M true
  unfold notV
  rw [joinN_bit an_bitly hf hb m hl (by omega) j hj, fillV_bit (zeros_bs m) 0 M true j (by simpa using hj), zeros_bit]
  by_cases h : j < M
  · simp [h]
  · simp [h]
theorem Vb.not {M m : Nat} {bs : List Int} (h : Vb M bs) (hm : bs.length = m) : Vb M (notV M m bs) := by
  have hl : (fillV (List.replicate m 0) 0 M true).length = m := by rw [fillV_len]; simp
  have e := h.len
  have hlen : (notV M m bs).length = m := joinN_len _ _ _ _ _
  refine ⟨joinN_bs an_bitly (fillV_bs (zeros_bs m) 0 M true) h.is m hl (by omega), h.le, by omega, fun j h1 h2 => ?_⟩
  rw [notV_bit h.is hm j (by omega)]
  simp [show ¬ j < M by omega]
theorem Vb.notBit {M m : Nat} {bs : List Int} (h : Vb M bs) (hm : bs.length = m) (j : Nat) (hj : j < M) : bitV (notV M m bs) j = !bitV bs j := by
  have e := h.len
  rw [notV_bit h.is hm j (by omega)]
  simp [hj]
theorem cnt_succ (bs : List Int) (e : Nat) : cntV bs 0 (e + 1) = cntV bs 0 e + (if bitV bs e then 1 else 0) := by
  unfold cntV
  rw [List.range_succ, List.filter_append, List.length_append]
  congr 1
  cases h : bitV bs e <;> simp [h]
theorem cnt_and_or {x y z u : List Int} : ∀ e : Nat, (∀ j, j < e → bitV z j = (bitV x j && bitV y j)) → (∀ j, j < e → bitV u j = (bitV x j || bitV y j)) → cntV z 0 e + cntV u 0 e = cntV x 0 e + cntV y 0 e
  | 0, _, _ => by simp [cntV]
  | e + 1, h1, h2 => by
    have := cnt_and_or e (fun j hj => h1 j (by omega)) (fun j hj => h2 j (by omega))
    rw [cnt_succ, cnt_succ, cnt_succ, cnt_succ, h1 e (by omega), h2 e (by omega)]
    cases bitV x e <;> cases bitV y e <;> simp <;> omega
theorem cnt_not {x z : List Int} : ∀ e : Nat, (∀ j, j < e → bitV z j = !bitV x j) → cntV x 0 e + cntV z 0 e = e
  | 0, _ => by simp [cntV]
  | e + 1, h1 => by
    have := cnt_not e (fun j hj => h1 j (by omega))
    rw [cnt_succ, cnt_succ, h1 e (by omega)]
    cases bitV x e <;> simp <;> omega
theorem cnt_le (bs : List Int) : ∀ a e, cntV bs a e ≤ e := fun a e => by
  unfold cntV
  have := List.length_filter_le (fun j => decide (a ≤ j) && bitV bs j) (List.range e)
  simpa using this
/-- The bytes that the reference makes of the first k of some bits. -/
def madeN (l : List Bool) (n : Nat) : Nat → List Int
  | 0 => List.replicate n 0
  | k + 1 => if l.getD k false then (madeN l n k).set (k / 8) ((madeN l n k).getD (k / 8) 0 + ((2 ^ (k % 8) : Nat) : Int)) else madeN l n k
theorem madeN_len (l : List Bool) (n : Nat) : ∀ k, (madeN l n k).length = n
  | 0 => by simp [madeN]
  | k + 1 => by
    have := madeN_len l n k
    unfold madeN
    split <;> simp [this]
theorem add_power : ∀ x : Nat, x < 256 → ∀ t, t < 8 → x.testBit t = false → x + 2 ^ t < 256 ∧ ∀ s, s < 8 → (x + 2 ^ t).testBit s = (decide (s = t) || x.testBit s) := by
  intro x hx t ht h
  have h0 : (List.range 256).all (fun x => (List.range 8).all fun t => x.testBit t || (decide (x + 2 ^ t < 256) && (List.range 8).all fun s => (x + 2 ^ t).testBit s == (decide (s = t) || x.testBit s))) = true := by kernel_rfl
  have h1 := List.all_eq_true.mp (List.all_eq_true.mp h0 x (List.mem_range.mpr hx)) t (List.mem_range.mpr ht)
  simp only [h, Bool.false_or, Bool.and_eq_true, decide_eq_true_eq] at h1
  exact ⟨h1.1, fun s hs => by simpa using List.all_eq_true.mp h1.2 s (List.mem_range.mpr hs)⟩
theorem madeN_spec (l : List Bool) (n : Nat) : ∀ k, k ≤ 8 * n → isBs (madeN l n k) ∧ ∀ j, j < 8 * n → bitV (madeN l n k) j = (decide (j < k) && l.getD j false)
  | 0, _ => ⟨zeros_bs n, fun j hj => by unfold madeN; rw [zeros_bit]; simp⟩
  | k + 1, hk => by
    obtain ⟨h1, h2⟩ := madeN_spec l n k (by omega)
    have hl := madeN_len l n k
    unfold madeN
    cases hb : l.getD k false with
    | false =>
      rw [if_neg (by simp)]
      refine ⟨h1, fun j hj => ?_⟩
      rw [h2 j hj]
      by_cases e : j = k
      · subst e; simpa using hb
      · rw [show decide (j < k + 1) = decide (j < k) by rw [Bool.eq_iff_iff]; simp; omega]
    | true =>
      rw [if_pos rfl]
      have hi : k / 8 < (madeN l n k).length := by omega
      have hx := h1 _ (getD_mem hi)
      have hk0 := h2 k (by omega)
      simp only [Nat.lt_irrefl, decide_false, Bool.false_and] at hk0
      obtain ⟨x, hxe⟩ : ∃ x, x = (madeN l n k).getD (k / 8) 0 := ⟨_, rfl⟩
      unfold bitV at hk0
      rw [← hxe] at hk0 hx ⊢
      obtain ⟨y1, y2⟩ := add_power x.toNat (by omega) (k % 8) (by omega) hk0
      obtain ⟨p, hp⟩ : ∃ p : Nat, p = 2 ^ (k % 8) := ⟨_, rfl⟩
      rw [← hp] at y1 y2 ⊢
      have ey : (x + (p : Int)).toNat = x.toNat + p := by omega
      refine ⟨fun z hz => ?_, fun j hj => ?_⟩
      · rcases List.mem_or_eq_of_mem_set hz with hz | rfl
        · exact h1 z hz
        · omega
      · by_cases e : j / 8 = k / 8
        · have e2 : ((madeN l n k).set (k / 8) (x + (p : Int))).getD (j / 8) 0 = x + (p : Int) := by
            rw [e]; simp [List.getD, hi]
          unfold bitV
          rw [e2, ey, y2 _ (by omega)]
          have h3 := h2 j hj
          unfold bitV at h3
          rw [e, ← hxe] at h3
          rw [h3]
          by_cases ejk : j = k
          · subst ejk; simpa using hb
          · rw [show decide (j % 8 = k % 8) = false by simp; omega, Bool.false_or, show decide (j < k + 1) = decide (j < k) by rw [Bool.eq_iff_iff]; simp; omega]
        · have e2 : ((madeN l n k).set (k / 8) (x + (p : Int))).getD (j / 8) 0 = (madeN l n k).getD (j / 8) 0 := by
            simp only [List.getD]; rw [List.getElem?_set_ne (fun h => e h.symm)]
          have h3 := h2 j hj
          unfold bitV at h3 ⊢
          rw [e2, h3, show decide (j < k + 1) = decide (j < k) by rw [Bool.eq_iff_iff]; simp; omega]
/-- What Made returns. -/
def madeV (l : List Bool) : List Int := madeN l ((l.length + 7) / 8) l.length
theorem Vb.made (l : List Bool) (hl : l.length ≤ 65536) : Vb l.length (madeV l) := by
  obtain ⟨h1, h2⟩ := madeN_spec l ((l.length + 7) / 8) l.length (by omega)
  have h3 := madeN_len l ((l.length + 7) / 8) l.length
  refine ⟨h1, hl, h3, fun j h4 h5 => ?_⟩
  unfold madeV at h5 ⊢
  rw [h3] at h5
  rw [h2 j h5]
  simp [show ¬ j < l.length by omega]
theorem made_bit (l : List Bool) (j : Nat) (hj : j < l.length) : bitV (madeV l) j = l.getD j false := by
  obtain ⟨h1, h2⟩ := madeN_spec l ((l.length + 7) / 8) l.length (by omega)
  unfold madeV
  rw [h2 j (by omega)]
  simp [hj]
/-- What is made of the bits of a valid bitmap, changed one by one, is the valid bitmap with those bits. -/
theorem made_eq {M : Nat} {xs : List Int} (hx : Vb M xs) (l : List Bool) (hl : l.length = M) (h : ∀ j, j < M → bitV xs j = l.getD j false) : xs = madeV l := by
  subst hl
  exact hx.ext (Vb.made l hx.le) fun j hj => by rw [h j hj, made_bit l j hj]
/-- The bits of a bitmap. -/
def listV (bs : List Int) (M : Nat) : List Bool := (List.range M).map (bitV bs)
theorem listV_len (bs : List Int) (M : Nat) : (listV bs M).length = M := by simp [listV]
theorem listV_at (bs : List Int) (M j : Nat) (hj : j < M) : (listV bs M).getD j false = bitV bs j := by simp [listV, List.getD, hj]
theorem Vb.fill {M : Nat} {bs : List Int} (h : Vb M bs) (a e : Nat) (on : Bool) (he : e ≤ M) : Vb M (fillV bs a e on) := by
  have hl := h.len
  refine ⟨fillV_bs h.is a e on, h.le, by rw [fillV_len]; exact hl, fun j h1 h2 => ?_⟩
  rw [fillV_len] at h2
  rw [fillV_bit h.is a e on j h2, if_neg (by omega), h.high j h1 h2]
theorem Vb.fillBit {M : Nat} {bs : List Int} (h : Vb M bs) (a e : Nat) (on : Bool) (j : Nat) (hj : j < M) : bitV (fillV bs a e on) j = if a ≤ j ∧ j < e then on else bitV bs j := by
  have hl := h.len
  exact fillV_bit h.is a e on j (by omega)
end Go.Proofs.YthognmkjoekilaaDoor
