/- A region that draws its order, in which a call ends by a panic: whatever the order, what runs ahead of that call only reads. -/
import Derived.Orders
import Derived.Tactics
namespace Go.Proofs.Ytmfijcniaehooaa
set_option linter.unusedVariables false

theorem countP_lt {α : Type} {p q : α → Bool} : ∀ {l : List α}, (∀ x ∈ l, q x = true → p x = true) → (∃ x ∈ l, p x = true ∧ q x = false) → l.countP q < l.countP p := by
  intro l
  induction l with
  | nil => intro _ ⟨x, hx, _⟩; simp at hx
  | cons y l ih =>
    intro h ⟨x, hx, hp, hq⟩
    have hmono : l.countP q ≤ l.countP p := List.countP_mono_left (fun z hz hqz => h z (by simp [hz]) hqz)
    rcases List.mem_cons.1 hx with rfl | hx
    · rw [List.countP_cons_of_pos hp, List.countP_cons_of_neg (by simp [hq])]
      omega
    · have := ih (fun z hz => h z (by simp [hz])) ⟨x, hx, hp, hq⟩
      by_cases hy : q y = true
      · rw [List.countP_cons_of_pos hy, List.countP_cons_of_pos (h y (by simp) hy)]
        omega
      · rw [List.countP_cons_of_neg hy]
        by_cases hpy : p y = true
        · rw [List.countP_cons_of_pos hpy]; omega
        · rw [List.countP_cons_of_neg hpy]; omega
theorem least_of {p : Nat → Bool} : ∀ n, p n = true → ∃ m, m ≤ n ∧ p m = true ∧ ∀ j, j < m → p j = false := by
  intro n
  induction n using Nat.strongRecOn with
  | _ n ih =>
    intro hn
    by_cases h : ∃ j, j < n ∧ p j = true
    · obtain ⟨j, hj, hp⟩ := h
      obtain ⟨m, hm, h1, h2⟩ := ih j hj hp
      exact ⟨m, by omega, h1, h2⟩
    · refine ⟨n, Nat.le_refl _, hn, fun j hj => ?_⟩
      rcases hb : p j with _ | _
      · rfl
      · exact absurd ⟨j, hj, hb⟩ h
section
variable {P : Program} {md : Region.Mode} {ops : Array Oper} {Q : Exit → Act → World → Prop} {W : World}
theorem wpAny_dies (S : Nat → Bool) (i₀ : Nat) (Inv : (Nat → Bool) → Act → Prop)
    (hback : ∀ (i : Nat) (o : Oper), ops[i]? = some o → ∀ e ∈ o.after, e.on < i)
    (hS : ∀ (i : Nat) (o : Oper), ops[i]? = some o → S i = false → i ≠ i₀ → ∃ e ∈ o.after, Region.binds md e = true ∧ S e.on = false)
    (h0 : i₀ < ops.size) (hS0 : S i₀ = false)
    (hstep : ∀ (i : Nat) (o : Oper) (L : Nat → Bool) (a : Act), ops[i]? = some o → S i = true → (∀ e ∈ o.after, Region.binds md e = true → L e.on = true) → Inv L a →
      Region.wanted o (yielded ops a.tmps) = true ∧ ∃ v, (execOp a.eval o).run P W = .ok (.value v) W ∧ Inv (fun j => j == i || L j) (a.put o.dst v))
    (hdie : ∀ (o : Oper) (L : Nat → Bool) (a : Act) (K : Act → World → Prop), ops[i₀]? = some o → (∀ e ∈ o.after, Region.binds md e = true → L e.on = true) → Inv L a →
      Region.wanted o (yielded ops a.tmps) = true ∧ o.wp P a W K Q)
    (hext : ∀ L L' a, (∀ j, j < ops.size → L j = L' j) → Inv L a → Inv L' a) :
    ∀ (fuel : Nat) (listed : Array Bool) (a : Act), listed.size = ops.size → (∀ j, j < ops.size → listed.getD j true = true → S j = true) →
      (List.range ops.size).countP (fun j => !listed.getD j true) ≤ fuel → Inv (fun j => listed.getD j true) a → wpAny P md ops Q fuel listed a W := by
  intro fuel
  induction fuel with
  | zero =>
    intro listed a hsz hl hf hI
    have : (List.range ops.size).countP (fun j => !listed.getD j true) = 0 := by omega
    rw [List.countP_eq_zero] at this
    have := this i₀ (List.mem_range.2 h0)
    have h1 : listed.getD i₀ true = true := by
      rcases hb : listed.getD i₀ true with _ | _
      · rw [hb] at this; exact absurd rfl this
      · rfl
    rw [hl i₀ h0 h1] at hS0
    cases hS0
  | succ fuel ih =>
    intro listed a hsz hl hf hI
    refine ⟨fun hr => ?_, fun i hi => ?_⟩
    · exfalso
      have hi0 : (!listed.getD i₀ true) = true := by
        rcases hb : listed.getD i₀ true with _ | _
        · rfl
        · rw [hl i₀ h0 hb] at hS0; cases hS0
      obtain ⟨m, hm, h1, h2⟩ := least_of (p := fun j => !listed.getD j true) i₀ hi0
      have hms : m < ops.size := by omega
      have : m ∈ Region.ready md ops listed := by
        rw [mem_ready]
        refine ⟨Bool.not_eq_true' _ ▸ h1, ops[m], by simp [hms], fun e he _ => ?_⟩
        have hlt := hback m ops[m] (by simp [hms]) e he
        have h3 := h2 e.on hlt
        have h4 : listed.getD e.on true = true := by
          rcases hb : listed.getD e.on true with _ | _
          · rw [hb] at h3; cases h3
          · rfl
        have h5 : e.on < listed.size := by omega
        simpa [Array.getD, h5] using h4
      rw [hr] at this
      cases this
    · rw [mem_ready] at hi
      obtain ⟨hun, o, ho, hdep⟩ := hi
      have his : i < ops.size := (Array.getElem?_eq_some_iff.1 ho).1
      have hdep' : ∀ e ∈ o.after, Region.binds md e = true → listed.getD e.on true = true := by
        intro e he hb
        have h5 : e.on < listed.size := by have := hback i o ho e he; omega
        have := hdep e he hb
        simpa [Array.getD, h5] using this
      unfold wpOp
      rw [ho]
      simp only
      rcases hs : S i with _ | _
      · by_cases h : i = i₀
        · subst h
          obtain ⟨hw, hwp⟩ := hdie o (fun j => listed.getD j true) a (wpAny P md ops Q fuel (listed.setIfInBounds i true)) ho hdep' hI
          rw [if_pos hw]
          exact .inl hwp
        · exfalso
          obtain ⟨e, he, hb, hse⟩ := hS i o ho hs h
          have h5 : e.on < ops.size := by have := hback i o ho e he; omega
          rw [hl e.on h5 (hdep' e he hb)] at hse
          cases hse
      · obtain ⟨hw, v, hrun, hI'⟩ := hstep i o (fun j => listed.getD j true) a ho hs hdep' hI
        rw [if_pos hw]
        refine .inl ?_
        unfold Oper.wp
        rw [hrun, Oper.upon_value]
        have hset : ∀ j, j < ops.size → (listed.setIfInBounds i true).getD j true = (j == i || listed.getD j true) := by
          intro j hj
          have hj' : j < listed.size := by omega
          by_cases hij : i = j
          · subst hij; simp [Array.getD, hj']
          · have : (j == i) = false := by simp; omega
            rw [this, Bool.false_or]
            simp [Array.getD, hj', hij]
        refine ih _ _ (by simp [hsz]) (fun j hj h => ?_) ?_ ?_
        · rw [hset j hj] at h
          by_cases hij : j = i
          · subst hij; exact hs
          · have : (j == i) = false := by simp [hij]
            rw [this, Bool.false_or] at h
            exact hl j hj h
        · have : (List.range ops.size).countP (fun j => !(listed.setIfInBounds i true).getD j true) < (List.range ops.size).countP (fun j => !listed.getD j true) := by
            refine countP_lt (fun j hj h => ?_) ⟨i, List.mem_range.2 his, by rw [hun]; rfl, ?_⟩
            · rw [hset j (List.mem_range.1 hj)] at h
              simp at h ⊢
              exact h.2
            · rw [hset i his]; simp
          omega
        · exact hext _ _ _ (fun j hj => (hset j hj).symm) hI'
end
/-- The edges of a region lead back. -/
def backB (ops : Array Oper) : Bool := (List.range ops.size).all fun i => match ops[i]? with | some o => o.after.all (fun e => decide (e.on < i)) | none => true
/-- What lies behind the operation k waits for it, or for what waits. -/
def depB (md : Region.Mode) (k : Nat) (ops : Array Oper) : Bool := (List.range ops.size).all fun i => decide (i ≤ k) || match ops[i]? with | some o => o.after.any (fun e => Region.binds md e && decide (k ≤ e.on)) | none => true
/-- The operations ahead of k have no guard, and write slots of their own. -/
def dstB (k n : Nat) (keys : List Nat) (dst : Nat → Nat) (ops : Array Oper) : Bool := (List.range (k + 1)).all fun i => match ops[i]? with
  | some o => (match o.guard with | none => true | some _ => false) && (decide (i = k) || ((match o.dst with | some d => decide (d = dst i) | none => false) && decide (dst i < n) && keys.all (fun t => decide (t ≠ dst i)) && (List.range k).all (fun j => decide (j = i) || decide (dst j ≠ dst i))))
  | none => false
section
variable {P : Program} {ops : Array Oper} {Q : Exit → Act → World → Prop} {w : World}
theorem region_dies {id : Nat} (k n : Nat) (D : List Deferred) (fx : List (Nat × Value)) (dst : Nat → Nat) (val : Nat → Value)
    (hm : P.follows .mixedOrders = true) (hk : k < ops.size) (hb : backB ops = true) (hd : depB .any k ops = true) (hs : dstB k n (fx.map (·.1)) dst ops = true)
    (hstep : ∀ (i : Nat) (o : Oper) (a : Act), ops[i]? = some o → i < k → (∀ t v, (t, v) ∈ fx → a.tmps.getD t undef = v) → (∀ e ∈ o.after, Region.binds .any e = true → a.tmps.getD (dst e.on) undef = val e.on) →
      (execOp a.eval o).run P w.drew = .ok (.value (val i)) w.drew)
    (hdie : ∀ (o : Oper) (a : Act) (K : Act → World → Prop), ops[k]? = some o → a.tmps.size = n → a.defers = D → (∀ t v, (t, v) ∈ fx → a.tmps.getD t undef = v) → (∀ e ∈ o.after, Region.binds .any e = true → a.tmps.getD (dst e.on) undef = val e.on) →
      o.wp P a w.drew K Q)
    (a : Act) (ha : a.tmps.size = n) (hD : a.defers = D) (hf : ∀ t v, (t, v) ∈ fx → a.tmps.getD t undef = v) : (Code.region id ops true).wp P Q a w := by
  have hback : ∀ (i : Nat) (o : Oper), ops[i]? = some o → ∀ e ∈ o.after, e.on < i := by
    intro i o ho e he
    have hi : i < ops.size := (Array.getElem?_eq_some_iff.1 ho).1
    have := List.all_eq_true.1 hb i (List.mem_range.2 hi)
    rw [ho] at this
    simp only at this
    rw [Array.all_eq_true_iff_forall_mem] at this
    exact of_decide_eq_true (this e he)
  have hds : ∀ (i : Nat) (o : Oper), ops[i]? = some o → i ≤ k → o.guard = none ∧ (i < k → o.dst = some (dst i) ∧ dst i < n ∧ (∀ t ∈ fx.map (·.1), t ≠ dst i) ∧ ∀ j, j < k → j ≠ i → dst j ≠ dst i) := by
    intro i o ho hi
    have := List.all_eq_true.1 hs i (List.mem_range.2 (by omega))
    rw [ho] at this
    simp only [Bool.and_eq_true, Bool.or_eq_true, decide_eq_true_eq] at this
    obtain ⟨h1, h2⟩ := this
    refine ⟨?_, fun hlt => ?_⟩
    · split at h1
      · assumption
      · cases h1
    · rcases h2 with h2 | h2
      · omega
      · obtain ⟨⟨⟨h3, h4⟩, h5⟩, h6⟩ := h2
        refine ⟨?_, h4, fun t ht => ?_, fun j hj hne => ?_⟩
        · split at h3
          · rename_i d hdd; rw [hdd]; rw [of_decide_eq_true h3]
          · cases h3
        · exact of_decide_eq_true (List.all_eq_true.1 h5 t ht)
        · have := List.all_eq_true.1 h6 j (List.mem_range.2 hj)
          simp only [Bool.or_eq_true, decide_eq_true_eq] at this
          rcases this with h | h
          · exact absurd h hne
          · exact h
  refine wp_region_any hm ?_
  refine wpAny_dies (W := w.drew) (fun j => decide (j < k)) k
    (fun L a => a.tmps.size = n ∧ a.defers = D ∧ (∀ t v, (t, v) ∈ fx → a.tmps.getD t undef = v) ∧ ∀ j, j < k → L j = true → a.tmps.getD (dst j) undef = val j)
    hback ?_ hk (by simp) ?_ ?_ ?_ _ _ _ (by simp) ?_ ?_ ?_
  · intro i o ho hlt hne
    have hi : i < ops.size := (Array.getElem?_eq_some_iff.1 ho).1
    have hki : k < i := by simp at hlt; omega
    have := List.all_eq_true.1 hd i (List.mem_range.2 hi)
    rw [ho] at this
    simp only [Bool.or_eq_true, decide_eq_true_eq] at this
    rcases this with h | h
    · omega
    · obtain ⟨e, he, h⟩ := Array.any_eq_true'.1 h
      simp only [Bool.and_eq_true, decide_eq_true_eq] at h
      exact ⟨e, he, h.1, by simp; exact h.2⟩
  · intro i o L a' ho hlt hdep ⟨i1, i2, i3, i4⟩
    have hik : i < k := by simpa using hlt
    obtain ⟨g1, g2⟩ := hds i o ho (by omega)
    obtain ⟨g3, g4, g5, g6⟩ := g2 hik
    refine ⟨by simp [Region.wanted, g1], val i, hstep i o a' ho hik i3 (fun e he hbe => i4 e.on (by have := hback i o ho e he; omega) (hdep e he hbe)), ?_, ?_, ?_, ?_⟩
    · rw [g3]; simp [Act.put, i1]
    · rw [g3]; exact i2
    · intro t v ht
      have hne := g5 t (List.mem_map.2 ⟨(t, v), ht, rfl⟩)
      have := i3 t v ht
      rw [g3]
      simp only [Act.put]
      rw [← this]
      simp [Ne.symm hne]
    · intro j hj hL
      by_cases hji : j = i
      · subst hji
        rw [g3]
        simp [Act.put, i1, g4]
      · have hL' : L j = true := by
          have : (j == i) = false := by simp [hji]
          simpa [this] using hL
        have := i4 j hj hL'
        rw [g3]
        simp only [Act.put]
        rw [← this]
        simp [Ne.symm (g6 j hj hji)]
  · intro o L a' K ho hdep ⟨i1, i2, i3, i4⟩
    obtain ⟨g1, -⟩ := hds k o ho (Nat.le_refl _)
    exact ⟨by simp [Region.wanted, g1], hdie o a' K ho i1 i2 i3 (fun e he hbe => i4 e.on (hback k o ho e he) (hdep e he hbe))⟩
  · intro L L' a' h ⟨i1, i2, i3, i4⟩
    exact ⟨i1, i2, i3, fun j hj hL => i4 j hj (by rw [h j (by omega)]; exact hL)⟩
  · intro j hj h
    simp [Array.getD, hj] at h
  · exact Nat.le_trans (List.countP_le_length) (by simp)
  · refine ⟨ha, hD, hf, fun j hj hL => ?_⟩
    have hj' : j < ops.size := by omega
    simp [Array.getD, hj'] at hL
end
end Go.Proofs.Ytmfijcniaehooaa
