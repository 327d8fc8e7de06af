/- A field is read as Unpack reads it, of the whole and of its part. -/
import Derived.Test.YtnhkkhceoaembaaWread
import Derived.Test.YtnhkkhceoaembaaWseek
import Derived.Test.YtnhkkhceoaembaaWoneway2
namespace Go.Proofs.Ytnhkkhceoaembaa
set_option linter.unusedVariables false
open Go.RowKit

/-- What reading a field tells: the number, the bytes, the error, the place. -/
def readV (k width : Int) (xs : List Int) (p : Nat) : Int × List Int × Int × Nat :=
  if k = 1 then ((rfixV xs p width false).1, [], (rfixV xs p width false).2.1, p + (rfixV xs p width false).2.2)
  else if k = 2 then ((rfixV xs p width true).1, [], (rfixV xs p width true).2.1, p + (rfixV xs p width true).2.2)
  else if k = 3 then ((toVarV (xs.drop p)).1, [], (toVarV (xs.drop p)).2.2, p + (toVarV (xs.drop p)).2.1.toNat)
  else if k = 5 then (0, (toTextV (xs.drop p)).1, (toTextV (xs.drop p)).2.2, p + (toTextV (xs.drop p)).2.1.toNat)
  else (0, aheadB xs p width, aheadE ((xs.length : Int) - p) width, p + stepV (aheadE ((xs.length : Int) - p) width) width)
theorem lread_any {w : World} {R p len cap : Nat} {a : Option Addr} {xs : List Int} (h : IsR w R p a len cap xs) (nm : ByteArray) (kd wd : Int) (k1 : 1 ≤ kd) (k5 : kd ≤ 5) (hw1 : -9223372036854775808 ≤ wd) (hw2 : wd ≤ 9223372036854775807) (hbig : len ≤ 140737488355328) :
    Calls Try.prog 59 #[.pointer (some ⟨R, 0, none⟩), .agg #[.string nm, .int .i64 kd, .int .i64 wd]] w fun e w' => ∃ v, e = .returned v ∧ Told w R a len cap xs (readV kd wd xs p).1 (readV kd wd xs p).2.1 (readV kd wd xs p).2.2.1 (readV kd wd xs p).2.2.2 v w' := by
  have : kd = 1 ∨ kd = 2 ∨ kd = 3 ∨ kd = 4 ∨ kd = 5 := by omega
  rcases this with rfl | rfl | rfl | rfl | rfl
  · exact lread_1 h nm 1 wd hw1 hw2 hbig rfl
  · exact lread_2 h nm 2 wd hw1 hw2 hbig rfl
  · exact lread_3 h nm 3 wd hw1 hw2 hbig rfl
  · exact lread_4 h nm 4 wd hw1 hw2 hbig rfl
  · exact lread_5 h nm 5 wd hw1 hw2 hbig rfl
theorem read_same {xs : List Int} (hb : ∀ x ∈ xs, 0 ≤ x ∧ x ≤ 255) {p : Nat} (hp : p ≤ xs.length) {k w : Int} (k1 : 1 ≤ k) (k5 : k ≤ 5) (w4 : w ≤ 4096) {n : Int} {bs : List Int} {st : Nat} (h : oneV k w xs p = (0, n, bs, st)) :
    readV k w xs p = (n, bs, 0, p + st) := by
  have hk : k = 1 ∨ k = 2 ∨ k = 3 ∨ k = 4 ∨ k = 5 := by omega
  unfold oneV at h
  unfold readV
  rcases hk with rfl | rfl | rfl | rfl | rfl
  · simp only [if_true, Prod.mk.injEq] at h ⊢
    obtain ⟨h1, h2, h3, h4⟩ := h
    rw [h1, h2, h4]
    exact ⟨rfl, h3, rfl, rfl⟩
  · simp only [show ¬ ((2 : Int) = 1) by omega, if_false, if_true, Prod.mk.injEq] at h ⊢
    obtain ⟨h1, h2, h3, h4⟩ := h
    rw [h1, h2, h4]
    exact ⟨rfl, h3, rfl, rfl⟩
  · simp only [show ¬ ((3 : Int) = 1) by omega, show ¬ ((3 : Int) = 2) by omega, if_false, if_true, Prod.mk.injEq] at h ⊢
    obtain ⟨h1, h2, h3, h4⟩ := h
    rw [h1, h2, h4]
    exact ⟨rfl, h3, rfl, rfl⟩
  · simp only [show ¬ ((4 : Int) = 1) by omega, show ¬ ((4 : Int) = 2) by omega, show ¬ ((4 : Int) = 3) by omega, show ¬ ((4 : Int) = 5) by omega, if_false, if_true, Prod.mk.injEq] at h ⊢
    obtain ⟨h1, h2, h3, h4⟩ := h
    rw [h4]
    exact ⟨h2, h3, h1, rfl⟩
  · simp only [show ¬ ((5 : Int) = 1) by omega, show ¬ ((5 : Int) = 2) by omega, show ¬ ((5 : Int) = 3) by omega, show ¬ ((5 : Int) = 4) by omega, if_false, if_true, Prod.mk.injEq] at h ⊢
    obtain ⟨h1, h2, h3, h4⟩ := h
    have hv := toVarV_bd (xs.drop p) (fun x hx => hb x (List.mem_of_mem_drop hx))
    unfold text5 at h1 h3 h4
    unfold toTextV
    split at h1
    · rename_i he; exact absurd h1 he
    · rename_i he
      rw [if_neg he] at h3 h4
      split at h1
      · simp at h1
      · rename_i hw
        rw [if_neg hw] at h3 h4
        split at h1
        · rename_i ha; exact absurd h1 ha
        · rename_i ha
          rw [if_neg ha] at h3 h4
          have ha' : aheadE ((xs.length : Int) - (p + (toVarV (xs.drop p)).2.1.toNat : Nat)) (toVarV (xs.drop p)).1 = 0 := by omega
          have hz := ahead_zero ha'
          have hd : (xs.drop p).length = xs.length - p := List.length_drop
          rw [if_neg he, if_neg (by omega), if_neg (by rw [hd]; omega)]
          refine ⟨h2, ?_, rfl, ?_⟩
          · rw [← h3]
            unfold aheadB
            rw [if_pos ha', List.drop_drop]
          · have h4' : (toVarV (xs.drop p)).2.1.toNat + (toVarV (xs.drop p)).1.toNat = st := h4
            show p + ((toVarV (xs.drop p)).2.1 + (toVarV (xs.drop p)).1).toNat = _
            omega
/-- Of the part alone it is read the same. -/
theorem part_same {xs : List Int} (hb : ∀ x ∈ xs, 0 ≤ x ∧ x ≤ 255) {p : Nat} (hp : p ≤ xs.length) {k w : Int} (k1 : 1 ≤ k) (k5 : k ≤ 5) (w4 : w ≤ 4096) {n : Int} {bs : List Int} {st : Nat} (h : oneV k w xs p = (0, n, bs, st)) :
    readV k w ((xs.drop p).take st) 0 = (n, bs, 0, st) := by
  obtain ⟨h1, h2, h3, h4, h5, h6⟩ := one_oneway hb hp k1 k5 w4 h
  have hl : ((xs.drop p).take st).length = st := by rw [List.length_take, List.length_drop]; omega
  have hq := one_back [] [] k n w bs k1 k5 h4 h5 h1
  rw [h2, List.nil_append, List.append_nil, List.length_nil, hl] at hq
  have := read_same (bd_part hb p st) (Nat.zero_le _) k1 k5 w4 hq
  rw [Nat.zero_add] at this
  exact this
/-- What stands at each field of bytes that are read wholly. -/
theorem field_facts {fs : List Fld} {B : List Int} (hb : ∀ x ∈ B, 0 ≤ x ∧ x ≤ 255) (hch : checkV fs = 0) (hok : ∀ k, k < fs.length → (atV fs B k).1 = 0) (k : Nat) (hk : k < fs.length) :
    ∃ (n : Int) (bs : List Int) (st : Nat), atV fs B k = (0, n, bs, st) ∧ posV fs B (k + 1) = posV fs B k + st ∧ posV fs B k + st ≤ B.length ∧ -9223372036854775808 ≤ n ∧ n ≤ 9223372036854775807 ∧
      readV (fs.getD k default).kind (fs.getD k default).width B (posV fs B k) = (n, bs, 0, posV fs B k + st) ∧
      readV (fs.getD k default).kind (fs.getD k default).width ((B.drop (posV fs B k)).take st) 0 = (n, bs, 0, st) ∧
      1 ≤ (fs.getD k default).kind ∧ (fs.getD k default).kind ≤ 5 ∧ 0 ≤ (fs.getD k default).width ∧ (fs.getD k default).width ≤ 4096 := by
  obtain ⟨hp, hq⟩ := unpack_oneway hb hch hok
  have h0 := hok k hk
  have hf : fs.getD k default ∈ fs := by
    have : fs.getD k default = fs[k] := by simp [List.getD, hk]
    rw [this]; exact List.getElem_mem hk
  obtain ⟨k1, k5, w0, w4⟩ := fld_bd ((checkV_ok hch).2 _ hf)
  rcases ha : atV fs B k with ⟨er, n, bs, st⟩
  rw [ha] at h0
  simp only at h0
  subst h0
  have hone : oneV (fs.getD k default).kind (fs.getD k default).width B (posV fs B k) = (0, n, bs, st) := by rw [← ha]; unfold atV; rfl
  have hpk := hp k (by omega)
  obtain ⟨h1, h2, h3, h4, h5, h6⟩ := one_oneway hb hpk k1 k5 w4 hone
  refine ⟨n, bs, st, rfl, by rw [posV_succ, ha], h3, h4, h5, read_same hb hpk k1 k5 w4 hone, part_same hb hpk k1 k5 w4 hone, k1, k5, w0, w4⟩
end Go.Proofs.Ytnhkkhceoaembaa
