/- The reference's Check. -/
import Derived.Test.YtmfijcniaehooaaWcheck
import Derived.Test.YtmfijcniaehooaaWpackall
import Derived.Deep.QuietTactic
import Derived.BigQuiet
import Derived.Deep.DeepCutAuto
namespace Go.Proofs.Ytmfijcniaehooaa
set_option linter.unusedVariables false
open Go.RowKit

theorem has_of {g : ByteArray} {fs : List Fld} {j : Nat} (hj : j < fs.length) (h : (fs[j].name.toList == g.toList) = true) : hasName g fs = true := by
  unfold hasName
  rw [List.any_eq_true]
  exact ⟨fs[j], List.getElem_mem hj, h⟩
theorem has_none {g : ByteArray} {fs : List Fld} (h : ∀ j (hj : j < fs.length), (fs[j].name.toList == g.toList) = false) : hasName g fs = false := by
  unfold hasName
  rw [List.any_eq_false]
  intro f hf
  obtain ⟨j, hj, rfl⟩ := List.getElem_of_mem hf
  rw [h j hj]
  simp
set_option maxRecDepth 100000 in
set_option maxHeartbeats 8000000 in
theorem refCheck_any (a : Option Addr) (len cap : Nat) (fs : List Fld) (w : World) (h : RdF w a len cap fs) :
    Calls Try.prog 38 #[.slice a len cap] w fun e w' => e = .returned (.int .i64 (checkV fs)) ∧ Below w.heap.size w w' := by
  have hc := h.hc
  have hm := h.hm
  have hl := h.hl
  unfold maxLen at hm
  by_cases h64 : 64 < len
  · have hv : checkV fs = 1 := by unfold checkV; rw [if_pos (by omega)]
    have hv64 : (64 : Int) < (len : Int) := by omega
    rw [hv]
    clear h hl hv
    go_enter Try.func38, Try.ntmps38
    go_wp2
    go_ret
    exact ⟨rfl, Below.refl _ _⟩
  have hv : checkV fs = chkL [] fs := by unfold checkV; rw [if_neg (by omega)]
  have hv64 : ¬ (64 : Int) < (len : Int) := by omega
  rw [hv]
  have Hl := Lib.hid hl
  have H := Lib.hid h
  clear h hl hv
  go_enter Try.func38, Try.ntmps38
  go_wp2
  go_loopw [3] (fun i wr => ∃ k : Nat, k ≤ len ∧ i = .int .i64 k ∧ chkL [] fs = chkL (fs.take k) (fs.drop k) ∧ Below w.heap.size w wr) (fun i _ => len - (intOf i).toNat)
  case atStart => exact ⟨0, Nat.zero_le _, rfl, rfl, Below.refl _ _⟩
  case round =>
    obtain ⟨k, hk, rfl, hv, hb⟩ := hrel
    by_cases hlt : k < len
    · have hF := H.out.below hb (Nat.le_refl _)
      obtain ⟨b, off, rfl, hcell⟩ := hF.hr (by omega)
      obtain ⟨c0, c1, c2⟩ := hcell k hlt
      obtain ⟨f, hf⟩ : ∃ f, f = fs.getD k default := ⟨_, rfl⟩
      rw [← hf] at c0 c1 c2
      have hok : f.Ok := by
        rw [hf]
        have : fs.getD k default = fs[k]'(by rw [Hl.out]; exact hlt) := by simp [List.getD, Hl.out, hlt]
        rw [this]
        exact H.out.hb _ (List.getElem_mem _)
      have hd : fs.drop k = f :: fs.drop (k + 1) := by
        rw [List.drop_eq_getElem_cons (by rw [Hl.out]; exact hlt), hf]
        simp [List.getD, Hl.out, hlt]
      have ht : fs.take (k + 1) = fs.take k ++ [f] := by
        rw [List.take_succ_eq_append_getElem (by rw [Hl.out]; exact hlt), hf]
        simp [List.getD, Hl.out, hlt]
      obtain ⟨k1, k2, w1, w2⟩ := hok
      rw [hd, chkL, ← ht] at hv
      obtain ⟨nm, kd, wd⟩ := f
      simp only at c0 c1 c2 k1 k2 w1 w2 hv
      have Hv := Lib.hid hv
      have Hb := Lib.hid hb
      have HF := Lib.hid hF
      have hN1 : ∀ kk : Int, kk = 1 ∨ kk = 2 → narrow kk = 1 ∧ wide kk = 8 := fun kk h => by unfold narrow wide; rw [if_pos h, if_pos h]; exact ⟨rfl, rfl⟩
      have hN3 : narrow 3 = 0 ∧ wide 3 = 0 := by unfold narrow wide; simp
      have hN4 : narrow 4 = 0 ∧ wide 4 = 4096 := by unfold narrow wide; simp
      have hN5 : narrow 5 = 0 ∧ wide 5 = 4096 := by unfold narrow wide; simp
      have HN := Lib.hid (And.intro hN1 (And.intro hN3 (And.intro hN4 hN5)))
      clear hv hd hf ht hb hF hcell hN1 hN3 hN4 hN5
      by_cases hE : nm.toList = []
      · have hEb : nm.toList.isEmpty = true := by rw [hE]; rfl
        by_cases q1 : kd = 1
        · subst q1
          have HF1 : Hid (chkL [] fs = 1) := Lib.hid (by rw [Hv.out, if_pos]; left; unfold fldBad; simp only; exact .inr (.inr (.inr (.inr hEb))))
          go_wp2
          go_ret
          exact ⟨ret_int HF1.out.symm, Hb.out⟩
        by_cases q2 : kd = 2
        · subst q2
          have HF1 : Hid (chkL [] fs = 1) := Lib.hid (by rw [Hv.out, if_pos]; left; unfold fldBad; simp only; exact .inr (.inr (.inr (.inr hEb))))
          go_wp2
          go_ret
          exact ⟨ret_int HF1.out.symm, Hb.out⟩
        by_cases q3 : kd = 3
        · subst q3
          have HF1 : Hid (chkL [] fs = 1) := Lib.hid (by rw [Hv.out, if_pos]; left; unfold fldBad; simp only; exact .inr (.inr (.inr (.inr hEb))))
          go_wp2
          go_ret
          exact ⟨ret_int HF1.out.symm, Hb.out⟩
        by_cases q4 : kd = 4
        · subst q4
          have HF1 : Hid (chkL [] fs = 1) := Lib.hid (by rw [Hv.out, if_pos]; left; unfold fldBad; simp only; exact .inr (.inr (.inr (.inr hEb))))
          go_wp2
          go_ret
          exact ⟨ret_int HF1.out.symm, Hb.out⟩
        by_cases q5 : kd = 5
        · subst q5
          have HF1 : Hid (chkL [] fs = 1) := Lib.hid (by rw [Hv.out, if_pos]; left; unfold fldBad; simp only; exact .inr (.inr (.inr (.inr hEb))))
          go_wp2
          go_ret
          exact ⟨ret_int HF1.out.symm, Hb.out⟩
        have r1 : (kd == 1) = false := by simpa using q1
        have r2 : (kd == 2) = false := by simpa using q2
        have r3 : (kd == 3) = false := by simpa using q3
        have r4 : (kd == 4) = false := by simpa using q4
        have r5 : (kd == 5) = false := by simpa using q5
        have HF1 : Hid (chkL [] fs = 1) := Lib.hid (by rw [Hv.out, if_pos]; left; unfold fldBad; simp only; exact .inr (.inr (.inr (.inr hEb))))
        go_wp2
        go_ret
        exact ⟨ret_int HF1.out.symm, Hb.out⟩
      have hEb : nm.toList.isEmpty = false := by cases hq : nm.toList with | nil => exact absurd hq hE | cons x l => rfl
      by_cases q1 : kd = 1
      · subst q1
        obtain ⟨hnw, hwd⟩ := HN.out.1 1 (.inl rfl)
        by_cases hA : wd < 1
        · have HF1 : Hid (chkL [] fs = 1) := Lib.hid (by rw [Hv.out, if_pos]; left; unfold fldBad; simp only; rw [hnw]; omega)
          go_wp2
          go_ret
          exact ⟨ret_int HF1.out.symm, Hb.out⟩
        by_cases hB : 8 < wd
        · have HF1 : Hid (chkL [] fs = 1) := Lib.hid (by rw [Hv.out, if_pos]; left; unfold fldBad; simp only; rw [hwd]; omega)
          go_wp2
          go_ret
          exact ⟨ret_int HF1.out.symm, Hb.out⟩
        have hgood : ¬ fldBad ⟨nm, 1, wd⟩ := by unfold fldBad; simp only; rw [hnw, hwd, hEb]; simp; omega
        have HG := Lib.hid hgood
        clear hgood hnw hwd
        go_wp2
        go_loopw [6] (fun i wx => ∃ t : Nat, t ≤ k ∧ i = .int .i64 t ∧ Below w.heap.size w wx ∧ ∀ j (hj : j < (fs.take k).length), j < t → ((fs.take k)[j].name.toList == nm.toList) = false) (fun i _ => k - (intOf i).toNat)
        case atStart => exact ⟨0, Nat.zero_le _, rfl, Hb.out, fun j _ h => absurd h (by omega)⟩
        case round =>
          obtain ⟨t, htk, rfl, hbx, hno⟩ := hrel
          have HBX := Lib.hid hbx
          have HNO := Lib.hid hno
          clear hbx hno
          by_cases htl : t < k
          · have hFx := H.out.below HBX.out (Nat.le_refl _)
            obtain ⟨b', off', e', hcx⟩ := hFx.hr (by omega)
            cases e'
            have d0 := (hcx t (by omega)).1
            have d1 := (hcx k hlt).1
            have hnk : (fs.getD k default).name = nm := by have := c0; have h2 := (HF.out.hr (by omega)); obtain ⟨b2, o2, e2, h3⟩ := h2; cases e2; have h4 := (h3 k hlt).1; rw [c0] at h4; simpa using h4.symm
            rw [hnk] at d1
            have htt : (fs.take k).length = k := by rw [List.length_take, Hl.out]; omega
            have hgt : (fs.take k)[t]'(by omega) = fs.getD t default := by rw [List.getElem_take]; simp [List.getD, Hl.out, show t < len by omega]
            obtain ⟨nt, hnt⟩ : ∃ x, x = (fs.getD t default).name := ⟨_, rfl⟩
            rw [← hnt] at d0
            have Hgt : Hid ((fs.take k).length = k ∧ (∀ (h : t < (fs.take k).length), (fs.take k)[t] = fs.getD t default) ∧ nt = (fs.getD t default).name) := Lib.hid ⟨htt, fun _ => hgt, hnt⟩
            clear hgt htt
            clear hcx hFx hnk hnt
            by_cases heq : (nt.toList == nm.toList) = true
            · have HF1 : Hid (chkL [] fs = 1) := Lib.hid (by rw [Hv.out, if_pos]; right; exact has_of (j := t) (by rw [Hgt.out.1]; exact htl) (by rw [Hgt.out.2.1, ← Hgt.out.2.2]; exact heq))
              go_wp2
              go_quiet (fail)
              go_wp2
              go_ret
              exact ⟨ret_int HF1.out.symm, HBX.out.trans ⟨rfl, rfl, rfl, Nat.le_refl _, fun _ _ => rfl⟩⟩
            · have heq2 : (nt.toList == nm.toList) = false := by simpa using heq
              go_wp2
              go_quiet (fail)
              go_wp2
              go_roundw
              case rel => exact ⟨t + 1, by omega, by go_num, HBX.out.trans ⟨rfl, rfl, rfl, Nat.le_refl _, fun _ _ => rfl⟩, fun j hj hjt => by
                  by_cases e : j = t
                  · subst e; rw [Hgt.out.2.1 hj, ← Hgt.out.2.2]; exact heq2
                  · exact HNO.out j hj (by omega)⟩
              case measure => simp [intOf]; omega
          · obtain rfl : t = k := by omega
            have HV2 : Hid (chkL [] fs = chkL (fs.take (t + 1)) (fs.drop (t + 1))) := Lib.hid (by rw [Hv.out, if_neg]; rintro (h | h); exact HG.out h; rw [has_none (fun j hj => HNO.out j hj (by rw [List.length_take] at hj; omega))] at h; cases h)
            go_wp2
            go_roundw
            case rel => exact ⟨t + 1, by omega, by go_num, HV2.out, HBX.out⟩
            case measure => simp [intOf]; omega
      by_cases q2 : kd = 2
      · subst q2
        obtain ⟨hnw, hwd⟩ := HN.out.1 2 (.inr rfl)
        by_cases hA : wd < 1
        · have HF1 : Hid (chkL [] fs = 1) := Lib.hid (by rw [Hv.out, if_pos]; left; unfold fldBad; simp only; rw [hnw]; omega)
          go_wp2
          go_ret
          exact ⟨ret_int HF1.out.symm, Hb.out⟩
        by_cases hB : 8 < wd
        · have HF1 : Hid (chkL [] fs = 1) := Lib.hid (by rw [Hv.out, if_pos]; left; unfold fldBad; simp only; rw [hwd]; omega)
          go_wp2
          go_ret
          exact ⟨ret_int HF1.out.symm, Hb.out⟩
        have hgood : ¬ fldBad ⟨nm, 2, wd⟩ := by unfold fldBad; simp only; rw [hnw, hwd, hEb]; simp; omega
        have HG := Lib.hid hgood
        clear hgood hnw hwd
        go_wp2
        go_loopw [6] (fun i wx => ∃ t : Nat, t ≤ k ∧ i = .int .i64 t ∧ Below w.heap.size w wx ∧ ∀ j (hj : j < (fs.take k).length), j < t → ((fs.take k)[j].name.toList == nm.toList) = false) (fun i _ => k - (intOf i).toNat)
        case atStart => exact ⟨0, Nat.zero_le _, rfl, Hb.out, fun j _ h => absurd h (by omega)⟩
        case round =>
          obtain ⟨t, htk, rfl, hbx, hno⟩ := hrel
          have HBX := Lib.hid hbx
          have HNO := Lib.hid hno
          clear hbx hno
          by_cases htl : t < k
          · have hFx := H.out.below HBX.out (Nat.le_refl _)
            obtain ⟨b', off', e', hcx⟩ := hFx.hr (by omega)
            cases e'
            have d0 := (hcx t (by omega)).1
            have d1 := (hcx k hlt).1
            have hnk : (fs.getD k default).name = nm := by have := c0; have h2 := (HF.out.hr (by omega)); obtain ⟨b2, o2, e2, h3⟩ := h2; cases e2; have h4 := (h3 k hlt).1; rw [c0] at h4; simpa using h4.symm
            rw [hnk] at d1
            have htt : (fs.take k).length = k := by rw [List.length_take, Hl.out]; omega
            have hgt : (fs.take k)[t]'(by omega) = fs.getD t default := by rw [List.getElem_take]; simp [List.getD, Hl.out, show t < len by omega]
            obtain ⟨nt, hnt⟩ : ∃ x, x = (fs.getD t default).name := ⟨_, rfl⟩
            rw [← hnt] at d0
            have Hgt : Hid ((fs.take k).length = k ∧ (∀ (h : t < (fs.take k).length), (fs.take k)[t] = fs.getD t default) ∧ nt = (fs.getD t default).name) := Lib.hid ⟨htt, fun _ => hgt, hnt⟩
            clear hgt htt
            clear hcx hFx hnk hnt
            by_cases heq : (nt.toList == nm.toList) = true
            · have HF1 : Hid (chkL [] fs = 1) := Lib.hid (by rw [Hv.out, if_pos]; right; exact has_of (j := t) (by rw [Hgt.out.1]; exact htl) (by rw [Hgt.out.2.1, ← Hgt.out.2.2]; exact heq))
              go_wp2
              go_quiet (fail)
              go_wp2
              go_ret
              exact ⟨ret_int HF1.out.symm, HBX.out.trans ⟨rfl, rfl, rfl, Nat.le_refl _, fun _ _ => rfl⟩⟩
            · have heq2 : (nt.toList == nm.toList) = false := by simpa using heq
              go_wp2
              go_quiet (fail)
              go_wp2
              go_roundw
              case rel => exact ⟨t + 1, by omega, by go_num, HBX.out.trans ⟨rfl, rfl, rfl, Nat.le_refl _, fun _ _ => rfl⟩, fun j hj hjt => by
                  by_cases e : j = t
                  · subst e; rw [Hgt.out.2.1 hj, ← Hgt.out.2.2]; exact heq2
                  · exact HNO.out j hj (by omega)⟩
              case measure => simp [intOf]; omega
          · obtain rfl : t = k := by omega
            have HV2 : Hid (chkL [] fs = chkL (fs.take (t + 1)) (fs.drop (t + 1))) := Lib.hid (by rw [Hv.out, if_neg]; rintro (h | h); exact HG.out h; rw [has_none (fun j hj => HNO.out j hj (by rw [List.length_take] at hj; omega))] at h; cases h)
            go_wp2
            go_roundw
            case rel => exact ⟨t + 1, by omega, by go_num, HV2.out, HBX.out⟩
            case measure => simp [intOf]; omega
      by_cases q3 : kd = 3
      · subst q3
        obtain ⟨hnw, hwd⟩ := HN.out.2.1
        by_cases hA : wd < 0
        · have HF1 : Hid (chkL [] fs = 1) := Lib.hid (by rw [Hv.out, if_pos]; left; unfold fldBad; simp only; rw [hnw]; omega)
          go_wp2
          go_ret
          exact ⟨ret_int HF1.out.symm, Hb.out⟩
        by_cases hB : 0 < wd
        · have HF1 : Hid (chkL [] fs = 1) := Lib.hid (by rw [Hv.out, if_pos]; left; unfold fldBad; simp only; rw [hwd]; omega)
          go_wp2
          go_ret
          exact ⟨ret_int HF1.out.symm, Hb.out⟩
        have hgood : ¬ fldBad ⟨nm, 3, wd⟩ := by unfold fldBad; simp only; rw [hnw, hwd, hEb]; simp; omega
        have HG := Lib.hid hgood
        clear hgood hnw hwd
        go_wp2
        go_loopw [6] (fun i wx => ∃ t : Nat, t ≤ k ∧ i = .int .i64 t ∧ Below w.heap.size w wx ∧ ∀ j (hj : j < (fs.take k).length), j < t → ((fs.take k)[j].name.toList == nm.toList) = false) (fun i _ => k - (intOf i).toNat)
        case atStart => exact ⟨0, Nat.zero_le _, rfl, Hb.out, fun j _ h => absurd h (by omega)⟩
        case round =>
          obtain ⟨t, htk, rfl, hbx, hno⟩ := hrel
          have HBX := Lib.hid hbx
          have HNO := Lib.hid hno
          clear hbx hno
          by_cases htl : t < k
          · have hFx := H.out.below HBX.out (Nat.le_refl _)
            obtain ⟨b', off', e', hcx⟩ := hFx.hr (by omega)
            cases e'
            have d0 := (hcx t (by omega)).1
            have d1 := (hcx k hlt).1
            have hnk : (fs.getD k default).name = nm := by have := c0; have h2 := (HF.out.hr (by omega)); obtain ⟨b2, o2, e2, h3⟩ := h2; cases e2; have h4 := (h3 k hlt).1; rw [c0] at h4; simpa using h4.symm
            rw [hnk] at d1
            have htt : (fs.take k).length = k := by rw [List.length_take, Hl.out]; omega
            have hgt : (fs.take k)[t]'(by omega) = fs.getD t default := by rw [List.getElem_take]; simp [List.getD, Hl.out, show t < len by omega]
            obtain ⟨nt, hnt⟩ : ∃ x, x = (fs.getD t default).name := ⟨_, rfl⟩
            rw [← hnt] at d0
            have Hgt : Hid ((fs.take k).length = k ∧ (∀ (h : t < (fs.take k).length), (fs.take k)[t] = fs.getD t default) ∧ nt = (fs.getD t default).name) := Lib.hid ⟨htt, fun _ => hgt, hnt⟩
            clear hgt htt
            clear hcx hFx hnk hnt
            by_cases heq : (nt.toList == nm.toList) = true
            · have HF1 : Hid (chkL [] fs = 1) := Lib.hid (by rw [Hv.out, if_pos]; right; exact has_of (j := t) (by rw [Hgt.out.1]; exact htl) (by rw [Hgt.out.2.1, ← Hgt.out.2.2]; exact heq))
              go_wp2
              go_quiet (fail)
              go_wp2
              go_ret
              exact ⟨ret_int HF1.out.symm, HBX.out.trans ⟨rfl, rfl, rfl, Nat.le_refl _, fun _ _ => rfl⟩⟩
            · have heq2 : (nt.toList == nm.toList) = false := by simpa using heq
              go_wp2
              go_quiet (fail)
              go_wp2
              go_roundw
              case rel => exact ⟨t + 1, by omega, by go_num, HBX.out.trans ⟨rfl, rfl, rfl, Nat.le_refl _, fun _ _ => rfl⟩, fun j hj hjt => by
                  by_cases e : j = t
                  · subst e; rw [Hgt.out.2.1 hj, ← Hgt.out.2.2]; exact heq2
                  · exact HNO.out j hj (by omega)⟩
              case measure => simp [intOf]; omega
          · obtain rfl : t = k := by omega
            have HV2 : Hid (chkL [] fs = chkL (fs.take (t + 1)) (fs.drop (t + 1))) := Lib.hid (by rw [Hv.out, if_neg]; rintro (h | h); exact HG.out h; rw [has_none (fun j hj => HNO.out j hj (by rw [List.length_take] at hj; omega))] at h; cases h)
            go_wp2
            go_roundw
            case rel => exact ⟨t + 1, by omega, by go_num, HV2.out, HBX.out⟩
            case measure => simp [intOf]; omega
      by_cases q4 : kd = 4
      · subst q4
        obtain ⟨hnw, hwd⟩ := HN.out.2.2.1
        by_cases hA : wd < 0
        · have HF1 : Hid (chkL [] fs = 1) := Lib.hid (by rw [Hv.out, if_pos]; left; unfold fldBad; simp only; rw [hnw]; omega)
          go_wp2
          go_ret
          exact ⟨ret_int HF1.out.symm, Hb.out⟩
        by_cases hB : 4096 < wd
        · have HF1 : Hid (chkL [] fs = 1) := Lib.hid (by rw [Hv.out, if_pos]; left; unfold fldBad; simp only; rw [hwd]; omega)
          go_wp2
          go_ret
          exact ⟨ret_int HF1.out.symm, Hb.out⟩
        have hgood : ¬ fldBad ⟨nm, 4, wd⟩ := by unfold fldBad; simp only; rw [hnw, hwd, hEb]; simp; omega
        have HG := Lib.hid hgood
        clear hgood hnw hwd
        go_wp2
        go_loopw [6] (fun i wx => ∃ t : Nat, t ≤ k ∧ i = .int .i64 t ∧ Below w.heap.size w wx ∧ ∀ j (hj : j < (fs.take k).length), j < t → ((fs.take k)[j].name.toList == nm.toList) = false) (fun i _ => k - (intOf i).toNat)
        case atStart => exact ⟨0, Nat.zero_le _, rfl, Hb.out, fun j _ h => absurd h (by omega)⟩
        case round =>
          obtain ⟨t, htk, rfl, hbx, hno⟩ := hrel
          have HBX := Lib.hid hbx
          have HNO := Lib.hid hno
          clear hbx hno
          by_cases htl : t < k
          · have hFx := H.out.below HBX.out (Nat.le_refl _)
            obtain ⟨b', off', e', hcx⟩ := hFx.hr (by omega)
            cases e'
            have d0 := (hcx t (by omega)).1
            have d1 := (hcx k hlt).1
            have hnk : (fs.getD k default).name = nm := by have := c0; have h2 := (HF.out.hr (by omega)); obtain ⟨b2, o2, e2, h3⟩ := h2; cases e2; have h4 := (h3 k hlt).1; rw [c0] at h4; simpa using h4.symm
            rw [hnk] at d1
            have htt : (fs.take k).length = k := by rw [List.length_take, Hl.out]; omega
            have hgt : (fs.take k)[t]'(by omega) = fs.getD t default := by rw [List.getElem_take]; simp [List.getD, Hl.out, show t < len by omega]
            obtain ⟨nt, hnt⟩ : ∃ x, x = (fs.getD t default).name := ⟨_, rfl⟩
            rw [← hnt] at d0
            have Hgt : Hid ((fs.take k).length = k ∧ (∀ (h : t < (fs.take k).length), (fs.take k)[t] = fs.getD t default) ∧ nt = (fs.getD t default).name) := Lib.hid ⟨htt, fun _ => hgt, hnt⟩
            clear hgt htt
            clear hcx hFx hnk hnt
            by_cases heq : (nt.toList == nm.toList) = true
            · have HF1 : Hid (chkL [] fs = 1) := Lib.hid (by rw [Hv.out, if_pos]; right; exact has_of (j := t) (by rw [Hgt.out.1]; exact htl) (by rw [Hgt.out.2.1, ← Hgt.out.2.2]; exact heq))
              go_wp2
              go_quiet (fail)
              go_wp2
              go_ret
              exact ⟨ret_int HF1.out.symm, HBX.out.trans ⟨rfl, rfl, rfl, Nat.le_refl _, fun _ _ => rfl⟩⟩
            · have heq2 : (nt.toList == nm.toList) = false := by simpa using heq
              go_wp2
              go_quiet (fail)
              go_wp2
              go_roundw
              case rel => exact ⟨t + 1, by omega, by go_num, HBX.out.trans ⟨rfl, rfl, rfl, Nat.le_refl _, fun _ _ => rfl⟩, fun j hj hjt => by
                  by_cases e : j = t
                  · subst e; rw [Hgt.out.2.1 hj, ← Hgt.out.2.2]; exact heq2
                  · exact HNO.out j hj (by omega)⟩
              case measure => simp [intOf]; omega
          · obtain rfl : t = k := by omega
            have HV2 : Hid (chkL [] fs = chkL (fs.take (t + 1)) (fs.drop (t + 1))) := Lib.hid (by rw [Hv.out, if_neg]; rintro (h | h); exact HG.out h; rw [has_none (fun j hj => HNO.out j hj (by rw [List.length_take] at hj; omega))] at h; cases h)
            go_wp2
            go_roundw
            case rel => exact ⟨t + 1, by omega, by go_num, HV2.out, HBX.out⟩
            case measure => simp [intOf]; omega
      by_cases q5 : kd = 5
      · subst q5
        obtain ⟨hnw, hwd⟩ := HN.out.2.2.2
        by_cases hA : wd < 0
        · have HF1 : Hid (chkL [] fs = 1) := Lib.hid (by rw [Hv.out, if_pos]; left; unfold fldBad; simp only; rw [hnw]; omega)
          go_wp2
          go_ret
          exact ⟨ret_int HF1.out.symm, Hb.out⟩
        by_cases hB : 4096 < wd
        · have HF1 : Hid (chkL [] fs = 1) := Lib.hid (by rw [Hv.out, if_pos]; left; unfold fldBad; simp only; rw [hwd]; omega)
          go_wp2
          go_ret
          exact ⟨ret_int HF1.out.symm, Hb.out⟩
        have hgood : ¬ fldBad ⟨nm, 5, wd⟩ := by unfold fldBad; simp only; rw [hnw, hwd, hEb]; simp; omega
        have HG := Lib.hid hgood
        clear hgood hnw hwd
        go_wp2
        go_loopw [6] (fun i wx => ∃ t : Nat, t ≤ k ∧ i = .int .i64 t ∧ Below w.heap.size w wx ∧ ∀ j (hj : j < (fs.take k).length), j < t → ((fs.take k)[j].name.toList == nm.toList) = false) (fun i _ => k - (intOf i).toNat)
        case atStart => exact ⟨0, Nat.zero_le _, rfl, Hb.out, fun j _ h => absurd h (by omega)⟩
        case round =>
          obtain ⟨t, htk, rfl, hbx, hno⟩ := hrel
          have HBX := Lib.hid hbx
          have HNO := Lib.hid hno
          clear hbx hno
          by_cases htl : t < k
          · have hFx := H.out.below HBX.out (Nat.le_refl _)
            obtain ⟨b', off', e', hcx⟩ := hFx.hr (by omega)
            cases e'
            have d0 := (hcx t (by omega)).1
            have d1 := (hcx k hlt).1
            have hnk : (fs.getD k default).name = nm := by have := c0; have h2 := (HF.out.hr (by omega)); obtain ⟨b2, o2, e2, h3⟩ := h2; cases e2; have h4 := (h3 k hlt).1; rw [c0] at h4; simpa using h4.symm
            rw [hnk] at d1
            have htt : (fs.take k).length = k := by rw [List.length_take, Hl.out]; omega
            have hgt : (fs.take k)[t]'(by omega) = fs.getD t default := by rw [List.getElem_take]; simp [List.getD, Hl.out, show t < len by omega]
            obtain ⟨nt, hnt⟩ : ∃ x, x = (fs.getD t default).name := ⟨_, rfl⟩
            rw [← hnt] at d0
            have Hgt : Hid ((fs.take k).length = k ∧ (∀ (h : t < (fs.take k).length), (fs.take k)[t] = fs.getD t default) ∧ nt = (fs.getD t default).name) := Lib.hid ⟨htt, fun _ => hgt, hnt⟩
            clear hgt htt
            clear hcx hFx hnk hnt
            by_cases heq : (nt.toList == nm.toList) = true
            · have HF1 : Hid (chkL [] fs = 1) := Lib.hid (by rw [Hv.out, if_pos]; right; exact has_of (j := t) (by rw [Hgt.out.1]; exact htl) (by rw [Hgt.out.2.1, ← Hgt.out.2.2]; exact heq))
              go_wp2
              go_quiet (fail)
              go_wp2
              go_ret
              exact ⟨ret_int HF1.out.symm, HBX.out.trans ⟨rfl, rfl, rfl, Nat.le_refl _, fun _ _ => rfl⟩⟩
            · have heq2 : (nt.toList == nm.toList) = false := by simpa using heq
              go_wp2
              go_quiet (fail)
              go_wp2
              go_roundw
              case rel => exact ⟨t + 1, by omega, by go_num, HBX.out.trans ⟨rfl, rfl, rfl, Nat.le_refl _, fun _ _ => rfl⟩, fun j hj hjt => by
                  by_cases e : j = t
                  · subst e; rw [Hgt.out.2.1 hj, ← Hgt.out.2.2]; exact heq2
                  · exact HNO.out j hj (by omega)⟩
              case measure => simp [intOf]; omega
          · obtain rfl : t = k := by omega
            have HV2 : Hid (chkL [] fs = chkL (fs.take (t + 1)) (fs.drop (t + 1))) := Lib.hid (by rw [Hv.out, if_neg]; rintro (h | h); exact HG.out h; rw [has_none (fun j hj => HNO.out j hj (by rw [List.length_take] at hj; omega))] at h; cases h)
            go_wp2
            go_roundw
            case rel => exact ⟨t + 1, by omega, by go_num, HV2.out, HBX.out⟩
            case measure => simp [intOf]; omega
      have r1 : (kd == 1) = false := by simpa using q1
      have r2 : (kd == 2) = false := by simpa using q2
      have r3 : (kd == 3) = false := by simpa using q3
      have r4 : (kd == 4) = false := by simpa using q4
      have r5 : (kd == 5) = false := by simpa using q5
      by_cases hA : kd < 1
      · have HF1 : Hid (chkL [] fs = 1) := Lib.hid (by rw [Hv.out, if_pos]; left; unfold fldBad; simp only; omega)
        go_wp2
        go_ret
        exact ⟨ret_int HF1.out.symm, Hb.out⟩
      have HF1 : Hid (chkL [] fs = 1) := Lib.hid (by rw [Hv.out, if_pos]; left; unfold fldBad; simp only; omega)
      go_wp2
      go_ret
      exact ⟨ret_int HF1.out.symm, Hb.out⟩
    · obtain rfl : k = len := by omega
      have HV2 : Hid (chkL [] fs = 0) := Lib.hid (by rw [hv, List.drop_eq_nil_of_le (by rw [Hl.out]; exact Nat.le_refl _)]; rfl)
      have Hb := Lib.hid hb
      clear hv hb
      go_wp2
      go_ret
      exact ⟨ret_int HV2.out.symm, Hb.out⟩
end Go.Proofs.Ytmfijcniaehooaa
