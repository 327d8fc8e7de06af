/- Whether two rows of items are the same, told in plain values. -/
import Derived.Test.YtlmknpljncpjiaaRvar
import Derived.Test.YtlmknpljncpjiaaLbegins
namespace Go.Proofs.Ytlmknpljncpjiaa
set_option linter.unusedVariables false
open Go.RowKit

theorem RdI.drewN {w : World} {a : Option Addr} {len cap : Nat} {xs : List Itm} (h : RdI w a len cap xs) (n : Nat) : RdI (w.drewN n) a len cap xs :=
  ⟨h.hl, h.hc, h.hm, fun x hx => ⟨(h.hb x hx).n1, (h.hb x hx).n2, (h.hb x hx).r.drewN n⟩, h.hn, h.hr⟩
/-- What an item is. -/
def Itm.key (x : Itm) : Int × List Int := (x.n, x.xs)
theorem quiet_left {P : Program} {f : FuncId} {args : Array Value} {w : World} {n : Nat} {v : Value}
    (h : Calls P f args (w.drewN n) fun e w' => e = .returned v ∧ w.drewN n = w') : Calls P f args (w.drewN n) fun e w'' => e = .returned v ∧ ∃ m, w'' = w.drewN m :=
  h.mono fun _ _ ⟨he, hm⟩ => ⟨he, n, hm.symm⟩
theorem quiet_add_left {P : Program} {f : FuncId} {args : Array Value} {w : World} {a n : Nat} {v : Value}
    (h : Calls P f args (w.drewN (a + n)) fun e w' => e = .returned v ∧ w.drewN (a + n) = w') :
    Calls P f args (w.drewN (a + n)) fun e w'' => e = .returned v ∧ ∃ m, w'' = w.drewN (a + m) :=
  h.mono fun _ _ ⟨he, hm⟩ => ⟨he, n, hm.symm⟩
theorem key_snoc (xs : List Itm) (k : Nat) (h : k < xs.length) : (xs.take (k + 1)).map Itm.key = (xs.take k).map Itm.key ++ [(xs.getD k default).key] := by
  rw [List.take_succ_eq_append_getElem h, List.map_append, List.map_singleton]
  simp [List.getD, h]
theorem key_ne {xs ys : List Itm} {k : Nat} (hx : k < xs.length) (hy : k < ys.length) (h : (xs.getD k default).key ≠ (ys.getD k default).key) : xs.map Itm.key ≠ ys.map Itm.key := by
  intro he
  have := congrArg (fun l => l[k]?) he
  simp only [List.getElem?_map] at this
  rw [List.getElem?_eq_getElem hx, List.getElem?_eq_getElem hy] at this
  simp at this
  apply h
  simp [List.getD, hx, hy, this]
set_option maxRecDepth 100000 in
set_option maxHeartbeats 2000000 in
theorem sameItems_any (a : Option Addr) (len cap : Nat) (xs : List Itm) (a2 : Option Addr) (len2 cap2 : Nat) (ys : List Itm) (w : World) (h : RdI w a len cap xs) (h2 : RdI w a2 len2 cap2 ys) :
    Calls Try.prog 46 #[.slice a len cap, .slice a2 len2 cap2] w fun e w' => e = .returned (.bool (decide (xs.map Itm.key = ys.map Itm.key))) ∧ ∃ n, w' = w.drewN n := by
  have hl := h.hl
  have hl2 := h2.hl
  have hm := h.hm
  have hc := h.hc
  have hm2 := h2.hm
  have hc2 := h2.hc
  unfold maxLen at hm hm2
  by_cases hne : len = len2
  · subst hne
    have H := Lib.hid h
    have H2 := Lib.hid h2
    have HL := Lib.hid (And.intro hl hl2)
    clear h h2 hl hl2
    obtain ⟨R, hR⟩ : ∃ R, R = decide (xs.map Itm.key = ys.map Itm.key) := ⟨_, rfl⟩
    rw [← hR]
    have HR := Lib.hid hR
    clear hR
    go_enter Try.func46, Try.ntmps46
    go_wp2_with fail
    go_loopw [5] (fun i wr => ∃ k n : Nat, k ≤ len ∧ i = .int .i64 k ∧ wr = w.drewN n ∧ (xs.take k).map Itm.key = (ys.take k).map Itm.key) (fun i _ => len - (intOf i).toNat)
    case atStart => exact ⟨0, 0, Nat.zero_le _, rfl, rfl, rfl⟩
    case round =>
      obtain ⟨k, n, hk, rfl, rfl, heq⟩ := hrel
      by_cases hlt : k < len
      · have hF := H.out
        have hF2 := H2.out
        obtain ⟨b, off, rfl, hcell⟩ := hF.hr (by omega)
        obtain ⟨b2, off2, rfl, hcell2⟩ := hF2.hr (by omega)
        obtain ⟨c0, c1⟩ := hcell k hlt
        obtain ⟨d0, d1⟩ := hcell2 k hlt
        have hx := (H.out.hb (xs.getD k default) (by rw [show xs.getD k default = xs[k]'(by rw [HL.out.1]; exact hlt) from by simp [List.getD, HL.out.1, hlt]]; exact List.getElem_mem _)).r
        have hy := (H2.out.hb (ys.getD k default) (by rw [show ys.getD k default = ys[k]'(by rw [HL.out.2]; exact hlt) from by simp [List.getD, HL.out.2, hlt]]; exact List.getElem_mem _)).r
        have hs1 := key_snoc xs k (by rw [HL.out.1]; exact hlt)
        have hs2 := key_snoc ys k (by rw [HL.out.2]; exact hlt)
        have hkn : (xs.getD k default).key ≠ (ys.getD k default).key → R = false := fun hh => by rw [HR.out, decide_eq_false (key_ne (by rw [HL.out.1]; exact hlt) (by rw [HL.out.2]; exact hlt) hh)]
        obtain ⟨x, hxe⟩ : ∃ x, x = xs.getD k default := ⟨_, rfl⟩
        obtain ⟨y, hye⟩ : ∃ y, y = ys.getD k default := ⟨_, rfl⟩
        rw [← hxe] at c0 c1 hx hs1 hkn
        rw [← hye] at d0 d1 hy hs2 hkn
        have Hx := Lib.hid hx
        have Hy := Lib.hid hy
        have Hs := Lib.hid (show x.key = y.key → (xs.take (k + 1)).map Itm.key = (ys.take (k + 1)).map Itm.key from fun hh => by rw [hs1, hs2, heq, hh])
        have Hkn := Lib.hid hkn
        clear hF hF2 hcell hcell2 hx hy hs1 hs2 hkn hxe hye heq
        have hk0 : (0 : Int) ≤ (k : Int) := by omega
        have hk1 : (k : Int) < (len : Int) := by omega
        by_cases hn : x.n = y.n
        · have hn' : (x.n != y.n) = false := by simp [hn]
          by_cases hxs : x.xs = y.xs
          · have HD : Hid (decide (x.xs = y.xs) = true) := Lib.hid (decide_eq_true hxs)
            have Hs := Lib.hid (Hs.out (by unfold Itm.key; rw [hn, hxs]))
            clear hn hxs
            go_wp2_with fail
            go_quiet ((go_at_call 18; exact quiet_add_left (HD.out ▸ sameBytes_any _ _ _ x.xs _ _ _ y.xs _ (Hx.out.drewN _) (Hy.out.drewN _))))
            go_wp2_with fail
            go_roundw
            case rel => exact ⟨k + 1, _, by omega, by go_num, rfl, Hs.out⟩
            case measure => simp [intOf]; omega
          · have HD : Hid (decide (x.xs = y.xs) = false) := Lib.hid (decide_eq_false hxs)
            have Hr := Lib.hid (Hkn.out (by unfold Itm.key; intro hh; exact hxs (congrArg Prod.snd hh)))
            clear hn hxs
            go_wp2_with fail
            go_quiet ((go_at_call 18; exact quiet_add_left (HD.out ▸ sameBytes_any _ _ _ x.xs _ _ _ y.xs _ (Hx.out.drewN _) (Hy.out.drewN _))))
            go_wp2_with fail
            go_ret
            rw [Hr.out]
            exact ⟨rfl, _, World.drewN_drewN ..⟩
        · have hn' : (x.n != y.n) = true := by simpa using hn
          have Hr := Lib.hid (Hkn.out (by unfold Itm.key; intro hh; exact hn (congrArg Prod.fst hh)))
          clear hn
          go_wp2_with fail
          go_quiet (fail)
          go_wp2_with fail
          go_ret
          rw [Hr.out]
          exact ⟨rfl, _, World.drewN_drewN ..⟩
      · obtain rfl : k = len := by omega
        have Hr : Hid (R = true) := Lib.hid (by
          rw [HR.out]
          rw [List.take_of_length_le (by rw [HL.out.1]; omega), List.take_of_length_le (by rw [HL.out.2]; omega)] at heq
          exact decide_eq_true heq)
        clear heq
        go_wp2_with fail
        go_ret
        rw [Hr.out]
        exact ⟨rfl, _, rfl⟩
  · have hD : decide (xs.map Itm.key = ys.map Itm.key) = false := by
      rw [decide_eq_false_iff_not]
      intro hh
      have := congrArg List.length hh
      simp at this
      omega
    rw [hD]
    have hne' : ((len : Int) != (len2 : Int)) = true := by simp; omega
    clear hD hl hl2 h h2 hne
    go_enter Try.func46, Try.ntmps46
    go_wp2_with fail
    go_ret
    exact ⟨rfl, 0, rfl⟩
end Go.Proofs.Ytlmknpljncpjiaa
