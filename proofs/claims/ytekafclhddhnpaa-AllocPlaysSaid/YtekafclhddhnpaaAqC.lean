/- The document's map: Load. -/
import Derived.Test.YtekafclhddhnpaaAqB
import Derived.Test.YtekafclhddhnpaaAmF
import Derived.Deep.DeepCutAuto
namespace Go.Proofs.Ytekafclhddhnpaa
open Go.RowKit

/-- what the document's Load answers -/
def LoadQ (w : World) (l : List Nat) (n : Int) (e : Ending) (w' : World) : Prop :=
  (loadOk l n ∧ ∃ d g, e = .returned (.tuple #[.pointer (some ⟨d, 0, none⟩), .int .i64 0]) ∧ Qm w' d g (loadT l n.toNat) ∧ Adv Nul w (Two d g) w') ∨
  (¬ loadOk l n ∧ e = .returned (.tuple #[.pointer none, .int .i64 (if n < 1 ∨ 1024 < n then 2 else 4)]) ∧ Adv Nul w Nul w')
structure QldR (w : World) (l : List Nat) (N d g k : Nat) (T : List Bool) (wr : World) : Prop where
  len : T.length = N
  out : ∀ j, j < k → N ≤ j → hasB l j = false
  inn : ∀ j, j < N → T.getD j false = (decide (j < k) && hasB l j)
  map : Qm wr d g T
  adv : Adv Nul w (Two d g) wr
def QldL (w : World) (l : List Nat) (N d g : Nat) (t8 : Value) (wr : World) : Prop := ∃ (k : Nat) (T : List Bool), t8 = .int .i64 (k : Int) ∧ k ≤ 1024 ∧ QldR w l N d g k T wr
section
variable {w wr w' : World} {l : List Nat} {N d g k : Nat} {T : List Bool}
theorem QldR.start (h : Qm wr d g (List.replicate N false)) (a : Adv Nul w (Two d g) wr) : QldR w l N d g 0 (List.replicate N false) wr :=
  ⟨by simp, fun j hj => absurd hj (by omega), fun j hj => by rw [getD_rep]; simp, h, a⟩
theorem QldR.no (h : QldR w l N d g k T wr) (hb : hasB l k = false) : QldR w l N d g (k + 1) T wr :=
  ⟨h.len, fun j hj hn => by
    by_cases e : j = k
    · rw [e]; exact hb
    · exact h.out j (by omega) hn, fun j hj => by
    rw [h.inn j hj]
    by_cases e : j = k
    · subst e; rw [hb, Bool.and_false, Bool.and_false]
    · congr 1
      by_cases h1 : j < k
      · rw [decide_eq_true h1, decide_eq_true (by omega)]
      · rw [decide_eq_false h1, decide_eq_false (by omega)], h.map, h.adv⟩
theorem QldR.yes (h : QldR w l N d g k T wr) (hb : hasB l k = true) (hk : k < N) : QldR w l N d g (k + 1) (T.set k true) (wr.setCell ⟨g, k, none⟩ (.bool true)) :=
  ⟨by simpa using h.len, fun j hj hn => h.out j (by omega) hn, fun j hj => by
    have hl := h.len
    rw [getD_setT _ _ _ _ (by omega)]
    by_cases e : j = k
    · subst e; rw [if_pos rfl, hb, decide_eq_true (show j < j + 1 by omega)]; rfl
    · rw [if_neg e, h.inn j hj]
      congr 1
      by_cases h1 : j < k
      · rw [decide_eq_true h1, decide_eq_true (by omega)]
      · rw [decide_eq_false h1, decide_eq_false (by omega)], h.map.put k true, h.adv.setCell (p := ⟨g, k, none⟩) (by
    rcases h.adv.into g (.inr rfl) with e | e
    · exact e.elim
    · exact .inr e) _⟩
theorem QldR.last (h : QldR w l N d g 1024 T wr) (hN : N ≤ 1024) : T = loadT l N ∧ noneB l N := by
  refine ⟨?_, fun j h1 h2 => h.out j h2 h1⟩
  apply List.ext_getElem (by rw [h.len, loadT_length])
  intro j h1 h2
  have hj : j < N := by rw [← h.len]; exact h1
  rw [← getD_at h1, ← getD_at h2, h.inn j hj, loadT_at l N j hj, decide_eq_true (by omega)]; rfl
end
theorem bool_shr (x k : Nat) : (((x : Int) / 2 ^ (7 - k % 8)).tmod 2 == 1) = x.testBit (7 - k % 8) := by
  generalize 7 - k % 8 = j
  rw [Nat.testBit_eq_decide_div_mod_eq]
  have h : ((x : Int) / 2 ^ j).tmod 2 = ((x / 2 ^ j % 2 : Nat) : Int) := by
    rw [show (x : Int) / 2 ^ j = ((x / 2 ^ j : Nat) : Int) by push_cast; rfl]
    rfl
  rw [h]
  by_cases e : x / 2 ^ j % 2 = 1
  · rw [e]; rfl
  · rw [decide_eq_false e, show x / 2 ^ j % 2 = 0 by omega]; rfl

set_option maxRecDepth 3000 in
set_option maxHeartbeats 3200000 in
theorem qload_any (v : Value) (l : List Nat) (n : Int) (w : World) (h : In w v l) : Calls Try.prog 25 #[v, .int .i64 n] w (LoadQ w l n) := by
  by_cases hn : n < 1 ∨ 1024 < n
  · have HF := Lib.hid (show ∀ w', w = w' → LoadQ w l n (.returned (.tuple #[.pointer none, .int .i64 2])) w' from fun w' e => .inr ⟨fun k => by unfold loadOk at k; omega, by rw [if_pos hn], by rw [← e]; exact Adv.refl _ _⟩)
    have HN := Lib.hid (qnew_no n hn w)
    clear h hn
    go_enter Try.func25, Try.ntmps25
    go_wp2_with (first
      | (go_at_call 8; refine HN.out.mono ?_; rintro e w1 ⟨rfl, rfl⟩)
      | fail)
    go_ret2
    exact HF.out _ rfl
  · obtain ⟨N, rfl⟩ : ∃ N : Nat, n = (N : Int) := ⟨n.toNat, by omega⟩
    have h1 : 1 ≤ N := by omega
    have h2 : N ≤ 1024 := by omega
    have HNY := Lib.hid (qnew_yes N h1 h2 w)
    have HNo := Lib.hid (show ¬ loadOk l (N : Int) → ∀ w', Adv Nul w Nul w' → LoadQ w l (N : Int) (.returned (.tuple #[.pointer none, .int .i64 4])) w' from fun k w' a => .inr ⟨k, by rw [if_neg hn], a⟩)
    obtain ⟨A, c, rfl, hlc, hcm⟩ := h.rd.form
    by_cases hl : l.length = 128
    · have HLt := Lib.hid h.lt
      obtain ⟨b, o, rfl, hb, hc⟩ := h.rd.cells (by omega) (by decide)
      have HR := Lib.hid (show ∀ w' F q, Adv Nul w F w' → q < 128 → w'.cell? ⟨b, o + q, none⟩ = some (.int .u8 (l.getD q 0 : Int)) from fun w' F q a hq => (World.cell?_of_block (a.block b hb (fun h => h))).trans (by
        rw [hc q _ (by rw [List.getElem?_map, List.getElem?_eq_getElem (by omega)]; rfl), List.getD_eq_getElem?_getD, List.getElem?_eq_getElem (by omega)]
        rfl))
      have HYes := Lib.hid (show ∀ w' d g T, QldR w l N d g 1024 T w' → LoadQ w l (N : Int) (.returned (.tuple #[.pointer (some ⟨d, 0, none⟩), .int .i64 0])) w' from fun w' d g T k => by
        obtain ⟨e1, e2⟩ := k.last h2
        exact .inl ⟨⟨by omega, by omega, hl, by simpa using e2⟩, d, g, rfl, by have := k.map; rw [e1] at this; simpa using this, k.adv⟩)
      have HNo4 := Lib.hid (show ∀ k, N ≤ k → k < 1024 → hasB l k = true → ∀ w', Adv Nul w Nul w' → LoadQ w l (N : Int) (.returned (.tuple #[.pointer none, .int .i64 4])) w' from fun k hk1 hk2 hk3 w' a => HNo.out (fun k' => by
        have := k'.2.2.2 k (by simpa using hk1) hk2
        rw [hk3] at this; cases this) w' a)
      rw [hl]
      have H2 := Lib.hid h2
      have h2' : (N : Int) ≤ 1024 := by omega
      clear hc hb h hl hlc hcm hn h1 h2 HNo
      go_enter Try.func25, Try.ntmps25
      go_wp2_with (first
        | (go_at_call 8; refine HNY.out.mono ?_; rintro e w1 ⟨d, g, rfl, a1, a2⟩; have HS := Lib.hid (QldR.start (l := l) a1 a2); clear a1 a2)
        | fail)
      go_loopw [8] (QldL w l N d g) (fun t _ => 1024 - (intOf t).toNat)
      case atStart => exact ⟨0, _, rfl, Nat.zero_le _, HS.out⟩
      case round =>
        obtain ⟨k, T, rfl, hk, hr⟩ := hrel
        have HQ := Lib.hid hr
        clear hr
        by_cases hlt : k < 1024
        · have hk' : (k : Int) < 1024 := by omega
          have hk0 : (0 : Int) ≤ (k : Int) := by omega
          obtain ⟨q, hq⟩ : ∃ q, q = k / 8 := ⟨_, rfl⟩
          have hqi := wrap_quo8 k (by omega)
          rw [← hq] at hqi
          have hq2 : (q : Int) < 128 := by omega
          have hq3 : (0 : Int) ≤ (q : Int) := by omega
          have cb := HR.out wr _ q HQ.out.adv (by omega)
          obtain ⟨x, hx⟩ : ∃ x, x = l.getD q 0 := ⟨_, rfl⟩
          rw [← hx] at cb
          have HB := Lib.hid (bool_shr x k)
          have e : hasB l k = x.testBit (7 - k % 8) := by unfold hasB; rw [hx, hq]
          rw [← e] at HB
          obtain ⟨B, hB⟩ : ∃ B, B = hasB l k := ⟨_, rfl⟩
          rw [← hB] at HB
          have HBB := Lib.hid hB.symm
          clear e hB
          have HLT := Lib.hid hlt
          clear hx hq hlt
          go_upto_region 10 with (fail)
          rw [HB.out]
          clear HB cb hqi hq2 hq3 hk
          cases B
          · go_wp2_with fail
            exact ⟨⟨k + 1, T, by simp, by have := HLT.out; omega, HQ.out.no HBB.out⟩, by simp [intOf]; omega⟩
          · by_cases hkN : k < N
            · have hkN' : (k : Int) < (N : Int) := by omega
              obtain ⟨cg, fg⟩ := HQ.out.map.row.at_ (k := k) (by have := HQ.out.len; omega)
              have c0 := HQ.out.map.c0
              rw [HQ.out.len] at c0
              rw [HQ.out.inn k hkN, decide_eq_false (show ¬ k < k by omega), Bool.false_and] at cg
              clear HLt HR HYes HNo4 HNY HS
              clear hkN hk'
              go_wp2_with fail
              exact ⟨⟨k + 1, T.set k true, by simp, by have := HLT.out; omega, HQ.out.yes HBB.out (by omega)⟩, by simp [intOf]; omega⟩
            · have hkN' : (N : Int) ≤ (k : Int) := by omega
              have HF := Lib.hid (HNo4.out k (by omega) HLT.out HBB.out wr HQ.out.adv.none_)
              clear hkN
              go_wp2_with fail
              go_ret2
              exact HF.out
        · obtain rfl : k = 1024 := by omega
          have HF := Lib.hid (HYes.out wr d g T HQ.out)
          clear hk
          go_wp2_with fail
          go_ret2
          exact HF.out
    · have HN4 := Lib.hid (HNo.out (fun k => hl k.2.2.1))
      have hl' : ((l.length : Nat) : Int) ≠ 128 := by omega
      obtain ⟨m, hm⟩ : ∃ m, m = l.length := ⟨_, rfl⟩
      rw [← hm] at hl' ⊢
      clear hn h1 h2 h hl hlc hcm hm
      go_enter Try.func25, Try.ntmps25
      go_wp2_with (first
        | (go_at_call 8; refine HNY.out.mono ?_; rintro e w1 ⟨d, g, rfl, a1, a2⟩; have HA2 := Lib.hid a2; clear a1 a2)
        | fail)
      go_ret2
      exact HN4.out _ HA2.out.none_
end Go.Proofs.Ytekafclhddhnpaa
