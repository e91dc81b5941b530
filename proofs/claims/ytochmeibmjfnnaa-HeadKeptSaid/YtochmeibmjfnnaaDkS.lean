/- The document's Sector; bytes compared; the sectors' lives. -/
import Derived.Test.YtochmeibmjfnnaaDkX
import Derived.Deep.QuietTactic
import Derived.BigQuiet
namespace Go.Proofs.Ytochmeibmjfnnaa
open Go.RowKit

/-- bytes cut, or with noughts behind -/
def sec (l : List Nat) : List Nat := l.take 128 ++ List.replicate (128 - l.length) 0
theorem sec_length (l : List Nat) : (sec l).length = 128 := by simp [sec]; omega

def SecRel (w : World) (b : List Nat) (t : Value) (wr : World) : Prop :=
  ∃ k F, b.length ≤ k ∧ k ≤ 128 ∧ Sl wr F 5 1 t k ((b ++ List.replicate (k - b.length) 0).map u8) ∧ Adv Nul w F wr

def lenOfV : Value → Nat
  | .slice _ n _ => n
  | _ => 0

set_option maxRecDepth 3000 in
set_option maxHeartbeats 800000 in
theorem sector_any (v : Value) (l : List Nat) (w : World) (h : In w v l) :
    Calls Try.prog 12 #[v] w fun e w' => ∃ v' F, e = .returned v' ∧ Sl w' F 5 1 v' 128 ((sec l).map u8) ∧ Adv Nul w F w' := by
  obtain ⟨i0, hi, hz0, hz1, hz2⟩ := info_parts Try.infoU8
  have HH := Lib.hid h
  clear h
  go_enter Try.func12, Try.ntmps12
  go_wp2_with (first
    | (go_at_call 32; refine (cut_any v l 128 _ HH.out (by decide)).mono ?_; rintro e w1 ⟨v1, rfl, h1, rfl⟩; have H1 := Lib.hid h1; clear h1)
    | (go_at_call 31; refine (copy_any v1 _ (l.take 128) _ H1.out.rd (by simp; omega)).mono ?_; rintro e w2 ⟨v2, F2, rfl, h2, a2⟩; have H2 := Lib.hid h2; have A2 := Lib.hid a2; clear h2 a2)
    | fail)
  have hb : (l.take 128).length ≤ 128 := by simp; omega
  have hse : l.take 128 ++ List.replicate (128 - (l.take 128).length) 0 = sec l := by
    unfold sec
    rw [List.length_take]
    congr 2
    omega
  obtain ⟨b, hbe⟩ : ∃ b, b = l.take 128 := ⟨_, rfl⟩
  rw [← hbe] at H2 hb hse
  have HB := Lib.hid hb
  have HSE := Lib.hid hse
  clear hb hse hbe
  go_loopw [3] (SecRel w b) (fun t _ => 128 - lenOfV t)
  case atStart => exact ⟨_, F2, Nat.le_refl _, HB.out, by simpa using H2.out, A2.out⟩
  case round =>
    obtain ⟨k, F, hlo, hk, hS, hA⟩ := hrel
    obtain ⟨a5, c5, rfl, _, _⟩ := hS.form0
    have HS := Lib.hid hS
    have HA := Lib.hid hA
    have hown := hS.own
    have HLO := Lib.hid hlo
    clear hS hA hlo
    by_cases hlt : k < 128
    · have hki : (k : Int) < 128 := by omega
      have HLT := Lib.hid hlt
      have HK := Lib.hid hk
      clear hlt hk
      go_wp2_with (first
        | (at_builtin; refine wpList_append_own_at _ rfl (.tmp 10) (.tmp 11) 33 rfl 0 5 i0 (.int .u8 0) 1 1 Try.underlying33 hi hz0 hz1 hz2 rfl (by decide) (.slice a5 k c5) k _ rfl (hown.alloc _) ⟨wr.heap.size, 0, none⟩ 1 1 [_] rfl rfl (cell_one_new _ _ _) ?c2 ?c3 ?c4 (Nat.zero_le _) ?c5)
        | fail)
      case c2 => intro u hu; simp at hu; subst hu; rfl
      case c3 => have := HLT.out; unfold maxLen; omega
      case c4 => have := HLT.out; omega
      case c5 =>
        intro v' w1 hown1 hg1 _ hat1
        obtain ⟨h1, h2⟩ := one_grown HS.out HA.out hown1 hg1 hat1 (by omega)
        obtain ⟨a6, c6, rfl, _, _⟩ := h1.form0
        have H1 := Lib.hid h1
        have H2 := Lib.hid h2
        clear h1 h2 hown1 hg1 hat1 hown
        go_wp2
        have hlt := HLT.out
        refine ⟨⟨k + 1, _, by have := HLO.out; omega, by omega, ?_, H2.out⟩, by simp [lenOfV]; omega⟩
        have e : k + 1 - b.length = (k - b.length) + 1 := by have := HLO.out; omega
        rw [e, List.replicate_succ']
        simp only [List.map_append, List.map_replicate, List.map_cons, List.map_nil]
        exact H1.out
    · obtain rfl : k = 128 := by omega
      clear hown
      go_wp2
      go_ret
      have h := HS.out
      rw [HSE.out] at h
      exact ⟨_, F, rfl, h, HA.out⟩

set_option maxRecDepth 3000 in
set_option maxHeartbeats 800000 in
theorem same_any (v1 v2 : Value) (n1 n2 : Nat) (l1 l2 : List Nat) (w : World) (h1 : Rd w 1 v1 n1 (l1.map u8)) (h2 : Rd w 1 v2 n2 (l2.map u8)) :
    Calls Try.prog 73 #[v1, v2] w fun e w' => e = .returned (.bool (decide (l1 = l2))) ∧ (∃ k, w' = w.drewN k) := by
  have hl1 : l1.length = n1 := by obtain ⟨_, _, _, _, _, h, _⟩ := h1; simpa using h
  have hl2 : l2.length = n2 := by obtain ⟨_, _, _, _, _, h, _⟩ := h2; simpa using h
  by_cases hn : n1 = n2
  · subst hn
    obtain ⟨A1, c1, rfl, _, _⟩ := h1.form
    obtain ⟨A2, c2, rfl, _, hc2⟩ := h2.form
    unfold maxLen at hc2
    have H1 := Lib.hid h1
    have H2 := Lib.hid h2
    have HL1 := Lib.hid hl1
    have HL2 := Lib.hid hl2
    clear h1 h2 hl1 hl2
    go_enter Try.func73, Try.ntmps73
    go_wp2_with fail
    go_loopw [5] (fun t wr => ∃ k : Nat, t = .int .i64 ((k : Nat) : Int) ∧ k ≤ n1 ∧ l1.take k = l2.take k ∧ ∃ j, wr = w.drewN j) (fun t _ => n1 - (intOf t).toNat)
    case atStart => exact ⟨0, rfl, Nat.zero_le _, rfl, 0, rfl⟩
    case round =>
      obtain ⟨k, rfl, hk, htk, j, rfl⟩ := hrel
      have HT := Lib.hid htk
      clear htk
      by_cases hlt : k < n1
      · obtain ⟨b1, o1, rfl, _, g1⟩ := H1.out.cells (by omega) (by decide)
        obtain ⟨b2, o2, rfl, _, g2⟩ := H2.out.cells (by omega) (by decide)
        have hk1 : k < l1.length := by have := HL1.out; omega
        have hk2 : k < l2.length := by have := HL2.out; omega
        have c1' : w.cell? ⟨b1, o1 + k, none⟩ = some (.int .u8 (l1[k] : Int)) := g1 k _ (by rw [List.getElem?_map, List.getElem?_eq_getElem hk1]; rfl)
        have c2' : w.cell? ⟨b2, o2 + k, none⟩ = some (.int .u8 (l2[k] : Int)) := g2 k _ (by rw [List.getElem?_map, List.getElem?_eq_getElem hk2]; rfl)
        have hnext : l1[k] = l2[k] → l1.take (k + 1) = l2.take (k + 1) := fun e => by
          rw [List.take_succ_eq_append_getElem hk1, List.take_succ_eq_append_getElem hk2, HT.out, e]
        have hdiff : l1[k] ≠ l2[k] → l1 ≠ l2 := fun e h => by subst h; exact e rfl
        obtain ⟨x, hx⟩ : ∃ x, x = l1[k] := ⟨_, rfl⟩
        obtain ⟨y, hy⟩ : ∃ y, y = l2[k] := ⟨_, rfl⟩
        rw [← hx] at c1' hnext hdiff
        rw [← hy] at c2' hnext hdiff
        have HN := Lib.hid hnext
        have HD := Lib.hid hdiff
        clear g1 g2 hx hy hk1 hk2 hnext hdiff
        by_cases hxy : x = y
        · have HX := Lib.hid (HN.out hxy)
          subst hxy
          go_wp2_with fail
          go_quiet (fail)
          go_wp2
          exact ⟨⟨k + 1, by simp, by omega, HX.out, _, rfl⟩, by simp [intOf]; omega⟩
        · have HX := Lib.hid (HD.out hxy)
          have hne : ((x : Int) != (y : Int)) = true := by rw [bne_iff_ne]; omega
          clear hxy
          go_wp2_with fail
          go_quiet (fail)
          go_wp2
          go_ret
          rw [decide_eq_false HX.out]
          exact ⟨rfl, j + nq, World.drewN_drewN _ _ _⟩
      · obtain rfl : k = n1 := by omega
        have e : l1 = l2 := by
          have h := HT.out
          rwa [List.take_of_length_le (by have := HL1.out; omega), List.take_of_length_le (by have := HL2.out; omega)] at h
        have HE := Lib.hid e
        clear e
        go_wp2
        go_ret
        rw [decide_eq_true HE.out]
        exact ⟨rfl, _, rfl⟩
  · obtain ⟨A1, c1, rfl, _, _⟩ := h1.form
    obtain ⟨A2, c2, rfl, _, hc2⟩ := h2.form
    have hne : ((n1 : Int) != (n2 : Int)) = true := by rw [bne_iff_ne]; omega
    have HD : Hid (l1 ≠ l2) := by intro h; subst h; omega
    clear h1 h2 hl1 hl2
    go_enter Try.func73, Try.ntmps73
    go_wp2_with fail
    go_ret
    rw [decide_eq_false HD.out]
    exact ⟨rfl, 0, rfl⟩
end Go.Proofs.Ytochmeibmjfnnaa
