/- Rows of bytes held against each other; the program's Entries. -/
import Derived.Test.YtgcbnaleajccgaaDrK
import Derived.Test.YtgcbnaleajccgaaDrG
namespace Go.Proofs.Ytgcbnaleajccgaa
open Go.ChangeShapes Go.WideShapes Go.ChangeAt Go.RowKit

section
variable {w w' : World} {v : Value} {rs : List (List Nat)}
theorem RwD.form (h : RwD w v rs) : ∃ A c, v = .slice A rs.length c ∧ rs.length ≤ c ∧ c ≤ maxLen := by
  obtain ⟨cs, h1, _⟩ := h.ex
  exact h1.form
theorem RwD.len {A : Option Addr} {n c : Nat} (h : RwD w (.slice A n c) rs) : n = rs.length := by
  obtain ⟨A', c', e, _⟩ := h.form
  injection e with _ e _
theorem RwD.at_ {A : Option Addr} {n c i : Nat} (h : RwD w (.slice A n c) rs) (hi : i < rs.length) : ∃ b o A' q, A = some ⟨b, o, none⟩ ∧ b < w.heap.size ∧ w.cell? ⟨b, o + i, none⟩ = some (.slice A' (rs[i]).length q) ∧ Rd w 1 (.slice A' (rs[i]).length q) (rs[i]).length ((rs[i]).map u8) := by
  obtain ⟨cs, h1, h2, h3⟩ := h.ex
  obtain ⟨A0, c0, e, _⟩ := h1.form
  injection e with e1 e2 e3
  subst e2
  obtain ⟨b, o, rfl, hb, hc⟩ := h1.cells (by omega) (by decide)
  have hci := List.getElem?_eq_getElem (l := cs) (i := i) (by omega)
  have hr := h3 i _ _ hci (List.getElem?_eq_getElem hi)
  obtain ⟨A', q, e, _⟩ := hr.form
  rw [e] at hr hci
  exact ⟨b, o, A', q, rfl, hb, hc i _ hci, hr⟩
end
/-- bytes that are bytes -/
def All8 (rs : List (List Nat)) : Prop := ∀ r ∈ rs, ∀ x ∈ r, x < 256
theorem bL_8 (l : List En) : All8 (bL l) := fun r hr => (bL_all l r hr).2
def ErL (w : World) (rs qs : List (List Nat)) (t : Value) (wr : World) : Prop := ∃ k : Nat, k ≤ rs.length ∧ t = .int .i64 (k : Int) ∧ (∀ i, i < k → rs[i]? = qs[i]?) ∧ wr = w

set_option maxRecDepth 3000 in
set_option maxHeartbeats 3200000 in
theorem eqrows_any (v1 v2 : Value) (rs qs : List (List Nat)) (w : World) (h1 : RwD w v1 rs) (h2 : RwD w v2 qs) (hb1 : All8 rs) (hb2 : All8 qs) :
    Calls Try.prog 29 #[v1, v2, .func (.func 30) #[] #[]] w fun x w' => x = .returned (.bool (decide (rs = qs))) ∧ w = w' := by
  obtain ⟨A1, c1, rfl, hnc1, hcm1⟩ := h1.form
  obtain ⟨A2, c2, rfl, _, _⟩ := h2.form
  obtain ⟨N, hN⟩ : ∃ N, N = rs.length := ⟨_, rfl⟩
  obtain ⟨M, hM⟩ : ∃ N, N = qs.length := ⟨_, rfl⟩
  rw [← hN] at h1 ⊢
  rw [← hM] at h2 ⊢
  have hNI : (N : Int) ≤ 9223372036854775807 := by unfold maxLen at hcm1; omega
  have HP := Lib.hid h1
  have HQ := Lib.hid h2
  have HN := Lib.hid hN
  have HM := Lib.hid hM
  have HB1 := Lib.hid hb1
  have HB2 := Lib.hid hb2
  clear h1 h2 hN hM hb1 hb2 hnc1 hcm1
  by_cases hne : N = M
  · subst hne
    go_enter Try.func29, Try.ntmps29
    go_wp2_with fail
    go_loopw [17] (ErL w rs qs) (fun t _ => N - (intOf t).toNat)
    case atStart => exact ⟨0, Nat.zero_le _, rfl, fun i hi => absurd hi (Nat.not_lt_zero _), rfl⟩
    case round =>
      obtain ⟨k, hk, rfl, hpre, rfl⟩ := hrel
      rw [← HN.out] at hk
      have HPRE := Lib.hid hpre
      clear hpre
      by_cases hlt : k < N
      · have hki : (k : Int) < (N : Int) := by omega
        have hkp : k < rs.length := by rw [← HN.out]; exact hlt
        have hkq : k < qs.length := by rw [← HM.out]; exact hlt
        obtain ⟨b1, o1, a1, q1, rfl, hlb1, g1, r1⟩ := HP.out.at_ hkp
        obtain ⟨b2, o2, a2, q2, rfl, hlb2, g2, r2⟩ := HQ.out.at_ hkq
        have HEQ := Lib.hid (iequal_any _ _ _ _ _ _ wr r1 r2 (HB1.out _ (List.getElem_mem hkp)) (HB2.out _ (List.getElem_mem hkq)))
        have HPQ := Lib.hid (show rs[k]? = some rs[k] ∧ qs[k]? = some qs[k] from ⟨List.getElem?_eq_getElem hkp, List.getElem?_eq_getElem hkq⟩)
        obtain ⟨p, hp⟩ : ∃ p, p = rs[k] := ⟨_, rfl⟩
        obtain ⟨q, hq⟩ : ∃ q, q = qs[k] := ⟨_, rfl⟩
        rw [← hp] at g1 HEQ HPQ
        rw [← hq] at g2 HEQ HPQ
        obtain ⟨n1, hn1⟩ : ∃ n, n = p.length := ⟨_, rfl⟩
        obtain ⟨n2, hn2⟩ : ∃ n, n = q.length := ⟨_, rfl⟩
        rw [← hn1] at g1 HEQ
        rw [← hn2] at g2 HEQ
        obtain ⟨B, hB⟩ : ∃ B, B = decide (p = q) := ⟨_, rfl⟩
        rw [← hB] at HEQ
        have HBB := Lib.hid hB
        have HLT := Lib.hid hlt
        clear hp hq hn1 hn2 hB r1 r2 hkp hkq hlb1 hlb2
        cases B with
        | true =>
          go_wp2_with fail
          refine HEQ.out.mono ?_
          rintro x w8 ⟨rfl, rfl⟩
          go_wp2_with fail
          refine ⟨⟨k + 1, by have := HLT.out; have := HN.out; omega, by go_num, fun i hi => ?_, rfl⟩, by have := HLT.out; simp [intOf] <;> omega⟩
          by_cases e : i = k
          · rw [e, HPQ.out.1, HPQ.out.2, of_decide_eq_true HBB.out.symm]
          · exact HPRE.out i (by omega)
        | false =>
          go_wp2_with fail
          refine HEQ.out.mono ?_
          rintro x w8 ⟨rfl, rfl⟩
          go_wp2_with fail
          go_ret
          refine ⟨?_, rfl⟩
          rw [decide_eq_false]
          · rfl
          · intro e
            have h1 := HPQ.out.1
            rw [e, HPQ.out.2] at h1
            exact of_decide_eq_false HBB.out.symm (Option.some.inj h1).symm
      · obtain rfl : k = N := by omega
        clear hlt hk
        go_wp2_with fail
        go_ret
        refine ⟨?_, rfl⟩
        rw [decide_eq_true]
        · rfl
        · apply List.ext_getElem?
          intro i
          by_cases hi : i < k
          · exact HPRE.out i hi
          · rw [List.getElem?_eq_none (by rw [← HN.out]; omega), List.getElem?_eq_none (by rw [← HM.out]; omega)]
  · have hni : ((N : Int) == (M : Int)) = false := by rw [beq_eq_false_iff_ne]; omega
    have HNE := Lib.hid hne
    clear hne
    go_enter Try.func29, Try.ntmps29
    go_wp2_with fail
    all_goals
      go_ret
      refine ⟨?_, rfl⟩
      rw [decide_eq_false]
      · rfl
      · exact fun e => HNE.out (by rw [HN.out, HM.out, e])
end Go.Proofs.Ytgcbnaleajccgaa
