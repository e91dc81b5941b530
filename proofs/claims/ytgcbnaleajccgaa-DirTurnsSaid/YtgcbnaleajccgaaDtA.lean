/- Names compared; where a name stands: the program's Find. -/
import Derived.Test.YtgcbnaleajccgaaDtM
import Derived.Test.YtgcbnaleajccgaaDrS
import Derived.Lib.Bytealg
import Derived.Lib.Walk
namespace Go.Proofs.Ytgcbnaleajccgaa
open Go.ChangeShapes Go.WideShapes Go.ChangeAt Go.RowKit

def cI (a b : ByteArray) : Int := Lib.compareBytes a.data.toList b.data.toList
theorem cmpB : ∀ (a b : List UInt8), (Lib.compareBytes a b < 0 ↔ a < b) ∧ (Lib.compareBytes a b = 0 ↔ a = b) ∧ -1 ≤ Lib.compareBytes a b ∧ Lib.compareBytes a b ≤ 1
  | [], [] => by simp [Lib.compareBytes]
  | [], _ :: _ => by simp [Lib.compareBytes]
  | _ :: _, [] => by simp [Lib.compareBytes]
  | a :: x, b :: y => by
    have ih := cmpB x y
    unfold Lib.compareBytes
    by_cases h1 : a < b
    · have h2 : a ≠ b := fun e => by subst e; exact UInt8.lt_irrefl a h1
      simp [h1, h2, List.cons_lt_cons_iff]
    · by_cases h2 : b < a
      · have h3 : a ≠ b := fun e => by subst e; exact UInt8.lt_irrefl a h2
        simp [h1, h2, h3, List.cons_lt_cons_iff]
      · obtain rfl : a = b := UInt8.le_antisymm (UInt8.not_lt.1 h2) (UInt8.not_lt.1 h1)
        simpa [List.cons_lt_cons_iff] using ih
theorem cI_lt (a b : ByteArray) : decide (cI a b < 0) = decide (ltS a b) := by
  unfold cI ltS
  exact decide_eq_decide.2 (cmpB _ _).1
theorem cI_eq (a b : ByteArray) : (cI a b == 0) = decide (a = b) := by
  have h := (cmpB a.data.toList b.data.toList).2.1
  by_cases e : a = b
  · subst e; rw [decide_eq_true rfl]; unfold cI; rw [h.2 rfl]; rfl
  · rw [decide_eq_false e, beq_eq_false_iff_ne]; exact fun c => e (data_ext (h.1 c))
theorem cI_wf (a b : ByteArray) : -1 ≤ cI a b ∧ cI a b ≤ 1 := (cmpB _ _).2.2

set_option maxRecDepth 3000 in
theorem cmps_any (a b : ByteArray) (w : World) : Calls Try.prog 51 #[.string a, .string b] w fun e w' => e = .returned (.int .i64 (cI a b)) ∧ w = w' := by
  go_enter Try.func51, Try.ntmps51
  go_wp2
  rw [run_callFunc_extern Try.func59 (by kernel_rfl) (by kernel_rfl) (by kernel_rfl) (e := Extern.BytealgCompare.compare) (by kernel_rfl), Lib.run_compareString]
  simp only [Result.andThen]
  rw [Oper.upon_value]
  go_wp2
  go_ret
  exact ⟨rfl, rfl⟩
set_option maxRecDepth 3000 in
theorem scmp_any (a b : ByteArray) (w : World) : Calls Try.prog 35 #[.string a, .string b] w fun e w' => e = .returned (.int .i64 (cI a b)) ∧ w = w' := by
  go_enter Try.func35, Try.ntmps35
  go_wp2_with (go_at_call 51; refine (cmps_any _ _ _).mono ?_; rintro e w' ⟨rfl, rfl⟩)
  go_ret
  exact ⟨rfl, rfl⟩
set_option maxRecDepth 3000 in
theorem dcmp_any (e : En) (s : ByteArray) (w : World) : Calls Try.prog 34 #[.agg (ea e), .string s] w fun x w' => x = .returned (.int .i64 (cI e.s s)) ∧ Adv Nul w Nul w' := by
  have HA := Lib.hid ((Adv.refl Nul w).alloc (.cells (ea e) 46))
  obtain ⟨s0, i, g, k⟩ := e
  have c0 : (w.alloc (.cells (ea ⟨s0, i, g, k⟩) 46)).cell? ⟨w.heap.size, 0, none⟩ = some (.string s0) := (Blk.new w 46 (ea ⟨s0, i, g, k⟩)).e4.all.1
  go_enter Try.func34, Try.ntmps34
  go_wp2_with (first
    | (go_at_call 35; refine (scmp_any _ _ _).mono ?_; rintro e w' ⟨rfl, rfl⟩)
    | fail)
  go_ret
  exact ⟨rfl, HA.out⟩
def BiL (w : World) (l : List En) (s : ByteArray) (t9 t10 : Value) (wr : World) : Prop := ∃ i j : Nat, i ≤ j ∧ j ≤ l.length ∧ t9 = .int .i64 (i : Int) ∧ t10 = .int .i64 (j : Int) ∧ (∀ (k : Nat) (x : En), l[k]? = some x → k < i → ltS x.s s) ∧ (∀ (k : Nat) (x : En), l[k]? = some x → j ≤ k → ¬ ltS x.s s) ∧ Adv Nul w Nul wr
def FinR (w : World) (l : List En) (s : ByteArray) (x : Ending) (w' : World) : Prop := ∃ (p : Nat) (F : Bool), FindP l s p F ∧ x = .returned (.tuple #[.int .i64 (p : Int), .bool F]) ∧ Adv Nul w Nul w'

set_option maxRecDepth 3000 in
set_option maxHeartbeats 3200000 in
theorem slbin_any (v : Value) (l : List En) (s : ByteArray) (w : World) (h : EnR w v l) (hr : Ris l) (hl : l.length ≤ 1000) : Calls Try.prog 33 #[v, .string s, .func (.func 34) #[] #[]] w (FinR w l s) := by
  obtain ⟨A, c, rfl, hnc, hcm⟩ := h.form
  obtain ⟨N, hN⟩ : ∃ N, N = l.length := ⟨_, rfl⟩
  rw [← hN] at h hl ⊢
  have HH := Lib.hid h
  have HN := Lib.hid hN
  have HR := Lib.hid hr
  have hn9 : (N : Int) ≤ 1000 := by omega
  clear h hr hnc hcm hN hl
  go_enter Try.func33, Try.ntmps33
  go_wp2_with fail
  go_loopw [9, 10] (BiL w l s) (fun t u _ => (intOf u).toNat - (intOf t).toNat)
  case atStart => exact ⟨0, N, Nat.zero_le _, by rw [HN.out]; exact Nat.le_refl _, rfl, rfl, fun k x _ h => absurd h (Nat.not_lt_zero _), fun k x h1 h2 => absurd (List.getElem?_eq_some_iff.1 h1).1 (by rw [← HN.out]; omega), Adv.refl _ _⟩
  case round =>
    obtain ⟨i, j, hij, hj, rfl, rfl, hlo, hhi, ha⟩ := hrel
    rw [← HN.out] at hj
    have HLO := Lib.hid hlo
    have HHI := Lib.hid hhi
    have HA := Lib.hid ha
    clear hlo hhi ha
    by_cases hlt : i < j
    · have hii : (i : Int) < (j : Int) := by omega
      obtain ⟨m, hm⟩ : ∃ m, m = (i + j) / 2 := ⟨_, rfl⟩
      have hm1 : i ≤ m ∧ m < j := by omega
      have hjn : (j : Int) ≤ 1000 := by omega
      go_upto_region 5 with (fail)
      rw [show ((i : Int) + (j : Int)) / 2 = (m : Int) by omega]
      have hml : m < l.length := by rw [← HN.out]; omega
      have hmN : (m : Int) < (N : Int) := by rw [HN.out]; omega
      obtain ⟨b, o, rfl, hb, g0, g1, g2, g3⟩ := (HH.out.step HA.out).at_ HN.out hml
      have hx := List.getElem?_eq_getElem hml
      obtain ⟨e, he⟩ : ∃ e, e = l[m] := ⟨_, rfl⟩
      rw [← he] at g0 g1 g2 g3 hx
      obtain ⟨q, hq⟩ : ∃ q, q = cI e.s s := ⟨_, rfl⟩
      have HC := Lib.hid (dcmp_any e s wr)
      rw [← hq] at HC
      have HX := Lib.hid hx
      have HIJ := Lib.hid (show i ≤ m ∧ m < j ∧ j ≤ N from ⟨hm1.1, hm1.2, hj⟩)
      have hq2 : (decide (q < 0)) = decide (ltS e.s s) := by rw [hq, cI_lt]
      have HQ := Lib.hid hq2
      clear hml he hq hq2 hx hm hm1 hb hij hj hlt hii hjn
      obtain ⟨s0, i0, g, k0⟩ := e
      simp only at g0 g1 g2 g3 HQ
      by_cases hlt : ltS s0 s
      · have hq0 : q < 0 := by have := HQ.out; rw [decide_eq_true hlt] at this; exact of_decide_eq_true this
        have HLT := Lib.hid hlt
        clear hlt
        go_wp2_with (first
          | (go_at_call 34; refine HC.out.mono ?_; rintro x w2 ⟨rfl, a2⟩; have HA2 := Lib.hid (HA.out.trans a2); clear a2)
          | fail)
        refine ⟨⟨m + 1, j, by have := HIJ.out; omega, by rw [← HN.out]; exact HIJ.out.2.2, by go_num, rfl, fun k x hx hk => ?_, HHI.out, HA2.out⟩, by have := HIJ.out; simp [intOf] <;> omega⟩
        by_cases e : k = m
        · subst e; rw [HX.out] at hx; rw [← Option.some.inj hx]; exact HLT.out
        · exact ltS_trans (HR.out.lt hx HX.out (by omega)) HLT.out
      · have hq0 : ¬ q < 0 := by have := HQ.out; rw [decide_eq_false hlt] at this; exact of_decide_eq_false this
        have HLT := Lib.hid hlt
        clear hlt
        go_wp2_with (first
          | (go_at_call 34; refine HC.out.mono ?_; rintro x w2 ⟨rfl, a2⟩; have HA2 := Lib.hid (HA.out.trans a2); clear a2)
          | fail)
        refine ⟨⟨i, m, by have := HIJ.out; omega, by have := HIJ.out; have := HN.out; omega, rfl, rfl, HLO.out, fun k x hx hk => ?_, HA2.out⟩, by have := HIJ.out; simp [intOf] <;> omega⟩
        by_cases e : k = m
        · subst e; rw [HX.out] at hx; rw [← Option.some.inj hx]; exact HLT.out
        · exact fun c => HLT.out (ltS_trans (HR.out.lt HX.out hx (by omega)) c)
    · obtain rfl : j = i := by omega
      clear hij hlt
      by_cases hjN : j < N
      · have hjl : j < l.length := by rw [← HN.out]; exact hjN
        have hji : (j : Int) < (N : Int) := by omega
        obtain ⟨b, o, rfl, hb, g0, g1, g2, g3⟩ := (HH.out.step HA.out).at_ HN.out hjl
        have hx := List.getElem?_eq_getElem hjl
        obtain ⟨e, he⟩ : ∃ e, e = l[j] := ⟨_, rfl⟩
        rw [← he] at g0 g1 g2 g3 hx
        obtain ⟨q, hq⟩ : ∃ q, q = cI e.s s := ⟨_, rfl⟩
        have HC := Lib.hid (dcmp_any e s wr)
        rw [← hq] at HC
        obtain ⟨F, hF⟩ : ∃ F, F = decide (e.s = s) := ⟨_, rfl⟩
        have hqF : (q == 0) = F := by rw [hF, hq, cI_eq]
        have HF := Lib.hid (show FindP l s j F from ⟨by rw [← HN.out]; exact hj, HLO.out, HHI.out, by
          rw [hF, hx]
          constructor
          · exact fun h => ⟨e, rfl, of_decide_eq_true h⟩
          · rintro ⟨y, h1, h2⟩; rw [← Option.some.inj h1] at h2; exact decide_eq_true h2⟩)
        clear hjl he hq hx hb hjN hF hj
        obtain ⟨s0, i0, g, k0⟩ := e
        simp only at g0 g1 g2 g3
        go_wp2_with (first
          | (go_at_call 34; refine HC.out.mono ?_; rintro x w2 ⟨rfl, a2⟩; have HA2 := Lib.hid (HA.out.trans a2); clear a2)
          | fail)
        go_ret2
        exact ⟨j, F, HF.out, rfl, HA2.out⟩
      · obtain rfl : j = N := by omega
        have HF := Lib.hid (show FindP l s j false from ⟨by rw [← HN.out]; exact hj, HLO.out, HHI.out, by
          constructor
          · exact fun h => by cases h
          · rintro ⟨y, h1, _⟩; have := (List.getElem?_eq_some_iff.1 h1).1; rw [← HN.out] at this; omega⟩)
        clear hjN hj
        go_wp2_with fail
        go_ret2
        exact ⟨j, false, HF.out, rfl, HA.out⟩
set_option maxRecDepth 3000 in
theorem find_any (v : Value) (l : List En) (s : ByteArray) (w : World) (h : EnR w v l) (hr : Ris l) (hl : l.length ≤ 1000) : Calls Try.prog 19 #[v, .string s] w (FinR w l s) := by
  have HB := Lib.hid (slbin_any v l s w h hr hl)
  clear h
  go_enter Try.func19, Try.ntmps19
  go_wp2_with (first
    | (go_at_call 33; refine HB.out.mono ?_; rintro x w2 ⟨p, F, hf, rfl, a2⟩; have HF := Lib.hid hf; have HA2 := Lib.hid a2; clear a2 hf)
    | fail)
  go_ret2
  exact ⟨p, F, HF.out, rfl, HA2.out⟩
end Go.Proofs.Ytgcbnaleajccgaa
