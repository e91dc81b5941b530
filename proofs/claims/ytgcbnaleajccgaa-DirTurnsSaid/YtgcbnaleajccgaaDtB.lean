/- What stands ahead of a name's place, and behind it; one more. -/
import Derived.Test.YtgcbnaleajccgaaDtA
import Derived.Test.YtgcbnaleajccgaaDrQ
import Derived.ArgAppend
import Derived.Deep.Slices
import Derived.Deep.Fields
import Derived.BigQuiet
import Derived.Deep.QuietTactic
namespace Go.Proofs.Ytgcbnaleajccgaa
open Go.ChangeShapes Go.WideShapes Go.ChangeAt Go.RowKit

theorem EnR.tfront {w : World} {A : Option Addr} {N c c' p : Nat} {l : List En} (h : EnR w (.slice A N c) l) (hN : N = l.length) (hp : p ≤ N) (h1 : p ≤ c') (h2 : c' ≤ maxLen) (h3 : A = none → c' = 0) : EnR w (.slice A p c') (l.take p) := by
  obtain ⟨⟨A', k, e, a1, a2, a3, a4, a5⟩, hs⟩ := h
  injection e with e1 e2 e3
  subst e1 e3
  have e : (l.take p).length = p := by rw [List.length_take]; omega
  refine ⟨⟨A, c', by rw [e], by rw [e]; exact h1, h2, by rw [ecs_length], h3, fun h0 => ?_⟩, fun x hx => hs x (List.mem_of_mem_take hx)⟩
  rw [e] at h0
  obtain ⟨ad, rfl, hb, hc⟩ := a5 (by omega)
  refine ⟨ad, rfl, hb, fun j u hu => hc j u ?_⟩
  rw [ecs_take, List.getElem?_take] at hu
  split at hu
  · exact hu
  · cases hu
theorem EnR.tback {w : World} {ad a' : Addr} {N c p : Nat} {l : List En} (h : EnR w (.slice (some ad) N c) l) (hN : N = l.length) (hp : p ≤ N) (hA : p < N → a'.block = ad.block ∧ ∀ j, a'.add j = ad.add (p * 4 + j)) : EnR w (.slice (some a') (N - p) (c - p)) (l.drop p) := by
  obtain ⟨⟨A', k, e, a1, a2, a3, a4, a5⟩, hs⟩ := h
  injection e with e1 e2 e3
  subst e3
  have e : (l.drop p).length = N - p := by rw [List.length_drop]; omega
  refine ⟨⟨some a', c - p, by rw [e], by rw [e]; omega, by omega, by rw [ecs_length], fun h => (by cases h), fun h0 => ?_⟩, fun x hx => hs x (List.mem_of_mem_drop hx)⟩
  rw [e] at h0
  obtain ⟨ad', e', hb, hc⟩ := a5 (by omega)
  rw [← e1] at e'
  obtain rfl := Option.some.inj e'
  obtain ⟨k1, k2⟩ := hA (by omega)
  refine ⟨a', rfl, by rw [k1]; exact hb, fun j u hu => ?_⟩
  rw [k2]
  refine hc _ u ?_
  rwa [ecs_drop, List.getElem?_drop] at hu
def bh (l : List En) (p : Nat) (F : Bool) : List En := l.drop (if F then p + 1 else p)
structure ArR (w : World) (l : List En) (s : ByteArray) (x : Ending) (w' : World) : Prop where
  ex : ∃ (p : Nat) (F : Bool) (A1 A2 : Option Addr) (c2 : Nat), FindP l s p F ∧ x = .returned (.tuple #[.slice A1 p p, .slice A2 (bh l p F).length c2]) ∧ EnR w' (.slice A1 p p) (l.take p) ∧ EnR w' (.slice A2 (bh l p F).length c2) (bh l p F) ∧ Adv Nul w Nul w'

set_option maxRecDepth 3000 in
set_option maxHeartbeats 3200000 in
theorem around_any (v : Value) (l : List En) (s : ByteArray) (w : World) (h : EnR w v l) (hr : Ris l) (hl : l.length ≤ 1000) : Calls Try.prog 36 #[v, .string s] w (ArR w l s) := by
  have HB := Lib.hid (find_any v l s w h hr hl)
  obtain ⟨A, c, rfl, hnc, hcm⟩ := h.form
  obtain ⟨N, hN⟩ : ∃ N, N = l.length := ⟨_, rfl⟩
  rw [← hN] at h hl HB hnc ⊢
  have HH := Lib.hid h
  have HN := Lib.hid hN
  unfold FinR at HB
  have hn9 : (N : Int) ≤ 1000 := by omega
  have hci : (N : Int) ≤ (c : Int) ∧ (c : Int) ≤ 9223372036854775807 := by unfold maxLen at hcm; omega
  obtain ⟨hc1, hc2⟩ := hci
  clear h hr hN hl
  rcases A with _ | ad
  · obtain rfl : c = 0 := by obtain ⟨⟨_, _, e, _, _, _, h4, _⟩, _⟩ := HH.out; injection e with e1 e2 e3; rw [e3]; exact h4 e1.symm
    obtain rfl : N = 0 := by omega
    have hl0 : l = [] := List.eq_nil_of_length_eq_zero HN.out.symm
    subst hl0
    go_enter Try.func36, Try.ntmps36
    go_upto_region 2 with (first
      | (go_at_call 19; refine HB.out.mono ?_; rintro x w2 ⟨p, F, hf, rfl, a2⟩; obtain rfl : p = 0 := Nat.le_zero.1 hf.le; obtain rfl : F = false := (by cases F with | false => rfl | true => obtain ⟨y, hy, _⟩ := hf.at_.1 rfl; simp at hy); have HF := Lib.hid hf; have HA2 := Lib.hid a2; clear a2 hf)
      | fail)
    go_quiet (fail)
    go_wp2_with fail
    go_ret2
    refine ⟨⟨0, false, none, none, 0, HF.out, rfl, ?_, ?_, HA2.out.drewN _⟩⟩
    · exact (EnO.nil _).rd
    · exact (EnO.nil _).rd
  · go_enter Try.func36, Try.ntmps36
    go_upto_region 2 with (first
      | (go_at_call 19; refine HB.out.mono ?_; rintro x w2 ⟨p, F, hf, rfl, a2⟩; have HF := Lib.hid hf; have HA2 := Lib.hid a2; clear a2 hf)
      | fail)
    have hp : p ≤ N := by rw [HN.out]; exact HF.out.le
    have hpi : (p : Int) ≤ (N : Int) := by omega
    have hpc : (p : Int) ≤ (c : Int) := by omega
    cases F with
    | false =>
      have hlen : (bh l p false).length = N - p := by unfold bh; rw [if_neg (by decide), List.length_drop, HN.out]
      have hfr := (HH.out.step HA2.out).tfront (c' := p) HN.out hp (Nat.le_refl _) (by omega) (fun e => by cases e)
      have HFR := Lib.hid hfr
      have HLEN := Lib.hid hlen
      have HPN := Lib.hid hp
      clear hlen hfr hp
      by_cases hcp : c = p
      · have hbk : EnR w2 (.slice (some ad) (N - p) (c - p)) (bh l p false) := (HH.out.step HA2.out).tback HN.out HPN.out (fun h => by omega)
        rw [show c - p = 0 by omega] at hbk
        have HBK := Lib.hid hbk
        clear hbk
        go_quiet (fail)
        go_wp2_with fail
        go_ret2
        refine ⟨⟨p, false, _, _, _, HF.out, by rw [HLEN.out]; rfl, ?_, ?_, HA2.out.drewN _⟩⟩
        · exact HFR.out.step ((Adv.refl Nul _).drewN _)
        · rw [HLEN.out]
          exact HBK.out.step ((Adv.refl Nul _).drewN _)
      · have hbk : EnR w2 (.slice (some (ad.add (p * 4))) (N - p) (c - p)) (bh l p false) := (HH.out.step HA2.out).tback HN.out HPN.out (fun _ => ⟨by simp [add_block], fun j => by rw [Go.Deep.add_add]⟩)
        have HBK := Lib.hid hbk
        clear hbk
        go_quiet (fail)
        go_wp2_with fail
        go_ret2
        refine ⟨⟨p, false, _, _, _, HF.out, by rw [HLEN.out]; rfl, ?_, ?_, HA2.out.drewN _⟩⟩
        · exact HFR.out.step ((Adv.refl Nul _).drewN _)
        · rw [HLEN.out]
          exact HBK.out.step ((Adv.refl Nul _).drewN _)
    | true =>
      have hpN : p < N := by
        obtain ⟨y, hy, _⟩ := HF.out.at_.1 rfl
        rw [HN.out]; exact (List.getElem?_eq_some_iff.1 hy).1
      obtain ⟨b, o, e, hrest⟩ := HH.out.at_ (i := p) HN.out (by rw [← HN.out]; exact hpN)
      clear hrest
      injection e with e
      subst e
      have hlen : (bh l p true).length = N - p - 1 := by unfold bh; rw [if_pos rfl, List.length_drop, HN.out]; omega
      have hfr := (HH.out.step HA2.out).tfront (c' := p) HN.out hp (Nat.le_refl _) (by omega) (fun e => by cases e)
      have HFR := Lib.hid hfr
      have HLEN := Lib.hid hlen
      have HPN := Lib.hid hp
      have hbk : EnR w2 (.slice (some ⟨b, o + p * 4, none⟩) (N - p) (c - p)) (l.drop p) := (HH.out.step HA2.out).tback HN.out hp (fun _ => ⟨rfl, fun j => by rw [add_none, add_none, Nat.add_assoc]⟩)
      have hbk2 : ∀ a' : Addr, (c - p ≠ 1 → a'.block = (⟨b, o + p * 4, none⟩ : Addr).block ∧ ∀ j, a'.add j = (⟨b, o + p * 4, none⟩ : Addr).add (1 * 4 + j)) → EnR w2 (.slice (some a') (N - p - 1) (c - p - 1)) (bh l p true) := fun a' h => by
        show EnR w2 _ (l.drop (p + 1))
        rw [← List.drop_drop]
        exact hbk.tback (by rw [List.length_drop, HN.out]) (by omega) (fun h1 => h (by omega))
      have HBK := Lib.hid hbk2
      have hcp : ¬ c = p := by omega
      have h1i : (1 : Int) ≤ ((N - p : Nat) : Int) := by omega
      have h1c : ((N - p : Nat) : Int) ≤ ((c - p : Nat) : Int) := by omega
      clear hbk hbk2 hfr hlen hp hpN
      by_cases h1 : c - p = 1
      · go_quiet (fail)
        go_wp2_with fail
        go_ret2
        refine ⟨⟨p, true, _, _, _, HF.out, by rw [HLEN.out]; rfl, ?_, ?_, HA2.out.drewN _⟩⟩
        · exact HFR.out.step ((Adv.refl Nul _).drewN _)
        · rw [HLEN.out]
          have := HBK.out (⟨b, o + p * 4, none⟩ : Addr) (fun h => absurd h1 h)
          rw [h1] at this
          exact this.step ((Adv.refl Nul _).drewN _)
      · go_quiet (fail)
        go_wp2_with fail
        go_ret2
        refine ⟨⟨p, true, _, _, _, HF.out, by rw [HLEN.out]; rfl, ?_, ?_, HA2.out.drewN _⟩⟩
        · exact HFR.out.step ((Adv.refl Nul _).drewN _)
        · rw [HLEN.out]
          exact (HBK.out _ (fun _ => ⟨rfl, fun j => by rw [add_none, add_none, Nat.add_assoc]⟩)).step ((Adv.refl Nul _).drewN _)
end Go.Proofs.Ytgcbnaleajccgaa
