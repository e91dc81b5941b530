/- Whether a path is below another one; that names live; texts that came in, cut short. -/
import Derived.Test.YtolcnbiaiolcoaaDoorNmP
import Derived.Test.YtolcnbiaiolcoaaDoorShort
import Derived.SliceStrings
namespace Go.Proofs.YtolcnbiaiolcoaaDoor
open Go.ChangeShapes Go.WideShapes Go.ChangeAt Go.RowKit

theorem nsplit_yes (p : ByteArray) (m : List ByteArray) (w : World) (hp : p.size ≤ 1000000) (hm : PathB p m) : Calls Tryd.prog 7 #[.string p] w fun e w' => ∃ v, e = .returned (.tuple #[v, .int .i64 0]) ∧ RdT w' v m ∧ Below w.heap.size w w' := by
  refine (nsplit_any p w hp).mono ?_
  rintro e w' ⟨v, l, ok, rfl, ha, hb⟩
  cases ok
  · exact absurd hm ((ha.no rfl).2 m)
  · obtain rfl := (ha.yes rfl).one hm
    exact ⟨v, rfl, ha.rd, hb⟩
theorem nsplit_no (p : ByteArray) (w : World) (hp : p.size ≤ 1000000) (hm : ∀ m, ¬ PathB p m) : Calls Tryd.prog 7 #[.string p] w fun e w' => ∃ v, e = .returned (.tuple #[v, .int .i64 9]) ∧ RdT w' v [] ∧ Below w.heap.size w w' := by
  refine (nsplit_any p w hp).mono ?_
  rintro e w' ⟨v, l, ok, rfl, ha, hb⟩
  cases ok
  · obtain rfl := (ha.no rfl).1
    exact ⟨v, rfl, ha.rd, hb⟩
  · exact absurd (ha.yes rfl) (hm l)
theorem qsplit_yes (p : ByteArray) (m : List ByteArray) (w : World) (hp : p.size ≤ 1000000) (hm : PathB p m) : Calls Tryd.prog 8 #[.string p] w fun e w' => ∃ v, e = .returned (.tuple #[v, .bool true]) ∧ RdT w' v m ∧ Below w.heap.size w w' := by
  refine (qsplit_any p w hp).mono ?_
  rintro e w' ⟨v, l, ok, rfl, ha, hb⟩
  cases ok
  · exact absurd hm ((ha.no rfl).2 m)
  · obtain rfl := (ha.yes rfl).one hm
    exact ⟨v, rfl, ha.rd, hb⟩
theorem qsplit_no (p : ByteArray) (w : World) (hp : p.size ≤ 1000000) (hm : ∀ m, ¬ PathB p m) : Calls Tryd.prog 8 #[.string p] w fun e w' => ∃ v, e = .returned (.tuple #[v, .bool false]) ∧ RdT w' v [] ∧ Below w.heap.size w w' := by
  refine (qsplit_any p w hp).mono ?_
  rintro e w' ⟨v, l, ok, rfl, ha, hb⟩
  cases ok
  · obtain rfl := (ha.no rfl).1
    exact ⟨v, rfl, ha.rd, hb⟩
  · exact absurd (ha.yes rfl) (hm l)

theorem RdT.take {w : World} {n c k : Nat} {A : Option Addr} {l : List ByteArray} (h : RdT w (.slice A n c) l) (hk : k ≤ l.length) : RdT w (.slice A k c) (l.take k) := by
  obtain ⟨A', c', e, h1, h2, h3, h4, h5⟩ := h.rd
  injection e with e1 e2 e3
  subst e1; subst e3
  have hl : (l.take k).length = k := by simp; omega
  refine ⟨⟨A, c, by rw [hl], by omega, h2, by simp, h4, fun hn => ?_⟩⟩
  obtain ⟨ad, rfl, hb, hc⟩ := h5 (by omega)
  refine ⟨ad, rfl, hb, fun j u hu => hc j u ?_⟩
  rw [List.map_take, List.getElem?_take] at hu
  split at hu
  · exact hu
  · cases hu
/-- a is below b -/
def Bel (a b : ByteArray) : Prop := ∃ l m, PathB a l ∧ PathB b m ∧ m.length < l.length ∧ l.take m.length = m
theorem Bel.irr (a : ByteArray) : ¬ Bel a a := by
  rintro ⟨l, m, h1, h2, h3, _⟩
  rw [h1.one h2] at h3
  exact Nat.lt_irrefl _ h3
theorem Bel.asymm {a b : ByteArray} (h : Bel a b) : ¬ Bel b a := by
  obtain ⟨l, m, h1, h2, h3, _⟩ := h
  rintro ⟨l', m', k1, k2, k3, _⟩
  rw [k1.one h2, k2.one h1] at k3
  omega
theorem Bel.trans {a b c : ByteArray} (h : Bel a b) (k : Bel b c) : Bel a c := by
  obtain ⟨l, m, h1, h2, h3, h4⟩ := h
  obtain ⟨m', n, k1, k2, k3, k4⟩ := k
  obtain rfl := k1.one h2
  refine ⟨l, n, h1, k2, Nat.lt_trans k3 h3, ?_⟩
  rw [← h4, List.take_take, Nat.min_eq_left (by omega)] at k4
  exact k4
/-- what Under answers -/
def NUnder (a b : ByteArray) (w : World) (e : Ending) (w' : World) : Prop := ∃ u : Bool, e = .returned (.bool u) ∧ (u = true ↔ Bel a b) ∧ Below w.heap.size w w'
theorem NUnder.no {a b : ByteArray} {w w' : World} (h : ¬ Bel a b) (hb : Below w.heap.size w w') : NUnder a b w (.returned (.bool false)) w' := ⟨false, rfl, ⟨fun e => by (cases e), fun e => absurd e h⟩, hb⟩

set_option maxRecDepth 3000 in
theorem under_any (a b : ByteArray) (w : World) (ha : a.size ≤ 1000000) (hb : b.size ≤ 1000000) : Calls Tryd.prog 16 #[.string a, .string b] w (NUnder a b w) := by
  by_cases h1 : ∃ l, PathB a l
  · obtain ⟨l, hl⟩ := h1
    by_cases h2 : ∃ m, PathB b m
    · obtain ⟨m, hm⟩ := h2
      have HL := Lib.hid hl
      have HM := Lib.hid hm
      have BL : Hid (Bel a b ↔ m.length < l.length ∧ l.take m.length = m) := Lib.hid ⟨fun ⟨l', m', k1, k2, k3⟩ => by rw [k1.one hl, k2.one hm] at k3; exact k3, fun h => ⟨l, m, hl, hm, h⟩⟩
      clear hl hm
      obtain ⟨n, hn⟩ : ∃ n, n = l.length := ⟨_, rfl⟩
      obtain ⟨k, hk⟩ : ∃ k, k = m.length := ⟨_, rfl⟩
      have HN := Lib.hid hn
      have HK := Lib.hid hk
      clear hn hk
      by_cases hlt : k < n
      · have hle : k ≤ n := by omega
        have c1 := nsplit_yes a l w ha HL.out
        go_enter Tryd.func16, Tryd.ntmps16
        go_wp2_with (first
          | (go_at_call 7; refine c1.mono ?_; rintro e w1 ⟨v1, rfl, hr1, hb1⟩; obtain ⟨A1, k1, rfl, hc1, hm1⟩ := hr1.form; rw [← HN.out] at hr1 hc1 ⊢; have HR1 := Lib.hid hr1; have HB1 := Lib.hid hb1; have c2 := nsplit_yes b m w1 hb HM.out; clear hr1 hb1 hm1 c1)
          | (go_at_call 7; refine c2.mono ?_; rintro e w2 ⟨v2, rfl, hr2, hb2⟩; obtain ⟨A2, k2, rfl, hc2, hm2⟩ := hr2.form; rw [← HK.out] at hr2 hc2 ⊢; have HR2 := Lib.hid hr2; have HB2 := Lib.hid hb2; clear hr2 hb2 hm2 c2)
          | (go_at_call 20; refine (equal_texts _ _ (l.take k) m _ ((HR1.out.below HB2.out).take (by rw [← HN.out]; exact hle)) HR2.out).mono ?_; rintro e w3 ⟨rfl, hb3⟩)
          | fail)
        go_ret
        refine ⟨_, rfl, ?_, HB1.out.trans ((HB2.out.trans (hb3.mono HB2.out.size)).mono HB1.out.size)⟩
        rw [decide_eq_true_iff, BL.out, ← HK.out, ← HN.out]
        exact ⟨fun h => ⟨hlt, h⟩, fun h => h.2⟩
      · have hlt' : ¬ ((k : Int) < (n : Int)) := by omega
        have HNB : Hid (¬ Bel a b) := Lib.hid fun h => by
          have := (BL.out.1 h).1
          have := HN.out; have := HK.out
          omega
        clear hlt
        have c1 := nsplit_yes a l w ha HL.out
        go_enter Tryd.func16, Tryd.ntmps16
        go_wp2_with (first
          | (go_at_call 7; refine c1.mono ?_; rintro e w1 ⟨v1, rfl, hr1, hb1⟩; obtain ⟨A1, k1, rfl, hc1, hm1⟩ := hr1.form; rw [← HN.out] at hr1 hc1 ⊢; have HR1 := Lib.hid hr1; have HB1 := Lib.hid hb1; have c2 := nsplit_yes b m w1 hb HM.out; clear hr1 hb1 hm1 c1)
          | (go_at_call 7; refine c2.mono ?_; rintro e w2 ⟨v2, rfl, hr2, hb2⟩; obtain ⟨A2, k2, rfl, hc2, hm2⟩ := hr2.form; rw [← HK.out] at hr2 hc2 ⊢; have HR2 := Lib.hid hr2; have HB2 := Lib.hid hb2; clear hr2 hb2 hm2 c2)
          | fail)
        go_ret
        exact .no HNB.out (HB1.out.trans (HB2.out.mono HB1.out.size))
    · have hno : ∀ m, ¬ PathB b m := fun m hm => h2 ⟨m, hm⟩
      have HNB : Hid (¬ Bel a b) := Lib.hid fun ⟨_, m, _, h, _⟩ => hno m h
      have HNO := Lib.hid hno
      clear h2 hno
      have c1 := nsplit_yes a l w ha hl
      clear hl
      obtain ⟨n, hn⟩ : ∃ n, n = l.length := ⟨_, rfl⟩
      have HN := Lib.hid hn
      clear hn
      go_enter Tryd.func16, Tryd.ntmps16
      go_wp2_with (first
        | (go_at_call 7; refine c1.mono ?_; rintro e w1 ⟨v1, rfl, hr1, hb1⟩; have HB1 := Lib.hid hb1; have c2 := nsplit_no b w1 hb HNO.out; clear hr1 hb1 c1)
        | (go_at_call 7; refine c2.mono ?_; rintro e w2 ⟨v2, rfl, hr2, hb2⟩; have HB2 := Lib.hid hb2; clear hr2 hb2 c2)
        | fail)
      go_ret
      exact .no HNB.out (HB1.out.trans (HB2.out.mono HB1.out.size))
  · have hno : ∀ m, ¬ PathB a m := fun m hm => h1 ⟨m, hm⟩
    have HB : Hid (¬ Bel a b) := Lib.hid fun ⟨l, _, h, _⟩ => hno l h
    have c := nsplit_no a w ha hno
    clear h1 hno
    go_enter Tryd.func16, Tryd.ntmps16
    go_wp2_with (first
      | (go_at_call 7; refine c.mono ?_; rintro e w1 ⟨v1, rfl, _, hb1⟩)
      | fail)
    go_ret
    exact .no HB.out hb1

/-- the four texts that tell whether names live -/
def tA : ByteArray := ⟨#[97]⟩
def tB : ByteArray := ⟨#[98]⟩
theorem nam_a : Nam ⟨#[97]⟩ := by unfold Nam NameL; decide
theorem nam_no : ¬ Nam ⟨#[]⟩ := by unfold Nam NameL; decide
theorem path_ab : PathB ⟨#[47, 97, 47, 98]⟩ [⟨#[97]⟩, ⟨#[98]⟩] := .inr ⟨by decide, by decide, by decide, by decide⟩
theorem path_a : PathB ⟨#[47, 97]⟩ [⟨#[97]⟩] := .inr ⟨by decide, by decide, by decide, by decide⟩
theorem bel_ab : Bel ⟨#[47, 97, 47, 98]⟩ ⟨#[47, 97]⟩ := ⟨_, _, path_ab, path_a, by decide, by rfl⟩
set_option maxRecDepth 3000 in
theorem lives7_any (w : World) : Calls Tryd.prog 12 #[] w fun e w' => e = .returned (.bool true) ∧ Below w.heap.size w w' := by
  have c1 := nsplit_yes _ _ w (by decide) path_ab
  have cA : ∀ w, Calls Tryd.prog 9 #[.string ⟨#[97]⟩] w fun e w' => e = .returned (.int .i64 0) ∧ Below w.heap.size w w' := fun w => by
    have h := check_any ⟨#[97]⟩ w (by decide)
    rw [show chkV ⟨#[97]⟩ = 0 from if_pos nam_a] at h
    exact h
  have c0 : ∀ w, Calls Tryd.prog 9 #[.string ⟨#[]⟩] w fun e w' => e = .returned (.int .i64 9) ∧ Below w.heap.size w w' := fun w => by
    have h := check_any ⟨#[]⟩ w (by decide)
    rw [show chkV ⟨#[]⟩ = 9 from if_neg nam_no] at h
    exact h
  have cU : ∀ w, Calls Tryd.prog 16 #[.string ⟨#[47, 97, 47, 98]⟩, .string ⟨#[47, 97]⟩] w fun e w' => e = .returned (.bool true) ∧ Below w.heap.size w w' := fun w => by
    refine (under_any _ _ w (by decide) (by decide)).mono ?_
    rintro e w' ⟨u, rfl, h, hb⟩
    rw [h.2 bel_ab]
    exact ⟨rfl, hb⟩
  go_enter Tryd.func12, Tryd.ntmps12
  go_wp2_with (first
    | (go_at_call 7; refine c1.mono ?_; rintro e w1 ⟨v1, rfl, hr1, hb1⟩; obtain ⟨A1, k1, rfl, _, _⟩ := hr1.form; have HB1 := Lib.hid hb1; clear hr1 hb1 c1)
    | (go_at_call 9; refine (cA _).mono ?_; rintro e w2 ⟨rfl, hb2⟩; have HB2 := Lib.hid (HB1.out.trans (hb2.mono HB1.out.size)); clear hb2 cA)
    | (go_at_call 9; refine (c0 _).mono ?_; rintro e w3 ⟨rfl, hb3⟩; have HB3 := Lib.hid (HB2.out.trans (hb3.mono HB2.out.size)); clear hb3 c0)
    | (go_at_call 16; refine (cU _).mono ?_; rintro e w4 ⟨rfl, hb4⟩; have HB4 := Lib.hid (HB3.out.trans (hb4.mono HB3.out.size)); clear hb4 cU)
    | fail)
  go_ret
  exact ⟨rfl, HB4.out⟩
end Go.Proofs.YtolcnbiaiolcoaaDoor
