/- The statements of layer 7, walked: NameUnder. -/
import Derived.Test.YtolcnbiaiolcoaaDoorNmL
namespace Go.Proofs.YtolcnbiaiolcoaaDoor
open Go.ChangeShapes Go.WideShapes Go.ChangeAt Go.RowKit

/-- how far the comparison has come -/
structure WantAt (l m : List ByteArray) (st u : Bool) (i : Nat) (wt : Bool) : Prop where
  yes : wt = true → st = true ∧ ∀ j, j < i → l[j]? = m[j]?
  no : wt = false → u = false
/-- what is to come of it -/
structure WantFor (l m : List ByteArray) (st u : Bool) : Prop where
  lt : st = true → m.length < l.length
  ans : u = (st && decide (l.take m.length = m))
theorem WantFor.zero {l m : List ByteArray} {st u : Bool} (h : WantFor l m st u) : WantAt l m st u 0 st := ⟨fun e => ⟨e, fun j hj => absurd hj (by omega)⟩, fun e => by rw [h.ans, e]; rfl⟩
theorem WantAt.next {l m : List ByteArray} {st u : Bool} {i : Nat} (h : WantAt l m st u i true) (e : l[i]? = m[i]?) : WantAt l m st u (i + 1) true := by
  refine ⟨fun _ => ⟨(h.yes rfl).1, fun j hj => ?_⟩, fun e => by (cases e)⟩
  by_cases hji : j = i
  · subst hji; exact e
  · exact (h.yes rfl).2 j (by omega)
theorem WantFor.stop {l m : List ByteArray} {st u : Bool} {i : Nat} (h : WantFor l m st u) (hi : i < m.length) (e : l[i]? ≠ m[i]?) (k : Nat) : WantAt l m st u k false := by
  refine ⟨fun e => by (cases e), fun _ => ?_⟩
  rw [h.ans, decide_eq_false, Bool.and_false]
  intro ht
  refine e ?_
  rw [← ht, List.getElem?_take, if_pos hi]
theorem WantAt.done {l m : List ByteArray} {st u : Bool} {i : Nat} {wt : Bool} (h : WantAt l m st u i wt) (hf : WantFor l m st u) (hi : wt = false ∨ i = m.length) : u = wt := by
  cases wt
  · exact h.no rfl
  · rcases hi with hi | rfl
    · cases hi
    · obtain ⟨h1, h2⟩ := h.yes rfl
      rw [hf.ans, h1, decide_eq_true]
      · rfl
      · refine List.ext_getElem? fun j => ?_
        rw [List.getElem?_take]
        split
        · next hj => exact h2 j hj
        · next hj => rw [List.getElem?_eq_none (by omega)]

/-- What Under answers of three texts. -/
theorem unders (A B C : ByteArray) (hA : A.size ≤ 1000000) (hB : B.size ≤ 1000000) (hC : C.size ≤ 1000000) : ∃ uab uba ubc uac : Bool,
    ((uab = false) ∨ (uab = true ∧ uba = false ∧ ubc = false) ∨ (uab = true ∧ uba = false ∧ ubc = true ∧ uac = true)) ∧ (uab = true ↔ Bel A B) ∧
    (∀ w, Calls Tryd.prog 16 #[.string A, .string B] w fun e w' => e = .returned (.bool uab) ∧ Below w.heap.size w w') ∧
    (∀ w, Calls Tryd.prog 16 #[.string A, .string A] w fun e w' => e = .returned (.bool false) ∧ Below w.heap.size w w') ∧
    (∀ w, Calls Tryd.prog 16 #[.string B, .string A] w fun e w' => e = .returned (.bool uba) ∧ Below w.heap.size w w') ∧
    (∀ w, Calls Tryd.prog 16 #[.string B, .string C] w fun e w' => e = .returned (.bool ubc) ∧ Below w.heap.size w w') ∧
    (∀ w, Calls Tryd.prog 16 #[.string A, .string C] w fun e w' => e = .returned (.bool uac) ∧ Below w.heap.size w w') := by
  have one : ∀ (X Y : ByteArray), X.size ≤ 1000000 → Y.size ≤ 1000000 → ∃ u : Bool, (u = true ↔ Bel X Y) ∧ ∀ w, Calls Tryd.prog 16 #[.string X, .string Y] w fun e w' => e = .returned (.bool u) ∧ Below w.heap.size w w' := by
    intro X Y hX hY
    by_cases h : Bel X Y
    · refine ⟨true, ⟨fun _ => h, fun _ => rfl⟩, fun w => (under_any X Y w hX hY).mono ?_⟩
      rintro e w' ⟨u, rfl, hu, hb⟩
      rw [hu.2 h]
      exact ⟨rfl, hb⟩
    · refine ⟨false, ⟨fun e => (by cases e), fun e => absurd e h⟩, fun w => (under_any X Y w hX hY).mono ?_⟩
      rintro e w' ⟨u, rfl, hu, hb⟩
      cases u
      · exact ⟨rfl, hb⟩
      · exact absurd (hu.1 rfl) h
  obtain ⟨uab, h1, c1⟩ := one A B hA hB
  obtain ⟨uaa, h2, c2⟩ := one A A hA hA
  obtain ⟨uba, h3, c3⟩ := one B A hB hA
  obtain ⟨ubc, h4, c4⟩ := one B C hB hC
  obtain ⟨uac, h5, c5⟩ := one A C hA hC
  obtain rfl : uaa = false := by
    cases uaa
    · rfl
    · exact absurd (h2.1 rfl) (Bel.irr A)
  refine ⟨uab, uba, ubc, uac, ?_, h1, c1, c2, c3, c4, c5⟩
  cases uab
  · exact .inl rfl
  · have hab := h1.1 rfl
    have : uba = false := by
      cases uba
      · rfl
      · exact absurd (h3.1 rfl) hab.asymm
    cases ubc
    · exact .inr (.inl ⟨rfl, this, rfl⟩)
    · exact .inr (.inr ⟨rfl, this, rfl, h5.2 (hab.trans (h4.1 rfl))⟩)

/-- What the document's Splits answer, and what is to come of them. -/
theorem wants (A B : ByteArray) (u : Bool) (hA : A.size ≤ 1000000) (hB : B.size ≤ 1000000) (hu : u = true ↔ Bel A B) : ∃ (l m : List ByteArray) (o1 o2 : Bool) (n k : Nat), n = l.length ∧ k = m.length ∧ WantFor l m (o1 && o2 && decide (k < n)) u ∧
    (∀ w, Calls Tryd.prog 8 #[.string A] w fun e w' => ∃ v, e = .returned (.tuple #[v, .bool o1]) ∧ RdT w' v l ∧ Below w.heap.size w w') ∧
    (∀ w, Calls Tryd.prog 8 #[.string B] w fun e w' => ∃ v, e = .returned (.tuple #[v, .bool o2]) ∧ RdT w' v m ∧ Below w.heap.size w w') := by
  obtain ⟨l, _, o1, h1, _, c1⟩ := split_both A hA
  obtain ⟨m, _, o2, h2, _, c2⟩ := split_both B hB
  refine ⟨l, m, o1, o2, l.length, m.length, rfl, rfl, ⟨fun e => ?_, ?_⟩, c1, c2⟩
  · simp only [Bool.and_eq_true, decide_eq_true_eq] at e; exact e.2
  · rcases h1 with ⟨_, rfl, p1⟩ | ⟨_, rfl, _, p1⟩
    · rcases h2 with ⟨_, rfl, p2⟩ | ⟨_, rfl, _, p2⟩
      · have : Bel A B ↔ m.length < l.length ∧ l.take m.length = m := ⟨fun ⟨l', m', k1, k2, k3⟩ => by rw [k1.one p1, k2.one p2] at k3; exact k3, fun h => ⟨l, m, p1, p2, h⟩⟩
        rw [this] at hu
        rw [Bool.eq_iff_iff, hu]; simp
      · have : ¬ Bel A B := fun ⟨_, m', _, k, _⟩ => p2 m' k
        cases u
        · rfl
        · exact absurd (hu.1 rfl) this
    · have : ¬ Bel A B := fun ⟨l', _, k, _⟩ => p1 l' k
      cases u
      · rfl
      · exact absurd (hu.1 rfl) this

/-- the loop's state -/
def LoopU (l m : List ByteArray) (st u : Bool) (w : World) (A1 : Option Addr) (n k1 : Nat) (A2 : Option Addr) (k k2 : Nat) (t1 t2 : Value) (wr : World) : Prop :=
  ∃ (wt : Bool) (i : Nat), t1 = .bool wt ∧ t2 = .int .i64 ((i : Nat) : Int) ∧ i ≤ k ∧ WantAt l m st u i wt ∧ Below w.heap.size w wr ∧ RdT wr (.slice A1 n k1) l ∧ RdT wr (.slice A2 k k2) m

set_option maxRecDepth 3000 in
set_option maxHeartbeats 4000000 in
theorem under_walk (w : World) (a : ByteArray) (ha : a.size ≤ maxLen) (b : ByteArray) (hb : b.size ≤ maxLen) (c : ByteArray) (hc : c.size ≤ maxLen) :
    Calls Tryd.prog 5 #[.string a, .string b, .string c] w fun e w' => e = .returned (.bool true) ∧ Below w.heap.size w w' := by
  obtain ⟨A, hA, cSa⟩ := short_to a 100 (by decide) ha
  obtain ⟨B, hB, cSb⟩ := short_to b 100 (by decide) hb
  obtain ⟨C, hC, cSc⟩ := short_to c 100 (by decide) hc
  obtain ⟨uab, uba, ubc, uac, hcs, hu, cAB, cAA, cBA, cBC, cAC⟩ := unders A B C (by omega) (by omega) (by omega)
  obtain ⟨l, m, o1, o2, n, k, hn, hk, hw, cA, cB⟩ := wants A B uab (by omega) (by omega) hu
  have cL := lives7_any
  have HB := Lib.hid (Below.refl w.heap.size w)
  have HN := Lib.hid hn
  have HK := Lib.hid hk
  obtain ⟨st, hst⟩ : ∃ st, st = (o1 && o2 && decide (k < n)) := ⟨_, rfl⟩
  rw [← hst] at hw
  have HW := Lib.hid hw
  have hst' : (o1 = false ∧ st = false) ∨ (o1 = true ∧ o2 = false ∧ st = false) ∨ (o1 = true ∧ o2 = true ∧ ¬ k < n ∧ st = false) ∨ (o1 = true ∧ o2 = true ∧ k < n ∧ st = true) := by
    cases o1
    · exact .inl ⟨rfl, hst⟩
    · cases o2
      · exact .inr (.inl ⟨rfl, rfl, hst⟩)
      · by_cases h : k < n
        · exact .inr (.inr (.inr ⟨rfl, rfl, h, by rw [hst, decide_eq_true h]; rfl⟩))
        · exact .inr (.inr (.inl ⟨rfl, rfl, h, by rw [hst, decide_eq_false h]; rfl⟩))
  have HCS := Lib.hid hcs
  clear hA hB hC ha hb hc hcs hu hn hk hw hst
  have HWZ := Lib.hid HW.out.zero
  rcases hst' with ⟨rfl, hst⟩ | ⟨rfl, rfl, hst⟩ | ⟨rfl, rfl, hlt, hst⟩ | ⟨rfl, rfl, hlt, hst⟩
  all_goals
    replace HWZ := Lib.hid (Eq.mp (congrArg (fun z => WantAt l m st uab 0 z) hst) HWZ.out)
    clear hst
  all_goals
    go_enter Tryd.func5, Tryd.ntmps5
    go_wp2_with (first
      | (go_at_call 6; refine (cSa _).mono ?_; rintro e w1 ⟨rfl, rfl⟩; clear cSa)
      | (go_at_call 6; refine (cSb _).mono ?_; rintro e w1 ⟨rfl, rfl⟩; clear cSb)
      | (go_at_call 6; refine (cSc _).mono ?_; rintro e w1 ⟨rfl, rfl⟩; clear cSc)
      | (go_at_call 8; refine (cA _).mono ?_; rintro e w2 ⟨v1, rfl, hr, hb⟩; obtain ⟨A1, k1, rfl, hc1, hm1⟩ := hr.form; rw [← HN.out] at hr hc1 ⊢; have HR1 := Lib.hid hr; replace HB := Lib.hid (HB.out.trans (hb.mono HB.out.size)); clear hr hb cA)
      | (go_at_call 8; refine (cB _).mono ?_; rintro e w3 ⟨v2, rfl, hr, hb⟩; obtain ⟨A2, k2, rfl, hc2, hm2⟩ := hr.form; rw [← HK.out] at hr hc2 ⊢; have HR2 := Lib.hid hr; replace HR1 := Lib.hid (HR1.out.below hb); replace HB := Lib.hid (HB.out.trans (hb.mono HB.out.size)); clear hr hb cB)
      | fail)
  all_goals
    go_loopw [11, 12] (LoopU l m st uab w A1 n k1 A2 k k2) (fun _ t _ => k - (intOf t).toNat)
    case atStart => exact ⟨_, 0, rfl, rfl, Nat.zero_le _, HWZ.out, HB.out, HR1.out, HR2.out⟩
    case round =>
      clear HR1 HR2 HB HWZ
      obtain ⟨wt, i, rfl, rfl, hik, hwa, hbw, hr1, hr2⟩ := hrel
      have HWA := Lib.hid hwa
      have HB := Lib.hid hbw
      have HR1 := Lib.hid hr1
      have HR2 := Lib.hid hr2
      clear hwa hbw hr1 hr2
      cases wt
      · obtain rfl := HWA.out.done HW.out (.inl rfl)
        clear HWA HCS
        have q1 := cAB
        have q2 := cAA
        have q3 := cAB
        have q4 := cAB
        clear cAB cAA cBA cBC cAC
        go_wp2_with (first
          | (go_at_call 16; refine (q1 _).mono ?_; rintro e w5 ⟨rfl, hb⟩; replace HB := Lib.hid (HB.out.trans (hb.mono HB.out.size)); clear hb q1)
          | (go_at_call 16; refine (q2 _).mono ?_; rintro e w5 ⟨rfl, hb⟩; replace HB := Lib.hid (HB.out.trans (hb.mono HB.out.size)); clear hb q2)
          | (go_at_call 16; refine (q3 _).mono ?_; rintro e w5 ⟨rfl, hb⟩; replace HB := Lib.hid (HB.out.trans (hb.mono HB.out.size)); clear hb q3)
          | (go_at_call 16; refine (q4 _).mono ?_; rintro e w5 ⟨rfl, hb⟩; replace HB := Lib.hid (HB.out.trans (hb.mono HB.out.size)); clear hb q4)
          | (go_at_call 12; refine (cL _).mono ?_; rintro e w7 ⟨rfl, hb⟩; replace HB := Lib.hid (HB.out.trans (hb.mono HB.out.size)); clear hb)
          | fail)
        go_ret
        exact ⟨rfl, HB.out⟩
      · by_cases hil : i < k
        · have hkn : k < n := by have := HW.out.lt (HWA.out.yes rfl).1; have := HN.out; have := HK.out; omega
          have him : i < m.length := by have := HK.out; omega
          have hil' : i < l.length := by have := HN.out; omega
          obtain ⟨b1, o1, rfl, _, g1⟩ := HR1.out.at_ HN.out hil'
          obtain ⟨b2, o2, rfl, _, g2⟩ := HR2.out.at_ HK.out him
          have c1' := g1 i hil'
          have c2' := g2 i him
          have hin : i < n := by omega
          have hi63 : (i : Int) + 1 ≤ 2 ^ 63 - 1 := by unfold maxLen at hm2; omega
          obtain ⟨x, hx⟩ : ∃ x, x = l[i] := ⟨_, rfl⟩
          obtain ⟨y, hy⟩ : ∃ y, y = m[i] := ⟨_, rfl⟩
          rw [← hx] at c1'
          rw [← hy] at c2'
          have HX : Hid (l[i]? = some x) := Lib.hid (by rw [List.getElem?_eq_getElem hil', hx])
          have HY : Hid (m[i]? = some y) := Lib.hid (by rw [List.getElem?_eq_getElem him, hy])
          have HIM := Lib.hid him
          clear g1 g2 hx hy him hil'
          by_cases exy : x = y
          · subst exy
            have h2 : WantAt l m st uab (i + 1) true := HWA.out.next (by rw [HX.out, HY.out])
            have H2 := Lib.hid h2
            clear h2 HX HY HIM HWA
            go_wp2_with fail
            go_quiet (fail)
            go_wp2
            exact ⟨⟨_, i + 1, rfl, by simp, by omega, H2.out, HB.out.trans ⟨rfl, rfl, rfl, Nat.le_refl _, fun _ _ => rfl⟩, HR1.out.drewN _, HR2.out.drewN _⟩, by simp [intOf]; omega⟩
          · have hne := text_ne exy
            have h2 : WantAt l m st uab (i + 1) false := HW.out.stop HIM.out (by rw [HX.out, HY.out]; simpa using exy) (i + 1)
            have H2 := Lib.hid h2
            clear h2 HX HY HIM exy HWA
            go_wp2_with fail
            go_quiet (fail)
            go_wp2
            exact ⟨⟨_, i + 1, rfl, by simp, by omega, H2.out, HB.out.trans ⟨rfl, rfl, rfl, Nat.le_refl _, fun _ _ => rfl⟩, HR1.out.drewN _, HR2.out.drewN _⟩, by simp [intOf]; omega⟩
        · obtain rfl : i = k := by omega
          obtain rfl := HWA.out.done HW.out (.inr HK.out)
          clear HWA
          rcases HCS.out with h | ⟨_, rfl, rfl⟩ | ⟨_, rfl, rfl, rfl⟩
          · cases h
          · clear HCS
            have q1 := cAB
            have q2 := cAA
            have q3 := cAB
            have q4 := cBA
            have q5 := cAB
            have q6 := cBC
            clear cAB cAA cBA cBC cAC
            go_wp2_with (first
              | (go_at_call 16; refine (q1 _).mono ?_; rintro e w5 ⟨rfl, hb⟩; replace HB := Lib.hid (HB.out.trans (hb.mono HB.out.size)); clear hb q1)
              | (go_at_call 16; refine (q2 _).mono ?_; rintro e w5 ⟨rfl, hb⟩; replace HB := Lib.hid (HB.out.trans (hb.mono HB.out.size)); clear hb q2)
              | (go_at_call 16; refine (q3 _).mono ?_; rintro e w5 ⟨rfl, hb⟩; replace HB := Lib.hid (HB.out.trans (hb.mono HB.out.size)); clear hb q3)
              | (go_at_call 16; refine (q4 _).mono ?_; rintro e w5 ⟨rfl, hb⟩; replace HB := Lib.hid (HB.out.trans (hb.mono HB.out.size)); clear hb q4)
              | (go_at_call 16; refine (q5 _).mono ?_; rintro e w5 ⟨rfl, hb⟩; replace HB := Lib.hid (HB.out.trans (hb.mono HB.out.size)); clear hb q5)
              | (go_at_call 16; refine (q6 _).mono ?_; rintro e w5 ⟨rfl, hb⟩; replace HB := Lib.hid (HB.out.trans (hb.mono HB.out.size)); clear hb q6)
              | (go_at_call 12; refine (cL _).mono ?_; rintro e w7 ⟨rfl, hb⟩; replace HB := Lib.hid (HB.out.trans (hb.mono HB.out.size)); clear hb)
              | fail)
            go_ret
            exact ⟨rfl, HB.out⟩
          · clear HCS
            have q1 := cAB
            have q2 := cAA
            have q3 := cAB
            have q4 := cBA
            have q5 := cAB
            have q6 := cBC
            have q7 := cAC
            clear cAB cAA cBA cBC cAC
            go_wp2_with (first
              | (go_at_call 16; refine (q1 _).mono ?_; rintro e w5 ⟨rfl, hb⟩; replace HB := Lib.hid (HB.out.trans (hb.mono HB.out.size)); clear hb q1)
              | (go_at_call 16; refine (q2 _).mono ?_; rintro e w5 ⟨rfl, hb⟩; replace HB := Lib.hid (HB.out.trans (hb.mono HB.out.size)); clear hb q2)
              | (go_at_call 16; refine (q3 _).mono ?_; rintro e w5 ⟨rfl, hb⟩; replace HB := Lib.hid (HB.out.trans (hb.mono HB.out.size)); clear hb q3)
              | (go_at_call 16; refine (q4 _).mono ?_; rintro e w5 ⟨rfl, hb⟩; replace HB := Lib.hid (HB.out.trans (hb.mono HB.out.size)); clear hb q4)
              | (go_at_call 16; refine (q5 _).mono ?_; rintro e w5 ⟨rfl, hb⟩; replace HB := Lib.hid (HB.out.trans (hb.mono HB.out.size)); clear hb q5)
              | (go_at_call 16; refine (q6 _).mono ?_; rintro e w5 ⟨rfl, hb⟩; replace HB := Lib.hid (HB.out.trans (hb.mono HB.out.size)); clear hb q6)
              | (go_at_call 16; refine (q7 _).mono ?_; rintro e w5 ⟨rfl, hb⟩; replace HB := Lib.hid (HB.out.trans (hb.mono HB.out.size)); clear hb q7)
              | (go_at_call 12; refine (cL _).mono ?_; rintro e w7 ⟨rfl, hb⟩; replace HB := Lib.hid (HB.out.trans (hb.mono HB.out.size)); clear hb)
              | fail)
            go_ret
            exact ⟨rfl, HB.out⟩
end Go.Proofs.YtolcnbiaiolcoaaDoor
