/- Rows of texts: whether two are the same; names' path. -/
import Derived.Test.YtolcnbiaiolcoaaDoorNm
import Derived.Laws.Concat
import Derived.Deep.QuietTactic
import Derived.BigQuiet
namespace Go.Proofs.YtolcnbiaiolcoaaDoor
open Go.ChangeShapes Go.WideShapes Go.ChangeAt Go.RowKit

/-- A slice of texts that can be read. -/
structure RdT (w : World) (v : Value) (l : List ByteArray) : Prop where
  rd : Rd w 1 v l.length (l.map Value.string)
theorem RdT.below {w w' : World} {v : Value} {l : List ByteArray} (h : RdT w v l) (hb : Below w.heap.size w w') : RdT w' v l := ⟨h.rd.below hb (fun _ _ _ hk => hk)⟩
theorem RdT.drewN {w : World} {v : Value} {l : List ByteArray} (h : RdT w v l) (k : Nat) : RdT (w.drewN k) v l := h.below ⟨rfl, rfl, rfl, Nat.le_refl _, fun _ _ => rfl⟩
theorem RdT.nil (w : World) : RdT w (.slice none 0 0) [] := ⟨⟨none, 0, rfl, Nat.le_refl _, Nat.zero_le _, rfl, fun _ => rfl, fun h => absurd h (by simp)⟩⟩
theorem RdT.form {w : World} {v : Value} {l : List ByteArray} (h : RdT w v l) : ∃ A c, v = .slice A l.length c ∧ l.length ≤ c ∧ c ≤ maxLen := h.rd.form
theorem RdT.at_ {w : World} {n c k : Nat} {A : Option Addr} {l : List ByteArray} (h : RdT w (.slice A n c) l) (hn : n = l.length) (hk : k < l.length) : ∃ b o, A = some ⟨b, o, none⟩ ∧ b < w.heap.size ∧ ∀ j (hj : j < l.length), w.cell? ⟨b, o + j, none⟩ = some (.string l[j]) := by
  subst hn
  obtain ⟨b, o, rfl, hb, hc⟩ := h.rd.cells (by omega) (by decide)
  exact ⟨b, o, rfl, hb, fun j hj => hc j _ (by rw [List.getElem?_map, List.getElem?_eq_getElem hj]; rfl)⟩

theorem list_same {l m : List ByteArray} (hn : l.length = m.length) (h : ∀ i (hi : i < l.length) (hj : i < m.length), l[i] = m[i]) : l = m := List.ext_getElem hn h
theorem text_eq {s t : ByteArray} (h : (s.toList == t.toList) = true) : s = t := data_eq (by rw [← Lib.toList_data, ← Lib.toList_data]; exact beq_iff_eq.1 h)
theorem text_ne {s t : ByteArray} (h : s ≠ t) : (s.toList == t.toList) = false := beq_eq_false_iff_ne.2 fun e => h (text_eq (beq_iff_eq.2 e))

set_option maxRecDepth 3000 in
set_option maxHeartbeats 400000 in
theorem same_texts (v1 v2 : Value) (l m : List ByteArray) (w : World) (h1 : RdT w v1 l) (h2 : RdT w v2 m) :
    Calls Tryd.prog 11 #[v1, v2] w fun e w' => e = .returned (.bool (decide (l = m))) ∧ Below w.heap.size w w' := by
  obtain ⟨A1, c1, rfl, h11, h12⟩ := h1.form
  obtain ⟨A2, c2, rfl, h21, h22⟩ := h2.form
  unfold maxLen at h12 h22
  obtain ⟨n, hn⟩ : ∃ n, n = l.length := ⟨_, rfl⟩
  obtain ⟨p, hp⟩ : ∃ p, p = m.length := ⟨_, rfl⟩
  obtain ⟨b, hb⟩ : ∃ b, b = decide (l = m) := ⟨_, rfl⟩
  rw [← hb, ← hn, ← hp]
  rw [← hn] at h1 h11
  rw [← hp] at h2 h21
  have H1 := Lib.hid h1
  have H2 := Lib.hid h2
  have HN := Lib.hid hn
  have HP := Lib.hid hp
  have HB := Lib.hid hb
  have hnz : (n : Int) ≤ 2 ^ 63 - 1 := by omega
  have hpz : (p : Int) ≤ 2 ^ 63 - 1 := by omega
  clear h1 h2 hn hp hb h11 h12 h21 h22
  by_cases e : n = p
  · subst e
    go_enter Tryd.func11, Tryd.ntmps11
    go_wp2_with fail
    go_loopw [5] (fun t wr => ∃ k : Nat, t = .int .i64 ((k : Nat) : Int) ∧ k ≤ n ∧ Hid (∀ i (hi : i < l.length) (hj : i < m.length), i < k → l[i] = m[i]) ∧ ∃ j, wr = w.drewN j) (fun t _ => n - (intOf t).toNat)
    case atStart => exact ⟨0, rfl, Nat.zero_le _, Lib.hid fun _ _ _ h => absurd h (by omega), 0, rfl⟩
    case round =>
      obtain ⟨k, rfl, hk, heq, j, rfl⟩ := hrel
      by_cases hlt : k < n
      · obtain ⟨b1, o1, rfl, _, g1⟩ := H1.out.at_ HN.out (k := k) (by have := HN.out; omega)
        obtain ⟨b2, o2, rfl, _, g2⟩ := H2.out.at_ HP.out (k := k) (by have := HP.out; omega)
        have hkl : k < l.length := by have := HN.out; omega
        have hkm : k < m.length := by have := HP.out; omega
        have c1' := g1 k hkl
        have c2' := g2 k hkm
        obtain ⟨x, hx⟩ : ∃ x, x = l[k] := ⟨_, rfl⟩
        obtain ⟨y, hy⟩ : ∃ y, y = m[k] := ⟨_, rfl⟩
        rw [← hx] at c1'
        rw [← hy] at c2'
        have HX := Lib.hid hx
        have HY := Lib.hid hy
        clear g1 g2 hx hy
        by_cases exy : x = y
        · subst exy
          go_wp2_with fail
          go_quiet (fail)
          go_wp2
          exact ⟨⟨k + 1, by simp, by omega, Lib.hid fun i hi hj hik => by
            by_cases e : i = k
            · subst e; rw [← HX.out, ← HY.out]
            · exact heq.out i hi hj (by omega), _, rfl⟩, by simp [intOf]; omega⟩
        · have hne := text_ne exy
          obtain rfl : b = false := by
            rw [HB.out]
            refine decide_eq_false fun hlm => exy ?_
            subst hlm
            rw [HX.out, HY.out]
          clear exy
          go_wp2_with fail
          go_quiet (fail)
          go_wp2
          go_ret
          exact ⟨rfl, ⟨rfl, rfl, rfl, Nat.le_refl _, fun _ _ => rfl⟩⟩
      · obtain rfl : k = n := by omega
        obtain rfl : b = true := by
          rw [HB.out]
          refine decide_eq_true (list_same (by rw [← HN.out, ← HP.out]) fun i hi hj => heq.out i hi hj (by have := HN.out; omega))
        go_wp2
        go_ret
        exact ⟨rfl, ⟨rfl, rfl, rfl, Nat.le_refl _, fun _ _ => rfl⟩⟩
  · obtain rfl : b = false := by
      rw [HB.out]
      refine decide_eq_false fun hlm => e ?_
      rw [HN.out, HP.out, hlm]
    have e' : ¬ ((n : Int) = (p : Int)) := by omega
    have e2 : ((n : Int) == (p : Int)) = false := beq_eq_false_iff_ne.2 e'
    clear e e'
    go_enter Tryd.func11, Tryd.ntmps11
    go_wp2_with fail
    go_ret
    exact ⟨rfl, .refl _ _⟩

set_option maxRecDepth 3000 in
set_option maxHeartbeats 400000 in
theorem equal_texts (v1 v2 : Value) (l m : List ByteArray) (w : World) (h1 : RdT w v1 l) (h2 : RdT w v2 m) :
    Calls Tryd.prog 20 #[v1, v2] w fun e w' => e = .returned (.bool (decide (l = m))) ∧ Below w.heap.size w w' := by
  obtain ⟨A1, c1, rfl, h11, h12⟩ := h1.form
  obtain ⟨A2, c2, rfl, h21, h22⟩ := h2.form
  unfold maxLen at h12 h22
  obtain ⟨n, hn⟩ : ∃ n, n = l.length := ⟨_, rfl⟩
  obtain ⟨p, hp⟩ : ∃ p, p = m.length := ⟨_, rfl⟩
  obtain ⟨b, hb⟩ : ∃ b, b = decide (l = m) := ⟨_, rfl⟩
  rw [← hb, ← hn, ← hp]
  rw [← hn] at h1 h11
  rw [← hp] at h2 h21
  have H1 := Lib.hid h1
  have H2 := Lib.hid h2
  have HN := Lib.hid hn
  have HP := Lib.hid hp
  have HB := Lib.hid hb
  have hnz : (n : Int) ≤ 2 ^ 63 - 1 := by omega
  have hpz : (p : Int) ≤ 2 ^ 63 - 1 := by omega
  clear h1 h2 hn hp hb h11 h12 h21 h22
  by_cases e : n = p
  · subst e
    go_enter Tryd.func20, Tryd.ntmps20
    go_wp2_with fail
    go_loopw [13] (fun t wr => ∃ k : Nat, t = .int .i64 ((k : Nat) : Int) ∧ k ≤ n ∧ Hid (∀ i (hi : i < l.length) (hj : i < m.length), i < k → l[i] = m[i]) ∧ ∃ j, wr = w.drewN j) (fun t _ => n - (intOf t).toNat)
    case atStart => exact ⟨0, rfl, Nat.zero_le _, Lib.hid fun _ _ _ h => absurd h (by omega), 0, rfl⟩
    case round =>
      obtain ⟨k, rfl, hk, heq, j, rfl⟩ := hrel
      by_cases hlt : k < n
      · obtain ⟨b1, o1, rfl, _, g1⟩ := H1.out.at_ HN.out (k := k) (by have := HN.out; omega)
        obtain ⟨b2, o2, rfl, _, g2⟩ := H2.out.at_ HP.out (k := k) (by have := HP.out; omega)
        have hkl : k < l.length := by have := HN.out; omega
        have hkm : k < m.length := by have := HP.out; omega
        have c1' := g1 k hkl
        have c2' := g2 k hkm
        obtain ⟨x, hx⟩ : ∃ x, x = l[k] := ⟨_, rfl⟩
        obtain ⟨y, hy⟩ : ∃ y, y = m[k] := ⟨_, rfl⟩
        rw [← hx] at c1'
        rw [← hy] at c2'
        have HX := Lib.hid hx
        have HY := Lib.hid hy
        clear g1 g2 hx hy
        by_cases exy : x = y
        · subst exy
          go_wp2_with fail
          go_quiet (fail)
          go_wp2
          exact ⟨⟨k + 1, by simp, by omega, Lib.hid fun i hi hj hik => by
            by_cases e : i = k
            · subst e; rw [← HX.out, ← HY.out]
            · exact heq.out i hi hj (by omega), _, rfl⟩, by simp [intOf]; omega⟩
        · have hne := text_ne exy
          obtain rfl : b = false := by
            rw [HB.out]
            refine decide_eq_false fun hlm => exy ?_
            subst hlm
            rw [HX.out, HY.out]
          clear exy
          go_wp2_with fail
          go_quiet (fail)
          go_wp2
          go_ret
          exact ⟨rfl, ⟨rfl, rfl, rfl, Nat.le_refl _, fun _ _ => rfl⟩⟩
      · obtain rfl : k = n := by omega
        obtain rfl : b = true := by
          rw [HB.out]
          refine decide_eq_true (list_same (by rw [← HN.out, ← HP.out]) fun i hi hj => heq.out i hi hj (by have := HN.out; omega))
        go_wp2
        go_ret
        exact ⟨rfl, ⟨rfl, rfl, rfl, Nat.le_refl _, fun _ _ => rfl⟩⟩
  · obtain rfl : b = false := by
      rw [HB.out]
      refine decide_eq_false fun hlm => e ?_
      rw [HN.out, HP.out, hlm]
    have e' : ¬ ((n : Int) = (p : Int)) := by omega
    have e2 : ((n : Int) == (p : Int)) = false := beq_eq_false_iff_ne.2 e'
    clear e e'
    go_enter Tryd.func20, Tryd.ntmps20
    go_wp2_with fail
    go_ret
    exact ⟨rfl, .refl _ _⟩

/-- names' path -/
def jnB (l : List ByteArray) : ByteArray := ⟨(jnL (l.map (·.data.toList))).toArray⟩
theorem jnB_data (l : List ByteArray) : (jnB l).data.toList = jnL (l.map (·.data.toList)) := rfl
def GoodB (l : List ByteArray) : Prop := Good (l.map (·.data.toList))
theorem GoodB.iff (l : List ByteArray) : GoodB l ↔ l.length ≤ 8 ∧ ∀ n ∈ l, Nam n := by
  unfold GoodB Good
  rw [List.length_map]
  constructor
  · rintro ⟨h1, h2⟩; exact ⟨h1, fun n hn => h2 _ (List.mem_map_of_mem hn)⟩
  · rintro ⟨h1, h2⟩; exact ⟨h1, fun n hn => by obtain ⟨m, hm, rfl⟩ := List.mem_map.1 hn; exact h2 m hm⟩
theorem jnB_bad {l : List ByteArray} (h : ¬ GoodB l) : jnB l = ⟨#[]⟩ := data_eq (by rw [jnB_data, jnL_bad h])
theorem jnB_nil : jnB [] = ⟨#[47]⟩ := rfl
/-- how far Join has come -/
structure JnAt (l : List ByteArray) (k : Nat) (p : ByteArray) : Prop where
  text : p.data.toList = joinL ((l.take k).map (·.data.toList))
  names : ∀ i (hi : i < l.length), i < k → Nam l[i]
  size : p.size ≤ 17 * k
theorem JnAt.zero (l : List ByteArray) : JnAt l 0 ⟨#[]⟩ := ⟨rfl, fun _ _ h => absurd h (by omega), by decide⟩
theorem app_data (a b : ByteArray) : (a ++ b).data.toList = a.data.toList ++ b.data.toList := by simp
theorem JnAt.next {l : List ByteArray} {k : Nat} {p q : ByteArray} (h : JnAt l k p) (hk : k < l.length) (hn : Nam l[k]) (hq : q.data.toList = p.data.toList ++ (47 :: l[k].data.toList)) : JnAt l (k + 1) q := by
  have hs : ∀ s : ByteArray, s.data.toList.length = s.size := fun s => Array.length_toList
  refine ⟨?_, fun i hi hik => ?_, ?_⟩
  · rw [hq, h.text, List.take_add_one, List.getElem?_eq_getElem hk, List.map_append, joinL_append]
    simp [joinL]
  · by_cases e : i = k
    · subst e; exact hn
    · exact h.names i hi (by omega)
  · have h1 := h.size
    have h2 : l[k].data.toList.length < 17 := hn.2.1
    rw [← hs q, hq, List.length_append, List.length_cons, hs p]
    omega
theorem JnAt.done {l : List ByteArray} {p : ByteArray} (h : JnAt l l.length p) (hne : l ≠ []) (h8 : l.length ≤ 8) : p = jnB l := by
  refine data_eq ?_
  have hg : Good (l.map (·.data.toList)) := (GoodB.iff l).2 ⟨h8, fun n hn => by obtain ⟨i, hi, rfl⟩ := List.getElem_of_mem hn; exact h.names i hi hi⟩
  rw [h.text, jnB_data, List.take_length]
  unfold jnL
  rw [if_neg (by simpa using hne), if_pos hg]
theorem Nam.size {s : ByteArray} (h : Nam s) : s.size < 17 := ((nam_iff s).1 h).2.1

set_option maxRecDepth 3000 in
theorem join_any (v : Value) (l : List ByteArray) (w : World) (h : RdT w v l) (hl : ∀ s ∈ l, s.size ≤ maxLen) :
    Calls Tryd.prog 14 #[v] w fun e w' => e = .returned (.string (jnB l)) ∧ Below w.heap.size w w' := by
  obtain ⟨A, c, rfl, h1, h2⟩ := h.form
  unfold maxLen at h2
  obtain ⟨n, hn⟩ : ∃ n, n = l.length := ⟨_, rfl⟩
  obtain ⟨b, hb⟩ : ∃ b, b = jnB l := ⟨_, rfl⟩
  rw [← hb, ← hn]
  rw [← hn] at h h1
  have H := Lib.hid h
  have HN := Lib.hid hn
  have HB := Lib.hid hb
  have HL := Lib.hid hl
  have hnz : (n : Int) ≤ 2 ^ 63 - 1 := by omega
  clear h hn hb hl h1 h2
  by_cases h0 : n = 0
  · obtain rfl : b = ⟨#[47]⟩ := by
      rw [HB.out]
      have : l = [] := List.eq_nil_of_length_eq_zero (by rw [← HN.out, h0])
      rw [this]; rfl
    subst h0
    go_enter Tryd.func14, Tryd.ntmps14
    go_wp2
    go_ret
    exact ⟨rfl, .refl _ _⟩
  · have h0' : ((n : Int) == 0) = false := beq_eq_false_iff_ne.2 (by omega)
    by_cases h8 : 8 < n
    · obtain rfl : b = ⟨#[]⟩ := by
        rw [HB.out]
        exact jnB_bad fun hg => by have := ((GoodB.iff l).1 hg).1; have := HN.out; omega
      have h8' : (8 : Int) < (n : Int) := by omega
      go_enter Tryd.func14, Tryd.ntmps14
      go_wp2
      go_ret
      exact ⟨rfl, .refl _ _⟩
    · have h8' : (n : Int) ≤ 8 := by omega
      have BAD : Hid (∀ i (hi : i < l.length), ¬ Nam l[i] → b = ⟨#[]⟩) := Lib.hid fun i hi hne => by
        rw [HB.out]
        exact jnB_bad fun hg => hne (((GoodB.iff l).1 hg).2 _ (List.getElem_mem hi))
      have DONE : Hid (∀ p, JnAt l n p → b = p) := Lib.hid fun p hp => by
        rw [HB.out]
        rw [HN.out] at hp
        exact (hp.done (by intro e; rw [e] at HN; exact h0 HN.out) (by rw [← HN.out]; omega)).symm
      clear HB h8
      go_enter Tryd.func14, Tryd.ntmps14
      go_wp2_with fail
      go_loopw [14, 3] (fun t u wr => ∃ (k : Nat) (p : ByteArray), t = .int .i64 ((k : Nat) : Int) ∧ u = .string p ∧ k ≤ n ∧ Hid (JnAt l k p) ∧ p.size ≤ 136 ∧ Below w.heap.size w wr) (fun t _ _ => n - (intOf t).toNat)
      case atStart => exact ⟨0, ⟨#[]⟩, rfl, rfl, Nat.zero_le _, Lib.hid (.zero l), by decide, .refl _ _⟩
      case round =>
        obtain ⟨k, p, rfl, rfl, hk, hj, hps, hbw⟩ := hrel
        by_cases hlt : k < n
        · have hkl : k < l.length := by have := HN.out; omega
          obtain ⟨b1, o1, rfl, hb1, g1⟩ := (H.out.below hbw).at_ HN.out hkl
          have c1' := g1 k hkl
          have hsz : l[k].size ≤ maxLen := HL.out _ (List.getElem_mem hkl)
          obtain ⟨x, hx⟩ : ∃ x, x = l[k] := ⟨_, rfl⟩
          rw [← hx] at c1' hsz
          have HX := Lib.hid hx
          have HW := Lib.hid hbw
          have hc := check_any x wr hsz
          clear g1 hx hbw hb1 hsz
          by_cases hnm : Nam x
          · have e0 : chkV x = 0 := if_pos hnm
            rw [e0] at hc
            have hxs := hnm.size
            have HNM := Lib.hid hnm
            clear hnm e0
            go_wp2_with (first | fail | (go_at_call 9; refine hc.mono ?_; rintro e w1 ⟨rfl, hb1⟩))
            have hq : JnAt l (k + 1) (p ++ ((⟨#[47]⟩ : ByteArray) ++ x)) := hj.out.next hkl (by rw [← HX.out]; exact HNM.out) (by rw [app_data, app_data, ← HX.out]; rfl)
            exact ⟨⟨k + 1, _, by simp, rfl, by omega, Lib.hid hq, by have := hq.size; omega, HW.out.trans (hb1.mono HW.out.size)⟩, by simp [intOf]; omega⟩
          · have e0 : chkV x = 9 := if_neg hnm
            rw [e0] at hc
            obtain rfl := BAD.out k hkl (by rw [← HX.out]; exact hnm)
            clear hnm e0
            go_wp2_with (first | fail | (go_at_call 9; refine hc.mono ?_; rintro e w1 ⟨rfl, hb1⟩))
            go_ret
            exact ⟨rfl, HW.out.trans (hb1.mono HW.out.size)⟩
        · obtain rfl : k = n := by omega
          obtain rfl := DONE.out p hj.out
          go_wp2
          go_ret
          exact ⟨rfl, hbw⟩

set_option maxRecDepth 3000 in
theorem qjoin_any (v : Value) (l : List ByteArray) (w : World) (h : RdT w v l) (hl : ∀ s ∈ l, s.size ≤ maxLen) :
    Calls Tryd.prog 15 #[v] w fun e w' => e = .returned (.string (jnB l)) ∧ w = w' := by
  obtain ⟨A, c, rfl, h1, h2⟩ := h.form
  unfold maxLen at h2
  obtain ⟨n, hn⟩ : ∃ n, n = l.length := ⟨_, rfl⟩
  obtain ⟨b, hb⟩ : ∃ b, b = jnB l := ⟨_, rfl⟩
  rw [← hb, ← hn]
  rw [← hn] at h h1
  have H := Lib.hid h
  have HN := Lib.hid hn
  have HB := Lib.hid hb
  have HL := Lib.hid hl
  have hnz : (n : Int) ≤ 2 ^ 63 - 1 := by omega
  clear h hn hb hl h1 h2
  by_cases h0 : n = 0
  · obtain rfl : b = ⟨#[47]⟩ := by
      rw [HB.out]
      have : l = [] := List.eq_nil_of_length_eq_zero (by rw [← HN.out, h0])
      rw [this]; rfl
    subst h0
    go_enter Tryd.func15, Tryd.ntmps15
    go_wp2
    go_ret
    exact ⟨rfl, rfl⟩
  · have h0' : ((n : Int) == 0) = false := beq_eq_false_iff_ne.2 (by omega)
    have BAD : Hid (∀ i (hi : i < l.length), ¬ Nam l[i] → b = ⟨#[]⟩) := Lib.hid fun i hi hne => by
      rw [HB.out]
      exact jnB_bad fun hg => hne (((GoodB.iff l).1 hg).2 _ (List.getElem_mem hi))
    have LONG : Hid (8 < n → b = ⟨#[]⟩) := Lib.hid fun h8 => by
      rw [HB.out]
      exact jnB_bad fun hg => by have := ((GoodB.iff l).1 hg).1; have := HN.out; omega
    have DONE : Hid (∀ p, JnAt l n p → n ≤ 8 → b = p) := Lib.hid fun p hp h8 => by
      rw [HB.out]
      rw [HN.out] at hp
      exact (hp.done (by intro e; rw [e] at HN; exact h0 HN.out) (by rw [← HN.out]; omega)).symm
    clear HB
    go_enter Tryd.func15, Tryd.ntmps15
    go_wp2_with fail
    go_loopw [4, 3] (fun t u wr => ∃ (k : Nat) (p : ByteArray), t = .int .i64 ((k : Nat) : Int) ∧ u = .string p ∧ k ≤ n ∧ k ≤ 8 ∧ Hid (JnAt l k p) ∧ p.size ≤ 136 ∧ wr = w) (fun t _ _ => n - (intOf t).toNat)
    case atStart => exact ⟨0, ⟨#[]⟩, rfl, rfl, Nat.zero_le _, Nat.zero_le _, Lib.hid (.zero l), by decide, rfl⟩
    case round =>
      obtain ⟨k, p, rfl, rfl, hk, hk8, hj, hps, rfl⟩ := hrel
      by_cases hlt : k < n
      · have hkl : k < l.length := by have := HN.out; omega
        obtain ⟨b1, o1, rfl, hb1, g1⟩ := H.out.at_ HN.out hkl
        have c1' := g1 k hkl
        have hsz : l[k].size ≤ maxLen := HL.out _ (List.getElem_mem hkl)
        obtain ⟨x, hx⟩ : ∃ x, x = l[k] := ⟨_, rfl⟩
        rw [← hx] at c1' hsz
        have HX := Lib.hid hx
        have hc := is_any x wr hsz
        clear g1 hx hb1 hsz
        by_cases hnm : Nam x
        · have e0 : decide (Nam x) = true := decide_eq_true hnm
          rw [e0] at hc
          have hxs := hnm.size
          have HNM := Lib.hid hnm
          clear hnm e0
          by_cases e8 : k = 8
          · obtain rfl := LONG.out (by omega)
            subst e8
            go_wp2_with (first | fail | (go_at_call 10; refine hc.mono ?_; rintro e w1 ⟨rfl, rfl⟩))
            go_ret
            exact ⟨rfl, rfl⟩
          · have e8' : ((k : Int) == 8) = false := beq_eq_false_iff_ne.2 (by omega)
            go_wp2_with (first | fail | (go_at_call 10; refine hc.mono ?_; rintro e w1 ⟨rfl, rfl⟩))
            have hq : JnAt l (k + 1) ((p ++ (⟨#[47]⟩ : ByteArray)) ++ x) := hj.out.next hkl (by rw [← HX.out]; exact HNM.out) (by rw [app_data, app_data, ← HX.out]; simp)
            exact ⟨⟨k + 1, _, by simp, rfl, by omega, by omega, Lib.hid hq, by have := hq.size; omega, by trivial⟩, by simp [intOf]; omega⟩
        · have e0 : decide (Nam x) = false := decide_eq_false hnm
          rw [e0] at hc
          obtain rfl := BAD.out k hkl (by rw [← HX.out]; exact hnm)
          clear hnm e0
          go_wp2_with (first | fail | (go_at_call 10; refine hc.mono ?_; rintro e w1 ⟨rfl, rfl⟩))
          go_ret
          exact ⟨rfl, rfl⟩
      · obtain rfl : k = n := by omega
        obtain rfl := DONE.out p hj.out hk8
        go_wp2
        go_ret
        exact ⟨rfl, rfl⟩
end Go.Proofs.YtolcnbiaiolcoaaDoor
