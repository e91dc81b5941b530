/- The statements of layer 7, walked: NameChecks, NameJoins. -/
import Derived.Test.YtolcnbiaiolcoaaDoorNmO
namespace Go.Proofs.YtolcnbiaiolcoaaDoor
open Go.ChangeShapes Go.WideShapes Go.ChangeAt Go.RowKit

theorem short_to (s : ByteArray) (n : Nat) (hn : n ≤ 1000000) (hs : s.size ≤ maxLen) : ∃ S : ByteArray, S.size ≤ n ∧ ∀ w, Calls Tryd.prog 6 #[.string s, .int .i64 n] w fun e w' => e = .returned (.string S) ∧ w = w' := by
  refine ⟨if n < s.size then s.extract 0 n else s, ?_, fun w => short_any s n w (by omega) hs⟩
  split
  · rw [ByteArray.size_extract]; omega
  · omega
theorem small_max {S : ByteArray} {n : Nat} (h : S.size ≤ n) (hn : n ≤ 1000000) : S.size ≤ maxLen := by unfold maxLen; omega
/-- What Check and Is answer of one text. -/
theorem check_is (S : ByteArray) (hS : S.size ≤ maxLen) : ∃ (c : Int) (b : Bool), ((c = 0 ∧ b = true) ∨ (c = 9 ∧ b = false)) ∧ (∀ w, Calls Tryd.prog 9 #[.string S] w fun e w' => e = .returned (.int .i64 c) ∧ Below w.heap.size w w') ∧ (∀ w, Calls Tryd.prog 10 #[.string S] w fun e w' => e = .returned (.bool b) ∧ w = w') := by
  by_cases h : Nam S
  · refine ⟨0, true, .inl ⟨rfl, rfl⟩, fun w => ?_, fun w => ?_⟩
    · have := check_any S w hS
      rwa [show chkV S = 0 from if_pos h] at this
    · have := is_any S w hS
      rwa [decide_eq_true h] at this
  · refine ⟨9, false, .inr ⟨rfl, rfl⟩, fun w => ?_, fun w => ?_⟩
    · have := check_any S w hS
      rwa [show chkV S = 9 from if_neg h] at this
    · have := is_any S w hS
      rwa [decide_eq_false h] at this
/-- What both Splits answer of one text. -/
theorem split_both (p : ByteArray) (hp : p.size ≤ 1000000) : ∃ (l : List ByteArray) (c : Int) (ok : Bool), ((c = 0 ∧ ok = true ∧ PathB p l) ∨ (c = 9 ∧ ok = false ∧ l = [] ∧ ∀ m, ¬ PathB p m)) ∧
    (∀ w, Calls Tryd.prog 7 #[.string p] w fun e w' => ∃ v, e = .returned (.tuple #[v, .int .i64 c]) ∧ RdT w' v l ∧ Below w.heap.size w w') ∧
    (∀ w, Calls Tryd.prog 8 #[.string p] w fun e w' => ∃ v, e = .returned (.tuple #[v, .bool ok]) ∧ RdT w' v l ∧ Below w.heap.size w w') := by
  by_cases h : ∃ m, PathB p m
  · obtain ⟨m, hm⟩ := h
    exact ⟨m, 0, true, .inl ⟨rfl, rfl, hm⟩, fun w => nsplit_yes p m w hp hm, fun w => qsplit_yes p m w hp hm⟩
  · have hno : ∀ m, ¬ PathB p m := fun m hm => h ⟨m, hm⟩
    exact ⟨[], 9, false, .inr ⟨rfl, rfl, rfl, hno⟩, fun w => nsplit_no p w hp hno, fun w => qsplit_no p w hp hno⟩

set_option maxRecDepth 3000 in
set_option maxHeartbeats 1000000 in
theorem checks_walk (w : World) (s : ByteArray) (hs : s.size ≤ maxLen) (p : ByteArray) (hp : p.size ≤ maxLen) :
    Calls Tryd.prog 3 #[.string s, .string p] w fun e w' => e = .returned (.bool true) ∧ Below w.heap.size w w' := by
  obtain ⟨S, hS, c40⟩ := short_to s 40 (by decide) hs
  obtain ⟨P, hP, c200⟩ := short_to p 200 (by decide) hp
  obtain ⟨c, b, hcb, cC, cI⟩ := check_is S (small_max hS (by decide))
  obtain ⟨l, d, ok, hok, cN, cQ⟩ := split_both P (by omega)
  have cL := lives7_any
  have HB := Lib.hid (Below.refl w.heap.size w)
  clear hS hP hs hp
  rcases hcb with ⟨rfl, rfl⟩ | ⟨rfl, rfl⟩ <;> rcases hok with ⟨rfl, rfl, _⟩ | ⟨rfl, rfl, _, _⟩
  all_goals
    go_enter Tryd.func3, Tryd.ntmps3
    go_wp2_with (first
      | (go_at_call 6; refine (c40 _).mono ?_; rintro e w1 ⟨rfl, rfl⟩; clear c40)
      | (go_at_call 6; refine (c200 _).mono ?_; rintro e w1 ⟨rfl, rfl⟩; clear c200)
      | (go_at_call 7; refine (cN _).mono ?_; rintro e w2 ⟨v1, rfl, hr, hb⟩; have HR1 := Lib.hid hr; replace HB := Lib.hid (HB.out.trans (hb.mono HB.out.size)); clear hr hb cN)
      | (go_at_call 8; refine (cQ _).mono ?_; rintro e w3 ⟨v2, rfl, hr, hb⟩; have HR2 := Lib.hid hr; replace HR1 := Lib.hid (HR1.out.below hb); replace HB := Lib.hid (HB.out.trans (hb.mono HB.out.size)); clear hr hb cQ)
      | (go_at_call 9; refine (cC _).mono ?_; rintro e w4 ⟨rfl, hb⟩; replace HR1 := Lib.hid (HR1.out.below hb); replace HR2 := Lib.hid (HR2.out.below hb); replace HB := Lib.hid (HB.out.trans (hb.mono HB.out.size)); clear hb)
      | (go_at_call 10; refine (cI _).mono ?_; rintro e w5 ⟨rfl, rfl⟩)
      | (go_at_call 11; refine (same_texts _ _ l l _ HR1.out HR2.out).mono ?_; rintro e w6 ⟨rfl, hb⟩; rw [decide_eq_true (Eq.refl l)]; replace HB := Lib.hid (HB.out.trans (hb.mono HB.out.size)); clear hb HR1 HR2)
      | (go_at_call 12; refine (cL _).mono ?_; rintro e w7 ⟨rfl, hb⟩; replace HB := Lib.hid (HB.out.trans (hb.mono HB.out.size)); clear hb)
      | fail)
    go_ret
    exact ⟨rfl, HB.out⟩

theorem jnB_size (l : List ByteArray) : (jnB l).size ≤ 1000000 := by
  by_cases h0 : l = []
  · subst h0; decide
  · by_cases h : GoodB l
    · have hj : ∀ k, k ≤ l.length → ∃ q, JnAt l k q := by
        intro k
        induction k with
        | zero => exact fun _ => ⟨_, .zero l⟩
        | succ k ih =>
          intro hk
          obtain ⟨q, hq⟩ := ih (by omega)
          exact ⟨_, hq.next (by omega) (((GoodB.iff l).1 h).2 _ (List.getElem_mem (by omega))) (q := ⟨(q.data.toList ++ (47 :: l[k].data.toList)).toArray⟩) rfl⟩
      obtain ⟨q, hq⟩ := hj l.length (Nat.le_refl _)
      have h8 := ((GoodB.iff l).1 h).1
      rw [← hq.done h0 h8]
      have := hq.size
      omega
    · rw [jnB_bad h]; decide
theorem path_jn {l : List ByteArray} (h : GoodB l) : PathB (jnB l) l := PathL.of_jn h rfl
theorem no_path_empty : ∀ m, ¬ PathB ⟨#[]⟩ m := path_bad fun h => absurd h (by decide)
theorem not_empty {p : ByteArray} {m : List ByteArray} (h : PathB p m) : p.toList.isEmpty = false := by
  have := h.jn.2.2
  rw [Lib.toList_data]
  cases e : p.data.toList with
  | nil => exact absurd e this
  | cons _ _ => rfl
theorem not_empty' {p : ByteArray} {m : List ByteArray} (h : PathB p m) : (p.toList == []) = false := by
  have := not_empty h
  cases e : p.toList with
  | nil => rw [e] at this; cases this
  | cons _ _ => rfl

/-- What Split answers of names' path, and of nothing. -/
theorem split_join (T : List ByteArray) : ∃ (J : ByteArray) (c : Int) (m : List ByteArray), J = jnB T ∧ ((c = 0 ∧ T = m ∧ (J.toList == []) = false) ∨ (c = 9 ∧ J = ⟨#[]⟩)) ∧
    (∀ w, Calls Tryd.prog 7 #[.string J] w fun e w' => ∃ v, e = .returned (.tuple #[v, .int .i64 c]) ∧ RdT w' v m ∧ Below w.heap.size w w') := by
  by_cases h : GoodB T
  · exact ⟨_, 0, T, rfl, .inl ⟨rfl, rfl, not_empty' (path_jn h)⟩, fun w => nsplit_yes _ _ w (jnB_size T) (path_jn h)⟩
  · refine ⟨_, 9, [], rfl, .inr ⟨rfl, jnB_bad h⟩, fun w => ?_⟩
    rw [jnB_bad h]
    exact nsplit_no _ w (by decide) no_path_empty
theorem split_back (P : ByteArray) (hp : P.size ≤ 1000000) : ∃ (c : Int) (m : List ByteArray), ((c = 0 ∧ jnB m = P) ∨ (c = 9)) ∧ (∀ s ∈ m, s.size ≤ maxLen) ∧
    (∀ w, Calls Tryd.prog 7 #[.string P] w fun e w' => ∃ v, e = .returned (.tuple #[v, .int .i64 c]) ∧ RdT w' v m ∧ Below w.heap.size w w') := by
  obtain ⟨l, d, ok, hok, cN, _⟩ := split_both P hp
  rcases hok with ⟨rfl, rfl, h⟩ | ⟨rfl, rfl, rfl, _⟩
  · exact ⟨0, l, .inl ⟨rfl, data_eq (by rw [jnB_data]; exact h.jn.2.1)⟩, h.size, cN⟩
  · exact ⟨9, [], .inr rfl, fun s hs => by (cases hs), cN⟩

set_option maxRecDepth 3000 in
set_option maxHeartbeats 1000000 in
theorem joins_walk (w : World) (v : Value) (hv : ∃ l, TextsIn w v l) (p : ByteArray) (hp : p.size ≤ maxLen) :
    Calls Tryd.prog 4 #[v, .string p] w fun e w' => e = .returned (.bool true) ∧ Below w.heap.size w w' := by
  obtain ⟨l, hl⟩ := hv
  obtain ⟨P, hP, c200⟩ := short_to p 200 (by decide) hp
  have cT := texts_any v l w hl.rd hl.size
  obtain ⟨T, hT⟩ : ∃ T, T = sh20s l := ⟨_, rfl⟩
  have hz : ∀ s ∈ T, s.size ≤ maxLen := fun s hs => small_max (sh20s_size l s (by rw [← hT]; exact hs)) (by decide)
  rw [← hT] at cT
  obtain ⟨J, c, m, hJ, hcm, cS⟩ := split_join T
  obtain ⟨d, n, hdn, hnz, cB⟩ := split_back P (by omega)
  have cJ : ∀ w v, RdT w v T → Calls Tryd.prog 14 #[v] w fun e w' => e = .returned (.string J) ∧ Below w.heap.size w w' := fun w v h => by rw [hJ]; exact join_any v T w h hz
  have cQ : ∀ w v, RdT w v T → Calls Tryd.prog 15 #[v] w fun e w' => e = .returned (.string J) ∧ w = w' := fun w v h => by rw [hJ]; exact qjoin_any v T w h hz
  have cL := lives7_any
  have HB := Lib.hid (Below.refl w.heap.size w)
  have HZ := Lib.hid hnz
  clear hl hP hp hz hJ hT hnz
  rcases hcm with ⟨rfl, rfl, hne⟩ | ⟨rfl, rfl⟩ <;> rcases hdn with ⟨rfl, hjn⟩ | rfl
  all_goals
    go_enter Tryd.func4, Tryd.ntmps4
    go_wp2_with (first
      | (go_at_call 13; refine cT.mono ?_; rintro e w1 ⟨v1, rfl, hr, hb⟩; have HR1 := Lib.hid hr; replace HB := Lib.hid (HB.out.trans (hb.mono HB.out.size)); clear hr hb cT)
      | (go_at_call 6; refine (c200 _).mono ?_; rintro e w1 ⟨rfl, rfl⟩; clear c200)
      | (go_at_call 14; refine (cJ _ _ HR1.out).mono ?_; rintro e w2 ⟨rfl, hb⟩; replace HR1 := Lib.hid (HR1.out.below hb); replace HB := Lib.hid (HB.out.trans (hb.mono HB.out.size)); clear hb cJ)
      | (go_at_call 15; refine (cQ _ _ HR1.out).mono ?_; rintro e w3 ⟨rfl, rfl⟩; clear cQ)
      | (go_at_call 7; refine (cS _).mono ?_; rintro e w2 ⟨v2, rfl, hr, hb⟩; have HR2 := Lib.hid hr; replace HR1 := Lib.hid (HR1.out.below hb); replace HB := Lib.hid (HB.out.trans (hb.mono HB.out.size)); clear hr hb cS)
      | (go_at_call 11; refine (same_texts _ _ T T _ HR2.out HR1.out).mono ?_; rintro e w6 ⟨rfl, hb⟩; rw [decide_eq_true (Eq.refl T)]; replace HB := Lib.hid (HB.out.trans (hb.mono HB.out.size)); clear hb HR1 HR2)
      | (go_at_call 7; refine (cB _).mono ?_; rintro e w4 ⟨v3, rfl, hr, hb⟩; have HR3 := Lib.hid hr; replace HB := Lib.hid (HB.out.trans (hb.mono HB.out.size)); clear hr hb cB)
      | (go_at_call 14; refine (join_any _ n _ HR3.out HZ.out).mono ?_; rintro e w5 ⟨rfl, hb⟩; rw [hjn]; replace HB := Lib.hid (HB.out.trans (hb.mono HB.out.size)); clear hb)
      | (go_at_call 12; refine (cL _).mono ?_; rintro e w7 ⟨rfl, hb⟩; replace HB := Lib.hid (HB.out.trans (hb.mono HB.out.size)); clear hb)
      | fail)
    go_ret
    exact ⟨rfl, HB.out⟩
end Go.Proofs.YtolcnbiaiolcoaaDoor
