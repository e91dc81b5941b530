/- Whether a text is a name: the document's Is, the program's Check. -/
import Derived.Test.YtpgeebhepegpaaaBase
import Derived.Test.YtpgeebhepegpaaaNmM
import Derived.Laws.RangeAny
import Derived.Laws.DeepStrings4
namespace Go.Proofs.Ytpgeebhepegpaaa
open Go.ChangeShapes Go.WideShapes Go.ChangeAt Go.RowKit

/-- a text that is a name -/
def Nam (s : ByteArray) : Prop := NameL s.data.toList
instance (s : ByteArray) : Decidable (Nam s) := by unfold Nam; infer_instance

theorem bytes_at (s : ByteArray) (i : Nat) (h : i < s.size) : s.data.toList[i]? = some (s[i]'h) := by
  have : i < s.data.size := h
  rw [Array.getElem?_toList, Array.getElem?_eq_getElem this]
  rfl
theorem all_okC {s : ByteArray} (h : ∀ i (hi : i < s.size), okC (s[i]'hi) = true) : ∀ c ∈ s.data.toList, okC c = true := by
  intro c hc
  obtain ⟨i, hi, e⟩ := List.getElem_of_mem hc
  have hi' : i < s.size := by simpa using hi
  have := bytes_at s i hi'
  rw [List.getElem?_eq_getElem hi] at this
  rw [← e, Option.some.inj this]
  exact h i hi'
theorem okC_at {s : ByteArray} (h : ∀ c ∈ s.data.toList, okC c = true) (i : Nat) (hi : i < s.size) : okC (s[i]'hi) = true := by
  refine h _ ?_
  have := bytes_at s i hi
  exact List.mem_of_getElem? this
theorem data_eq {s t : ByteArray} (h : s.data.toList = t.data.toList) : s = t := by
  cases s; cases t
  congr 1
  exact Array.toList_inj.1 h
/-- one dot, two dots -/
def dot1 : ByteArray := ⟨#[46]⟩
def dot2 : ByteArray := ⟨#[46, 46]⟩
theorem dot1_iff (s : ByteArray) : s.toList = [46] ↔ s = dot1 := ⟨fun h => data_eq (by rw [← Lib.toList_data, h]; rfl), fun h => by rw [h, Lib.toList_data]; rfl⟩
theorem dot2_iff (s : ByteArray) : s.toList = [46, 46] ↔ s = dot2 := ⟨fun h => data_eq (by rw [← Lib.toList_data, h]; rfl), fun h => by rw [h, Lib.toList_data]; rfl⟩
theorem nam_iff (s : ByteArray) : Nam s ↔ 0 < s.size ∧ s.size < 17 ∧ (∀ i (hi : i < s.size), okC (s[i]'hi) = true) ∧ s.toList ≠ [46] ∧ s.toList ≠ [46, 46] := by
  have hs : s.data.toList.length = s.size := Array.length_toList
  unfold Nam NameL
  rw [hs, Lib.toList_data]
  constructor
  · rintro ⟨h1, h2, h3, h4, h5⟩
    exact ⟨h1, h2, okC_at h3, h4, h5⟩
  · rintro ⟨h1, h2, h3, h4, h5⟩
    exact ⟨h1, h2, all_okC h3, h4, h5⟩

set_option maxRecDepth 3000 in
theorem is_any (s : ByteArray) (w : World) (hs : s.size ≤ maxLen) :
    Calls Try.prog 66 #[.string s] w fun e w' => e = .returned (.bool (decide (Nam s))) ∧ w = w' := by
  unfold maxLen at hs
  obtain ⟨b, hb⟩ : ∃ b, b = decide (Nam s) := ⟨_, rfl⟩
  rw [← hb]
  have hN := Lib.hid (nam_iff s)
  have HB := Lib.hid hb
  clear hb
  go_enter Try.func66, Try.ntmps66
  go_wp2
  go_loopw [3] (fun t wr => ∃ k : Nat, t = .int .i64 ((k : Nat) : Int) ∧ k ≤ s.size ∧ (∀ i (hi : i < s.size), i < k → okC (s[i]'hi) = true) ∧ wr = w) (fun t _ => s.size - (intOf t).toNat)
  case atStart => exact ⟨0, rfl, Nat.zero_le _, fun _ _ h => absurd h (by omega), rfl⟩
  case round =>
    obtain ⟨k, rfl, hk, hok, rfl⟩ := hrel
    by_cases hlt : k < s.size
    · have no : okC (s[k]'hlt) = false → b = false := fun h => by
        rw [HB.out]
        refine decide_eq_false fun hn => ?_
        have := (hN.out.1 hn).2.2.1 k hlt
        rw [h] at this; cases this
      have NO := Lib.hid no
      clear no
      by_cases h1 : ((s[k]'hlt).toNat : Int) ≤ 32
      · obtain rfl := NO.out (by unfold okC; rw [decide_eq_false (by omega)]; rfl)
        go_wp2
        go_ret
        exact ⟨rfl, rfl⟩
      · by_cases h2 : (127 : Int) ≤ ((s[k]'hlt).toNat : Int)
        · obtain rfl := NO.out (by unfold okC; rw [decide_eq_true (by omega), decide_eq_false (p := (s[k]'hlt).toNat < 127) (by omega)]; rfl)
          go_wp2
          go_ret
          exact ⟨rfl, rfl⟩
        · by_cases h3 : ((s[k]'hlt).toNat : Int) = 47
          · obtain rfl := NO.out (by unfold okC; rw [decide_eq_true (by omega), decide_eq_true (p := (s[k]'hlt).toNat < 127) (by omega), decide_eq_false (by omega)]; rfl)
            have h3' : (((s[k]'hlt).toNat : Int) == 47) = true := beq_iff_eq.2 h3
            clear h3
            go_wp2
            go_ret
            exact ⟨rfl, rfl⟩
          · have hk' : okC (s[k]'hlt) = true := by unfold okC; rw [decide_eq_true (by omega), decide_eq_true (p := (s[k]'hlt).toNat < 127) (by omega), decide_eq_true (by omega)]; rfl
            have h3' : (((s[k]'hlt).toNat : Int) == 47) = false := beq_eq_false_iff_ne.2 h3
            have HO : ∀ i (hi : i < s.size), i < k + 1 → okC (s[i]'hi) = true := fun i hi hik => by
              by_cases e : i = k
              · subst e; exact hk'
              · exact hok i hi (by omega)
            have HO' := Lib.hid HO
            clear h3 hk' HO hok
            go_wp2
            exact ⟨⟨k + 1, by simp, by omega, by first | exact ⟨HO'.out, rfl⟩ | exact ⟨HO'.out, trivial⟩ | exact HO'.out⟩, by simp [intOf]; omega⟩
    · obtain rfl : k = s.size := by omega
      have HO := Lib.hid hok
      clear hok
      have NO : Hid ((¬ 0 < s.size ∨ ¬ s.size < 17 ∨ s.toList = [46] ∨ s.toList = [46, 46]) → b = false) := Lib.hid fun h => by
        rw [HB.out]
        refine decide_eq_false fun hn => ?_
        obtain ⟨h1, h2, _, h4, h5⟩ := hN.out.1 hn
        rcases h with h | h | h | h
        · exact h h1
        · exact h h2
        · exact h4 h
        · exact h5 h
      have YES : Hid (0 < s.size → s.size < 17 → s.toList ≠ [46] → s.toList ≠ [46, 46] → b = true) := Lib.hid fun h1 h2 h4 h5 => by
        rw [HB.out]
        exact decide_eq_true (hN.out.2 ⟨h1, h2, fun i hi => HO.out i hi hi, h4, h5⟩)
      clear HB hN HO
      by_cases h0 : 0 < s.size
      · by_cases h17 : s.size < 17
        · by_cases e1 : s.toList = [46]
          · obtain rfl := NO.out (.inr (.inr (.inl e1)))
            go_wp2
            go_ret
            exact ⟨rfl, rfl⟩
          · have b1 : (s.toList == [46]) = false := beq_eq_false_iff_ne.2 e1
            by_cases e2 : s.toList = [46, 46]
            · obtain rfl := NO.out (.inr (.inr (.inr e2)))
              have b2 : (s.toList == [46, 46]) = true := beq_iff_eq.2 e2
              go_wp2
              go_ret
              exact ⟨by first | rfl | simp [b1, b2], rfl⟩
            · have b2 : (s.toList == [46, 46]) = false := beq_eq_false_iff_ne.2 e2
              obtain rfl := YES.out h0 h17 e1 e2
              go_wp2
              go_ret
              exact ⟨by first | rfl | simp [b1, b2], rfl⟩
        · obtain rfl := NO.out (.inr (.inl h17))
          have h17' : ¬ ((s.size : Int) < 17) := by omega
          go_wp2
          go_ret
          exact ⟨rfl, rfl⟩
      · obtain rfl := NO.out (.inl h0)
        have h0' : s.size = 0 := by omega
        go_wp2
        go_ret
        exact ⟨rfl, rfl⟩

set_option maxRecDepth 3000 in
theorem char_any (r : Int) (w : World) :
    Calls Try.prog 82 #[.int .i32 r] w fun e w' => e = .returned (.bool (decide (32 < r) && decide (r < 127) && decide (r ≠ 47))) ∧ w = w' := by
  obtain ⟨b, hb⟩ : ∃ b, b = (decide (32 < r) && decide (r < 127) && decide (r ≠ 47)) := ⟨_, rfl⟩
  rw [← hb]
  have HB := Lib.hid hb
  clear hb
  by_cases h1 : 33 ≤ r
  · by_cases h2 : r ≤ 126
    · by_cases h3 : r = 47
      · obtain rfl : b = false := by rw [HB.out, decide_eq_false (p := r ≠ 47) (by omega), Bool.and_false]
        subst h3
        go_enter Try.func82, Try.ntmps82
        go_wp2
        go_ret
        exact ⟨rfl, rfl⟩
      · obtain rfl : b = true := by rw [HB.out, decide_eq_true (p := 32 < r) (by omega), decide_eq_true (p := r < 127) (by omega), decide_eq_true (p := r ≠ 47) h3]; rfl
        have h3' : (r == 47) = false := beq_eq_false_iff_ne.2 h3
        go_enter Try.func82, Try.ntmps82
        go_wp2
        go_ret
        exact ⟨by first | rfl | simp [h3], rfl⟩
    · obtain rfl : b = false := by rw [HB.out, decide_eq_false (p := r < 127) (by omega), Bool.and_false, Bool.false_and]
      go_enter Try.func82, Try.ntmps82
      go_wp2
      go_ret
      exact ⟨rfl, rfl⟩
  · obtain rfl : b = false := by rw [HB.out, decide_eq_false (p := 32 < r) (by omega), Bool.false_and, Bool.false_and]
    go_enter Try.func82, Try.ntmps82
    go_wp2
    go_ret
    exact ⟨rfl, rfl⟩

/-- what Check answers -/
def chkV (s : ByteArray) : Int := if Nam s then 0 else 9

set_option maxRecDepth 3000 in
theorem check_any (s : ByteArray) (w : World) (hs : s.size ≤ maxLen) :
    Calls Try.prog 60 #[.string s] w fun e w' => e = .returned (.int .i64 (chkV s)) ∧ Below w.heap.size w w' := by
  unfold maxLen at hs
  obtain ⟨b, hb⟩ : ∃ b, b = chkV s := ⟨_, rfl⟩
  rw [← hb]
  have hN := Lib.hid (nam_iff s)
  have HB := Lib.hid hb
  clear hb
  have NO : Hid ((¬ 0 < s.size ∨ ¬ s.size < 17 ∨ s.toList = [46] ∨ s.toList = [46, 46]) → b = 9) := Lib.hid fun h => by
    rw [HB.out]
    refine if_neg fun hn => ?_
    obtain ⟨h1, h2, _, h4, h5⟩ := hN.out.1 hn
    rcases h with h | h | h | h
    · exact h h1
    · exact h h2
    · exact h4 h
    · exact h5 h
  by_cases h0 : 0 < s.size
  · by_cases h17 : s.size < 17
    · by_cases e1 : s.toList = [46]
      · obtain rfl := NO.out (.inr (.inr (.inl e1)))
        have b1 : (s.toList == [46]) = true := beq_iff_eq.2 e1
        go_enter Try.func60, Try.ntmps60
        go_wp2
        go_ret
        exact ⟨rfl, .refl _ _⟩
      · have b1 : (s.toList == [46]) = false := beq_eq_false_iff_ne.2 e1
        by_cases e2 : s.toList = [46, 46]
        · obtain rfl := NO.out (.inr (.inr (.inr e2)))
          have b2 : (s.toList == [46, 46]) = true := beq_iff_eq.2 e2
          go_enter Try.func60, Try.ntmps60
          go_wp2
          go_ret
          exact ⟨rfl, .refl _ _⟩
        · have b2 : (s.toList == [46, 46]) = false := beq_eq_false_iff_ne.2 e2
          have YES : Hid ((∀ i (hi : i < s.size), okC (s[i]'hi) = true) → b = 0) := Lib.hid fun h => by
            rw [HB.out]
            exact if_pos (hN.out.2 ⟨h0, h17, h, e1, e2⟩)
          have BAD : Hid (∀ i (hi : i < s.size), okC (s[i]'hi) = false → b = 9) := Lib.hid fun i hi h => by
            rw [HB.out]
            refine if_neg fun hn => ?_
            have := (hN.out.1 hn).2.2.1 i hi
            rw [h] at this; cases this
          clear HB hN NO
          go_enter Try.func60, Try.ntmps60
          go_wp2
          go_loopw [4] (fun t wr => ∃ k : Nat, k ≤ s.size ∧ (∀ i (hi : i < s.size), i < k → okC (s[i]'hi) = true) ∧ wr = w.iter s k) (fun _ wr => s.size - wr.iterPos w.heap.size)
          case atStart => exact ⟨0, Nat.zero_le _, fun _ _ h => absurd h (by omega), rfl⟩
          case round =>
            obtain ⟨k, hk, hok, rfl⟩ := hrel
            have HO := Lib.hid hok
            clear hok
            by_cases hlt : k < s.size
            · by_cases ha : (s[k]'hlt).toNat < 128
              · have hnx : ∀ ty, (Instr.next (.pointer (some ⟨w.heap.size, 0, none⟩)) true ty).run Try.prog (w.iter s k) = _ := fun ty => run_next_ascii w s k ty hlt ha
                have c := fun w => char_any ((s[k]'hlt).toNat : Int) w
                obtain ⟨r, hr⟩ : ∃ r : Nat, r = (s[k]'hlt).toNat := ⟨_, rfl⟩
                obtain ⟨o, ho⟩ : ∃ o, o = (decide (32 < (r : Int)) && decide ((r : Int) < 127) && decide ((r : Int) ≠ 47)) := ⟨_, rfl⟩
                rw [← hr] at hnx c
                rw [← ho] at c
                have eo : o = okC (s[k]'hlt) := by
                  rw [ho]; unfold okC; rw [← hr]
                  simp only [ne_eq, decide_not]
                  congr 1
                  · congr 1
                    · exact decide_eq_decide.2 (by omega)
                    · exact decide_eq_decide.2 (by omega)
                  · congr 1
                    exact decide_eq_decide.2 (by omega)
                have EO := Lib.hid eo
                clear ha hr ho eo
                cases o
                · obtain rfl := BAD.out k hlt EO.out.symm
                  go_wp2_with (first | fail | (go_at_call 82; refine (c _).mono ?_; rintro e w1 ⟨rfl, rfl⟩))
                  go_ret
                  exact ⟨rfl, (Below.refl _ w).alloc (Nat.le_refl _) _⟩
                · go_wp2_with (first | fail | (go_at_call 82; refine (c _).mono ?_; rintro e w1 ⟨rfl, rfl⟩))
                  exact ⟨⟨k + 1, by omega, fun i hi hik => by
                    by_cases e : i = k
                    · subst e; exact EO.out.symm
                    · exact HO.out i hi (by omega), rfl⟩, by simp; omega⟩
              · have hnx : ∀ ty, (Instr.next (.pointer (some ⟨w.heap.size, 0, none⟩)) true ty).run Try.prog (w.iter s k) = _ := fun ty => run_next_any w s k ty hlt
                have hgt := (decode_high s k hlt (by omega)).1
                obtain ⟨r, hr⟩ : ∃ r : Nat, r = (Utf8.decode s k).1 := ⟨_, rfl⟩
                obtain ⟨p, hp⟩ : ∃ p : Nat, p = k + (Utf8.decode s k).2 := ⟨_, rfl⟩
                rw [← hr, ← hp] at hnx
                rw [← hr] at hgt
                have c : ∀ w, Calls Try.prog 82 #[.int .i32 (r : Int)] w fun e w' => e = .returned (.bool false) ∧ w = w' := fun w => (char_any (r : Int) w).mono fun e w' ⟨he, hw⟩ => ⟨by
                  rw [he, decide_eq_false (p := (r : Int) < 127) (by omega), Bool.and_false, Bool.false_and], hw⟩
                obtain rfl := BAD.out k hlt (by unfold okC; rw [decide_eq_false (p := (s[k]'hlt).toNat < 127) (by omega), Bool.and_false, Bool.false_and])
                clear hr hp hgt ha
                go_wp2_with (first | fail | (go_at_call 82; refine (c _).mono ?_; rintro e w1 ⟨rfl, rfl⟩))
                go_ret
                exact ⟨rfl, (Below.refl _ w).alloc (Nat.le_refl _) _⟩
            · have hnx : ∀ ty, (Instr.next (.pointer (some ⟨w.heap.size, 0, none⟩)) true ty).run Try.prog (w.iter s k) = _ := fun ty => run_next_end w s k ty hlt
              obtain rfl := YES.out fun i hi => HO.out i hi (by omega)
              go_wp2
              go_ret
              exact ⟨rfl, (Below.refl _ w).alloc (Nat.le_refl _) _⟩
    · obtain rfl := NO.out (.inr (.inl h17))
      have h17' : (16 : Int) < (s.size : Int) := by omega
      go_enter Try.func60, Try.ntmps60
      go_wp2
      go_ret
      exact ⟨rfl, .refl _ _⟩
  · obtain rfl := NO.out (.inl h0)
    have h0' : s.size = 0 := by omega
    go_enter Try.func60, Try.ntmps60
    go_wp2
    go_ret
    exact ⟨rfl, .refl _ _⟩
end Go.Proofs.Ytpgeebhepegpaaa
