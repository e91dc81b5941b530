/- The newest of two heads: words. HeadKept: what a torn write of a head leaves (arithmetic). -/
import Derived.Test.YtolcnbiaiolcoaaGreatHdL
namespace Go.Proofs.YtolcnbiaiolcoaaGreat
open Go.RowKit

theorem unO_odd {l : List Nat} {k : Nat} {h : Hd} (e : unO l k = some h) : h.g % 2 = k := by
  unfold unO at e
  cases hl : unHd l with
  | none => rw [hl] at e; simp at e
  | some h' =>
    rw [hl] at e
    simp only [Option.bind_some] at e
    split at e
    · next hh => injection e with e; rw [← e]; exact hh
    · simp at e
theorem nx_none (o : Option Hd) : nx none o = o := by
  cases o with
  | none => rfl
  | some h =>
    show (if hZ.g ≤ h.g then some h else none) = some h
    exact if_pos (Nat.zero_le _)
theorem curAt2 (s : DS) (p : Nat) : curAt s p 2 = nx (unO (isS s p) 0) (unO (isS s (p + 1)) 1) := by
  rw [curAt_succ, curAt_succ]
  show nx (nx none _) _ = _
  rw [nx_none, Nat.add_zero]
end Go.Proofs.YtolcnbiaiolcoaaGreat
namespace Go.Proofs.YtolcnbiaiolcoaaGreat
open Go.RowKit

/-- a sector that was written in epochs below E -/
structure Old (E : Nat) (X : List Nat) : Prop where
  len : X.length = 128
  b : ∀ x ∈ X, x < 256
  x0 : X[0]? = some 0
  x1 : X[1]? = some 0
  xe : ∃ y, X[122]? = some y ∧ y < E
/-- or one of this epoch, of a smaller Gen -/
def Cls (E : Nat) (X : List Nat) (g : Nat) : Prop := Old E X ∨ ∃ h, hOk E h ∧ X = hSec E h ∧ h.g < g
def tornL (N X : List Nat) (m : Nat) : List Nat := N.take m ++ X.drop m

theorem stamp_byte {e c i : Nat} (he : e < 256) (hc : c ≤ 1099511627775) (hi : i < 3) : (be 8 (stamp e c))[i]? = some (if i = 2 then e else 0) := by
  rw [be_get 8 _ i (by omega)]
  congr 1
  have h7 : (256 : Nat) ^ 7 = 72057594037927936 := by decide
  have h6 : (256 : Nat) ^ 6 = 281474976710656 := by decide
  have h5 : (256 : Nat) ^ 5 = 1099511627776 := by decide
  unfold stamp
  match i, hi with
  | 0, _ =>
    show _ / 256 ^ 7 % 256 = 0
    rw [h7]; omega
  | 1, _ =>
    show _ / 256 ^ 6 % 256 = 0
    rw [h6]; omega
  | 2, _ =>
    show _ / 256 ^ 5 % 256 = e
    rw [h5]; omega
theorem seal_front {p : Pc} {i : Nat} (hi : i < 8) : (sealL p)[i]? = (be 8 (stamp p.e p.c))[i]? := by
  rw [← sealL_take8, List.getElem?_take_of_lt hi]
theorem seal_back {p : Pc} (hp : p.d.length ≤ 106) {i : Nat} : (sealL p)[120 + i]? = (be 8 (stamp p.e p.c))[i]? := by
  rw [← sealL_drop120 hp, List.getElem?_drop]
theorem hSec_at {e i : Nat} {h : Hd} (k : hOk e h) (he : e < 256) (hi : i < 3) : (hSec e h)[i]? = some (if i = 2 then e else 0) ∧ (hSec e h)[120 + i]? = some (if i = 2 then e else 0) := by
  unfold hSec
  rw [seal_front (by omega), seal_back (hPc_ok k).2.2]
  exact ⟨stamp_byte he k.1.2 hi, stamp_byte he k.1.2 hi⟩
theorem hSec_old {e : Nat} {h : Hd} (k : hOk e h) (he : e < 256) : Old (e + 1) (hSec e h) :=
  ⟨hSec_length k, hSec_lt k, (hSec_at k he (i := 0) (by decide)).1, (hSec_at k he (i := 1) (by decide)).1, ⟨e, (hSec_at k he (i := 2) (by decide)).2, Nat.lt_succ_self e⟩⟩
theorem Cls.old {E g : Nat} {X : List Nat} (h : Cls E X g) (he : E < 256) : Old (E + 1) X := by
  rcases h with h | ⟨h, k, rfl, _⟩
  · obtain ⟨y, h1, h2⟩ := h.xe
    exact ⟨h.len, h.b, h.x0, h.x1, y, h1, by omega⟩
  · exact hSec_old k he
theorem Cls.mono {E g g' : Nat} {X : List Nat} (h : Cls E X g) (hg : g ≤ g') : Cls E X g' := by
  rcases h with h | ⟨h, k, e, l⟩
  · exact .inl h
  · exact .inr ⟨h, k, e, by omega⟩
theorem tornL_at {N X : List Nat} {m i : Nat} (hN : N.length = 128) (hm : m ≤ 128) : (tornL N X m)[i]? = if i < m then N[i]? else X[i]? := by
  unfold tornL
  by_cases h : i < m
  · rw [if_pos h, List.getElem?_append_left (by rw [List.length_take]; omega), List.getElem?_take_of_lt h]
  · rw [if_neg h, List.getElem?_append_right (by rw [List.length_take]; omega), List.getElem?_drop, List.length_take, Nat.min_eq_left (by omega)]
    congr 1
    omega
theorem tornL_old {E m : Nat} {N X : List Nat} (hN : Old E N) (hX : Old E X) (hm : m ≤ 128) : Old E (tornL N X m) := by
  refine ⟨?_, fun x hx => ?_, ?_, ?_, ?_⟩
  · have h1 := hN.len; have h2 := hX.len
    simp only [tornL, List.length_append, List.length_take, List.length_drop]
    omega
  · rcases List.mem_append.mp hx with h | h
    · exact hN.b x (List.mem_of_mem_take h)
    · exact hX.b x (List.mem_of_mem_drop h)
  · rw [tornL_at hN.len hm]; split
    · exact hN.x0
    · exact hX.x0
  · rw [tornL_at hN.len hm]; split
    · exact hN.x1
    · exact hX.x1
  · rw [tornL_at hN.len hm]; split
    · exact hN.xe
    · exact hX.xe
/-- the stamps at both ends are the same -/
theorem whole_ends {l : List Nat} (h : Whole l) (hl : ∀ x ∈ l, x < 256) {i : Nat} (hi : i < 8) : l[i]? = l[120 + i]? := by
  have ho := dec_ok h.1 h.2.1 hl
  have e := h.2.2
  rw [← e, seal_front hi, seal_back ho.2.2]
/-- what 120 bytes alike say -/
theorem dec_front {a b : List Nat} (h : a.take 120 = b.take 120) (h9 : b.getD 9 0 ≤ 106) : dec a = dec b := by
  have hg : ∀ i, i < 120 → a[i]? = b[i]? := fun i hi => by
    have := congrArg (fun l => l[i]?) h
    simpa [List.getElem?_take_of_lt hi] using this
  have h8 : a.take 8 = b.take 8 := by
    have := congrArg (List.take 8) h
    simpa [List.take_take] using this
  have e8 : a.getD 8 0 = b.getD 8 0 := by rw [List.getD_eq_getElem?_getD, List.getD_eq_getElem?_getD, hg 8 (by decide)]
  have e9 : a.getD 9 0 = b.getD 9 0 := by rw [List.getD_eq_getElem?_getD, List.getD_eq_getElem?_getD, hg 9 (by decide)]
  have ed : (a.drop 10).take (b.getD 9 0) = (b.drop 10).take (b.getD 9 0) := by
    apply List.ext_getElem?
    intro i
    by_cases hi : i < b.getD 9 0
    · rw [List.getElem?_take_of_lt hi, List.getElem?_take_of_lt hi, List.getElem?_drop, List.getElem?_drop, hg (10 + i) (by omega)]
    · rw [List.getElem?_take_eq_none (by omega), List.getElem?_take_eq_none (by omega)]
  unfold dec
  rw [h8, e8, e9, ed]
/-- a write of a head that is torn: what was there, the head, or no piece -/
theorem torn_head {e m : Nat} {h : Hd} {X : List Nat} (k : hOk e h) (he : e < 256) (hX : Cls e X h.g) (hm : m ≤ 128) :
    ¬ Whole (tornL (hSec e h) X m) ∨ tornL (hSec e h) X m = hSec e h ∨ tornL (hSec e h) X m = X := by
  have hNl := hSec_length k
  rcases hX with hX | ⟨h', k', rfl, hlt⟩
  · by_cases hw : Whole (tornL (hSec e h) X m)
    · right
      have hb : ∀ x ∈ tornL (hSec e h) X m, x < 256 := fun x hx => by
        rcases List.mem_append.mp hx with a | a
        · exact hSec_lt k x (List.mem_of_mem_take a)
        · exact hX.b x (List.mem_of_mem_drop a)
      by_cases h3 : m < 3
      · right
        apply List.ext_getElem?
        intro i
        rw [tornL_at hNl hm]
        split
        · next hi =>
          have : i = 0 ∨ i = 1 := by omega
          rcases this with rfl | rfl
          · rw [(hSec_at k he (i := 0) (by decide)).1, hX.x0]; rfl
          · rw [(hSec_at k he (i := 1) (by decide)).1, hX.x1]; rfl
        · rfl
      · by_cases h122 : m ≤ 122
        · have h2 := whole_ends hw hb (i := 2) (by decide)
          rw [tornL_at hNl hm, tornL_at hNl hm, if_pos (by omega), if_neg (by omega), (hSec_at k he (i := 2) (by decide)).1] at h2
          obtain ⟨y, hy, hlt⟩ := hX.xe
          rw [show 120 + 2 = 122 from rfl, hy] at h2
          injection h2 with h2
          simp at h2
          omega
        · left
          have ht : (tornL (hSec e h) X m).take 120 = (hSec e h).take 120 := by
            unfold tornL
            rw [List.take_append_of_le_length (by rw [List.length_take]; omega), List.take_take, Nat.min_eq_left (by omega)]
          have hN := seal_whole (hPc_ok k)
          have e1 := dec_front ht hN.2.1
          have e2 := hw.2.2
          rw [e1] at e2
          exact e2.symm.trans hN.2.2
    · exact .inl hw
  · by_cases hw : Whole (tornL (hSec e h) (hSec e h') m)
    · right
      exact torn_one (hPc_ok k) (hPc_ok k') (.inr (by show h.g ≠ h'.g; omega)) m hm hw
    · exact .inl hw

/-- what two sectors say -/
def two (S0 S1 : List Nat) : Option Hd := nx (unO S0 0) (unO S1 1)
theorem unO_none_of {Y : List Nat} {k : Nat} (h : ¬ Whole Y) : unO Y k = none := unO_none (by rw [unHd]; exact if_neg (fun x => h x.1))
theorem unO_hSec {e : Nat} {h : Hd} (k : hOk e h) : unO (hSec e h) (h.g % 2) = some h := unO_yes (unHd_hSec k) rfl
theorem nx_some {A : Option Hd} {b : Hd} (ha : (A.getD hZ).g ≤ b.g) : nx A (some b) = some b := if_pos ha
theorem nx_keep {A : Option Hd} {b : Hd} (ha : ¬ (A.getD hZ).g ≤ b.g) : nx A (some b) = A := if_neg ha
theorem nx_le {A B : Option Hd} {c : Hd} (h : nx A B = some c) : (∀ a, A = some a → a.g ≤ c.g) ∧ (∀ b, B = some b → b.g ≤ c.g) := by
  cases B with
  | none =>
    have h : A = some c := h
    exact ⟨fun a ha => by rw [h] at ha; injection ha with ha; rw [ha]; exact Nat.le_refl _, fun b hb => by simp at hb⟩
  | some b =>
    by_cases hc : (A.getD hZ).g ≤ b.g
    · rw [nx_some hc] at h
      injection h with h
      subst h
      exact ⟨fun a ha => by rw [ha] at hc; exact hc, fun b' hb => by injection hb with hb; rw [hb]; exact Nat.le_refl _⟩
    · rw [nx_keep hc] at h
      exact ⟨fun a ha => by rw [h] at ha; injection ha with ha; rw [ha]; exact Nat.le_refl _, fun b' hb => by injection hb with hb; rw [h] at hc; rw [← hb]; simp only [Option.getD_some] at hc; omega⟩
theorem nx_no {A B : Option Hd} (h : nx A B = none) : A = none ∧ B = none := by
  cases B with
  | none => exact ⟨h, rfl⟩
  | some b =>
    by_cases hc : (A.getD hZ).g ≤ b.g
    · rw [nx_some hc] at h; simp at h
    · rw [nx_keep hc] at h
      rw [h] at hc
      exact absurd (Nat.zero_le _) hc
/-- the newest head of two sectors: nobody, or sure -/
def Says (S0 S1 : List Nat) (sure : Hd) (has : Bool) : Prop := two S0 S1 = (if has = true then some sure else none) ∧ (has = false → sure = hZ)
theorem Says.le {S0 S1 : List Nat} {sure : Hd} {has : Bool} (h : Says S0 S1 sure has) : (∀ a, unO S0 0 = some a → a.g ≤ sure.g) ∧ (∀ b, unO S1 1 = some b → b.g ≤ sure.g) := by
  cases has with
  | true => exact nx_le h.1
  | false =>
    obtain ⟨h1, h2⟩ := nx_no h.1
    exact ⟨fun a ha => by rw [h1] at ha; simp at ha, fun b hb => by rw [h2] at hb; simp at hb⟩
/-- sector k is laid anew -/
def putP2 (S0 S1 : List Nat) (k : Nat) (Y : List Nat) : List Nat × List Nat := if k = 0 then (Y, S1) else (S0, Y)
theorem says_new {S0 S1 : List Nat} {sure h : Hd} {has : Bool} {e : Nat} (hs : Says S0 S1 sure has) (k : hOk e h) (hg : h.g = sure.g + 1) : two (putP2 S0 S1 (h.g % 2) (hSec e h)).1 (putP2 S0 S1 (h.g % 2) (hSec e h)).2 = some h := by
  obtain ⟨l0, l1⟩ := hs.le
  have hu := unO_hSec k
  unfold putP2 two
  by_cases hk : h.g % 2 = 0
  · rw [if_pos hk]
    rw [hk] at hu
    simp only [hu]
    cases hB : unO S1 1 with
    | none => rfl
    | some b => exact nx_keep (by have := l1 b hB; simp only [Option.getD_some]; omega)
  · rw [if_neg hk]
    have h1 : h.g % 2 = 1 := by omega
    rw [h1] at hu
    simp only [hu]
    refine nx_some ?_
    cases hA : unO S0 0 with
    | none => exact Nat.zero_le _
    | some a => have := l0 a hA; simp only [Option.getD_some]; omega
theorem says_none {S0 S1 Y : List Nat} {sure : Hd} {has : Bool} {g : Nat} (hs : Says S0 S1 sure has) (hg : g = sure.g + 1) (hY : ¬ Whole Y) : two (putP2 S0 S1 (g % 2) Y).1 (putP2 S0 S1 (g % 2) Y).2 = two S0 S1 := by
  unfold putP2 two
  cases has with
  | false =>
    obtain ⟨h1, h2⟩ := nx_no hs.1
    by_cases hk : g % 2 = 0
    · rw [if_pos hk]; simp only [h1, h2, unO_none_of hY]
    · rw [if_neg hk]; simp only [h1, h2, unO_none_of hY]
  | true =>
    have h : nx (unO S0 0) (unO S1 1) = some sure := hs.1
    by_cases hk : g % 2 = 0
    · rw [if_pos hk]
      simp only [unO_none_of hY, nx_none, h]
      cases hB : unO S1 1 with
      | none =>
        rw [hB] at h
        have h : unO S0 0 = some sure := h
        have := unO_odd h
        omega
      | some b =>
        rw [hB] at h
        by_cases hc : ((unO S0 0).getD hZ).g ≤ b.g
        · rw [nx_some hc] at h; exact h
        · rw [nx_keep hc] at h
          have := unO_odd h
          omega
    · rw [if_neg hk]
      simp only [unO_none_of hY, h]
      show unO S0 0 = some sure
      cases hB : unO S1 1 with
      | none => rw [hB] at h; exact h
      | some b =>
        rw [hB] at h
        by_cases hc : ((unO S0 0).getD hZ).g ≤ b.g
        · rw [nx_some hc] at h
          rw [h] at hB
          have := unO_odd hB
          omega
        · rw [nx_keep hc] at h; exact h
theorem putP2_same (S0 S1 : List Nat) (k : Nat) : putP2 S0 S1 k (if k = 0 then S0 else S1) = (S0, S1) := by
  unfold putP2
  by_cases h : k = 0
  · rw [if_pos h, if_pos h]
  · rw [if_neg h, if_neg h]
/-- behind a torn write: as before, or the head that was being saved -/
theorem says_torn {S0 S1 : List Nat} {sure h : Hd} {has : Bool} {e m : Nat} (hs : Says S0 S1 sure has) (k : hOk e h) (he : e < 256) (hg : h.g = sure.g + 1) (hc0 : Cls e S0 h.g) (hc1 : Cls e S1 h.g) (hm : m ≤ 128) :
    two (putP2 S0 S1 (h.g % 2) (tornL (hSec e h) (if h.g % 2 = 0 then S0 else S1) m)).1 (putP2 S0 S1 (h.g % 2) (tornL (hSec e h) (if h.g % 2 = 0 then S0 else S1) m)).2 = two S0 S1 ∨
    two (putP2 S0 S1 (h.g % 2) (tornL (hSec e h) (if h.g % 2 = 0 then S0 else S1) m)).1 (putP2 S0 S1 (h.g % 2) (tornL (hSec e h) (if h.g % 2 = 0 then S0 else S1) m)).2 = some h := by
  have hX : Cls e (if h.g % 2 = 0 then S0 else S1) h.g := by split <;> assumption
  rcases torn_head k he hX hm with hY | hY | hY
  · exact .inl (says_none hs hg hY)
  · rw [hY]; exact .inr (says_new hs k hg)
  · rw [hY, putP2_same S0 S1 _]; exact .inl rfl
end Go.Proofs.YtolcnbiaiolcoaaGreat
