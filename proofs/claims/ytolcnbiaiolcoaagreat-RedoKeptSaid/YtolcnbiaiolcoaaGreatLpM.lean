/- Plain arithmetic of pieces: numbers as bytes, a piece's sector. -/
import Derived.Test.YtolcnbiaiolcoaaGreatFlM
import Derived.Test.YtolcnbiaiolcoaaGreatMath
namespace Go.Proofs.YtolcnbiaiolcoaaGreat

/-- bytes as a number -/
def val (l : List Nat) : Nat := l.foldl (fun x b => x * 256 + b) 0

theorem val_snoc (l : List Nat) (b : Nat) : val (l ++ [b]) = val l * 256 + b := by simp [val]
theorem val_be : ∀ n x, val (be n x) = x % 256 ^ n
  | 0, x => by simp [be, val, Nat.mod_one]
  | n + 1, x => by
    rw [be, val_snoc, val_be n, Nat.pow_succ, Nat.mul_comm (256 ^ n) 256, Nat.mod_mul]
    omega
theorem val_lt : ∀ n (l : List Nat), l.length = n → (∀ b ∈ l, b < 256) → val l < 256 ^ n
  | 0, l, h, _ => by
    obtain rfl := List.eq_nil_of_length_eq_zero h
    decide
  | n + 1, l, h, hb => by
    have hne : l ≠ [] := fun e => by simp [e] at h
    rw [← List.dropLast_concat_getLast hne] at hb ⊢
    have h1 := val_lt n l.dropLast (by simp [h]) (fun b hm => hb b (by simp [hm]))
    have h2 := hb (l.getLast hne) (by simp)
    rw [val_snoc, Nat.pow_succ]
    omega
theorem be_val : ∀ n (l : List Nat), l.length = n → (∀ b ∈ l, b < 256) → be n (val l) = l
  | 0, l, h, _ => by
    obtain rfl := List.eq_nil_of_length_eq_zero h
    rfl
  | n + 1, l, h, hb => by
    have hne : l ≠ [] := fun e => by simp [e] at h
    have e := List.dropLast_concat_getLast hne
    rw [← e] at hb
    have h2 := hb (l.getLast hne) (by simp)
    have h1 := be_val n l.dropLast (by simp [h]) (fun b hm => hb b (by simp [hm]))
    have hv : val l = val l.dropLast * 256 + l.getLast hne := by rw [← val_snoc, e]
    rw [be, hv, show (val l.dropLast * 256 + l.getLast hne) / 256 = val l.dropLast by omega, show (val l.dropLast * 256 + l.getLast hne) % 256 = l.getLast hne by omega, h1, e]
theorem val_append (a : List Nat) : ∀ n (b : List Nat), b.length = n → val (a ++ b) = val a * 256 ^ n + val b
  | 0, b, h => by
    obtain rfl := List.eq_nil_of_length_eq_zero h
    simp [val]
  | n + 1, b, h => by
    have hne : b ≠ [] := fun e => by simp [e] at h
    have e := List.dropLast_concat_getLast hne
    have h1 := val_append a n b.dropLast (by simp [h])
    have h2 : val b = val b.dropLast * 256 + b.getLast hne := by rw [← val_snoc, e]
    have h3 : val (a ++ b) = val (a ++ b.dropLast) * 256 + b.getLast hne := by rw [← val_snoc, List.append_assoc, e]
    rw [h3, h1, h2, Nat.pow_succ, Nat.add_mul, Nat.mul_assoc]
    omega

def stamp (e c : Nat) : Nat := e * 1099511627776 + c
theorem stamp_lt {e c : Nat} (he : e ≤ 16777215) (hc : c ≤ 1099511627775) : stamp e c < 18446744073709551616 := by unfold stamp; omega
theorem pow8 : 256 ^ 8 = 18446744073709551616 := by decide
theorem stamp_val {e c : Nat} (he : e ≤ 16777215) (hc : c ≤ 1099511627775) : val (be 8 (stamp e c)) = stamp e c := by
  rw [val_be, pow8, Nat.mod_eq_of_lt (stamp_lt he hc)]
theorem stamp_div {e c : Nat} (hc : c ≤ 1099511627775) : stamp e c / 1099511627776 = e := by unfold stamp; omega
theorem stamp_mod {e c : Nat} (hc : c ≤ 1099511627775) : stamp e c % 1099511627776 = c := by unfold stamp; omega
theorem stamp_inj {e c e' c' : Nat} (hc : c ≤ 1099511627775) (hc' : c' ≤ 1099511627775) (h : stamp e c = stamp e' c') : e = e' ∧ c = c' := by unfold stamp at h; omega

/-- A piece. -/
structure Pc where
  e : Nat
  c : Nat
  f : Bool
  g : Bool
  d : List Nat
def Pc.ok (p : Pc) : Prop := p.e ≤ 16777215 ∧ p.c ≤ 1099511627775 ∧ p.d.length ≤ 106
instance (p : Pc) : Decidable p.ok := by unfold Pc.ok; exact inferInstance
def zeroP : Pc := ⟨0, 0, false, false, []⟩
def flg (f g : Bool) : Nat := (if f then 1 else 0) + (if g then 2 else 0)
theorem flg_lt (f g : Bool) : flg f g < 4 := by cases f <;> cases g <;> decide
theorem flg_inj {f g f' g' : Bool} (h : flg f g = flg f' g') : f = f' ∧ g = g' := by
  revert h; cases f <;> cases g <;> cases f' <;> cases g' <;> decide
theorem flg_f (f g : Bool) : (flg f g % 2 == 1) = f := by cases f <;> cases g <;> decide
theorem flg_g (f g : Bool) : (flg f g / 2 % 2 == 1) = g := by cases f <;> cases g <;> decide
theorem flg_g2 (f g : Bool) : decide (1 < flg f g) = g := by cases f <;> cases g <;> decide
def front (p : Pc) : List Nat := be 8 (stamp p.e p.c) ++ (flg p.f p.g :: p.d.length :: (p.d ++ List.replicate (106 - p.d.length) 0))
def sealL (p : Pc) : List Nat := front p ++ (be 4 (fnum (fsum (0, 0) (front p))) ++ be 8 (stamp p.e p.c))
theorem front_length {p : Pc} (h : p.d.length ≤ 106) : (front p).length = 116 := by
  simp only [front, List.length_append, be_length, List.length_cons, List.length_replicate]; omega
theorem sealL_length {p : Pc} (h : p.d.length ≤ 106) : (sealL p).length = 128 := by
  simp only [sealL, List.length_append, be_length, front_length h]
theorem front_lt {p : Pc} (h : p.d.length ≤ 106) (hd : ∀ x ∈ p.d, x < 256) : ∀ x ∈ front p, x < 256 := by
  intro x hx
  rw [front, List.mem_append] at hx
  rcases hx with hx | hx
  · exact be_lt _ _ x hx
  · rw [List.mem_cons, List.mem_cons, List.mem_append] at hx
    rcases hx with rfl | rfl | hx | hx
    · have := flg_lt p.f p.g; omega
    · omega
    · exact hd x hx
    · rw [List.eq_of_mem_replicate hx]; decide
theorem sealL_lt {p : Pc} (h : p.d.length ≤ 106) (hd : ∀ x ∈ p.d, x < 256) : ∀ x ∈ sealL p, x < 256 := by
  intro x hx
  rw [sealL, List.mem_append, List.mem_append] at hx
  rcases hx with hx | hx | hx
  · exact front_lt h hd x hx
  · exact be_lt _ _ x hx
  · exact be_lt _ _ x hx

/-- which piece bytes would be -/
def dec (l : List Nat) : Pc := ⟨val (l.take 8) / 1099511627776, val (l.take 8) % 1099511627776, l.getD 8 0 % 2 == 1, l.getD 8 0 / 2 % 2 == 1, (l.drop 10).take (l.getD 9 0)⟩
/-- whether bytes are a piece's sector -/
def Whole (l : List Nat) : Prop := l.length = 128 ∧ l.getD 9 0 ≤ 106 ∧ sealL (dec l) = l
instance (l : List Nat) : Decidable (Whole l) := by unfold Whole; exact inferInstance
def unsealP (l : List Nat) : Pc := if Whole l then dec l else zeroP
def unsealE (l : List Nat) : Int := if Whole l then 0 else 4
theorem dec_ok {l : List Nat} (h : l.length = 128) (h9 : l.getD 9 0 ≤ 106) (hl : ∀ x ∈ l, x < 256) : (dec l).ok := by
  have h1 := val_lt 8 (l.take 8) (by simp [h]) (fun x hx => hl x (List.mem_of_mem_take hx))
  rw [pow8] at h1
  refine ⟨?_, ?_, ?_⟩
  · show val (l.take 8) / 1099511627776 ≤ 16777215; omega
  · show val (l.take 8) % 1099511627776 ≤ 1099511627775; omega
  · show ((l.drop 10).take (l.getD 9 0)).length ≤ 106; rw [List.length_take]; omega
theorem sealL_take8 (p : Pc) : (sealL p).take 8 = be 8 (stamp p.e p.c) := by
  rw [sealL, front, List.append_assoc, List.take_left' (be_length 8 _)]
theorem sealL_drop120 {p : Pc} (h : p.d.length ≤ 106) : (sealL p).drop 120 = be 8 (stamp p.e p.c) := by
  rw [sealL, ← List.append_assoc, List.drop_left' (by rw [List.length_append, front_length h, be_length])]
theorem sealL_8 (p : Pc) : (sealL p).getD 8 0 = flg p.f p.g := by
  rw [sealL, front, List.append_assoc, List.getD_eq_getElem?_getD, List.getElem?_append_right (by rw [be_length]; decide), be_length]; rfl
theorem sealL_9 (p : Pc) : (sealL p).getD 9 0 = p.d.length := by
  rw [sealL, front, List.append_assoc, List.getD_eq_getElem?_getD, List.getElem?_append_right (by rw [be_length]; decide), be_length]; rfl
theorem sealL_data (p : Pc) : ((sealL p).drop 10).take p.d.length = p.d := by
  have e : sealL p = (be 8 (stamp p.e p.c) ++ [flg p.f p.g, p.d.length]) ++ (p.d ++ (List.replicate (106 - p.d.length) 0 ++ (be 4 (fnum (fsum (0, 0) (front p))) ++ be 8 (stamp p.e p.c)))) := by
    simp [sealL, front]
  rw [e, List.drop_left' (by simp [be_length]), List.take_left' rfl]
theorem dec_seal {p : Pc} (h : p.ok) : dec (sealL p) = p := by
  obtain ⟨h1, h2, h3⟩ := h
  unfold dec
  rw [sealL_take8, stamp_val h1 h2, stamp_div h2, stamp_mod h2, sealL_8, sealL_9, flg_f, flg_g, sealL_data]
theorem seal_whole {p : Pc} (h : p.ok) : Whole (sealL p) := ⟨sealL_length h.2.2, by rw [sealL_9]; exact h.2.2, by rw [dec_seal h]⟩

/-- torn between two: one of both, or none -/
theorem torn_one {p q : Pc} (hp : p.ok) (hq : q.ok) (hne : p.e ≠ q.e ∨ p.c ≠ q.c) (n : Nat) (hn : n ≤ 128) (h : Whole ((sealL p).take n ++ (sealL q).drop n)) :
    (sealL p).take n ++ (sealL q).drop n = sealL p ∨ (sealL p).take n ++ (sealL q).drop n = sealL q := by
  have la := sealL_length hp.2.2
  have lb := sealL_length hq.2.2
  obtain ⟨c, hc⟩ : ∃ c, c = (sealL p).take n ++ (sealL q).drop n := ⟨_, rfl⟩
  rw [← hc] at h ⊢
  obtain ⟨h1, h2, h3⟩ := h
  have h4 : (dec c).d.length ≤ 106 := by show ((c.drop 10).take (c.getD 9 0)).length ≤ 106; rw [List.length_take]; omega
  have e1 : c.take 8 = c.drop 120 := by
    have a := sealL_take8 (dec c)
    have b := sealL_drop120 h4
    rw [h3] at a b
    rw [a, b]
  by_cases c1 : n ≤ 8
  · right
    have ed : c.drop n = (sealL q).drop n := by rw [hc, List.drop_left' (by rw [List.length_take]; omega)]
    have e120 : c.drop 120 = (sealL q).drop 120 := by
      have := congrArg (List.drop (120 - n)) ed
      rw [List.drop_drop, List.drop_drop, show n + (120 - n) = 120 by omega] at this
      exact this
    have e8 : c.drop 8 = (sealL q).drop 8 := by
      have := congrArg (List.drop (8 - n)) ed
      rw [List.drop_drop, List.drop_drop, show n + (8 - n) = 8 by omega] at this
      exact this
    rw [← List.take_append_drop 8 c, e8, e1, e120, sealL_drop120 hq.2.2, ← sealL_take8, List.take_append_drop]
  · by_cases c2 : n ≤ 120
    · exfalso
      have ed : c.drop n = (sealL q).drop n := by rw [hc, List.drop_left' (by rw [List.length_take]; omega)]
      have e120 : c.drop 120 = (sealL q).drop 120 := by
        have := congrArg (List.drop (120 - n)) ed
        rw [List.drop_drop, List.drop_drop, show n + (120 - n) = 120 by omega] at this
        exact this
      have e8 : c.take 8 = (sealL p).take 8 := by
        rw [hc, List.take_append_of_le_length (by rw [List.length_take]; omega), List.take_take, Nat.min_eq_left (by omega)]
      rw [e8, e120, sealL_take8, sealL_drop120 hq.2.2] at e1
      have := congrArg val e1
      rw [stamp_val hp.1 hp.2.1, stamp_val hq.1 hq.2.1] at this
      have := stamp_inj hp.2.1 hq.2.1 this
      omega
    · left
      have et : c.take n = (sealL p).take n := by rw [hc, List.take_left' (by rw [List.length_take]; omega)]
      have e120 : c.take 120 = (sealL p).take 120 := by
        have := congrArg (List.take 120) et
        rw [List.take_take, List.take_take, Nat.min_eq_left (by omega)] at this
        exact this
      have e8 : c.take 8 = (sealL p).take 8 := by
        have := congrArg (List.take 8) et
        rw [List.take_take, List.take_take, Nat.min_eq_left (by omega)] at this
        exact this
      rw [← List.take_append_drop 120 c, e120, ← e1, e8, sealL_take8, ← sealL_drop120 hp.2.2, List.take_append_drop]

/-- the epochs at both ends: the first three of eight bytes -/
theorem val3 {l : List Nat} (h : l.length = 8) (hl : ∀ x ∈ l, x < 256) : val l / 1099511627776 = val (l.take 3) := by
  have h1 := val_append (l.take 3) 5 (l.drop 3) (by simp [h])
  have h2 := val_lt 5 (l.drop 3) (by simp [h]) (fun x hx => hl x (List.mem_of_mem_drop hx))
  rw [List.take_append_drop] at h1
  rw [h1]
  have e : 256 ^ 5 = 1099511627776 := by decide
  rw [e] at h2 ⊢
  omega
end Go.Proofs.YtolcnbiaiolcoaaGreat
