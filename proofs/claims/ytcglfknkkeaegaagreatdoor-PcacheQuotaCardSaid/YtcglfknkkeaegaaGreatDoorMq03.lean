/-  Plain arithmetic of pieces: numbers as bytes, a piece's sector. Numbers as bytes, stamps, flags: what the calls answer. A number's bytes by the document; bytes cloned, bytes compared. Memory in pieces: cells laid in a row, bytes cloned, bytes compared. Memory in pieces: bytes copied into a row, bytes compared. The sum in two halves: what its calls answer. A piece's sector: the program's Seal. A piece's sector: the document's Seal; the program's, of what is no piece. -/
import Derived.Test.YtcglfknkkeaegaaGreatDoorMq00
import Derived.Test.YtcglfknkkeaegaaGreatDoorMq01
import Derived.Laws.AppendOwnNone
import Derived.Laws.BytesArg
import Derived.Deep.QuietTactic
import Derived.BigQuiet
import Derived.Deep.MidRow
import Derived.Deep.RegionHeld3
import Derived.Deep.RegionWith
import Derived.Deep.DeepCutAuto
/- Plain arithmetic of the sum in two halves. -/
namespace Go.Proofs.YtcglfknkkeaegaaGreatDoor

/-- one byte more -/
def fstep (p : Nat × Nat) (x : Nat) : Nat × Nat := ((p.1 + x) % 65535, (p.2 + (p.1 + x) % 65535) % 65535)
/-- the halves behind a list of bytes -/
def fsum (p : Nat × Nat) (l : List Nat) : Nat × Nat := l.foldl fstep p
/-- the halves as one number -/
def fnum (p : Nat × Nat) : Nat := p.2 * 65536 + p.1
/-- what a number's halves leave -/
def fof (s : Nat) : Nat × Nat := (s % 65536 % 65535, s / 65536 % 65535)
def FOk (p : Nat × Nat) : Prop := p.1 < 65535 ∧ p.2 < 65535

theorem fstep_ok (p : Nat × Nat) (x : Nat) : FOk (fstep p x) := ⟨Nat.mod_lt _ (by decide), Nat.mod_lt _ (by decide)⟩
theorem fsum_ok (l : List Nat) : ∀ p, FOk p → FOk (fsum p l) := by
  induction l with
  | nil => exact fun p h => h
  | cons x l ih => exact fun p _ => ih _ (fstep_ok p x)
theorem fnum_lt (p : Nat × Nat) (h : FOk p) : fnum p < 4294967296 := by
  obtain ⟨h1, h2⟩ := h
  unfold fnum; omega
theorem fsum_snoc (p : Nat × Nat) (a : List Nat) (x : Nat) : fsum p (a ++ [x]) = fstep (fsum p a) x := by simp [fsum]
end Go.Proofs.YtcglfknkkeaegaaGreatDoor
namespace Go.Proofs.YtcglfknkkeaegaaGreatDoor

/-- bytes as a number -/
def val (l : List Nat) : Nat := l.foldl (fun x b => x * 256 + b) 0

theorem val_snoc (l : List Nat) (b : Nat) : val (l ++ [b]) = val l * 256 + b := by simp [val]
theorem val_be : ∀ n x, val (be n x) = x % 256 ^ n
  | 0, x => by simp [be, val, Nat.mod_one]
  | n + 1, x => by
    rw [be, val_snoc, val_be n, Nat.pow_succ, Nat.mul_comm (256 ^ n) 256, Nat.mod_mul]
    omega
theorem val_lt : ∀ n (l : List Nat), l.length = n → (∀ b ∈ l, b < 256) → val l < 256 ^ n
  | 0, l, h, _ => by
    obtain rfl := List.eq_nil_of_length_eq_zero h
    decide
  | n + 1, l, h, hb => by
    have hne : l ≠ [] := fun e => by simp [e] at h
    rw [← List.dropLast_concat_getLast hne] at hb ⊢
    have h1 := val_lt n l.dropLast (by simp [h]) (fun b hm => hb b (by simp [hm]))
    have h2 := hb (l.getLast hne) (by simp)
    rw [val_snoc, Nat.pow_succ]
    omega
theorem be_val : ∀ n (l : List Nat), l.length = n → (∀ b ∈ l, b < 256) → be n (val l) = l
  | 0, l, h, _ => by
    obtain rfl := List.eq_nil_of_length_eq_zero h
    rfl
  | n + 1, l, h, hb => by
    have hne : l ≠ [] := fun e => by simp [e] at h
    have e := List.dropLast_concat_getLast hne
    rw [← e] at hb
    have h2 := hb (l.getLast hne) (by simp)
    have h1 := be_val n l.dropLast (by simp [h]) (fun b hm => hb b (by simp [hm]))
    have hv : val l = val l.dropLast * 256 + l.getLast hne := by rw [← val_snoc, e]
    rw [be, hv, show (val l.dropLast * 256 + l.getLast hne) / 256 = val l.dropLast by omega, show (val l.dropLast * 256 + l.getLast hne) % 256 = l.getLast hne by omega, h1, e]
theorem val_append (a : List Nat) : ∀ n (b : List Nat), b.length = n → val (a ++ b) = val a * 256 ^ n + val b
  | 0, b, h => by
    obtain rfl := List.eq_nil_of_length_eq_zero h
    simp [val]
  | n + 1, b, h => by
    have hne : b ≠ [] := fun e => by simp [e] at h
    have e := List.dropLast_concat_getLast hne
    have h1 := val_append a n b.dropLast (by simp [h])
    have h2 : val b = val b.dropLast * 256 + b.getLast hne := by rw [← val_snoc, e]
    have h3 : val (a ++ b) = val (a ++ b.dropLast) * 256 + b.getLast hne := by rw [← val_snoc, List.append_assoc, e]
    rw [h3, h1, h2, Nat.pow_succ, Nat.add_mul, Nat.mul_assoc]
    omega

def stamp (e c : Nat) : Nat := e * 1099511627776 + c
theorem stamp_lt {e c : Nat} (he : e ≤ 16777215) (hc : c ≤ 1099511627775) : stamp e c < 18446744073709551616 := by unfold stamp; omega
theorem pow8 : 256 ^ 8 = 18446744073709551616 := by decide
theorem stamp_val {e c : Nat} (he : e ≤ 16777215) (hc : c ≤ 1099511627775) : val (be 8 (stamp e c)) = stamp e c := by
  rw [val_be, pow8, Nat.mod_eq_of_lt (stamp_lt he hc)]
theorem stamp_div {e c : Nat} (hc : c ≤ 1099511627775) : stamp e c / 1099511627776 = e := by unfold stamp; omega
theorem stamp_mod {e c : Nat} (hc : c ≤ 1099511627775) : stamp e c % 1099511627776 = c := by unfold stamp; omega
/-- A piece. -/
structure Pc where
  e : Nat
  c : Nat
  f : Bool
  g : Bool
  d : List Nat
def Pc.ok (p : Pc) : Prop := p.e ≤ 16777215 ∧ p.c ≤ 1099511627775 ∧ p.d.length ≤ 106
instance (p : Pc) : Decidable p.ok := by unfold Pc.ok; exact inferInstance
def zeroP : Pc := ⟨0, 0, false, false, []⟩
def flg (f g : Bool) : Nat := (if f then 1 else 0) + (if g then 2 else 0)
theorem flg_lt (f g : Bool) : flg f g < 4 := by cases f <;> cases g <;> decide
theorem flg_inj {f g f' g' : Bool} (h : flg f g = flg f' g') : f = f' ∧ g = g' := by
  revert h; cases f <;> cases g <;> cases f' <;> cases g' <;> decide
theorem flg_f (f g : Bool) : (flg f g % 2 == 1) = f := by cases f <;> cases g <;> decide
theorem flg_g (f g : Bool) : (flg f g / 2 % 2 == 1) = g := by cases f <;> cases g <;> decide
def front (p : Pc) : List Nat := be 8 (stamp p.e p.c) ++ (flg p.f p.g :: p.d.length :: (p.d ++ List.replicate (106 - p.d.length) 0))
def sealL (p : Pc) : List Nat := front p ++ (be 4 (fnum (fsum (0, 0) (front p))) ++ be 8 (stamp p.e p.c))
theorem front_length {p : Pc} (h : p.d.length ≤ 106) : (front p).length = 116 := by
  simp only [front, List.length_append, be_length, List.length_cons, List.length_replicate]; omega
theorem sealL_length {p : Pc} (h : p.d.length ≤ 106) : (sealL p).length = 128 := by
  simp only [sealL, List.length_append, be_length, front_length h]
theorem front_lt {p : Pc} (h : p.d.length ≤ 106) (hd : ∀ x ∈ p.d, x < 256) : ∀ x ∈ front p, x < 256 := by
  intro x hx
  rw [front, List.mem_append] at hx
  rcases hx with hx | hx
  · exact be_lt _ _ x hx
  · rw [List.mem_cons, List.mem_cons, List.mem_append] at hx
    rcases hx with rfl | rfl | hx | hx
    · have := flg_lt p.f p.g; omega
    · omega
    · exact hd x hx
    · rw [List.eq_of_mem_replicate hx]; decide
theorem sealL_lt {p : Pc} (h : p.d.length ≤ 106) (hd : ∀ x ∈ p.d, x < 256) : ∀ x ∈ sealL p, x < 256 := by
  intro x hx
  rw [sealL, List.mem_append, List.mem_append] at hx
  rcases hx with hx | hx | hx
  · exact front_lt h hd x hx
  · exact be_lt _ _ x hx
  · exact be_lt _ _ x hx

/-- which piece bytes would be -/
def dec (l : List Nat) : Pc := ⟨val (l.take 8) / 1099511627776, val (l.take 8) % 1099511627776, l.getD 8 0 % 2 == 1, l.getD 8 0 / 2 % 2 == 1, (l.drop 10).take (l.getD 9 0)⟩
/-- whether bytes are a piece's sector -/
def Whole (l : List Nat) : Prop := l.length = 128 ∧ l.getD 9 0 ≤ 106 ∧ sealL (dec l) = l
instance (l : List Nat) : Decidable (Whole l) := by unfold Whole; exact inferInstance
def unsealP (l : List Nat) : Pc := if Whole l then dec l else zeroP
def unsealE (l : List Nat) : Int := if Whole l then 0 else 4
theorem dec_ok {l : List Nat} (h : l.length = 128) (h9 : l.getD 9 0 ≤ 106) (hl : ∀ x ∈ l, x < 256) : (dec l).ok := by
  have h1 := val_lt 8 (l.take 8) (by simp [h]) (fun x hx => hl x (List.mem_of_mem_take hx))
  rw [pow8] at h1
  refine ⟨?_, ?_, ?_⟩
  · show val (l.take 8) / 1099511627776 ≤ 16777215; omega
  · show val (l.take 8) % 1099511627776 ≤ 1099511627775; omega
  · show ((l.drop 10).take (l.getD 9 0)).length ≤ 106; rw [List.length_take]; omega
theorem sealL_take8 (p : Pc) : (sealL p).take 8 = be 8 (stamp p.e p.c) := by
  rw [sealL, front, List.append_assoc, List.take_left' (be_length 8 _)]
theorem sealL_drop120 {p : Pc} (h : p.d.length ≤ 106) : (sealL p).drop 120 = be 8 (stamp p.e p.c) := by
  rw [sealL, ← List.append_assoc, List.drop_left' (by rw [List.length_append, front_length h, be_length])]
theorem sealL_8 (p : Pc) : (sealL p).getD 8 0 = flg p.f p.g := by
  rw [sealL, front, List.append_assoc, List.getD_eq_getElem?_getD, List.getElem?_append_right (by rw [be_length]; decide), be_length]; rfl
theorem sealL_9 (p : Pc) : (sealL p).getD 9 0 = p.d.length := by
  rw [sealL, front, List.append_assoc, List.getD_eq_getElem?_getD, List.getElem?_append_right (by rw [be_length]; decide), be_length]; rfl
theorem sealL_data (p : Pc) : ((sealL p).drop 10).take p.d.length = p.d := by
  have e : sealL p = (be 8 (stamp p.e p.c) ++ [flg p.f p.g, p.d.length]) ++ (p.d ++ (List.replicate (106 - p.d.length) 0 ++ (be 4 (fnum (fsum (0, 0) (front p))) ++ be 8 (stamp p.e p.c)))) := by
    simp [sealL, front]
  rw [e, List.drop_left' (by simp [be_length]), List.take_left' rfl]
theorem dec_seal {p : Pc} (h : p.ok) : dec (sealL p) = p := by
  obtain ⟨h1, h2, h3⟩ := h
  unfold dec
  rw [sealL_take8, stamp_val h1 h2, stamp_div h2, stamp_mod h2, sealL_8, sealL_9, flg_f, flg_g, sealL_data]
theorem seal_whole {p : Pc} (h : p.ok) : Whole (sealL p) := ⟨sealL_length h.2.2, by rw [sealL_9]; exact h.2.2, by rw [dec_seal h]⟩

/-- the epochs at both ends: the first three of eight bytes -/
theorem val3 {l : List Nat} (h : l.length = 8) (hl : ∀ x ∈ l, x < 256) : val l / 1099511627776 = val (l.take 3) := by
  have h1 := val_append (l.take 3) 5 (l.drop 3) (by simp [h])
  have h2 := val_lt 5 (l.drop 3) (by simp [h]) (fun x hx => hl x (List.mem_of_mem_drop hx))
  rw [List.take_append_drop] at h1
  rw [h1]
  have e : 256 ^ 5 = 1099511627776 := by decide
  rw [e] at h2 ⊢
  omega
end Go.Proofs.YtcglfknkkeaegaaGreatDoor
namespace Go.Proofs.YtcglfknkkeaegaaGreatDoor
open Go.RowKit

theorem stamp_join (e c : Nat) (he : e ≤ 16777215) (hc : c ≤ 1099511627775) : bits .or .u64 ((e : Int) * 1099511627776) (c : Int) = ((stamp e c : Nat) : Int) := by
  have h1 := u64_or_nat (e * 1099511627776) c (by omega) (by omega)
  rw [Go.nat_join 40 _ _ (by omega) (by omega)] at h1
  exact h1
theorem stamp_and (s : Nat) (h : s < 18446744073709551616) : bits .and .u64 (s : Int) 1099511627775 = ((s % 1099511627776 : Nat) : Int) := by
  have h1 := u64_and_nat s 1099511627775 h (by decide)
  rw [Nat.and_two_pow_sub_one_eq_mod s 40] at h1
  exact h1

set_option maxRecDepth 3000 in
theorem stampok (e c : Nat) (he : e ≤ 16777215) (hc : c ≤ 1099511627775) (w : World) :
    Calls Tryz.prog 175 #[.int .u64 (e : Int), .int .u64 (c : Int)] w fun x w' => x = .returned (.tuple #[.int .u64 ((stamp e c : Nat) : Int), .int .i64 0]) ∧ w = w' := by
  have hj := stamp_join e c he hc
  have h1 : (e : Int) ≤ 16777215 := by omega
  have h2 : (c : Int) ≤ 1099511627775 := by omega
  clear he hc
  go_enter Tryz.func175, Tryz.ntmps175
  go_wp2
  go_ret2
  exact ⟨rfl, rfl⟩
set_option maxRecDepth 3000 in
theorem stampno (e c : Nat) (h : ¬ (e ≤ 16777215 ∧ c ≤ 1099511627775)) (w : World) :
    Calls Tryz.prog 175 #[.int .u64 (e : Int), .int .u64 (c : Int)] w fun x w' => x = .returned (.tuple #[.int .u64 0, .int .i64 2]) ∧ w = w' := by
  by_cases he : e ≤ 16777215
  · have h1 : (e : Int) ≤ 16777215 := by omega
    have h2 : 1099511627775 < (c : Int) := by omega
    clear he h
    go_enter Tryz.func175, Tryz.ntmps175
    go_wp2
    go_ret2
    exact ⟨rfl, rfl⟩
  · have h1 : 16777215 < (e : Int) := by omega
    clear he h
    go_enter Tryz.func175, Tryz.ntmps175
    go_wp2
    go_ret2
    exact ⟨rfl, rfl⟩
set_option maxRecDepth 3000 in
theorem epoch_any (s : Nat) (w : World) : Calls Tryz.prog 139 #[.int .u64 (s : Int)] w fun x w' => x = .returned (.int .u64 ((s / 1099511627776 : Nat) : Int)) ∧ w = w' := by
  go_enter Tryz.func139, Tryz.ntmps139
  go_wp2
  go_ret
  exact ⟨rfl, rfl⟩
set_option maxRecDepth 3000 in
theorem count_any (s : Nat) (h : s < 18446744073709551616) (w : World) : Calls Tryz.prog 169 #[.int .u64 (s : Int)] w fun x w' => x = .returned (.int .u64 ((s % 1099511627776 : Nat) : Int)) ∧ w = w' := by
  have hj := stamp_and s h
  clear h
  go_enter Tryz.func169, Tryz.ntmps169
  go_wp2
  go_ret
  exact ⟨rfl, rfl⟩

set_option maxRecDepth 3000 in
theorem flags_any (e c : Int) (f g : Bool) (v : Value) (w : World) :
    Calls Tryz.prog 177 #[.agg #[.int .u64 e, .int .u64 c, .bool f, .bool g, v]] w fun x w' => x = .returned (.int .u8 ((flg f g : Nat) : Int)) ∧ w' = w.alloc (.cells #[.int .u64 e, .int .u64 c, .bool f, .bool g, v] 177) := by
  have h1 : bits .or .u8 0 1 = 1 := by decide
  have h2 : bits .or .u8 0 2 = 2 := by decide
  have h3 : bits .or .u8 1 2 = 3 := by decide
  cases f with
  | true =>
    cases g with
    | true => go_enter Tryz.func177, Tryz.ntmps177; go_wp2; go_ret; exact ⟨rfl, rfl⟩
    | false => go_enter Tryz.func177, Tryz.ntmps177; go_wp2; go_ret; exact ⟨rfl, rfl⟩
  | false =>
    cases g with
    | true => go_enter Tryz.func177, Tryz.ntmps177; go_wp2; go_ret; exact ⟨rfl, rfl⟩
    | false => go_enter Tryz.func177, Tryz.ntmps177; go_wp2; go_ret; exact ⟨rfl, rfl⟩

/-- a row of which some places are laid anew -/
def putAt (L : List Nat) (a : Nat) (l : List Nat) : List Nat := L.take a ++ l ++ L.drop (a + l.length)
theorem putAt_length {L l : List Nat} {a : Nat} (h : a + l.length ≤ L.length) : (putAt L a l).length = L.length := by
  simp only [putAt, List.length_append, List.length_take, List.length_drop]; omega
theorem putAt_set {L l : List Nat} {a y : Nat} (h : a + 1 + l.length ≤ L.length) : (putAt L (a + 1) l).set a y = putAt L a (y :: l) := by
  have hl : a < L.length := by omega
  simp only [putAt]
  rw [List.take_succ_eq_append_getElem hl, List.append_assoc, List.append_assoc, List.set_append_right _ _ (by rw [List.length_take]; omega), List.length_take, Nat.min_eq_left (by omega), Nat.sub_self]
  simp only [List.length_cons, List.nil_append, List.set_cons_zero, List.cons_append, List.append_assoc]
  rw [show a + 1 + l.length = a + (l.length + 1) by omega]
theorem be_cons : ∀ k x, be (k + 1) x = (x / 256 ^ k % 256) :: be k x
  | 0, x => by simp [be]
  | k + 1, x => by
    rw [be, be_cons k (x / 256), be]
    simp only [List.cons_append, Nat.div_div_eq_div_mul]
    rw [Nat.mul_comm 256, ← Nat.pow_succ]

def LayRl (w : World) (F : Nat → Prop) (g o N n c : Nat) (L : List Nat) (x : Nat) (t1 t7 : Value) (wr : World) : Prop :=
  ∃ k, k ≤ n ∧ t1 = .int .u64 ((x / 256 ^ k : Nat) : Int) ∧ t7 = .int .i64 (k : Int) ∧ Sl wr F 5 1 (.slice (some ⟨g, 0, none⟩) N c) N ((putAt L (o + (n - k)) (be k x)).map u8) ∧ Adv F w F wr

set_option maxRecDepth 3000 in
set_option maxHeartbeats 800000 in
theorem play_any (F : Nat → Prop) (g o N n c c2 : Nat) (L : List Nat) (x : Nat) (w : World) (h : Sl w F 5 1 (.slice (some ⟨g, 0, none⟩) N c) N (L.map u8)) (hon : o + n ≤ N) (hN : N ≤ 1000) (hx : x < 18446744073709551616) (hn : 0 < n) :
    Calls Tryz.prog 184 #[.slice (some ⟨g, o, none⟩) n c2, .int .u64 (x : Int)] w fun e w' => e = .returned (.tuple #[]) ∧ Sl w' F 5 1 (.slice (some ⟨g, 0, none⟩) N c) N ((putAt L o (be n x)).map u8) ∧ Adv F w F w' := by
  have hl : L.length = N := by have := h.own.1; simpa using this
  have H := Lib.hid h
  have HL := Lib.hid hl
  have hx1 : (x : Int) < 18446744073709551616 := by omega
  have hnn : n ≤ 1000 := by omega
  clear h hl
  go_enter Tryz.func184, Tryz.ntmps184
  go_wp2_with fail
  go_loopw [1, 7] (LayRl w F g o N n c L x) (fun _ t _ => n - (intOf t).toNat)
  case atStart => exact ⟨0, Nat.zero_le _, by simp, rfl, by simpa [putAt, be] using H.out, Adv.refl _ _⟩
  case round =>
    obtain ⟨k, hk, rfl, rfl, hr, ha⟩ := hrel
    have hF := hr.inF g rfl
    by_cases hlt : k < n
    · have hfr := hr.own.frozenAt (o + (n - 1 - k))
      have hlen : (putAt L (o + (n - k)) (be k x)).length = N := by rw [putAt_length (by rw [be_length, HL.out]; omega), HL.out]
      have hj : o + (n - 1 - k) = o + (n - (k + 1)) := by omega
      obtain ⟨z, hcell⟩ : ∃ z, wr.cell? ⟨g, o + (n - 1 - k), none⟩ = some z := ⟨_, hr.at8 (k := o + (n - 1 - k)) (by omega) (by rw [hlen]; omega)⟩
      have hs := hr.set8 (o + (n - 1 - k)) (x / 256 ^ k % 256) ((x / 256 ^ k : Nat) % 256 : Int) (by omega)
      rw [hj, show o + (n - k) = o + (n - (k + 1)) + 1 by omega, putAt_set (by rw [be_length, HL.out]; omega), ← be_cons, ← hj] at hs
      obtain ⟨y, hy⟩ : ∃ y, y = x / 256 ^ k := ⟨_, rfl⟩
      have hy1 : x / 256 ^ (k + 1) = y / 256 := by rw [hy, Nat.pow_succ, Nat.div_div_eq_div_mul]
      have hy2 : y ≤ x := by rw [hy]; exact Nat.div_le_self _ _
      rw [← hy] at hs ⊢
      have HS := Lib.hid hs
      have HA := Lib.hid (ha.setCell (p := ⟨g, o + (n - 1 - k), none⟩) (.inl hF) (.int .u8 ((y : Nat) % 256 : Int)))
      have HJ := Lib.hid hj
      have HY := Lib.hid hy1
      have hk0 : (0 : Int) ≤ (n : Int) - 1 - (k : Int) := by omega
      have hk1 : (n : Int) - 1 - (k : Int) < (n : Int) := by omega
      have hy64 : y < 18446744073709551616 := by omega
      have hnI : (n : Int) ≤ 1000 := by omega
      clear hr ha hs hj hy1 hy hlen hy2 hx hx1 hnn hon hN
      go_wp2_with fail
      refine ⟨⟨k + 1, by omega, by rw [HY.out]; go_num, by go_num, ?_, HA.out⟩, by simp [intOf]; omega⟩
      rw [← HJ.out]
      exact HS.out
    · obtain rfl : k = n := by omega
      have h1 := hr
      rw [Nat.sub_self, Nat.add_zero] at h1
      have H1 := Lib.hid h1
      have HA := Lib.hid ha
      clear h1 hr ha hlt hk
      go_wp2
      go_end0
      exact ⟨rfl, H1.out, HA.out⟩

theorem val_take_succ {l : List Nat} {k : Nat} (h : k < l.length) : val (l.take (k + 1)) = val (l.take k) * 256 + l[k] := by
  rw [List.take_succ_eq_append_getElem h, val_snoc]
theorem val_take_lt {l : List Nat} {k : Nat} (hk : k < l.length) (h8 : l.length ≤ 8) (hl : ∀ x ∈ l, x < 256) : val (l.take k) < 72057594037927936 := by
  have h1 := val_lt k (l.take k) (by simp; omega) (fun x hx => hl x (List.mem_of_mem_take hx))
  have h2 := Nat.pow_le_pow_right (n := 256) (by decide) (show k ≤ 7 by omega)
  have e : 256 ^ 7 = 72057594037927936 := by decide
  omega
theorem u64_join8 (x b : Nat) (hx : x < 72057594037927936) (hb : b < 256) : bits .or .u64 ((x : Int) * 256) (b : Int) = ((x * 256 + b : Nat) : Int) := by
  have h1 := u64_or_nat (x * 256) b (by omega) (by omega)
  rw [Go.nat_join 8 _ _ (by omega) (by omega)] at h1
  exact h1

def NumRel (l : List Nat) (t3 t8 : Value) : Prop := ∃ k : Nat, k ≤ l.length ∧ t8 = .int .i64 (k : Int) ∧ t3 = .int .u64 ((val (l.take k) : Nat) : Int)

set_option maxRecDepth 3000 in
set_option maxHeartbeats 400000 in
theorem number_any (v : Value) (n : Nat) (l : List Nat) (w : World) (h : Rd w 1 v n (l.map u8)) (hn : n ≤ 8) (hl : ∀ x ∈ l, x < 256) :
    Calls Tryz.prog 140 #[v] w fun e w' => e = .returned (.int .u64 ((val l : Nat) : Int)) ∧ w = w' := by
  obtain ⟨A, c, rfl, _, _⟩ := h.form
  have hll : l.length = n := by obtain ⟨_, _, _, _, _, h, _⟩ := h; simpa using h
  have hnI : (n : Int) ≤ 8 := by omega
  have H := Lib.hid h
  have HL := Lib.hid hl
  have HLL := Lib.hid hll
  have HN := Lib.hid hn
  clear h hl hll hn
  go_enter Tryz.func140, Tryz.ntmps140
  go_wp2_with fail
  go_loop [3, 8] (NumRel l) (fun _ t => n - (intOf t).toNat)
  case atStart => exact ⟨0, Nat.zero_le _, rfl, rfl⟩
  case round =>
    obtain ⟨k, hk, rfl, rfl⟩ := hrel
    rw [HLL.out] at hk
    by_cases hlt : k < n
    · obtain ⟨b, o, rfl, _, hc⟩ := H.out.cells (by omega) (by decide)
      have hkl : k < l.length := by have := HLL.out; omega
      have c1 : w.cell? ⟨b, o + k, none⟩ = some (.int .u8 (l[k] : Int)) := hc k _ (by rw [List.getElem?_map, List.getElem?_eq_getElem hkl]; rfl)
      have hx256 := HL.out _ (List.getElem_mem hkl)
      have hv := val_take_lt hkl (by have := HLL.out; have := HN.out; omega) HL.out
      have hv2 := val_take_succ hkl
      obtain ⟨x, hx⟩ : ∃ x, x = l[k] := ⟨_, rfl⟩
      obtain ⟨y, hy⟩ : ∃ y, y = val (l.take k) := ⟨_, rfl⟩
      rw [← hx] at c1 hx256 hv2
      rw [← hy] at hv hv2 ⊢
      have hj := u64_join8 y x hv hx256
      have hvI : (y : Int) < 72057594037927936 := by omega
      have hxI : (x : Int) < 256 := by omega
      rw [← hv2] at hj
      have HKL := Lib.hid hkl
      clear hc hx hy hkl hv hv2 hx256
      go_wp2
      go_round
      case rel => exact ⟨k + 1, HKL.out, by go_num, rfl⟩
      case measure => simp [intOf]; omega
    · obtain rfl : k = n := by omega
      have e : l.take k = l := List.take_of_length_le (by have := HLL.out; omega)
      rw [e]
      clear e hlt hk
      go_wp2
      go_ret
      exact ⟨rfl, rfl⟩
end Go.Proofs.YtcglfknkkeaegaaGreatDoor
namespace Go.Proofs.YtcglfknkkeaegaaGreatDoor
open Go.RowKit
end Go.Proofs.YtcglfknkkeaegaaGreatDoor
namespace Go.Proofs.YtcglfknkkeaegaaGreatDoor
open Go.RowKit

theorem lmade_one (z : Value) (hz : z.cells = #[z]) (n : Nat) : (madeCells z.cells (n * 1)).toList = List.replicate n z := by
  rw [hz, Nat.mul_one]
  apply List.ext_getElem?
  intro k
  rw [List.getElem?_replicate]
  by_cases hk : k < n
  · rw [if_pos hk, Array.getElem?_toList]
    have h1 : (Array.range n)[k]? = some k := by rw [Array.getElem?_eq_getElem (by simpa using hk)]; simp
    simp only [madeCells, Array.getElem?_map, h1, Option.map_some]
    have : k % (#[z] : Array Value).size = 0 := by simp [Nat.mod_one]
    rw [this]; rfl
  · rw [if_neg hk, Array.getElem?_toList, Array.getElem?_eq_none (by rw [size_madeCells]; omega)]

theorem lsetCells_heap (b : Nat) {k : Nat} (hk : k ≠ b) : ∀ (vs : List Value) (o : Nat) (w : World), (w.setCells b o vs).heap[k]? = w.heap[k]?
  | [], _, _ => rfl
  | v :: r, o, w => by
    rw [World.setCells, lsetCells_heap b hk r]
    exact heap_setCell_other w ⟨b, o, none⟩ k v hk
theorem Adv.lsetCells {F F' : Nat → Prop} {w : World} {g : Nat} : ∀ (vs : List Value) (o : Nat) (w' : World), Adv F w F' w' → (F g ∨ w.heap.size ≤ g) → Adv F w F' (w'.setCells g o vs)
  | [], _, _, h, _ => h
  | v :: r, o, w', h, hg => by
    rw [World.setCells]
    exact Adv.lsetCells r (o + 1) _ (h.setCell (p := ⟨g, o, none⟩) hg v) hg
theorem lstep_copy_cells {P : Program} {w : World} {ops : Array Oper} {o : Oper} {a : Act} {K : Act → World → Prop} {Q : Exit → Act → World → Prop} {E : Prop} (hgd : o.guard = none) (d s : Operand) (dT sT : TypeId)
    (ho : o.op = .call { callee := .builtin .copy, args := #[d, s], argTypes := #[dT, sT] }) (elem : TypeId) (hu : P.underlying dT = some (.slice elem)) (hsz : (P.info? elem).map (·.size) = some 1)
    (b off dLen dCap sLen sCap : Nat) (ad : Addr) (hd : a.eval d = .slice (some ⟨b, off, none⟩) dLen dCap) (hs : a.eval s = .slice (some ad) sLen sCap)
    (cs : List Value) (hn : cs.length = Nat.min sLen dLen) (hsrc : ∀ j v, cs[j]? = some v → w.cell? (ad.add j) = some v) (ht : w.there b off cs.length) (h1 : ∀ v ∈ cs, v.oneCell' = true)
    (h : K (a.put o.dst (goInt cs.length)) (w.setCells b off cs)) :
    if Region.wanted o (yielded ops a.tmps) = true then Oper.wp P o a w K Q else E := by
  have hw : Region.wanted o (yielded ops a.tmps) = true := by simp [Region.wanted, hgd]
  rw [if_pos hw]
  have hrun := run_copy_cells (P := P) w dT sT o.type elem b off dLen dCap ad sLen sCap cs hu hsz hn hsrc (fun j hj => (ht j hj).1) (fun j hj => (ht j hj).2) h1
  unfold Oper.wp
  simp [execOp, ho, resolve, invoke, builtin, hd, hs, hrun, Result.andThen]
  exact h

theorem linfoU8s : (Tryz.prog.info? 5).map (·.size) = some 1 := by kernel_rfl

theorem Rd.front {w : World} {A : Option Addr} {m n c : Nat} {l : List Nat} (h : Rd w 1 (.slice A m c) m (l.map u8)) (hn : n ≤ m) : Rd w 1 (.slice A n c) n ((l.take n).map u8) := by
  obtain ⟨A', c', e, h1, h2, h3, h4, h5⟩ := h
  injection e with e1 _ e3
  subst e1 e3
  simp at h3
  refine ⟨A, c, rfl, by omega, h2, by simp; omega, h4, fun h0 => ?_⟩
  obtain ⟨ad, rfl, hb, hc⟩ := h5 (by omega)
  refine ⟨ad, rfl, hb, fun j u hu => hc j u ?_⟩
  rw [List.map_take, List.getElem?_take] at hu
  split at hu
  · exact hu
  · cases hu
set_option maxRecDepth 3000 in
theorem lclone_any (v : Value) (n : Nat) (xs : List Value) (w : World) (hv : Rd w 1 v n xs) (h1 : ∀ u ∈ xs, u.oneCell' = true) (hl : n ≤ 1000000000) :
    Calls Tryz.prog 170 #[v] w fun e w' => ∃ v' F', e = .returned v' ∧ Sl w' F' 5 1 v' n xs ∧ Adv Nul w F' w' := by
  obtain ⟨A, c, rfl, hnc, hcm, hxl, hA, hr⟩ := hv
  obtain ⟨i0, hi, hz0, hz1, hz2⟩ := info_parts Tryz.infoU8
  rcases A with _ | a
  · obtain rfl : c = 0 := hA rfl
    obtain rfl : n = 0 := by omega
    obtain rfl : xs = [] := List.eq_nil_of_length_eq_zero (by simpa using hxl)
    have he := fun wx => Lib.run_eql_slice_nil (P := Tryz.prog) wx 118 5 none 0 0 0 0 Tryz.underlying118
    clear hnc hcm hxl hA hr h1
    go_enter Tryz.func170, Tryz.ntmps170
    go_wp2
    go_ret
    exact ⟨_, _, rfl, Sl.nil _ _ _, Adv.refl _ _⟩
  · have he := fun wx => Lib.run_eql_slice_nil (P := Tryz.prog) wx 118 5 (some a) n c 0 0 Tryz.underlying118
    have hcells : ∀ j u, xs[j]? = some u → (w.alloc (.cells #[] 5)).cell? (a.add j) = some u := by
      intro j u hu
      have hj : j < xs.length := (List.getElem?_eq_some_iff.1 hu).1
      obtain ⟨ad, e, hb, hc⟩ := hr (by omega)
      injection e with e
      subst e
      rw [World.cell?_of_block (w := w) (by rw [add_block]; exact Below.heap_alloc _ _ _ hb)]
      exact hc j u hu
    have hown : (w.alloc (.cells #[] 5)).ownsRow w.heap.size 5 1 (.slice (some ⟨w.heap.size, 0, none⟩) 0 0) 0 [] := World.ownsRow_made w #[] 0 (Nat.le_refl _) (Nat.zero_le _) rfl
    have HR := Lib.hid hr
    have HC := Lib.hid hcells
    have HL := Lib.hid hxl
    clear hr hcells hA hxl hnc hcm
    go_enter Tryz.func170, Tryz.ntmps170
    go_wp2_with (first
      | (at_builtin; refine wpList_append_own_at _ rfl (.tmp 5) (.tmp 6) 118 rfl w.heap.size 5 i0 (.int .u8 0) 1 1 Tryz.underlying118 hi hz0 hz1 hz2 rfl (by decide) (.slice (some ⟨w.heap.size, 0, none⟩) 0 0) 0 [] rfl hown a n c xs rfl HL.out HC.out h1 ?c3 ?c4 (by simp) ?c5)
      | fail)
    case c3 => unfold maxLen; omega
    case c4 => omega
    case c5 =>
      intro v' w1 hown1 hg1 _ hat1
      go_wp2
      go_ret
      have hb : Below w.heap.size w w1 := ((Below.refl w.heap.size w).alloc (Nat.le_refl _) _).grown hg1 (by simp) (fun k hk => by simp [Value.ownBlock] at hk; omega)
      have hlt := hown1.lt
      exact ⟨v', (fun k => v'.ownBlock = some k), rfl, ⟨own_base hown1, fun k hk => hk, fun k hk => (hlt k hk).2⟩, Adv.new_ hb (fun k hk => (hlt k hk).1)⟩

theorem Rd.up {w : World} {v : Value} {n : Nat} {xs : List Value} (h : Rd w 1 v n xs) (o : Obj) : Rd (w.alloc o) 1 v n xs := h.far (fun _ _ _ hk => Below.heap_alloc _ _ _ hk) (by simp)
end Go.Proofs.YtcglfknkkeaegaaGreatDoor
namespace Go.Proofs.YtcglfknkkeaegaaGreatDoor
open Go.RowKit

set_option maxRecDepth 3000 in
theorem step_copy_rd {P : Program} {w : World} {ops : Array Oper} {o : Oper} {a : Act} {K : Act → World → Prop} {Q : Exit → Act → World → Prop} {E : Prop} (hgd : o.guard = none) (d s : Operand) (dT sT : TypeId)
    (ho : o.op = .call { callee := .builtin .copy, args := #[d, s], argTypes := #[dT, sT] }) (elem : TypeId) (hu : P.underlying dT = some (.slice elem)) (hsz : (P.info? elem).map (·.size) = some 1)
    (b off dLen dCap m : Nat) (src : Value) (hd : a.eval d = .slice (some ⟨b, off, none⟩) dLen dCap) (hs : a.eval s = src)
    (cs : List Value) (hr : Rd w 1 src m cs) (hn : m ≤ dLen) (ht : w.there b off m) (h1 : ∀ v ∈ cs, v.oneCell' = true)
    (h : K (a.put o.dst (goInt cs.length)) (w.setCells b off cs)) :
    if Region.wanted o (yielded ops a.tmps) = true then Oper.wp P o a w K Q else E := by
  obtain ⟨A, c, rfl, hmc, _, hl, _, hc⟩ := hr
  have hl' : cs.length = m := by simpa using hl
  by_cases h0 : 0 < m
  · obtain ⟨ad, rfl, _, hcell⟩ := hc h0
    exact lstep_copy_cells hgd d s dT sT ho elem hu hsz b off dLen dCap m c ad hd hs cs (by rw [hl']; exact (Nat.min_eq_left hn).symm) hcell (by rw [hl']; exact ht) h1 h
  · obtain rfl : m = 0 := by omega
    obtain rfl : cs = [] := List.eq_nil_of_length_eq_zero hl'
    have hw : Region.wanted o (yielded ops a.tmps) = true := by simp [Region.wanted, hgd]
    rw [if_pos hw]
    have hrun := run_copy_none (P := P) w dT sT o.type elem (some ⟨b, off, none⟩) A dLen dCap 0 c hu hsz (Nat.zero_min _)
    unfold Oper.wp
    simp [execOp, ho, resolve, invoke, builtin, hd, hs, hrun, Result.andThen]
    exact h

set_option maxRecDepth 3000 in
theorem putAt_cons {L : List Nat} {o x : Nat} {l : List Nat} (h : o + (l.length + 1) ≤ L.length) : putAt (L.set o x) (o + 1) l = putAt L o (x :: l) := by
  have ho : o < L.length := by omega
  unfold putAt
  rw [List.set_eq_take_append_cons_drop, if_pos ho]
  have e1 : (L.take o ++ x :: L.drop (o + 1)).take (o + 1) = L.take o ++ [x] := by
    rw [List.take_append, List.length_take, Nat.min_eq_left (by omega), List.take_of_length_le (by rw [List.length_take]; omega), show o + 1 - o = 1 by omega]
    simp
  have e2 : (L.take o ++ x :: L.drop (o + 1)).drop (o + 1 + l.length) = L.drop (o + (l.length + 1)) := by
    rw [List.drop_append, List.length_take, Nat.min_eq_left (by omega), List.drop_of_length_le (by rw [List.length_take]; omega), show o + 1 + l.length - o = l.length + 1 by omega]
    simp only [List.nil_append, List.drop_succ_cons, List.drop_drop]
    congr 1; omega
  rw [e1, e2, List.append_assoc, List.append_assoc, List.append_assoc]
  simp
set_option maxRecDepth 3000 in
theorem Sl.setCells8 {F : Nat → Prop} {g N c : Nat} : ∀ (l : List Nat) (o : Nat) (L : List Nat) (w : World), Sl w F 5 1 (.slice (some ⟨g, 0, none⟩) N c) N (L.map u8) → o + l.length ≤ N →
    Sl (w.setCells g o (l.map u8)) F 5 1 (.slice (some ⟨g, 0, none⟩) N c) N ((putAt L o l).map u8)
  | [], o, L, w, h, _ => by simpa [World.setCells, putAt] using h
  | x :: l, o, L, w, h, hl => by
    have hL : L.length = N := by have := h.own.1; simpa using this
    rw [List.length_cons] at hl
    have h1 := h.set8 o x (x : Int) rfl
    have h2 := Sl.setCells8 l (o + 1) (L.set o x) _ h1 (by omega)
    rw [putAt_cons (by omega)] at h2
    exact h2
set_option maxRecDepth 3000 in
theorem Sl.there8 {w : World} {F : Nat → Prop} {g N c o m : Nat} {L : List Nat} (h : Sl w F 5 1 (.slice (some ⟨g, 0, none⟩) N c) N (L.map u8)) (hm : o + m ≤ N) : w.there g o m := fun j hj => by
  have hL : L.length = N := by have := h.own.1; simpa using this
  exact ⟨by rw [h.at8 (k := o + j) (by omega) (by omega)]; rfl, h.own.frozenAt (o + j)⟩

/-- bytes as a text -/
def txt (l : List Nat) : ByteArray := strOfNums (l.map Int.ofNat)
set_option maxRecDepth 3000 in
theorem txt_inj {a b : List Nat} (ha : ∀ x ∈ a, x < 256) (hb : ∀ x ∈ b, x < 256) (h : txt a = txt b) : a = b := by
  have h1 := congrArg (fun s => s.data.toList) h
  simp only [txt, strOfNums_data, List.map_map] at h1
  have e : ∀ l : List Nat, (∀ x ∈ l, x < 256) → l = ((l.map ((fun n : Int => UInt8.ofNat n.toNat) ∘ Int.ofNat)).map UInt8.toNat) := fun l hl => by
    rw [List.map_map]
    conv => lhs; rw [← List.map_id l]
    refine List.map_congr_left fun x hx => ?_
    have := hl x hx
    simp [Function.comp]
    omega
  rw [e a ha, e b hb, h1]
set_option maxRecDepth 3000 in
theorem convert_rd {w : World} {A : Option Addr} {n c : Nat} {l : List Nat} (h : Rd w 1 (.slice A n c) n (l.map u8)) : (convert 118 9 (.slice A n c)).run Tryz.prog w = .ok (.string (txt l)) w := by
  have hl : l.length = n := by obtain ⟨_, _, _, _, _, h, _⟩ := h; simpa using h
  obtain ⟨A', c', e, _, _, _, hA, hc⟩ := h
  injection e with e1 e2 e3
  subst e1 e3
  by_cases h0 : 0 < n
  · obtain ⟨ad, rfl, hb, hcell⟩ := hc h0
    obtain ⟨b, o, spot⟩ := ad
    have h00 := hcell 0 _ (List.getElem?_eq_getElem (by simp; omega))
    have hspot : spot = none := by simpa [Addr.add] using World.cell?_spot h00
    subst hspot
    refine run_convert_bytes_arg (P := Tryz.prog) w 118 5 Tryz.underlying118 Tryz.underlying5 b o n c (l.map Int.ofNat) (by simp [hl]) (fun i hi => ?_) 9 Tryz.underlying9
    have h := hcell i (u8 l[i]) (by rw [List.getElem?_map, List.getElem?_eq_getElem (by omega)]; rfl)
    rw [add_none] at h
    rw [h, List.getD_eq_getElem?_getD, List.getElem?_map, List.getElem?_eq_getElem (by omega)]
    rfl
  · obtain rfl : n = 0 := by omega
    obtain rfl : l = [] := List.eq_nil_of_length_eq_zero hl
    have := run_convert_bytes_string (P := Tryz.prog) w 118 9 5 A 0 c Tryz.underlying118 Tryz.underlying5 Tryz.underlying9
    rw [this]
    cases A with
    | none => simp [Conv.bytesToString]; rfl
    | some ad =>
      rw [run_bytesToString w ad 0 c [] (by simpa using run_loadCells_list (P := Tryz.prog) w ad [] (by simp))]
      rfl

set_option maxRecDepth 3000 in
theorem equal_any (v1 v2 : Value) (n1 n2 : Nat) (l1 l2 : List Nat) (w : World) (h1 : Rd w 1 v1 n1 (l1.map u8)) (h2 : Rd w 1 v2 n2 (l2.map u8)) (hl1 : ∀ x ∈ l1, x < 256) (hl2 : ∀ x ∈ l2, x < 256) :
    Calls Tryz.prog 117 #[v1, v2] w fun e w' => e = .returned (.bool (decide (l1 = l2))) ∧ w = w' := by
  obtain ⟨A1, c1, rfl, _, _⟩ := h1.form
  obtain ⟨A2, c2, rfl, _, _⟩ := h2.form
  have e1 := convert_rd h1
  have e2 := convert_rd h2
  have e : ((txt l1).toList == (txt l2).toList) = decide (l1 = l2) := by
    by_cases h : l1 = l2
    · subst h; simp
    · rw [decide_eq_false h, beq_eq_false_iff_ne]
      refine fun h' => h (txt_inj hl1 hl2 ?_)
      rw [ByteArray.toList_eq, ByteArray.toList_eq] at h'
      exact ByteArray.ext (Array.ext' h')
  obtain ⟨s1, hs1⟩ : ∃ s, s = txt l1 := ⟨_, rfl⟩
  obtain ⟨s2, hs2⟩ : ∃ s, s = txt l2 := ⟨_, rfl⟩
  rw [← hs1] at e1 e
  rw [← hs2] at e2 e
  rw [← e]
  clear h1 h2 hl1 hl2 hs1 hs2 e
  go_enter Tryz.func117, Tryz.ntmps117
  go_wp2
  go_ret
  exact ⟨rfl, rfl⟩
end Go.Proofs.YtcglfknkkeaegaaGreatDoor
namespace Go.Proofs.YtcglfknkkeaegaaGreatDoor
open Go.RowKit

set_option maxRecDepth 3000 in
theorem low_any (s : Nat) (w : World) (h : s < 4294967296) : Calls Tryz.prog 194 #[.int .u32 s] w fun e w' => e = .returned (.int .u32 ((s % 65536 : Nat) : Int)) ∧ w = w' := by
  have e : bits .and .u32 (s : Int) 65535 = ((s % 65536 : Nat) : Int) := by
    have h1 := u32_and_nat s 65535 h (by decide)
    rw [Nat.and_two_pow_sub_one_eq_mod s 16] at h1
    exact h1
  go_enter Tryz.func194, Tryz.ntmps194
  go_wp2
  go_ret
  exact ⟨rfl, rfl⟩

set_option maxRecDepth 3000 in
theorem high_any (s : Nat) (w : World) : Calls Tryz.prog 195 #[.int .u32 s] w fun e w' => e = .returned (.int .u32 ((s / 65536 : Nat) : Int)) ∧ w = w' := by
  go_enter Tryz.func195, Tryz.ntmps195
  go_wp2
  go_ret
  exact ⟨rfl, rfl⟩

def AddRel (p : Nat × Nat) (l : List Nat) (kind : IntKind) (t5 t6 t17 : Value) : Prop :=
  ∃ k a b : Nat, k ≤ l.length ∧ t17 = .int .i64 (k : Int) ∧ t5 = .int kind (a : Int) ∧ t6 = .int kind (b : Int) ∧ fsum p (l.take k) = (a, b) ∧ a < 65535 ∧ b < 65535

theorem take_next {l : List Nat} {k a b : Nat} {p : Nat × Nat} (h : k < l.length) (e : fsum p (l.take k) = (a, b)) : fsum p (l.take (k + 1)) = ((a + l[k]) % 65535, (b + (a + l[k]) % 65535) % 65535) := by
  rw [List.take_succ_eq_append_getElem h, fsum_snoc, e]; rfl

theorem u32_join (a b : Nat) (ha : a < 65535) (hb : b < 65535) : bits .or .u32 ((b : Int) * 65536) (a : Int) = ((fnum (b, a).swap : Nat) : Int) := by
  have h1 := u32_or_nat (b * 65536) a (by omega) (by omega)
  rw [Go.nat_join 16 _ _ (by omega) (by omega)] at h1
  exact h1

set_option maxRecDepth 3000 in
set_option maxHeartbeats 400000 in
theorem fadd_any (s : Nat) (v : Value) (l : List Nat) (w : World) (h : s < 4294967296) (hv : Rd w 1 v l.length (l.map u8)) (hl : ∀ x ∈ l, x < 256) :
    Calls Tryz.prog 191 #[.int .u32 s, v] w fun e w' => e = .returned (.int .u32 ((fnum (fsum (fof s) l) : Nat) : Int)) ∧ w = w' := by
  obtain ⟨A, c, rfl, hlc, hcm⟩ := hv.form
  unfold maxLen at hcm
  have HV := Lib.hid hv
  have HL := Lib.hid hl
  obtain ⟨n, hn⟩ : ∃ n, n = l.length := ⟨_, rfl⟩
  rw [← hn] at hlc HV ⊢
  have HN := Lib.hid hn
  clear hv hl hn
  go_enter Tryz.func191, Tryz.ntmps191
  go_wp2_with (first
    | (go_at_call 194; refine (low_any _ _ h).mono ?_; rintro e w1 ⟨rfl, rfl⟩)
    | (go_at_call 195; refine (high_any _ _).mono ?_; rintro e w1 ⟨rfl, rfl⟩))
  go_loop [5, 6, 17] (AddRel (fof s) l .u32) (fun _ _ t => n - (intOf t).toNat)
  case atStart => exact ⟨0, s % 65536 % 65535, s / 65536 % 65535, Nat.zero_le _, rfl, rfl, rfl, rfl, Nat.mod_lt _ (by decide), Nat.mod_lt _ (by decide)⟩
  case round =>
    obtain ⟨k, a, b, hk, rfl, rfl, rfl, he, ha, hb⟩ := hrel
    rw [← HN.out] at hk
    have HE := Lib.hid he
    clear he
    by_cases hlt : k < n
    · obtain ⟨g, o, rfl, _, hc⟩ := HV.out.cells (by omega) (by decide)
      have hkl : k < l.length := by have := HN.out; omega
      have c1 : w.cell? ⟨g, o + k, none⟩ = some (.int .u8 (l[k] : Int)) := hc k _ (by rw [List.getElem?_map, List.getElem?_eq_getElem hkl]; rfl)
      obtain ⟨x, hx⟩ : ∃ x, x = l[k] := ⟨_, rfl⟩
      have hx256 : x < 256 := by rw [hx]; exact HL.out _ (List.getElem_mem _)
      have HT := Lib.hid (take_next hkl HE.out)
      rw [← hx] at c1 HT
      have HKL := Lib.hid hkl
      clear hc hx hkl
      go_wp2
      go_round
      case rel => exact ⟨k + 1, _, _, HKL.out, by go_num, by go_num, by go_num, HT.out, Nat.mod_lt _ (by decide), Nat.mod_lt _ (by decide)⟩
      case measure => simp [intOf]; omega
    · obtain rfl : k = n := by omega
      have hj := u32_join a b ha hb
      have e : fsum (fof s) l = (a, b) := by
        rw [← HE.out, List.take_of_length_le (by have := HN.out; omega)]
      have HEE := Lib.hid e
      clear e
      go_wp2
      go_ret
      rw [HEE.out]
      exact ⟨rfl, rfl⟩

set_option maxRecDepth 3000 in
theorem fsum_any (v : Value) (l : List Nat) (w : World) (hv : Rd w 1 v l.length (l.map u8)) (hl : ∀ x ∈ l, x < 256) :
    Calls Tryz.prog 185 #[v] w fun e w' => e = .returned (.int .u32 ((fnum (fsum (0, 0) l) : Nat) : Int)) ∧ w = w' := by
  have HV := Lib.hid hv
  have HL := Lib.hid hl
  clear hv hl
  go_enter Tryz.func185, Tryz.ntmps185
  go_wp2_with (first
    | (go_at_call 191; refine (fadd_any 0 _ l _ (by decide) HV.out HL.out).mono ?_; rintro e w1 ⟨rfl, rfl⟩))
  go_ret
  exact ⟨rfl, rfl⟩
end Go.Proofs.YtcglfknkkeaegaaGreatDoor
namespace Go.Proofs.YtcglfknkkeaegaaGreatDoor
open Go.RowKit

theorem putAt_mid {a x b y : List Nat} {n : Nat} (hn : a.length = n) (h : y.length = x.length) : putAt (a ++ (x ++ b)) n y = a ++ (y ++ b) := by
  subst hn
  unfold putAt
  rw [List.take_left' rfl, h, ← List.append_assoc, ← List.length_append, List.drop_left' rfl, List.append_assoc]
/-- what is laid by and by -/
def lay1 (p : Pc) : List Nat := putAt (List.replicate 128 0) 0 (be 8 (stamp p.e p.c))
def lay2 (p : Pc) : List Nat := ((lay1 p).set 8 (flg p.f p.g)).set 9 p.d.length
def lay3 (p : Pc) : List Nat := putAt (lay2 p) 10 p.d
def lay4 (p : Pc) : List Nat := putAt (lay3 p) 116 (be 4 (fnum (fsum (0, 0) ((lay3 p).take 116))))
def lay5 (p : Pc) : List Nat := putAt (lay4 p) 120 (be 8 (stamp p.e p.c))
theorem lay2_eq (p : Pc) : lay2 p = (be 8 (stamp p.e p.c) ++ [flg p.f p.g, p.d.length]) ++ List.replicate 118 0 := by
  have e : List.replicate 128 0 = [] ++ (List.replicate 8 0 ++ List.replicate 120 0) := by simp
  unfold lay2 lay1
  rw [e, putAt_mid (n := 0) rfl (by simp [be_length]), List.nil_append, List.set_append_right _ _ (by simp [be_length]), List.set_append_right _ _ (by simp [be_length]), be_length, List.append_assoc]
  rfl
theorem lay3_eq {p : Pc} (h : p.d.length ≤ 106) : lay3 p = front p ++ List.replicate 12 0 := by
  have e : List.replicate 118 0 = List.replicate p.d.length 0 ++ (List.replicate (106 - p.d.length) 0 ++ List.replicate 12 0) := by
    rw [List.replicate_append_replicate, List.replicate_append_replicate]; congr 1; omega
  unfold lay3
  rw [lay2_eq, e, putAt_mid (by simp [be_length]) (by simp)]
  simp [front]
theorem lay3_front {p : Pc} (h : p.d.length ≤ 106) : (lay3 p).take 116 = front p := by
  rw [lay3_eq h, List.take_left' (front_length h)]
theorem lay4_eq {p : Pc} (h : p.d.length ≤ 106) : lay4 p = (front p ++ be 4 (fnum (fsum (0, 0) (front p)))) ++ List.replicate 8 0 := by
  have e : List.replicate 12 0 = List.replicate 4 0 ++ List.replicate 8 0 := by decide
  unfold lay4
  rw [lay3_front h, lay3_eq h, e, putAt_mid (front_length h) (by simp [be_length]), List.append_assoc]
theorem lay5_eq {p : Pc} (h : p.d.length ≤ 106) : lay5 p = sealL p := by
  have e : List.replicate 8 0 = List.replicate 8 0 ++ ([] : List Nat) := by simp
  unfold lay5
  rw [lay4_eq h, e, putAt_mid (by rw [List.length_append, front_length h, be_length]) (by simp [be_length]), List.append_nil, sealL, List.append_assoc]
theorem lzrow_own {w : World} {z : Nat} (h : w.ownsRow 0 5 1 (.slice (some ⟨z, 0, none⟩) 128 128) 128 (List.replicate 128 (.int .u8 0))) : Sl w (fun j => j = z) 5 1 (.slice (some ⟨z, 0, none⟩) 128 128) 128 ((List.replicate 128 0).map u8) := by
  have e : (List.replicate 128 0).map u8 = List.replicate 128 (.int .u8 0) := by rw [List.map_replicate]; rfl
  rw [e]
  exact ⟨h, fun k hk => by simp [Value.ownBlock] at hk; exact hk.symm, fun k hk => by rw [hk]; exact (h.lt z rfl).2⟩

/-- the state while a sector is laid: the box, the row, the piece's data -/
structure Seal (w0 : World) (p : Pc) (v : Value) (b z : Nat) (L : List Nat) (w : World) : Prop where
  blk : Blk w b 177 #[.int .u64 (p.e : Int), .int .u64 (p.c : Int), .bool p.f, .bool p.g, v]
  rd : Rd w 1 v p.d.length (p.d.map u8)
  sl : Sl w (fun j => j = z) 5 1 (.slice (some ⟨z, 0, none⟩) 128 128) 128 (L.map u8)
  adv : Adv Nul w0 (fun j => j = z) w
  ne : b ≠ z
  vne : ∀ k, v.ownBlock = some k → 0 < p.d.length → k ≠ z
section
variable {w0 w w' : World} {p : Pc} {v : Value} {b z : Nat} {L L' : List Nat}
theorem Seal.step (h : Seal w0 p v b z L w) (hs : Sl w' (fun j => j = z) 5 1 (.slice (some ⟨z, 0, none⟩) 128 128) 128 (L'.map u8)) (ha : Adv (fun j => j = z) w (fun j => j = z) w') : Seal w0 p v b z L' w' :=
  ⟨h.blk.keep (ha.block b h.blk.lt h.ne), h.rd.far (fun k hk hn hl => ha.block k hl (h.vne k hk hn)) ha.size, hs, h.adv.trans ha, h.ne, h.vne⟩
theorem Seal.same (h : Seal w0 p v b z L w) (ha : Adv Nul w Nul w') : Seal w0 p v b z L w' :=
  h.step (h.sl.far ha (fun _ h _ => h)) (ha.same (fun _ h => h.elim))
theorem Seal.drew (h : Seal w0 p v b z L w) : Seal w0 p v b z L w.drew := h.same (Adv.refl _ _).drew
theorem Seal.set8 (h : Seal w0 p v b z L w) (k y : Nat) : Seal w0 p v b z (L.set k y) (w.setCell ⟨z, k, none⟩ (.int .u8 (y : Int))) :=
  h.step (h.sl.set8 k y _ rfl) ((Adv.refl (fun j => j = z) w).setCell (p := ⟨z, k, none⟩) (.inl rfl) _)
theorem Seal.copy (h : Seal w0 p v b z L w) (o : Nat) (l : List Nat) (hl : o + l.length ≤ 128) : Seal w0 p v b z (putAt L o l) (w.setCells z o (l.map u8)) :=
  h.step (h.sl.setCells8 l o L w hl) (Adv.lsetCells _ _ _ (Adv.refl (fun j => j = z) w) (.inl rfl))
theorem Seal.cell (h : Seal w0 p v b z L w) {k : Nat} (hk : k < 128) : ∃ u, w.cell? ⟨z, k, none⟩ = some u := by
  have hL : L.length = 128 := by have := h.sl.own.1; simpa using this
  exact ⟨_, h.sl.at8 hk (by omega)⟩
theorem Seal.first (h : Seal w0 p v b z L w) {t : Nat} (ht : t ≤ 128) : Rd w 1 (.slice (some ⟨z, 0, none⟩) t 128) t ((L.take t).map u8) := h.sl.rd.front ht
end

set_option maxRecDepth 3000 in
set_option maxHeartbeats 1600000 in
theorem seal_ok (p : Pc) (v : Value) (w : World) (hok : p.ok) (hv : Rd w 1 v p.d.length (p.d.map u8)) (hd : ∀ x ∈ p.d, x < 256) :
    Calls Tryz.prog 164 #[.agg #[.int .u64 (p.e : Int), .int .u64 (p.c : Int), .bool p.f, .bool p.g, v]] w fun e w' =>
      ∃ v' F, e = .returned (.tuple #[v', .int .i64 0]) ∧ Sl w' F 5 1 v' 128 ((sealL p).map u8) ∧ Adv Nul w F w' := by
  obtain ⟨i0, hi, hz0, hz1, hz2⟩ := info_parts Tryz.infoU8
  obtain ⟨he, hc, hm⟩ := hok
  obtain ⟨A, c, rfl, hmc, hcm⟩ := hv.form
  obtain ⟨b, hb⟩ : ∃ b, b = w.heap.size := ⟨_, rfl⟩
  obtain ⟨W, hW⟩ : ∃ W, W = w.alloc (.cells #[.int .u64 (p.e : Int), .int .u64 (p.c : Int), .bool p.f, .bool p.g, .slice A p.d.length c] 177) := ⟨_, rfl⟩
  have hB : Blk W b 177 #[.int .u64 (p.e : Int), .int .u64 (p.c : Int), .bool p.f, .bool p.g, .slice A p.d.length c] := by rw [hW, hb]; exact Blk.new _ _ _
  have hV : Rd W 1 (.slice A p.d.length c) p.d.length (p.d.map u8) := by rw [hW]; exact hv.up _
  have hA : Adv Nul w Nul W := by rw [hW]; exact (Adv.refl _ _).alloc _
  have hWb : W.heap.size = b + 1 := by rw [hW, hb]; simp
  have hold : ∀ k, (Value.slice A p.d.length c).ownBlock = some k → 0 < p.d.length → k ≠ W.heap.size := by
    intro k hk hn e
    obtain ⟨A', c', e', _, _, _, _, hc'⟩ := hV
    obtain ⟨ad, e2, hbb, _⟩ := hc' hn
    injection e' with e1 _ _
    subst e1 e2
    simp [Value.ownBlock] at hk
    omega
  have c0 := hB.cell 0
  have c1 := hB.cell 1
  have c2 := hB.cell 2
  have c3 := hB.cell 3
  have c4 := hB.cell 4
  have HW := Lib.hid hW
  have HB := Lib.hid hB
  have HV := Lib.hid hV
  have HA := Lib.hid hA
  have HE := Lib.hid he
  have HC := Lib.hid hc
  have HM := Lib.hid hm
  have HD := Lib.hid hd
  have HI := Lib.hid hi
  have HZ0 := Lib.hid hz0
  have HZ1 := Lib.hid hz1
  have HZ2 := Lib.hid hz2
  have HWB := Lib.hid hWb
  have HOLD := Lib.hid hold
  obtain ⟨m, hmm⟩ : ∃ m, m = p.d.length := ⟨_, rfl⟩
  have HMM := Lib.hid hmm
  have hmI : (m : Int) ≤ 106 := by omega
  obtain ⟨e, hee⟩ : ∃ e, e = p.e := ⟨_, rfl⟩
  obtain ⟨n, hnn⟩ : ∃ n, n = p.c := ⟨_, rfl⟩
  obtain ⟨f, hff⟩ : ∃ f, f = p.f := ⟨_, rfl⟩
  obtain ⟨g, hgg⟩ : ∃ g, g = p.g := ⟨_, rfl⟩
  rw [← hmm, ← hee, ← hnn, ← hff, ← hgg] at HW ⊢
  rw [← hmm] at c4
  rw [← hee] at c0
  rw [← hnn] at c1
  rw [← hff] at c2
  rw [← hgg] at c3
  have HEE := Lib.hid hee
  have HNN := Lib.hid hnn
  have HFF := Lib.hid hff
  have HGG := Lib.hid hgg
  have HBB := Lib.hid hb
  clear hW hB hV hA he hc hm hd hi hz0 hz1 hz2 hWb hold hmm hee hnn hff hgg hv hb hmc hcm
  go_enter Tryz.func164, Tryz.ntmps164
  go_wp2_with fail
  rw [← HW.out, ← HBB.out]
  refine (stampok e n (by rw [HEE.out]; exact HE.out) (by rw [HNN.out]; exact HC.out) _).mono ?_
  rintro x w1 ⟨rfl, rfl⟩
  go_wp2_with (first
    | (at_make; refine wpList_make_full _ rfl _ _ 118 rfl 0 5 i0 (.int .u8 0) 1 Tryz.underlying118 HI.out HZ0.out HZ1.out .i64 .i64 _ _ 128 rfl rfl rfl rfl (by rw [HZ2.out]; decide) (by decide) (Nat.zero_le _) ?_; intro w1 hown hg; have hown2 := own_base hown; rw [lmade_one _ rfl] at hown2; have hadv : Adv Nul W (fun j => j = W.heap.size) w1 := ⟨hg.os, hg.tape, hg.output, hg.size, fun j hj _ => hg.block j hj (by simp), fun j hj => .inr (by rw [hj]; exact Nat.le_refl _)⟩; have hsl := lzrow_own hown2)
    | fail)
  have hS : Seal w p (.slice A m c) b W.heap.size (List.replicate 128 0) w1 :=
    ⟨by rw [HMM.out]; exact HB.out.keep (hg.block b HB.out.lt (by simp)), (by rw [HMM.out]; exact HV.out.far (fun k hk hn hl => hg.block k hl (by simp)) hadv.size), hsl, HA.out.trans hadv, by have := HWB.out; omega, by rw [HMM.out]; exact HOLD.out⟩
  obtain ⟨z, hz⟩ : ∃ z, z = W.heap.size := ⟨_, rfl⟩
  rw [← hz] at hS ⊢
  have HS1 := Lib.hid hS
  have HNE := Lib.hid hS.ne
  clear hown hg hown2 hadv hsl hS hz
  refine (play_any _ z 0 128 8 128 128 _ (stamp e n) _ HS1.out.sl (by decide) (by decide) (stamp_lt (by rw [HEE.out]; exact HE.out) (by rw [HNN.out]; exact HC.out)) (by decide)).mono ?_
  rintro x w2 ⟨rfl, h2, a2⟩
  have hs2 := HS1.out.step h2 a2
  have e1 : putAt (List.replicate 128 0) 0 (be 8 (stamp e n)) = lay1 p := by rw [HEE.out, HNN.out]; rfl
  rw [e1] at hs2
  have c0 := hs2.blk.cell 0
  have c1 := hs2.blk.cell 1
  have c2 := hs2.blk.cell 2
  have c3 := hs2.blk.cell 3
  have c4 := hs2.blk.cell 4
  rw [← HEE.out] at c0
  rw [← HNN.out] at c1
  rw [← HFF.out] at c2
  rw [← HGG.out] at c3
  have HS2 := Lib.hid hs2
  clear h2 a2 hs2 e1
  go_wp2_with fail
  refine (flags_any _ _ _ _ _ _).mono ?_
  rintro x w3 ⟨rfl, hw3⟩
  have hs3 : Seal w p (.slice A m c) b z (lay1 p) w3 := HS2.out.same (by rw [hw3]; exact (Adv.refl _ _).alloc _)
  clear c0 c1 c2 c3 c4 hw3
  obtain ⟨y8, hy8⟩ := hs3.cell (k := 8) (by decide)
  have f8 := hs3.sl.own.frozenAt 8
  have hs4 := hs3.set8 8 (flg p.f p.g)
  rw [← HFF.out, ← HGG.out] at hs4
  have c4 := hs4.blk.cell 4
  obtain ⟨y9, hy9⟩ := hs4.cell (k := 9) (by decide)
  have f9 := hs4.sl.own.frozenAt 9
  have hs5 := hs4.set8 9 p.d.length
  have e5 : ((lay1 p).set 8 (flg f g)).set 9 p.d.length = lay2 p := by rw [HFF.out, HGG.out]; rfl
  rw [e5, ← HMM.out] at hs5
  have k4 := hs5.drew.blk.cell 4
  have ht5 := hs5.drew.sl.there8 (o := 10) (m := m) (by have := HMM.out; have := HM.out; omega)
  have hs6 := hs5.drew.copy 10 p.d (by have := HM.out; omega)
  have hr5 := hs5.drew.rd
  rw [← HMM.out] at hr5
  obtain ⟨w6, hw6⟩ : ∃ w6, w6 = (((w3.setCell ⟨z, 8, none⟩ (.int .u8 (flg f g : Int))).setCell ⟨z, 9, none⟩ (.int .u8 (m : Int))).drew.setCells z 10 (p.d.map u8)) := ⟨_, rfl⟩
  rw [← hw6] at hs6
  have k6 := hs6.blk.cell 4
  have HR5 := Lib.hid hr5
  have HT5 := Lib.hid ht5
  have HS6 := Lib.hid hs6
  have HW6 := Lib.hid hw6
  have K6 := Lib.hid k6
  have hX : ((lay3 p).take 116).length = 116 := by rw [lay3_front HM.out, front_length HM.out]
  have hX2 : ∀ x ∈ (lay3 p).take 116, x < 256 := by rw [lay3_front HM.out]; exact front_lt HM.out HD.out
  have hr6 := hs6.drew.first (t := 116) (by decide)
  have e6 : putAt (lay2 p) 10 p.d = lay3 p := rfl
  rw [e6] at hr6
  obtain ⟨X, hXe⟩ : ∃ X, X = (lay3 p).take 116 := ⟨_, rfl⟩
  obtain ⟨y, hy⟩ : ∃ y, y = fnum (fsum (0, 0) X) := ⟨_, rfl⟩
  have hyl : y < 4294967296 := by rw [hy]; exact fnum_lt _ (fsum_ok _ _ ⟨by decide, by decide⟩)
  have hyI : (y : Int) < 4294967296 := by omega
  rw [← hXe] at hX hX2 hr6
  have hr7 : Rd w6.drew 1 (.slice (some ⟨z, 0, none⟩) 116 128) X.length (X.map u8) := by rw [hX]; exact hr6
  have HR7 := Lib.hid hr7
  have HX2 := Lib.hid hX2
  have HXE := Lib.hid hXe
  have HY := Lib.hid hy
  have HWR := Lib.hid (show IntKind.u64.wrap (y : Int) = (y : Int) by simp only [IntKind.wrap_u64]; omega)
  have HYL := Lib.hid (show y < 18446744073709551616 by omega)
  clear hs3 hs4 hs5 e5 hs6 ht5 hr5 hw6 k6 hX hX2 hr6 e6 hXe hy hyl hr7
  go_wp2_with fail
  refine rstart (S := (fun w' => w'.cell? ⟨b, 4, none⟩ = some (.slice A m c))) (by first | exact k4 | exact K6.out) (fun hH => ?_)
  refine tk (i := 0) (oi := ⟨some 37, .move (.tmp 6), 118, "lap.go:73", #[], none⟩) hH.out (by rintro w s0; go_simp <;> with_reducible rfl) ?_
  simp only [Act.put, sA, sB, sC]
  refine tk (i := 1) (oi := ⟨some 38, .slice 118 (.tmp 37) (some (.const (Go.Value.int Go.IntKind.i64 10))) (some (.const (Go.Value.int Go.IntKind.i64 116))) none, 118, "lap.go:73", #[⟨0, .data⟩], none⟩) hH.out (by rintro w s0; go_simp <;> with_reducible rfl) ?_
  simp only [Act.put, sA, sB, sC]
  refine tk (i := 2) (oi := ⟨some 39, .fieldAddr 177 (.tmp 1) 4, 0, "lap.go:73", #[], none⟩) hH.out (by rintro w s0; go_simp <;> with_reducible rfl) ?_
  simp only [Act.put, sA, sB, sC]
  refine tk (i := 3) (oi := ⟨some 40, .load 118 (.tmp 39), 118, "lap.go:73", #[⟨2, .data⟩], none⟩) hH.out (by rintro w s0; go_simp <;> with_reducible rfl) ?_
  simp only [Act.put, sA, sB, sC]
  refine rdy (i := 4) (oi := ⟨some 41, .call ⟨.builtin .copy, #[.tmp 38, .tmp 40], #[118, 118]⟩, 3, "lap.go:73", #[⟨1, .data⟩, ⟨3, .data⟩], none⟩) (fun K hK => ?_)
  refine step_copy_rd rfl (.tmp 38) (.tmp 40) 118 118 rfl 5 Tryz.underlying118 linfoU8s z 10 106 118 m (.slice A m c) rfl rfl (p.d.map u8) HR5.out (by have := HMM.out; have := HM.out; omega) HT5.out (u8_one _) ?_
  rw [← HW6.out]
  refine hK.out _ _ (by first | exact k4 | exact K6.out) (fun hHeld => ?_)
  replace hH := Lib.hid hHeld
  clear hK K hHeld
  try simp only [Act.put, sA, sB, sC]
  refine wpAnyH_done (by kernel_rfl) ?_ _
  go_wp2_with fail
  refine rstart (S := (fun _ => True)) (by first | trivial) (fun hH => ?_)
  refine tk (i := 0) (oi := ⟨some 42, .move (.tmp 6), 118, "lap.go:74", #[], none⟩) hH.out (by rintro w _; go_simp <;> with_reducible rfl) ?_
  simp only [Act.put, sA, sB, sC]
  refine tk (i := 1) (oi := ⟨some 43, .slice 118 (.tmp 42) (some (.const (Go.Value.int Go.IntKind.i64 116))) (some (.const (Go.Value.int Go.IntKind.i64 120))) none, 118, "lap.go:74", #[⟨0, .data⟩], none⟩) hH.out (by rintro w _; go_simp <;> with_reducible rfl) ?_
  simp only [Act.put, sA, sB, sC]
  refine tk (i := 2) (oi := ⟨some 44, .move (.tmp 6), 118, "lap.go:74", #[], none⟩) hH.out (by rintro w _; go_simp <;> with_reducible rfl) ?_
  simp only [Act.put, sA, sB, sC]
  refine tk (i := 3) (oi := ⟨some 45, .slice 118 (.tmp 44) none (some (.const (Go.Value.int Go.IntKind.i64 116))) none, 118, "lap.go:74", #[⟨2, .data⟩], none⟩) hH.out (by rintro w _; go_simp <;> with_reducible rfl) ?_
  simp only [Act.put, sA, sB, sC]
  refine rdy (i := 4) (oi := ⟨some 46, .call ⟨.value (.func 185), #[.tmp 45], #[118]⟩, 221, "lap.go:74", #[⟨3, .data⟩], none⟩) (fun K hK => ?_)
  go_simp
  refine (fsum_any _ X _ HR7.out HX2.out).mono ?_
  rintro x w7 ⟨rfl, rfl⟩
  rw [← HY.out]
  go_wp2_with fail
  refine hK.out _ _ (by first | trivial) (fun hHeld => ?_)
  replace hH := Lib.hid hHeld
  clear hK K hHeld
  try simp only [Act.put, sA, sB, sC]
  refine tk (i := 5) (oi := ⟨some 47, .convert 221 38 (.tmp 46), 38, "lap.go:74", #[⟨4, .data⟩], none⟩) hH.out (by rintro w _; go_simp <;> with_reducible rfl) ?_
  simp only [Act.put, sA, sB, sC]
  refine rdy (i := 6) (oi := ⟨some 48, .call ⟨.value (.func 184), #[.tmp 43, .tmp 47], #[118, 38]⟩, 0, "lap.go:74", #[⟨1, .data⟩, ⟨5, .data⟩, ⟨4, .chain⟩], none⟩) (fun K hK => ?_)
  go_simp
  rw [HWR.out]
  refine (play_any _ z 116 128 4 128 12 _ y _ HS6.out.drew.sl (by decide) (by decide) HYL.out (by decide)).mono ?_
  rintro x w8 ⟨rfl, h8, a8⟩
  have HS8 := Lib.hid (HS6.out.drew.step h8 a8)
  clear h8 a8
  go_wp2_with fail
  refine hK.out _ _ (by first | trivial) (fun hHeld => ?_)
  replace hH := Lib.hid hHeld
  clear hK K hHeld
  try simp only [Act.put, sA, sB, sC]
  refine wpAnyH_done (by kernel_rfl) ?_ _
  go_wp2_with fail
  have hs8 := HS8.out
  have e8 : putAt (putAt (lay2 p) 10 p.d) 116 (be 4 y) = lay4 p := by rw [HY.out, HXE.out]; rfl
  rw [e8] at hs8
  have HS9 := Lib.hid hs8
  clear hs8 e8
  refine (play_any _ z 120 128 8 128 8 _ (stamp e n) _ HS9.out.sl (by decide) (by decide) (stamp_lt (by rw [HEE.out]; exact HE.out) (by rw [HNN.out]; exact HC.out)) (by decide)).mono ?_
  rintro x w9 ⟨rfl, h9, a9⟩
  have hs9 := HS9.out.step h9 a9
  have e9 : putAt (lay4 p) 120 (be 8 (stamp e n)) = sealL p := by rw [HEE.out, HNN.out, ← lay5_eq HM.out]; rfl
  rw [e9] at hs9
  have HS10 := Lib.hid hs9
  clear h9 a9 hs9 e9
  go_wp2_with fail
  go_ret2
  first
    | exact ⟨_, _, rfl, HS10.out.sl, HS10.out.adv⟩
    | exact ⟨_, rfl, _, HS10.out.sl, HS10.out.adv⟩
    | exact ⟨rfl, _, HS10.out.sl, HS10.out.adv⟩
end Go.Proofs.YtcglfknkkeaegaaGreatDoor
namespace Go.Proofs.YtcglfknkkeaegaaGreatDoor
open Go.RowKit

set_option maxRecDepth 3000 in
theorem seal_no (p : Pc) (v : Value) (w : World) (hok : ¬ p.ok) (hv : Rd w 1 v p.d.length (p.d.map u8)) :
    Calls Tryz.prog 164 #[.agg #[.int .u64 (p.e : Int), .int .u64 (p.c : Int), .bool p.f, .bool p.g, v]] w fun e w' => e = .returned (.tuple #[.slice none 0 0, .int .i64 2]) ∧ Adv Nul w Nul w' := by
  obtain ⟨e, n, f, g, d⟩ := p
  obtain ⟨A, c, rfl, _, hcm⟩ := hv.form
  unfold maxLen at hcm
  by_cases hs : e ≤ 16777215 ∧ n ≤ 1099511627775
  · have hm : (106 : Int) < (d.length : Int) := by
      have : ¬ d.length ≤ 106 := fun h => hok ⟨hs.1, hs.2, h⟩
      omega
    obtain ⟨m, hmm⟩ : ∃ m, m = d.length := ⟨_, rfl⟩
    rw [← hmm] at hm
    simp only [← hmm]
    have HS := Lib.hid hs
    clear hs hok hv hmm hcm
    go_enter Tryz.func164, Tryz.ntmps164
    go_wp2_with (first
      | (go_at_call 175; refine (stampok e n HS.out.1 HS.out.2 _).mono ?_; rintro x w1 ⟨rfl, rfl⟩)
      | fail)
    go_ret2
    exact ⟨rfl, (Adv.refl _ _).alloc _⟩
  · have HS := Lib.hid hs
    clear hs hok hv hcm
    go_enter Tryz.func164, Tryz.ntmps164
    go_wp2_with (first
      | (go_at_call 175; refine (stampno e n HS.out _).mono ?_; rintro x w1 ⟨rfl, rfl⟩)
      | fail)
    go_ret2
    exact ⟨rfl, (Adv.refl _ _).alloc _⟩

theorem Sl.lup1 {w : World} {F : Nat → Prop} {e : TypeId} {size n : Nat} {v : Value} {xs : List Value} (h : Sl w F e size v n xs) (o : Obj) : Sl (w.alloc o) F e size v n xs :=
  ⟨own_keep h.own fun k hk => Below.heap_alloc _ _ _ (h.bd k (h.inF k hk)), h.inF, fun k hk => Nat.lt_of_lt_of_le (h.bd k hk) (by simp)⟩
theorem Adv.over' {F' : Nat → Prop} {w w1 w2 : World} (h : Adv Nul w Nul w1) (k : Adv Nul w1 F' w2) : Adv Nul w F' w2 := h.trans k
end Go.Proofs.YtcglfknkkeaegaaGreatDoor
