/- Numbers as bytes, stamps, flags: what the calls answer. -/
import Derived.Test.YtlpdpbhnfhihjaaGreatLpM
import Derived.Test.YtlpdpbhnfhihjaaGreatR01
namespace Go.Proofs.YtlpdpbhnfhihjaaGreat
open Go.RowKit

theorem stamp_join (e c : Nat) (he : e ≤ 16777215) (hc : c ≤ 1099511627775) : bits .or .u64 ((e : Int) * 1099511627776) (c : Int) = ((stamp e c : Nat) : Int) := by
  have h1 := u64_or_nat (e * 1099511627776) c (by omega) (by omega)
  rw [Go.nat_join 40 _ _ (by omega) (by omega)] at h1
  exact h1
theorem stamp_and (s : Nat) (h : s < 18446744073709551616) : bits .and .u64 (s : Int) 1099511627775 = ((s % 1099511627776 : Nat) : Int) := by
  have h1 := u64_and_nat s 1099511627775 h (by decide)
  rw [Nat.and_two_pow_sub_one_eq_mod s 40] at h1
  exact h1

set_option maxRecDepth 3000 in
theorem stampok (e c : Nat) (he : e ≤ 16777215) (hc : c ≤ 1099511627775) (w : World) :
    Calls Tryz.prog 112 #[.int .u64 (e : Int), .int .u64 (c : Int)] w fun x w' => x = .returned (.tuple #[.int .u64 ((stamp e c : Nat) : Int), .int .i64 0]) ∧ w = w' := by
  have hj := stamp_join e c he hc
  have h1 : (e : Int) ≤ 16777215 := by omega
  have h2 : (c : Int) ≤ 1099511627775 := by omega
  clear he hc
  go_enter Tryz.func112, Tryz.ntmps112
  go_wp2
  go_ret2
  exact ⟨rfl, rfl⟩
set_option maxRecDepth 3000 in
theorem stampno (e c : Nat) (h : ¬ (e ≤ 16777215 ∧ c ≤ 1099511627775)) (w : World) :
    Calls Tryz.prog 112 #[.int .u64 (e : Int), .int .u64 (c : Int)] w fun x w' => x = .returned (.tuple #[.int .u64 0, .int .i64 2]) ∧ w = w' := by
  by_cases he : e ≤ 16777215
  · have h1 : (e : Int) ≤ 16777215 := by omega
    have h2 : 1099511627775 < (c : Int) := by omega
    clear he h
    go_enter Tryz.func112, Tryz.ntmps112
    go_wp2
    go_ret2
    exact ⟨rfl, rfl⟩
  · have h1 : 16777215 < (e : Int) := by omega
    clear he h
    go_enter Tryz.func112, Tryz.ntmps112
    go_wp2
    go_ret2
    exact ⟨rfl, rfl⟩
set_option maxRecDepth 3000 in
theorem epoch_any (s : Nat) (w : World) : Calls Tryz.prog 99 #[.int .u64 (s : Int)] w fun x w' => x = .returned (.int .u64 ((s / 1099511627776 : Nat) : Int)) ∧ w = w' := by
  go_enter Tryz.func99, Tryz.ntmps99
  go_wp2
  go_ret
  exact ⟨rfl, rfl⟩
set_option maxRecDepth 3000 in
theorem count_any (s : Nat) (h : s < 18446744073709551616) (w : World) : Calls Tryz.prog 123 #[.int .u64 (s : Int)] w fun x w' => x = .returned (.int .u64 ((s % 1099511627776 : Nat) : Int)) ∧ w = w' := by
  have hj := stamp_and s h
  clear h
  go_enter Tryz.func123, Tryz.ntmps123
  go_wp2
  go_ret
  exact ⟨rfl, rfl⟩

/-- a piece as the program has it -/
def pcells' (p : Pc) (v : Value) : Array Value := #[.int .u64 (p.e : Int), .int .u64 (p.c : Int), .bool p.f, .bool p.g, v]
set_option maxRecDepth 3000 in
theorem flags_any (e c : Int) (f g : Bool) (v : Value) (w : World) :
    Calls Tryz.prog 116 #[.agg #[.int .u64 e, .int .u64 c, .bool f, .bool g, v]] w fun x w' => x = .returned (.int .u8 ((flg f g : Nat) : Int)) ∧ w' = w.alloc (.cells #[.int .u64 e, .int .u64 c, .bool f, .bool g, v] 102) := by
  have h1 : bits .or .u8 0 1 = 1 := by decide
  have h2 : bits .or .u8 0 2 = 2 := by decide
  have h3 : bits .or .u8 1 2 = 3 := by decide
  cases f with
  | true =>
    cases g with
    | true => go_enter Tryz.func116, Tryz.ntmps116; go_wp2; go_ret; exact ⟨rfl, rfl⟩
    | false => go_enter Tryz.func116, Tryz.ntmps116; go_wp2; go_ret; exact ⟨rfl, rfl⟩
  | false =>
    cases g with
    | true => go_enter Tryz.func116, Tryz.ntmps116; go_wp2; go_ret; exact ⟨rfl, rfl⟩
    | false => go_enter Tryz.func116, Tryz.ntmps116; go_wp2; go_ret; exact ⟨rfl, rfl⟩

/-- a row of which some places are laid anew -/
def putAt (L : List Nat) (a : Nat) (l : List Nat) : List Nat := L.take a ++ l ++ L.drop (a + l.length)
theorem putAt_length {L l : List Nat} {a : Nat} (h : a + l.length ≤ L.length) : (putAt L a l).length = L.length := by
  simp only [putAt, List.length_append, List.length_take, List.length_drop]; omega
theorem putAt_set {L l : List Nat} {a y : Nat} (h : a + 1 + l.length ≤ L.length) : (putAt L (a + 1) l).set a y = putAt L a (y :: l) := by
  have hl : a < L.length := by omega
  simp only [putAt]
  rw [List.take_succ_eq_append_getElem hl, List.append_assoc, List.append_assoc, List.set_append_right _ _ (by rw [List.length_take]; omega), List.length_take, Nat.min_eq_left (by omega), Nat.sub_self]
  simp only [List.length_cons, List.nil_append, List.set_cons_zero, List.cons_append, List.append_assoc]
  rw [show a + 1 + l.length = a + (l.length + 1) by omega]
theorem be_cons : ∀ k x, be (k + 1) x = (x / 256 ^ k % 256) :: be k x
  | 0, x => by simp [be]
  | k + 1, x => by
    rw [be, be_cons k (x / 256), be]
    simp only [List.cons_append, Nat.div_div_eq_div_mul]
    rw [Nat.mul_comm 256, ← Nat.pow_succ]

def LayRl (w : World) (F : Nat → Prop) (g o N n c : Nat) (L : List Nat) (x : Nat) (t1 t7 : Value) (wr : World) : Prop :=
  ∃ k, k ≤ n ∧ t1 = .int .u64 ((x / 256 ^ k : Nat) : Int) ∧ t7 = .int .i64 (k : Int) ∧ Sl wr F 5 1 (.slice (some ⟨g, 0, none⟩) N c) N ((putAt L (o + (n - k)) (be k x)).map u8) ∧ Adv F w F wr

set_option maxRecDepth 3000 in
set_option maxHeartbeats 800000 in
theorem play_any (F : Nat → Prop) (g o N n c c2 : Nat) (L : List Nat) (x : Nat) (w : World) (h : Sl w F 5 1 (.slice (some ⟨g, 0, none⟩) N c) N (L.map u8)) (hon : o + n ≤ N) (hN : N ≤ 1000) (hx : x < 18446744073709551616) (hn : 0 < n) :
    Calls Tryz.prog 115 #[.slice (some ⟨g, o, none⟩) n c2, .int .u64 (x : Int)] w fun e w' => e = .returned (.tuple #[]) ∧ Sl w' F 5 1 (.slice (some ⟨g, 0, none⟩) N c) N ((putAt L o (be n x)).map u8) ∧ Adv F w F w' := by
  have hl : L.length = N := by have := h.own.1; simpa using this
  have H := Lib.hid h
  have HL := Lib.hid hl
  have hx1 : (x : Int) < 18446744073709551616 := by omega
  have hnn : n ≤ 1000 := by omega
  clear h hl
  go_enter Tryz.func115, Tryz.ntmps115
  go_wp2_with fail
  go_loopw [1, 7] (LayRl w F g o N n c L x) (fun _ t _ => n - (intOf t).toNat)
  case atStart => exact ⟨0, Nat.zero_le _, by simp, rfl, by simpa [putAt, be] using H.out, Adv.refl _ _⟩
  case round =>
    obtain ⟨k, hk, rfl, rfl, hr, ha⟩ := hrel
    have hF := hr.inF g rfl
    by_cases hlt : k < n
    · have hfr := hr.own.frozenAt (o + (n - 1 - k))
      have hlen : (putAt L (o + (n - k)) (be k x)).length = N := by rw [putAt_length (by rw [be_length, HL.out]; omega), HL.out]
      have hj : o + (n - 1 - k) = o + (n - (k + 1)) := by omega
      obtain ⟨z, hcell⟩ : ∃ z, wr.cell? ⟨g, o + (n - 1 - k), none⟩ = some z := ⟨_, hr.at8 (k := o + (n - 1 - k)) (by omega) (by rw [hlen]; omega)⟩
      have hs := hr.set8 (o + (n - 1 - k)) (x / 256 ^ k % 256) ((x / 256 ^ k : Nat) % 256 : Int) (by omega)
      rw [hj, show o + (n - k) = o + (n - (k + 1)) + 1 by omega, putAt_set (by rw [be_length, HL.out]; omega), ← be_cons, ← hj] at hs
      obtain ⟨y, hy⟩ : ∃ y, y = x / 256 ^ k := ⟨_, rfl⟩
      have hy1 : x / 256 ^ (k + 1) = y / 256 := by rw [hy, Nat.pow_succ, Nat.div_div_eq_div_mul]
      have hy2 : y ≤ x := by rw [hy]; exact Nat.div_le_self _ _
      rw [← hy] at hs ⊢
      have HS := Lib.hid hs
      have HA := Lib.hid (ha.setCell (p := ⟨g, o + (n - 1 - k), none⟩) (.inl hF) (.int .u8 ((y : Nat) % 256 : Int)))
      have HJ := Lib.hid hj
      have HY := Lib.hid hy1
      have hk0 : (0 : Int) ≤ (n : Int) - 1 - (k : Int) := by omega
      have hk1 : (n : Int) - 1 - (k : Int) < (n : Int) := by omega
      have hy64 : y < 18446744073709551616 := by omega
      have hnI : (n : Int) ≤ 1000 := by omega
      clear hr ha hs hj hy1 hy hlen hy2 hx hx1 hnn hon hN
      go_wp2_with fail
      refine ⟨⟨k + 1, by omega, by rw [HY.out]; go_num, by go_num, ?_, HA.out⟩, by simp [intOf]; omega⟩
      rw [← HJ.out]
      exact HS.out
    · obtain rfl : k = n := by omega
      have h1 := hr
      rw [Nat.sub_self, Nat.add_zero] at h1
      have H1 := Lib.hid h1
      have HA := Lib.hid ha
      clear h1 hr ha hlt hk
      go_wp2
      go_end0
      exact ⟨rfl, H1.out, HA.out⟩

theorem val_take_succ {l : List Nat} {k : Nat} (h : k < l.length) : val (l.take (k + 1)) = val (l.take k) * 256 + l[k] := by
  rw [List.take_succ_eq_append_getElem h, val_snoc]
theorem val_take_lt {l : List Nat} {k : Nat} (hk : k < l.length) (h8 : l.length ≤ 8) (hl : ∀ x ∈ l, x < 256) : val (l.take k) < 72057594037927936 := by
  have h1 := val_lt k (l.take k) (by simp; omega) (fun x hx => hl x (List.mem_of_mem_take hx))
  have h2 := Nat.pow_le_pow_right (n := 256) (by decide) (show k ≤ 7 by omega)
  have e : 256 ^ 7 = 72057594037927936 := by decide
  omega
theorem u64_join8 (x b : Nat) (hx : x < 72057594037927936) (hb : b < 256) : bits .or .u64 ((x : Int) * 256) (b : Int) = ((x * 256 + b : Nat) : Int) := by
  have h1 := u64_or_nat (x * 256) b (by omega) (by omega)
  rw [Go.nat_join 8 _ _ (by omega) (by omega)] at h1
  exact h1

def NumRel (l : List Nat) (t3 t8 : Value) : Prop := ∃ k : Nat, k ≤ l.length ∧ t8 = .int .i64 (k : Int) ∧ t3 = .int .u64 ((val (l.take k) : Nat) : Int)

set_option maxRecDepth 3000 in
set_option maxHeartbeats 400000 in
theorem number_any (v : Value) (n : Nat) (l : List Nat) (w : World) (h : Rd w 1 v n (l.map u8)) (hn : n ≤ 8) (hl : ∀ x ∈ l, x < 256) :
    Calls Tryz.prog 100 #[v] w fun e w' => e = .returned (.int .u64 ((val l : Nat) : Int)) ∧ w = w' := by
  obtain ⟨A, c, rfl, _, _⟩ := h.form
  have hll : l.length = n := by obtain ⟨_, _, _, _, _, h, _⟩ := h; simpa using h
  have hnI : (n : Int) ≤ 8 := by omega
  have H := Lib.hid h
  have HL := Lib.hid hl
  have HLL := Lib.hid hll
  have HN := Lib.hid hn
  clear h hl hll hn
  go_enter Tryz.func100, Tryz.ntmps100
  go_wp2_with fail
  go_loop [3, 8] (NumRel l) (fun _ t => n - (intOf t).toNat)
  case atStart => exact ⟨0, Nat.zero_le _, rfl, rfl⟩
  case round =>
    obtain ⟨k, hk, rfl, rfl⟩ := hrel
    rw [HLL.out] at hk
    by_cases hlt : k < n
    · obtain ⟨b, o, rfl, _, hc⟩ := H.out.cells (by omega) (by decide)
      have hkl : k < l.length := by have := HLL.out; omega
      have c1 : w.cell? ⟨b, o + k, none⟩ = some (.int .u8 (l[k] : Int)) := hc k _ (by rw [List.getElem?_map, List.getElem?_eq_getElem hkl]; rfl)
      have hx256 := HL.out _ (List.getElem_mem hkl)
      have hv := val_take_lt hkl (by have := HLL.out; have := HN.out; omega) HL.out
      have hv2 := val_take_succ hkl
      obtain ⟨x, hx⟩ : ∃ x, x = l[k] := ⟨_, rfl⟩
      obtain ⟨y, hy⟩ : ∃ y, y = val (l.take k) := ⟨_, rfl⟩
      rw [← hx] at c1 hx256 hv2
      rw [← hy] at hv hv2 ⊢
      have hj := u64_join8 y x hv hx256
      have hvI : (y : Int) < 72057594037927936 := by omega
      have hxI : (x : Int) < 256 := by omega
      rw [← hv2] at hj
      have HKL := Lib.hid hkl
      clear hc hx hy hkl hv hv2 hx256
      go_wp2
      go_round
      case rel => exact ⟨k + 1, HKL.out, by go_num, rfl⟩
      case measure => simp [intOf]; omega
    · obtain rfl : k = n := by omega
      have e : l.take k = l := List.take_of_length_le (by have := HLL.out; omega)
      rw [e]
      clear e hlt hk
      go_wp2
      go_ret
      exact ⟨rfl, rfl⟩

set_option maxRecDepth 3000 in
set_option maxHeartbeats 400000 in
theorem rvalue_any (v : Value) (n : Nat) (l : List Nat) (w : World) (h : Rd w 1 v n (l.map u8)) (hn : n ≤ 8) (hl : ∀ x ∈ l, x < 256) :
    Calls Tryz.prog 41 #[v] w fun e w' => e = .returned (.int .u64 ((val l : Nat) : Int)) ∧ w = w' := by
  obtain ⟨A, c, rfl, _, _⟩ := h.form
  have hll : l.length = n := by obtain ⟨_, _, _, _, _, h, _⟩ := h; simpa using h
  have hnI : (n : Int) ≤ 8 := by omega
  have H := Lib.hid h
  have HL := Lib.hid hl
  have HLL := Lib.hid hll
  have HN := Lib.hid hn
  clear h hl hll hn
  go_enter Tryz.func41, Tryz.ntmps41
  go_wp2_with fail
  go_loop [3, 4] (NumRel l) (fun _ t => n - (intOf t).toNat)
  case atStart => exact ⟨0, Nat.zero_le _, rfl, rfl⟩
  case round =>
    obtain ⟨k, hk, rfl, rfl⟩ := hrel
    rw [HLL.out] at hk
    by_cases hlt : k < n
    · obtain ⟨b, o, rfl, _, hc⟩ := H.out.cells (by omega) (by decide)
      have hkl : k < l.length := by have := HLL.out; omega
      have c1 : w.cell? ⟨b, o + k, none⟩ = some (.int .u8 (l[k] : Int)) := hc k _ (by rw [List.getElem?_map, List.getElem?_eq_getElem hkl]; rfl)
      have hx256 := HL.out _ (List.getElem_mem hkl)
      have hv := val_take_lt hkl (by have := HLL.out; have := HN.out; omega) HL.out
      have hv2 := val_take_succ hkl
      obtain ⟨x, hx⟩ : ∃ x, x = l[k] := ⟨_, rfl⟩
      obtain ⟨y, hy⟩ : ∃ y, y = val (l.take k) := ⟨_, rfl⟩
      rw [← hx] at c1 hx256 hv2
      rw [← hy] at hv hv2 ⊢
      have hvI : (y : Int) < 72057594037927936 := by omega
      have hxI : (x : Int) < 256 := by omega
      have HV := Lib.hid hv2
      have HKL := Lib.hid hkl
      clear hc hx hy hkl hv hv2 hx256
      go_wp2
      exact ⟨⟨k + 1, HKL.out, by go_num, by rw [HV.out]; go_num⟩, by simp [intOf]; omega⟩
    · obtain rfl : k = n := by omega
      have e : l.take k = l := List.take_of_length_le (by have := HLL.out; omega)
      rw [e]
      clear e hlt hk
      go_wp2
      go_ret
      exact ⟨rfl, rfl⟩
end Go.Proofs.YtlpdpbhnfhihjaaGreat
