/- The sum in two halves: what its calls answer. -/
import Derived.Test.YtolcnbiaiolcoaaGreatFlM
import Derived.Test.YtolcnbiaiolcoaaGreatR01
namespace Go.Proofs.YtolcnbiaiolcoaaGreat
open Go.RowKit

set_option maxRecDepth 3000 in
theorem low_any (s : Nat) (w : World) (h : s < 4294967296) : Calls Tryz.prog 135 #[.int .u32 s] w fun e w' => e = .returned (.int .u32 ((s % 65536 : Nat) : Int)) ∧ w = w' := by
  have e : bits .and .u32 (s : Int) 65535 = ((s % 65536 : Nat) : Int) := by
    have h1 := u32_and_nat s 65535 h (by decide)
    rw [Nat.and_two_pow_sub_one_eq_mod s 16] at h1
    exact h1
  go_enter Tryz.func135, Tryz.ntmps135
  go_wp2
  go_ret
  exact ⟨rfl, rfl⟩

set_option maxRecDepth 3000 in
theorem high_any (s : Nat) (w : World) : Calls Tryz.prog 136 #[.int .u32 s] w fun e w' => e = .returned (.int .u32 ((s / 65536 : Nat) : Int)) ∧ w = w' := by
  go_enter Tryz.func136, Tryz.ntmps136
  go_wp2
  go_ret
  exact ⟨rfl, rfl⟩

def AddRel (p : Nat × Nat) (l : List Nat) (kind : IntKind) (t5 t6 t17 : Value) : Prop :=
  ∃ k a b : Nat, k ≤ l.length ∧ t17 = .int .i64 (k : Int) ∧ t5 = .int kind (a : Int) ∧ t6 = .int kind (b : Int) ∧ fsum p (l.take k) = (a, b) ∧ a < 65535 ∧ b < 65535

theorem take_next {l : List Nat} {k a b : Nat} {p : Nat × Nat} (h : k < l.length) (e : fsum p (l.take k) = (a, b)) : fsum p (l.take (k + 1)) = ((a + l[k]) % 65535, (b + (a + l[k]) % 65535) % 65535) := by
  rw [List.take_succ_eq_append_getElem h, fsum_snoc, e]; rfl

theorem u32_join (a b : Nat) (ha : a < 65535) (hb : b < 65535) : bits .or .u32 ((b : Int) * 65536) (a : Int) = ((fnum (b, a).swap : Nat) : Int) := by
  have h1 := u32_or_nat (b * 65536) a (by omega) (by omega)
  rw [Go.nat_join 16 _ _ (by omega) (by omega)] at h1
  exact h1

set_option maxRecDepth 3000 in
set_option maxHeartbeats 400000 in
theorem fadd_any (s : Nat) (v : Value) (l : List Nat) (w : World) (h : s < 4294967296) (hv : Rd w 1 v l.length (l.map u8)) (hl : ∀ x ∈ l, x < 256) :
    Calls Tryz.prog 131 #[.int .u32 s, v] w fun e w' => e = .returned (.int .u32 ((fnum (fsum (fof s) l) : Nat) : Int)) ∧ w = w' := by
  obtain ⟨A, c, rfl, hlc, hcm⟩ := hv.form
  unfold maxLen at hcm
  have HV := Lib.hid hv
  have HL := Lib.hid hl
  obtain ⟨n, hn⟩ : ∃ n, n = l.length := ⟨_, rfl⟩
  rw [← hn] at hlc HV ⊢
  have HN := Lib.hid hn
  clear hv hl hn
  go_enter Tryz.func131, Tryz.ntmps131
  go_wp2_with (first
    | (go_at_call 135; refine (low_any _ _ h).mono ?_; rintro e w1 ⟨rfl, rfl⟩)
    | (go_at_call 136; refine (high_any _ _).mono ?_; rintro e w1 ⟨rfl, rfl⟩))
  go_loop [5, 6, 17] (AddRel (fof s) l .u32) (fun _ _ t => n - (intOf t).toNat)
  case atStart => exact ⟨0, s % 65536 % 65535, s / 65536 % 65535, Nat.zero_le _, rfl, rfl, rfl, rfl, Nat.mod_lt _ (by decide), Nat.mod_lt _ (by decide)⟩
  case round =>
    obtain ⟨k, a, b, hk, rfl, rfl, rfl, he, ha, hb⟩ := hrel
    rw [← HN.out] at hk
    have HE := Lib.hid he
    clear he
    by_cases hlt : k < n
    · obtain ⟨g, o, rfl, _, hc⟩ := HV.out.cells (by omega) (by decide)
      have hkl : k < l.length := by have := HN.out; omega
      have c1 : w.cell? ⟨g, o + k, none⟩ = some (.int .u8 (l[k] : Int)) := hc k _ (by rw [List.getElem?_map, List.getElem?_eq_getElem hkl]; rfl)
      obtain ⟨x, hx⟩ : ∃ x, x = l[k] := ⟨_, rfl⟩
      have hx256 : x < 256 := by rw [hx]; exact HL.out _ (List.getElem_mem _)
      have HT := Lib.hid (take_next hkl HE.out)
      rw [← hx] at c1 HT
      have HKL := Lib.hid hkl
      clear hc hx hkl
      go_wp2
      go_round
      case rel => exact ⟨k + 1, _, _, HKL.out, by go_num, by go_num, by go_num, HT.out, Nat.mod_lt _ (by decide), Nat.mod_lt _ (by decide)⟩
      case measure => simp [intOf]; omega
    · obtain rfl : k = n := by omega
      have hj := u32_join a b ha hb
      have e : fsum (fof s) l = (a, b) := by
        rw [← HE.out, List.take_of_length_le (by have := HN.out; omega)]
      have HEE := Lib.hid e
      clear e
      go_wp2
      go_ret
      rw [HEE.out]
      exact ⟨rfl, rfl⟩

set_option maxRecDepth 3000 in
theorem fsum_any (v : Value) (l : List Nat) (w : World) (hv : Rd w 1 v l.length (l.map u8)) (hl : ∀ x ∈ l, x < 256) :
    Calls Tryz.prog 115 #[v] w fun e w' => e = .returned (.int .u32 ((fnum (fsum (0, 0) l) : Nat) : Int)) ∧ w = w' := by
  have HV := Lib.hid hv
  have HL := Lib.hid hl
  clear hv hl
  go_enter Tryz.func115, Tryz.ntmps115
  go_wp2_with (first
    | (go_at_call 131; refine (fadd_any 0 _ l _ (by decide) HV.out HL.out).mono ?_; rintro e w1 ⟨rfl, rfl⟩))
  go_ret
  exact ⟨rfl, rfl⟩

theorem add_mod2 (a b x : Nat) : (b + (a + x) % 65535) % 65535 = (b + (a + x)) % 65535 := by omega

set_option maxRecDepth 3000 in
set_option maxHeartbeats 400000 in
theorem radd_any (s : Nat) (v : Value) (l : List Nat) (w : World) (h : s < 4294967296) (hv : Rd w 1 v l.length (l.map u8)) (hl : ∀ x ∈ l, x < 256) :
    Calls Tryz.prog 90 #[.int .u32 s, v] w fun e w' => e = .returned (.int .u32 ((fnum (fsum (fof s) l) : Nat) : Int)) ∧ w = w' := by
  obtain ⟨A, c, rfl, hlc, hcm⟩ := hv.form
  unfold maxLen at hcm
  have HV := Lib.hid hv
  have HL := Lib.hid hl
  obtain ⟨n, hn⟩ : ∃ n, n = l.length := ⟨_, rfl⟩
  rw [← hn] at hlc HV ⊢
  have HN := Lib.hid hn
  clear hv hl hn
  go_enter Tryz.func90, Tryz.ntmps90
  go_wp2_with fail
  go_loop [5, 6, 7] (AddRel (fof s) l .u64) (fun _ _ t => n - (intOf t).toNat)
  case atStart => exact ⟨0, s % 65536 % 65535, s / 65536 % 65535, Nat.zero_le _, rfl, rfl, rfl, rfl, Nat.mod_lt _ (by decide), Nat.mod_lt _ (by decide)⟩
  case round =>
    obtain ⟨k, a, b, hk, rfl, rfl, rfl, he, ha, hb⟩ := hrel
    rw [← HN.out] at hk
    have HE := Lib.hid he
    clear he
    by_cases hlt : k < n
    · obtain ⟨g, o, rfl, _, hc⟩ := HV.out.cells (by omega) (by decide)
      have hkl : k < l.length := by have := HN.out; omega
      have c1 : w.cell? ⟨g, o + k, none⟩ = some (.int .u8 (l[k] : Int)) := hc k _ (by rw [List.getElem?_map, List.getElem?_eq_getElem hkl]; rfl)
      obtain ⟨x, hx⟩ : ∃ x, x = l[k] := ⟨_, rfl⟩
      have hx256 : x < 256 := by rw [hx]; exact HL.out _ (List.getElem_mem _)
      have ht := take_next hkl HE.out
      rw [← hx] at c1 ht
      rw [add_mod2] at ht
      have HT := Lib.hid ht
      have HKL := Lib.hid hkl
      clear hc hx hkl ht
      go_wp2
      exact ⟨⟨k + 1, _, _, HKL.out, by go_num, by go_num, by go_num, HT.out, Nat.mod_lt _ (by decide), Nat.mod_lt _ (by decide)⟩, by simp [intOf]; omega⟩
    · obtain rfl : k = n := by omega
      have e : fsum (fof s) l = (a, b) := by
        rw [← HE.out, List.take_of_length_le (by have := HN.out; omega)]
      have HEE := Lib.hid e
      clear e
      go_wp2
      go_ret
      rw [HEE.out]
      exact ⟨rfl, rfl⟩
end Go.Proofs.YtolcnbiaiolcoaaGreat
