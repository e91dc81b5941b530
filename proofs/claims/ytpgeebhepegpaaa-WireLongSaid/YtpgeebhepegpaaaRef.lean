/- The document's own answers: Fits, Bits. -/
import Derived.Test.YtpgeebhepegpaaaRText
namespace Go.Proofs.Ytpgeebhepegpaaa
open Go.RowKit

def nval (l : List Nat) : Nat := l.foldl (fun a b => a * 2 + b) 0
theorem nval_snoc (l : List Nat) (b : Nat) : nval (l ++ [b]) = nval l * 2 + b := by simp [nval]

/-- A row of noughts and ones: the number N of m bits. -/
structure Bl (l : List Nat) (N m : Nat) : Prop where
  len : l.length = m
  bit : ∀ b ∈ l, b < 2
  val : nval l = N

theorem Bl.nil : Bl [] 0 0 := ⟨rfl, by simp, rfl⟩
theorem Bl.snoc {l : List Nat} {N m b : Nat} (h : Bl l N m) (hb : b < 2) : Bl (l ++ [b]) (N * 2 + b) (m + 1) :=
  ⟨by simp [h.len], fun c hc => by
    rcases List.mem_append.1 hc with h1 | h1
    · exact h.bit c h1
    · simp at h1; omega, by rw [nval_snoc, h.val]⟩
theorem Bl.append {l m : List Nat} {N a M b : Nat} (h : Bl l N a) (k : Bl m M b) : Bl (l ++ m) (N * 2 ^ b + M) (a + b) := by
  refine ⟨by simp [h.len, k.len], fun c hc => by
    rcases List.mem_append.1 hc with h1 | h1
    · exact h.bit c h1
    · exact k.bit c h1, ?_⟩
  have H : ∀ (m : List Nat) (s : Nat), m.foldl (fun a b => a * 2 + b) s = s * 2 ^ m.length + nval m := by
    intro m
    induction m with
    | nil => intro s; simp [nval]
    | cons c m ih =>
      intro s
      have e : nval (c :: m) = c * 2 ^ m.length + nval m := by
        show m.foldl _ (0 * 2 + c) = _
        rw [ih]; simp
      rw [e, List.foldl_cons, ih, List.length_cons, Nat.pow_succ, Nat.add_mul, Nat.mul_assoc, Nat.mul_comm 2, Nat.add_assoc]
  unfold nval
  rw [List.foldl_append, H, ← k.len, ← k.val, ← h.val]
  rfl

def BitsRel (w : World) (x n : Nat) (t5 t6 : Value) (wr : World) : Prop :=
  ∃ k l F, t6 = .int .i64 ((n : Int) - 1 - ((k : Nat) : Int)) ∧ k ≤ n ∧ Bl l (x / 2 ^ (n - k)) k ∧ Sl wr F 5 1 t5 k (l.map u8) ∧ Adv Nul w F wr

set_option maxRecDepth 3000 in
set_option maxHeartbeats 1000000 in
theorem bits_any (x n : Nat) (w : World) (hx : x < 2 ^ n) (hn : n ≤ 64) :
    Calls Try.prog 42 #[.int .u64 x, .int .i64 n] w fun e w' => ∃ v, e = .returned v ∧ ∃ F l, Sl w' F 5 1 v n (l.map u8) ∧ Bl l x n ∧ Adv Nul w F w' := by
  obtain ⟨i0, hi, hz0, hz1, hz2⟩ := info_parts Try.infoU8
  have hx64 := pow_lt64 hx hn
  have HX := Lib.hid hx
  clear hx
  go_enter Try.func42, Try.ntmps42
  go_wp2_with fail
  go_loopw [5, 6] (BitsRel w x n) (fun _ t _ => (intOf t + 1).toNat)
  case atStart => exact ⟨0, [], Nul, by simp, by omega, by rw [Nat.sub_zero, Nat.div_eq_of_lt HX.out]; exact Bl.nil, Sl.nil _ _ _, Adv.refl _ _⟩
  case round =>
    obtain ⟨k, l, F, rfl, hk, hl, hS, hA⟩ := hrel
    obtain ⟨a5, c5, rfl, _, _⟩ := hS.form0
    have HS := Lib.hid hS
    have HA := Lib.hid hA
    have HL := Lib.hid hl
    have hown := hS.own
    clear hS hA hl
    by_cases hlt : k < n
    · obtain ⟨j, hj⟩ : ∃ j, j = n - 1 - k := ⟨_, rfl⟩
      have hji : (n : Int) - 1 - k = j := by omega
      rw [hji]
      have HJ := Lib.hid hj
      have hj64 : j < 64 := by omega
      have hn64 : (n : Int) ≤ 64 := by omega
      have hb : bits BinOp.and IntKind.u64 ((x : Int) / 2 ^ j) 1 = ((x / 2 ^ j % 2 : Nat) : Int) := by
        have e : (x : Int) / 2 ^ j = ((x / 2 ^ j : Nat) : Int) := by rw [Int.natCast_ediv, Int.natCast_pow]; rfl
        have h : x / 2 ^ j ≤ x := Nat.div_le_self _ _
        rw [e, and_one_u64 _ (Int.natCast_nonneg _) (by omega)]
        rfl
      clear hji hj
      go_wp2_with (first
        | (at_builtin; refine wpList_append_own_at _ rfl (.tmp 17) (.tmp 24) 38 rfl 0 5 i0 (.int .u8 0) 1 1 Try.underlying38 hi hz0 hz1 hz2 rfl (by decide) (.slice a5 k c5) k _ rfl (hown.alloc _) ⟨wr.heap.size, 0, none⟩ 1 1 [_] rfl rfl (cell_one_new _ _ _) ?c2 ?c3 ?c4 (Nat.zero_le _) ?c5)
        | fail)
      case c2 => intro u hu; simp at hu; subst hu; rfl
      case c3 => unfold maxLen; omega
      case c4 => omega
      case c5 =>
        intro v' w1 hown1 hg1 _ hat1
        obtain ⟨h1, h2⟩ := one_grown HS.out HA.out hown1 hg1 hat1 (by omega)
        have H1 := Lib.hid h1
        have H2 := Lib.hid h2
        clear h1 h2 hown1 hg1 hat1 hown hb
        go_wp2
        refine ⟨⟨k + 1, l ++ [x / 2 ^ j % 2], _, ?_, by omega, ?_, ?_, H2.out⟩, by simp [intOf] <;> omega⟩
        · have := HJ.out
          rw [show ((j : Int) - 1) = (n : Int) - 1 - ((k + 1 : Nat) : Int) from by omega]
        · have h := HL.out.snoc (b := x / 2 ^ j % 2) (Nat.mod_lt _ (by decide))
          have hj := HJ.out
          rw [show n - k = j + 1 from by omega, Nat.pow_succ, ← Nat.div_div_eq_div_mul, Nat.div_add_mod'] at h
          rwa [show n - (k + 1) = j from by omega]
        · rw [List.map_append]
          exact H1.out
    · obtain rfl : k = n := by omega
      have hneg : decide ((0 : Int) ≤ (k : Int) - 1 - k) = false := by simp; omega
      go_wp2
      go_ret
      have h := HL.out
      rw [Nat.sub_self, Nat.pow_zero, Nat.div_one] at h
      exact ⟨_, rfl, F, l, HS.out, h, HA.out⟩
end Go.Proofs.Ytpgeebhepegpaaa
