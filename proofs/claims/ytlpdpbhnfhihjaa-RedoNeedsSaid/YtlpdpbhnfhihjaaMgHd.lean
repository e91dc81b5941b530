/- The head at its place: words. A head's sector: the program's; its place. -/
import Derived.Test.YtlpdpbhnfhihjaaHdU
import Derived.Test.YtlpdpbhnfhihjaaMgB
namespace Go.Proofs.Ytlpdpbhnfhihjaa
open Go.RowKit

def hZ : Hd := ⟨0, 0, 0⟩
def hv (h : Hd) : Value := .agg #[.int .u64 (h.g : Int), .int .u64 (h.t : Int), .int .u64 (h.f : Int)]
/-- the head at its place -/
def unO (l : List Nat) (odd : Nat) : Option Hd := (unHd l).bind fun h => if h.g % 2 = odd then some h else none
def OneR (w : World) (o : Option Hd) (x : Ending) (w' : World) : Prop := x = .returned (.tuple #[hv (o.getD hZ), .bool o.isSome]) ∧ Adv Nul w Nul w'
theorem unO_none {l : List Nat} {odd : Nat} (h : unHd l = none) : unO l odd = none := by rw [unO, h]; rfl
theorem unO_no {l : List Nat} {odd : Nat} {h : Hd} (hl : unHd l = some h) (hn : h.g % 2 ≠ odd) : unO l odd = none := by rw [unO, hl]; exact if_neg hn
theorem unO_yes {l : List Nat} {odd : Nat} {h : Hd} (hl : unHd l = some h) (hn : h.g % 2 = odd) : unO l odd = some h := by rw [unO, hl]; exact if_pos hn
end Go.Proofs.Ytlpdpbhnfhihjaa
namespace Go.Proofs.Ytlpdpbhnfhihjaa
open Go.RowKit

def WrS (w : World) (F : Nat → Prop) (b : Nat) (ok : Prop) (N m : Nat) : Prop := (ok ∧ WSt w F b N m ∧ Bd F w) ∨ (¬ ok ∧ WErr w F b)
structure WE (V : World) (F : Nat → Prop) (b : Nat) (ok : Prop) (N m : Nat) (w : World) : Prop where
  ws : WrS w F b ok N m
  ad : Adv Nul V F w
section
variable {V w : World} {F : Nat → Prop} {b N m : Nat} {ok : Prop}
theorem WE.cells (h : WE V F b ok N m w) {y : Nat} {t : TypeId} {g t' f : Int} (hy : Blk V y t #[.int .u64 g, .int .u64 t', .int .u64 f]) :
    w.cell? ⟨y, 0, none⟩ = some (.int .u64 g) ∧ w.cell? ⟨y, 1, none⟩ = some (.int .u64 t') ∧ w.cell? ⟨y, 2, none⟩ = some (.int .u64 f) := Blk.three (hy.keep (h.ad.block y hy.lt (fun h => h)))
theorem WE.new (ha : Adv Nul V Nul w) : Calls Try.prog 62 #[] w fun e w' => ∃ b F, e = .returned (.pointer (some ⟨b, 0, none⟩)) ∧ WE V F b True 0 0 w' := by
  refine (new_any w).mono ?_
  rintro e w' ⟨b, F, rfl, h1, h2, h3⟩
  exact ⟨b, F, rfl, .inl ⟨trivial, h1, h3⟩, ha.trans h2⟩
theorem WE.put (h : WE V F b ok N m w) (x n : Nat) (hn : n ≤ 64) (hx : x < 18446744073709551616) (hm : m + n ≤ 1000000000) :
    Calls Try.prog 63 #[.pointer (some ⟨b, 0, none⟩), .int .u64 (x : Int), .int .i64 (n : Int)] w fun e w' => ∃ F', e = .returned (.pointer (some ⟨b, 0, none⟩)) ∧ WE V F' b (ok ∧ x < 2 ^ n) (N * 2 ^ n + x) (m + n) w' := by
  rcases h.ws with ⟨h1, h2, h3⟩ | ⟨h1, h2⟩
  · by_cases hx2 : x < 2 ^ n
    · refine (put_ok b N m x n F w h2 h3 hn hx2 hm).mono ?_
      rintro e w' ⟨rfl, F', k1, k2, k3⟩
      exact ⟨F', rfl, .inl ⟨⟨h1, hx2⟩, k1, k3⟩, h.ad.trans k2⟩
    · refine (put_bad b N m x n F w h2 h3 hx (.inr (.inr ⟨n, rfl, hn, Nat.le_of_not_lt hx2⟩))).mono ?_
      rintro e w' ⟨rfl, k1, k2⟩
      exact ⟨F, rfl, .inr ⟨fun h => hx2 h.2, k1⟩, h.ad.trans k2⟩
  · refine (put_err b x n F w h2).mono ?_
    rintro e w' ⟨rfl, rfl⟩
    exact ⟨F, rfl, .inr ⟨fun h => h1 h.1, h2⟩, h.ad⟩
theorem WE.done_ [Decidable ok] (h : WE V F b ok N m w) (hm : m ≤ 1000000000) :
    Calls Try.prog 64 #[.pointer (some ⟨b, 0, none⟩)] w fun e w' => ∃ A n k F', e = .returned (.tuple #[.slice A n k, .int .i64 (if ok then 0 else 2)]) ∧ (ok → n = qn m) ∧ (ok → Sl w' F' 5 1 (.slice A n k) n ((rowOf N m).map u8)) ∧ Adv Nul V F' w' := by
  rcases h.ws with ⟨h1, h2, h3⟩ | ⟨h1, h2⟩
  · refine (done_ok b N m F w h2 hm).mono ?_
    rintro e w' ⟨v, F', rfl, k1, k2⟩
    obtain ⟨A, k, rfl, _⟩ := k1.form0
    exact ⟨A, _, k, F', by rw [if_pos h1], fun _ => rfl, fun _ => k1, (h.ad.sub (fun _ x => x.elim)).trans k2⟩
  · refine (done_err b F w h2).mono ?_
    rintro e w' ⟨rfl, k2⟩
    exact ⟨none, 0, 0, Nul, by rw [if_neg h1], fun h => absurd h h1, fun h => absurd h h1, (h.ad.sub (fun _ x => x.elim)).trans k2⟩
end
/-- a head's sector in new memory, or none -/
def HsR (w : World) (e : Nat) (h : Hd) (x : Ending) (w' : World) : Prop :=
  ∃ A m k F, x = .returned (.tuple #[.slice A m k, .int .i64 (if hOk e h then 0 else 2)]) ∧ Adv Nul w F w' ∧ (hOk e h → m = 128 ∧ Sl w' F 5 1 (.slice A 128 k) 128 ((hSec e h).map u8)) ∧ (¬ hOk e h → A = none ∧ m = 0 ∧ k = 0)

theorem ret_int' {k : IntKind} {a b : Int} (h : a = b) : Ending.returned (.int k a) = .returned (.int k b) := by rw [h]
set_option maxRecDepth 3000 in
set_option maxHeartbeats 1600000 in
theorem place_any (g t f : Nat) (w : World) : Calls Try.prog 39 #[.agg #[.int .u64 (g : Int), .int .u64 (t : Int), .int .u64 (f : Int)]] w fun x w' => x = .returned (.int .i64 ((g % 2 : Nat) : Int)) ∧ Adv Nul w Nul w' := by
  go_enter Try.func39, Try.ntmps39
  go_wp2_with fail
  go_ret
  exact ⟨ret_int' (by first | omega | (simp; omega)), (Adv.refl _ _).alloc _⟩
end Go.Proofs.Ytlpdpbhnfhihjaa
