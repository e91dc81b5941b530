/- ATOMIC SECTORS: a sector torn between two pieces. -/
import Derived.Test.YtochmeibmjfnnaaLpZ
namespace Go.Proofs.Ytochmeibmjfnnaa
open Go.RowKit

theorem lapp_le {m : Nat} (h : m ≤ 128) : m + (128 - m) ≤ 1000000000 := by omega
theorem rest_end {w : World} {v : Value} {a : Addr} {t k : Nat} {l : List Nat} (h : Rd w 1 v 128 (l.map u8)) (ht : t = 128) (hk : k = 0) : Rd w 1 (.slice (some a) (128 - t) k) (128 - t) ((l.drop t).map u8) := by
  have hl := h.len8
  subst ht hk
  rw [List.drop_of_length_le (by omega)]
  exact ⟨_, _, rfl, by decide, Nat.zero_le _, rfl, fun e => (by cases e), fun h => absurd h (by decide)⟩
theorem Rd.drewN {w : World} {v : Value} {n : Nat} {xs : List Value} (h : Rd w 1 v n xs) (k : Nat) : Rd (w.drewN k) 1 v n xs := h
def sealE (p : Pc) : Int := if p.ok then 0 else 2
def SealO (w : World) (p : Pc) (x : Ending) (w' : World) : Prop :=
  ∃ A m k F, x = .returned (.tuple #[.slice A m k, .int .i64 (sealE p)]) ∧ Adv Nul w F w' ∧ (p.ok → m = 128 ∧ Sl w' F 5 1 (.slice A 128 k) 128 ((sealL p).map u8)) ∧ (¬ p.ok → A = none ∧ m = 0 ∧ k = 0)
theorem seal_any (p : Pc) (v : Value) (w : World) (hv : Rd w 1 v p.d.length (p.d.map u8)) (hd : ∀ x ∈ p.d, x < 256) :
    Calls Try.prog 43 #[.agg #[.int .u64 (p.e : Int), .int .u64 (p.c : Int), .bool p.f, .bool p.g, v]] w (SealO w p) := by
  by_cases h : p.ok
  · refine (seal_ok p v w h hv hd).mono ?_
    rintro x w' ⟨v', F, rfl, h1, a1⟩
    obtain ⟨A, k, rfl, _, _⟩ := h1.form0
    exact ⟨A, 128, k, F, by rw [sealE, if_pos h], a1, fun _ => ⟨rfl, h1⟩, fun h' => absurd h h'⟩
  · refine (seal_no p v w h hv).mono ?_
    rintro x w' ⟨rfl, a1⟩
    exact ⟨none, 0, 0, Nul, by rw [sealE, if_neg h], a1, fun h' => absurd h' h, fun _ => ⟨rfl, rfl, rfl⟩⟩
theorem rseal_any (p : Pc) (v : Value) (w : World) (hv : Rd w 1 v p.d.length (p.d.map u8)) (hd : ∀ x ∈ p.d, x < 256) :
    Calls Try.prog 46 #[.agg #[.int .u64 (p.e : Int), .int .u64 (p.c : Int), .bool p.f, .bool p.g, v]] w (SealO w p) := by
  by_cases h : p.ok
  · refine (rseal_ok p v w h hv hd).mono ?_
    rintro x w' ⟨v', F, rfl, h1, a1⟩
    obtain ⟨A, k, rfl, _, _⟩ := h1.form0
    exact ⟨A, 128, k, F, by rw [sealE, if_pos h], a1, fun _ => ⟨rfl, h1⟩, fun h' => absurd h h'⟩
  · refine (rseal_no p v w h hv).mono ?_
    rintro x w' ⟨rfl, a1⟩
    exact ⟨none, 0, 0, Nul, by rw [sealE, if_neg h], a1, fun h' => absurd h' h, fun _ => ⟨rfl, rfl, rfl⟩⟩
end Go.Proofs.Ytochmeibmjfnnaa
