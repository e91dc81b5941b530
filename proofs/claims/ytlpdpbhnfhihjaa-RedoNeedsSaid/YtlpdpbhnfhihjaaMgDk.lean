/- The disk: Crash, where nothing tears (torn is 0 or less). The disk: Crash, where nothing tears (torn is 128 or more). The disk: Crash, where a write tears. -/
import Derived.Test.YtlpdpbhnfhihjaaDkD
namespace Go.Proofs.Ytlpdpbhnfhihjaa
open Go.RowKit

theorem layN_zero {L : List (List Nat)} {q : Nat × List Nat} (h : q.1 < L.length) : layN L q 0 = L := by
  rw [layN, List.take_zero, List.nil_append, List.drop_zero, List.getD_eq_getElem?_getD, List.getElem?_eq_getElem h]
  exact List.set_getElem_self h

theorem Rd.adv {w w' : World} {F F' : Nat → Prop} {size n : Nat} {v : Value} {xs : List Value} (h : Rd w size v n xs) (ha : Adv F w F' w') (hs : ∀ k, v.ownBlock = some k → 0 < n → ¬ F k) : Rd w' size v n xs :=
  h.far (fun k hk hn hl => ha.block k hl (hs k hk hn)) ha.size

theorem getD_at {ks : List Int} {k : Nat} (hk : k < ks.length) : (ks.map (Value.int .i64))[k]? = some (.int .i64 (ks.getD k 0)) := by
  rw [List.getElem?_map, List.getD_eq_getElem?_getD, List.getElem?_eq_getElem hk]; rfl

def CrEnd (w : World) (F : Nat → Prop) (d gl gr n : Nat) (s : DS) (ks : List Int) (torn : Int) (w' : World) : Prop :=
  DkR w' F d gl gr (.slice none 0 0) n (crashS s ks torn).L (crashS s ks torn) ∧ Adv F w F w'
end Go.Proofs.Ytlpdpbhnfhihjaa
namespace Go.Proofs.Ytlpdpbhnfhihjaa
open Go.RowKit
end Go.Proofs.Ytlpdpbhnfhihjaa
namespace Go.Proofs.Ytlpdpbhnfhihjaa
open Go.RowKit

theorem lay_i (mi : Int) {m : Nat} (hmi : mi = (m : Int)) (d gl gr n : Nat) (vQ : Value) (F : Nat → Prop) (R : List (List Nat)) (s : DS) (q : Nat × List Nat) (w : World) (h : DkR w F d gl gr vQ n R s) (hq : q.1 < n) (hl : q.2.length = 128) (hm : m ≤ 128) :
    Calls Try.prog 72 #[.pointer (some ⟨d, 0, none⟩), .agg (wcells q).toArray, .int .i64 mi] w fun e w' => e = .returned (.tuple #[]) ∧ DkR w' F d gl gr vQ n R { s with L := layN s.L q m } ∧ Adv F w F w' := by
  subst hmi
  exact lay_r d gl gr n vQ F R s q m w h hq hl hm
end Go.Proofs.Ytlpdpbhnfhihjaa
