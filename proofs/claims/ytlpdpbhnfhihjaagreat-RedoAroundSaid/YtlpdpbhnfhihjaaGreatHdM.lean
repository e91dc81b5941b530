/- Plain arithmetic of heads. -/
import Derived.Test.YtlpdpbhnfhihjaaGreatLpM
import Derived.Test.YtlpdpbhnfhihjaaGreatMgA
namespace Go.Proofs.YtlpdpbhnfhihjaaGreat

structure Hd where
  g : Nat
  t : Nat
  f : Nat
def hdata (h : Hd) : List Nat := be 8 (h.t * 16777216 + h.f)
def hPc (e : Nat) (h : Hd) : Pc := ⟨e, h.g, true, true, hdata h⟩
def hOk (e : Nat) (h : Hd) : Prop := (e ≤ 16777215 ∧ h.g ≤ 1099511627775) ∧ h.t < 1099511627776 ∧ h.f < 16777216
instance (e : Nat) (h : Hd) : Decidable (hOk e h) := by unfold hOk; exact inferInstance
def hSec (e : Nat) (h : Hd) : List Nat := sealL (hPc e h)
/-- the head that a sector is, if it is one's -/
def unHd (l : List Nat) : Option Hd := if Whole l ∧ (dec l).f = true ∧ (dec l).g = true ∧ (dec l).d.length = 8 then some ⟨(dec l).c, val (dec l).d / 16777216, val (dec l).d % 16777216⟩ else none

theorem hdata_length (h : Hd) : (hdata h).length = 8 := be_length 8 _
theorem hdata_lt (h : Hd) : ∀ x ∈ hdata h, x < 256 := fun x hx => be_lt 8 _ x hx
theorem hPc_ok {e : Nat} {h : Hd} (k : hOk e h) : (hPc e h).ok := ⟨k.1.1, k.1.2, by show (hdata h).length ≤ 106; rw [hdata_length]; decide⟩
theorem hPc_no {e : Nat} {h : Hd} (k : ¬ (e ≤ 16777215 ∧ h.g ≤ 1099511627775)) : ¬ (hPc e h).ok := fun o => k ⟨o.1, o.2.1⟩
theorem hSec_length {e : Nat} {h : Hd} (k : hOk e h) : (hSec e h).length = 128 := sealL_length (hPc_ok k).2.2
theorem hSec_lt {e : Nat} {h : Hd} (k : hOk e h) : ∀ x ∈ hSec e h, x < 256 := sealL_lt (hPc_ok k).2.2 (hdata_lt h)
theorem hdata_val {h : Hd} (ht : h.t < 1099511627776) (hf : h.f < 16777216) : val (hdata h) = h.t * 16777216 + h.f := by
  unfold hdata
  rw [val_be]
  refine Nat.mod_eq_of_lt ?_
  have e : (256 : Nat) ^ 8 = 18446744073709551616 := by decide
  rw [e]
  omega
theorem unHd_hSec {e : Nat} {h : Hd} (k : hOk e h) : unHd (hSec e h) = some h := by
  have ho := hPc_ok k
  have e1 : dec (hSec e h) = hPc e h := dec_seal ho
  have ev : val (hdata h) = h.t * 16777216 + h.f := hdata_val k.2.1 k.2.2
  unfold unHd
  rw [e1, if_pos ⟨seal_whole ho, rfl, rfl, hdata_length h⟩]
  show some (Hd.mk h.g (val (hdata h) / 16777216) (val (hdata h) % 16777216)) = some h
  rw [ev]
  have a1 : (h.t * 16777216 + h.f) / 16777216 = h.t := by have := k.2.2; omega
  have a2 : (h.t * 16777216 + h.f) % 16777216 = h.f := by have := k.2.2; omega
  rw [a1, a2]
/-- the bits that are read of a piece's bytes -/
theorem be_of_val {l : List Nat} (hl : ∀ x ∈ l, x < 256) : be l.length (val l) = l := be_val l.length l rfl hl
theorem val_lt8 {l : List Nat} (h8 : l.length = 8) (hl : ∀ x ∈ l, x < 256) : val l < 18446744073709551616 := by
  have h := val_lt 8 l h8 hl
  have e : (256 : Nat) ^ 8 = 18446744073709551616 := by decide
  rw [e] at h
  exact h
theorem bits_tail {V : Nat} (hV : V < 18446744073709551616) : bitsAt 8 V 0 40 = V / 16777216 := by
  unfold bitsAt
  have e : 2 ^ (8 * 8 - 0 - 40) = 16777216 := by decide
  have e2 : 2 ^ 40 = 1099511627776 := by decide
  rw [e, e2]
  omega
theorem bits_floor (V : Nat) : bitsAt 8 V 40 24 = V % 16777216 := by
  unfold bitsAt
  have e : 2 ^ (8 * 8 - 40 - 24) = 1 := by decide
  have e2 : 2 ^ 24 = 16777216 := by decide
  rw [e, e2, Nat.div_one]
theorem val5 {l : List Nat} (h8 : l.length = 8) (hl : ∀ x ∈ l, x < 256) : val (l.take 5) = val l / 16777216 ∧ val (l.drop 5) = val l % 16777216 := by
  have h := val_append (l.take 5) 3 (l.drop 5) (by simp [h8])
  rw [List.take_append_drop] at h
  have h2 := val_lt 3 (l.drop 5) (by simp [h8]) (fun x hx => hl x (List.mem_of_mem_drop hx))
  have e : (256 : Nat) ^ 3 = 16777216 := by decide
  rw [e] at h h2
  omega
theorem row64 (t f : Nat) : rowOf (t * 2 ^ 24 + f) 64 = be 8 (t * 16777216 + f) := by
  have e1 : qn 64 = 8 := by decide
  have e2 : pad 64 = 0 := by decide
  unfold rowOf
  rw [e1, e2, Nat.pow_zero, Nat.mul_one]
end Go.Proofs.YtlpdpbhnfhihjaaGreat
