/- The document's reader: a Get turns its own block alone. -/
import Derived.Test.YtgcbnaleajccgaaRdrG
namespace Go.Proofs.Ytgcbnaleajccgaa
open Go.RowKit

theorem Rd.cutback {w : World} {g m n c : Nat} {l : List Nat} (h : Rd w 1 (.slice (some ⟨g, 0, none⟩) m c) m (l.map u8)) (hn : n < m) : Rd w 1 (.slice (some ⟨g, n, none⟩) (m - n) (c - n)) (m - n) ((l.drop n).map u8) := by
  have h' := h.xback (n := n) (by omega)
  obtain ⟨A', c', e, h1, _⟩ := h
  injection e with _ _ e3
  have hne : ¬ c = n := by omega
  simp only [xcutAt, if_neg hne, Option.map_some, add_none, Nat.zero_add, Nat.mul_one] at h'
  exact h'
set_option maxRecDepth 3000 in
set_option maxHeartbeats 400000 in
theorem xget_c (c q V a n : Nat) (G : Nat → Prop) (w : World) (h : XSt w G c q V a) (hn : n ≤ 64) (hx : a + n ≤ 8 * q) :
    Calls Try.prog 32 #[.pointer (some ⟨c, 0, none⟩), .int .i64 n] w fun e w' => e = .returned (.int .u64 ((bitsAt q V a n : Nat) : Int)) ∧ XSt w' G c q V (a + n) ∧ Adv (· = c) w (· = c) w' := by
  obtain ⟨sv, l, hB, hR, hl, hk⟩ := h.ex
  obtain ⟨A, cap, rfl, hmc, hcm⟩ := hR.form
  unfold maxLen at hcm
  have c0 : w.cell? ⟨c, 0, none⟩ = some (.slice A (8 * q - a) cap) := hB.cell 0
  have c1 : w.cell? ⟨c, 1, none⟩ = some (.int .i64 0) := hB.cell 1
  have f0 := hB.frozen 0
  have hnx := And.intro (XSt.next (n := n) hB hR hl hk h.inG h.bd hx).1 ((Adv.refl (· = c) w).setCell (p := ⟨c, 0, none⟩) (.inl rfl) (.slice (xcutAt A n cap) (8 * q - a - n) (cap - n)))
  have hfr := hR.xfront (n := n) (by omega)
  have hbl := (hl.parts (n := n) (by omega)).1
  rw [rest_bits q V a n hx] at hbl
  obtain ⟨m, hm⟩ : ∃ m, m = 8 * q - a := ⟨_, rfl⟩
  rw [← hm] at c0 hnx hmc
  have hmn : n ≤ m := by omega
  have HNX := Lib.hid hnx
  have HFR := Lib.hid hfr
  have HBL := Lib.hid hbl
  clear hB hR hl h hm hk hnx hfr hbl hx
  go_enter Try.func32, Try.ntmps32
  go_wp2_with fail
  refine (numberB_any _ (l.take n) _ n _ HFR.out HBL.out (by omega)).mono ?_
  rintro e w1 ⟨rfl, rfl⟩
  go_wp2_with fail
  · go_ret
    have h := HNX.out
    simp only [xcutAt, if_pos (show cap = n from ‹_›), show cap - n = 0 from by omega] at h
    exact ⟨rfl, h.1, h.2⟩
  · go_ret
    have h := HNX.out
    simp only [xcutAt, if_neg (show ¬ cap = n from ‹_›), Nat.mul_one] at h
    exact ⟨rfl, h.1, h.2⟩
end Go.Proofs.Ytgcbnaleajccgaa
