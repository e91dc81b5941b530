/- The document's own reader: its state; Left, End, Get. -/
import Derived.Test.YtbjenpkgcdppaaaRdr
import Derived.Test.YtbjenpkgcdppaaaRText
namespace Go.Proofs.Ytbjenpkgcdppaaa
open Go.RowKit

/-- The document's reader at block c: what is left of V's 8 q bits behind the first a. -/
structure XSt (w : World) (G : Nat → Prop) (c q V a : Nat) : Prop where
  ex : ∃ sv l, Blk w c 64 #[sv, .int .i64 0] ∧ Rd w 1 sv (8 * q - a) (l.map u8) ∧ Bl l (rest q V a) (8 * q - a) ∧ (∀ k, sv.ownBlock = some k → G k ∧ k ≠ c)
  inG : G c
  bd : Bd G w
  le : a ≤ 8 * q
/-- The document's reader at block c has the error e. -/
structure XErr (w : World) (G : Nat → Prop) (c : Nat) (e : Int) : Prop where
  ex : ∃ sv, Blk w c 64 #[sv, .int .i64 e]
  ne : (e != 0) = true
  inG : G c
  bd : Bd G w

theorem XSt.far {w w' : World} {F F' G : Nat → Prop} {c q V a : Nat} (h : XSt w G c q V a) (ha : Adv F w F' w') (hs : Sep F G) : XSt w' G c q V a := by
  obtain ⟨sv, l, h1, h2, h3, h4⟩ := h.ex
  exact ⟨⟨sv, l, h1.keep (ha.far hs h.bd c h.inG), h2.far (fun k hk _ _ => ha.far hs h.bd k (h4 k hk).1) ha.size, h3, h4⟩, h.inG, ha.bd h.bd, h.le⟩
theorem XErr.far {w w' : World} {F F' G : Nat → Prop} {c : Nat} {e : Int} (h : XErr w G c e) (ha : Adv F w F' w') (hs : Sep F G) : XErr w' G c e := by
  obtain ⟨sv, h1⟩ := h.ex
  exact ⟨⟨sv, h1.keep (ha.far hs h.bd c h.inG)⟩, h.ne, h.inG, ha.bd h.bd⟩

set_option maxRecDepth 3000 in
theorem xget_err (c : Nat) (n x : Int) (G : Nat → Prop) (w : World) (h : XErr w G c x) :
    Calls Try.prog 32 #[.pointer (some ⟨c, 0, none⟩), .int .i64 n] w fun e w' => e = .returned (.int .u64 0) ∧ w = w' := by
  obtain ⟨sv, hB⟩ := h.ex
  have c1 : w.cell? ⟨c, 1, none⟩ = some (.int .i64 x) := hB.cell 1
  have hx := h.ne
  clear hB h
  go_enter Try.func32, Try.ntmps32
  go_wp2
  go_ret
  exact ⟨rfl, rfl⟩

theorem XErr.made {w : World} {G : Nat → Prop} {c : Nat} {sv : Value} {x : Int} (hB : Blk w c 64 #[sv, .int .i64 0]) (hG : G c) (hb : Bd G w) (hx : (x != 0) = true) :
    XErr (w.setCell ⟨c, 1, none⟩ (.int .i64 x)) G c x ∧ Adv G w G (w.setCell ⟨c, 1, none⟩ (.int .i64 x)) :=
  ⟨⟨⟨sv, hB.set_ 1 _⟩, hx, hG, fun k hk => by have := hb k hk; simpa [World.setCell] using this⟩, (Adv.refl G w).setCell (p := ⟨c, 1, none⟩) (.inl hG) _⟩

set_option maxRecDepth 3000 in
theorem xget_width (c q V a : Nat) (n : Int) (G : Nat → Prop) (w : World) (h : XSt w G c q V a) (hn : n < 0 ∨ 64 < n) :
    Calls Try.prog 32 #[.pointer (some ⟨c, 0, none⟩), .int .i64 n] w fun e w' => e = .returned (.int .u64 0) ∧ XErr w' G c 2 ∧ Adv G w G w' := by
  obtain ⟨sv, l, hB, hR, hl, _⟩ := h.ex
  have c1 : w.cell? ⟨c, 1, none⟩ = some (.int .i64 0) := hB.cell 1
  have f1 := hB.frozen 1
  have HM := Lib.hid (XErr.made (x := 2) hB h.inG h.bd (by decide))
  clear hB hR hl h
  rcases hn with hn | hn
  all_goals
    go_enter Try.func32, Try.ntmps32
    go_wp2
    go_ret
    exact ⟨rfl, HM.out.1, HM.out.2⟩

set_option maxRecDepth 3000 in
theorem xget_short (c q V a n : Nat) (G : Nat → Prop) (w : World) (h : XSt w G c q V a) (hn : n ≤ 64) (hx : 8 * q < a + n) :
    Calls Try.prog 32 #[.pointer (some ⟨c, 0, none⟩), .int .i64 n] w fun e w' => e = .returned (.int .u64 0) ∧ XErr w' G c 3 ∧ Adv G w G w' := by
  obtain ⟨sv, l, hB, hR, hl, _⟩ := h.ex
  obtain ⟨A, cap, rfl, _, _⟩ := hR.form
  have c0 : w.cell? ⟨c, 0, none⟩ = some (.slice A (8 * q - a) cap) := hB.cell 0
  have c1 : w.cell? ⟨c, 1, none⟩ = some (.int .i64 0) := hB.cell 1
  have f1 := hB.frozen 1
  have HM := Lib.hid (XErr.made (x := 3) hB h.inG h.bd (by decide))
  have hle := h.le
  obtain ⟨m, hm⟩ : ∃ m, m = 8 * q - a := ⟨_, rfl⟩
  rw [← hm] at c0
  have hmn : m < n := by omega
  clear hB hR hl h hm
  go_enter Try.func32, Try.ntmps32
  go_wp2
  go_ret
  exact ⟨rfl, HM.out.1, HM.out.2⟩

/-- the slice from n on -/
def xcutAt (A : Option Addr) (n c : Nat) : Option Addr := if c = n then A else A.map (·.add (n * 1))
theorem Rd.xfront {w : World} {A : Option Addr} {m n c : Nat} {l : List Nat} (h : Rd w 1 (.slice A m c) m (l.map u8)) (hn : n ≤ m) : Rd w 1 (.slice A n c) n ((l.take n).map u8) := by
  obtain ⟨A', c', e, h1, h2, h3, h4, h5⟩ := h
  injection e with e1 _ e3
  subst e1 e3
  simp at h3
  refine ⟨A, c, rfl, by omega, h2, by simp; omega, h4, fun h0 => ?_⟩
  obtain ⟨ad, rfl, hb, hc⟩ := h5 (by omega)
  refine ⟨ad, rfl, hb, fun j u hu => hc j u ?_⟩
  rw [List.map_take, List.getElem?_take] at hu
  split at hu
  · exact hu
  · cases hu
theorem Rd.xback {w : World} {A : Option Addr} {m n c : Nat} {l : List Nat} (h : Rd w 1 (.slice A m c) m (l.map u8)) (hn : n ≤ m) : Rd w 1 (.slice (xcutAt A n c) (m - n) (c - n)) (m - n) ((l.drop n).map u8) := by
  obtain ⟨A', c', e, h1, h2, h3, h4, h5⟩ := h
  injection e with e1 _ e3
  subst e1 e3
  simp at h3
  refine ⟨_, c - n, rfl, by omega, by omega, by simp; omega, fun e => ?_, fun h0 => ?_⟩
  · unfold xcutAt at e
    split at e
    · omega
    · have := h4 (by cases A with | none => rfl | some a => cases e)
      omega
  · obtain ⟨ad, rfl, hb, hc⟩ := h5 (by omega)
    have h0c := hc 0 _ (List.getElem?_eq_getElem (by simp; omega))
    obtain ⟨b, o, spot⟩ := ad
    have hspot : spot = none := by simpa [Addr.add] using World.cell?_spot h0c
    subst hspot
    refine ⟨⟨b, o + n * 1, none⟩, by unfold xcutAt; rw [if_neg (by omega)]; simp [addr_none], hb, fun j u hu => ?_⟩
    have h := hc (n + j) u (by rw [List.map_drop, List.getElem?_drop] at hu; exact hu)
    rw [addr_none] at h ⊢
    rw [Nat.mul_one, Nat.add_assoc]; exact h
theorem xcutAt_block {A : Option Addr} {n m c m' c' : Nat} {k : Nat} (h : (Value.slice (xcutAt A n c) m' c').ownBlock = some k) : (Value.slice A m c).ownBlock = some k := by
  unfold xcutAt at h
  split at h
  · cases A <;> simp [Value.ownBlock] at h ⊢ <;> exact h
  · cases A with
    | none => simp [Value.ownBlock] at h
    | some a => simpa [Value.ownBlock, add_block] using h

theorem XSt.next {w : World} {G : Nat → Prop} {c q V a n cap : Nat} {A : Option Addr} {l : List Nat} (hB : Blk w c 64 #[.slice A (8 * q - a) cap, .int .i64 0]) (hR : Rd w 1 (.slice A (8 * q - a) cap) (8 * q - a) (l.map u8)) (hl : Bl l (rest q V a) (8 * q - a))
    (hk : ∀ k, (Value.slice A (8 * q - a) cap).ownBlock = some k → G k ∧ k ≠ c) (hG : G c) (hb : Bd G w) (hn : a + n ≤ 8 * q) :
    XSt (w.setCell ⟨c, 0, none⟩ (.slice (xcutAt A n cap) (8 * q - a - n) (cap - n))) G c q V (a + n) ∧ Adv G w G (w.setCell ⟨c, 0, none⟩ (.slice (xcutAt A n cap) (8 * q - a - n) (cap - n))) := by
  have e : 8 * q - (a + n) = 8 * q - a - n := by omega
  refine ⟨⟨⟨_, l.drop n, hB.set_ 0 _, ?_, ?_, fun k hk' => hk k (xcutAt_block hk')⟩, hG, fun k hk => by have := hb k hk; simpa [World.setCell] using this, hn⟩, (Adv.refl G w).setCell (p := ⟨c, 0, none⟩) (.inl hG) _⟩
  · rw [e]
    exact (hR.xback (by omega)).far (fun k hk' _ _ => Below.heap_setCell _ _ _ _ (hk k (xcutAt_block hk')).2) (by simp [World.setCell])
  · rw [e, ← rest_rest q V a n hn]
    exact (hl.parts (by omega)).2

set_option maxRecDepth 3000 in
set_option maxHeartbeats 400000 in
theorem xget_ok (c q V a n : Nat) (G : Nat → Prop) (w : World) (h : XSt w G c q V a) (hn : n ≤ 64) (hx : a + n ≤ 8 * q) :
    Calls Try.prog 32 #[.pointer (some ⟨c, 0, none⟩), .int .i64 n] w fun e w' => e = .returned (.int .u64 ((bitsAt q V a n : Nat) : Int)) ∧ XSt w' G c q V (a + n) ∧ Adv G w G w' := by
  obtain ⟨sv, l, hB, hR, hl, hk⟩ := h.ex
  obtain ⟨A, cap, rfl, hmc, hcm⟩ := hR.form
  unfold maxLen at hcm
  have c0 : w.cell? ⟨c, 0, none⟩ = some (.slice A (8 * q - a) cap) := hB.cell 0
  have c1 : w.cell? ⟨c, 1, none⟩ = some (.int .i64 0) := hB.cell 1
  have f0 := hB.frozen 0
  have hnx := XSt.next (n := n) hB hR hl hk h.inG h.bd hx
  have hfr := hR.xfront (n := n) (by omega)
  have hbl := (hl.parts (n := n) (by omega)).1
  rw [rest_bits q V a n hx] at hbl
  obtain ⟨m, hm⟩ : ∃ m, m = 8 * q - a := ⟨_, rfl⟩
  rw [← hm] at c0 hnx hmc
  have hmn : n ≤ m := by omega
  have HNX := Lib.hid hnx
  have HFR := Lib.hid hfr
  have HBL := Lib.hid hbl
  clear hB hR hl h hm hk hnx hfr hbl hx
  go_enter Try.func32, Try.ntmps32
  go_wp2_with fail
  refine (numberB_any _ (l.take n) _ n _ HFR.out HBL.out (by omega)).mono ?_
  rintro e w1 ⟨rfl, rfl⟩
  go_wp2_with fail
  · go_ret
    have h := HNX.out
    simp only [xcutAt, if_pos (show cap = n from ‹_›), show cap - n = 0 from by omega] at h
    exact ⟨rfl, h.1, h.2⟩
  · go_ret
    have h := HNX.out
    simp only [xcutAt, if_neg (show ¬ cap = n from ‹_›), Nat.mul_one] at h
    exact ⟨rfl, h.1, h.2⟩
end Go.Proofs.Ytbjenpkgcdppaaa
