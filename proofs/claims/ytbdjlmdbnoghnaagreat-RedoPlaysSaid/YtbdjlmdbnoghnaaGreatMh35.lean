/- The document's own reader: its state; Left, End, Get. The document's Of: its memory. The document's Of. -/
import Derived.Test.YtbdjlmdbnoghnaaGreatMh28
import Derived.Test.YtbdjlmdbnoghnaaGreatMh27
namespace Go.Proofs.YtbdjlmdbnoghnaaGreat
open Go.RowKit

/-- The document's reader at block c: what is left of V's 8 q bits behind the first a. -/
structure XSt (w : World) (G : Nat → Prop) (c q V a : Nat) : Prop where
  ex : ∃ sv l, Blk w c 130 #[sv, .int .i64 0] ∧ Rd w 1 sv (8 * q - a) (l.map u8) ∧ Bl l (rest q V a) (8 * q - a) ∧ (∀ k, sv.ownBlock = some k → G k ∧ k ≠ c)
  inG : G c
  bd : Bd G w
  le : a ≤ 8 * q
/-- The document's reader at block c has the error e. -/
structure XErr (w : World) (G : Nat → Prop) (c : Nat) (e : Int) : Prop where
  ex : ∃ sv, Blk w c 130 #[sv, .int .i64 e]
  ne : (e != 0) = true
  inG : G c
  bd : Bd G w

theorem XSt.far {w w' : World} {F F' G : Nat → Prop} {c q V a : Nat} (h : XSt w G c q V a) (ha : Adv F w F' w') (hs : Sep F G) : XSt w' G c q V a := by
  obtain ⟨sv, l, h1, h2, h3, h4⟩ := h.ex
  exact ⟨⟨sv, l, h1.keep (ha.far hs h.bd c h.inG), h2.far (fun k hk _ _ => ha.far hs h.bd k (h4 k hk).1) ha.size, h3, h4⟩, h.inG, ha.bd h.bd, h.le⟩
theorem XErr.far {w w' : World} {F F' G : Nat → Prop} {c : Nat} {e : Int} (h : XErr w G c e) (ha : Adv F w F' w') (hs : Sep F G) : XErr w' G c e := by
  obtain ⟨sv, h1⟩ := h.ex
  exact ⟨⟨sv, h1.keep (ha.far hs h.bd c h.inG)⟩, h.ne, h.inG, ha.bd h.bd⟩

set_option maxRecDepth 3000 in
theorem xend_err (c : Nat) (x : Int) (G : Nat → Prop) (w : World) (h : XErr w G c x) :
    Calls Tryz.prog 74 #[.pointer (some ⟨c, 0, none⟩)] w fun e w' => e = .returned (.int .i64 x) ∧ w = w' := by
  obtain ⟨sv, hB⟩ := h.ex
  have c1 : w.cell? ⟨c, 1, none⟩ = some (.int .i64 x) := hB.cell 1
  have hx := h.ne
  clear hB h
  go_enter Tryz.func74, Tryz.ntmps74
  go_wp2
  go_ret
  exact ⟨rfl, rfl⟩

set_option maxRecDepth 3000 in
set_option maxHeartbeats 400000 in
theorem xend_ok (c q V a : Nat) (G : Nat → Prop) (w : World) (h : XSt w G c q V a) :
    Calls Tryz.prog 74 #[.pointer (some ⟨c, 0, none⟩)] w fun e w' => e = .returned (.int .i64 (endOf q V a)) ∧ w = w' := by
  obtain ⟨sv, l, hB, hR, hl, _⟩ := h.ex
  obtain ⟨A, cap, rfl, _, _⟩ := hR.form
  have c0 : w.cell? ⟨c, 0, none⟩ = some (.slice A (8 * q - a) cap) := hB.cell 0
  have c1 : w.cell? ⟨c, 1, none⟩ = some (.int .i64 0) := hB.cell 1
  have he : endOf q V a = if 8 * q - a < 8 ∧ rest q V a = 0 then 0 else 6 := rfl
  obtain ⟨m, hm⟩ : ∃ m, m = 8 * q - a := ⟨_, rfl⟩
  obtain ⟨X, hX⟩ : ∃ X, X = rest q V a := ⟨_, rfl⟩
  rw [← hm] at c0 hR hl he
  rw [← hX] at hl he
  have HR := Lib.hid hR
  have HL := Lib.hid hl
  clear hB hR hl hm h hX
  by_cases h8 : m < 8
  · have h8' : (m : Int) < 8 := by omega
    by_cases h0 : X = 0
    · rw [he, if_pos ⟨h8, h0⟩]
      subst h0
      clear he
      go_enter Tryz.func74, Tryz.ntmps74
      go_wp2_with (first
        | (go_at_call 100; refine (numberB_any _ _ _ m _ HR.out HL.out (by omega)).mono ?_; rintro e w1 ⟨rfl, rfl⟩)
        | fail)
      go_ret
      exact ⟨rfl, rfl⟩
    · rw [he, if_neg (fun h => h0 h.2)]
      have h0' : ((X : Int) != 0) = true := by rw [bne_iff_ne]; omega
      clear he h0
      go_enter Tryz.func74, Tryz.ntmps74
      go_wp2_with (first
        | (go_at_call 100; refine (numberB_any _ _ _ m _ HR.out HL.out (by omega)).mono ?_; rintro e w1 ⟨rfl, rfl⟩)
        | fail)
      go_ret
      exact ⟨rfl, rfl⟩
  · rw [he, if_neg (fun h => h8 h.1)]
    have h8' : (8 : Int) ≤ (m : Int) := by omega
    clear he
    go_enter Tryz.func74, Tryz.ntmps74
    go_wp2
    go_ret
    exact ⟨rfl, rfl⟩

set_option maxRecDepth 3000 in
theorem xget_err (c : Nat) (n x : Int) (G : Nat → Prop) (w : World) (h : XErr w G c x) :
    Calls Tryz.prog 73 #[.pointer (some ⟨c, 0, none⟩), .int .i64 n] w fun e w' => e = .returned (.int .u64 0) ∧ w = w' := by
  obtain ⟨sv, hB⟩ := h.ex
  have c1 : w.cell? ⟨c, 1, none⟩ = some (.int .i64 x) := hB.cell 1
  have hx := h.ne
  clear hB h
  go_enter Tryz.func73, Tryz.ntmps73
  go_wp2
  go_ret
  exact ⟨rfl, rfl⟩

theorem XErr.made {w : World} {G : Nat → Prop} {c : Nat} {sv : Value} {x : Int} (hB : Blk w c 130 #[sv, .int .i64 0]) (hG : G c) (hb : Bd G w) (hx : (x != 0) = true) :
    XErr (w.setCell ⟨c, 1, none⟩ (.int .i64 x)) G c x ∧ Adv G w G (w.setCell ⟨c, 1, none⟩ (.int .i64 x)) :=
  ⟨⟨⟨sv, hB.set_ 1 _⟩, hx, hG, fun k hk => by have := hb k hk; simpa [World.setCell] using this⟩, (Adv.refl G w).setCell (p := ⟨c, 1, none⟩) (.inl hG) _⟩

set_option maxRecDepth 3000 in
theorem xget_short (c q V a n : Nat) (G : Nat → Prop) (w : World) (h : XSt w G c q V a) (hn : n ≤ 64) (hx : 8 * q < a + n) :
    Calls Tryz.prog 73 #[.pointer (some ⟨c, 0, none⟩), .int .i64 n] w fun e w' => e = .returned (.int .u64 0) ∧ XErr w' G c 3 ∧ Adv G w G w' := by
  obtain ⟨sv, l, hB, hR, hl, _⟩ := h.ex
  obtain ⟨A, cap, rfl, _, _⟩ := hR.form
  have c0 : w.cell? ⟨c, 0, none⟩ = some (.slice A (8 * q - a) cap) := hB.cell 0
  have c1 : w.cell? ⟨c, 1, none⟩ = some (.int .i64 0) := hB.cell 1
  have f1 := hB.frozen 1
  have HM := Lib.hid (XErr.made (x := 3) hB h.inG h.bd (by decide))
  have hle := h.le
  obtain ⟨m, hm⟩ : ∃ m, m = 8 * q - a := ⟨_, rfl⟩
  rw [← hm] at c0
  have hmn : m < n := by omega
  clear hB hR hl h hm
  go_enter Tryz.func73, Tryz.ntmps73
  go_wp2
  go_ret
  exact ⟨rfl, HM.out.1, HM.out.2⟩

/-- the slice from n on -/
def xcutAt (A : Option Addr) (n c : Nat) : Option Addr := if c = n then A else A.map (·.add (n * 1))
theorem Rd.xfront {w : World} {A : Option Addr} {m n c : Nat} {l : List Nat} (h : Rd w 1 (.slice A m c) m (l.map u8)) (hn : n ≤ m) : Rd w 1 (.slice A n c) n ((l.take n).map u8) := by
  obtain ⟨A', c', e, h1, h2, h3, h4, h5⟩ := h
  injection e with e1 _ e3
  subst e1 e3
  simp at h3
  refine ⟨A, c, rfl, by omega, h2, by simp; omega, h4, fun h0 => ?_⟩
  obtain ⟨ad, rfl, hb, hc⟩ := h5 (by omega)
  refine ⟨ad, rfl, hb, fun j u hu => hc j u ?_⟩
  rw [List.map_take, List.getElem?_take] at hu
  split at hu
  · exact hu
  · cases hu
theorem Rd.xback {w : World} {A : Option Addr} {m n c : Nat} {l : List Nat} (h : Rd w 1 (.slice A m c) m (l.map u8)) (hn : n ≤ m) : Rd w 1 (.slice (xcutAt A n c) (m - n) (c - n)) (m - n) ((l.drop n).map u8) := by
  obtain ⟨A', c', e, h1, h2, h3, h4, h5⟩ := h
  injection e with e1 _ e3
  subst e1 e3
  simp at h3
  refine ⟨_, c - n, rfl, by omega, by omega, by simp; omega, fun e => ?_, fun h0 => ?_⟩
  · unfold xcutAt at e
    split at e
    · omega
    · have := h4 (by cases A with | none => rfl | some a => cases e)
      omega
  · obtain ⟨ad, rfl, hb, hc⟩ := h5 (by omega)
    have h0c := hc 0 _ (List.getElem?_eq_getElem (by simp; omega))
    obtain ⟨b, o, spot⟩ := ad
    have hspot : spot = none := by simpa [Addr.add] using World.cell?_spot h0c
    subst hspot
    refine ⟨⟨b, o + n * 1, none⟩, by unfold xcutAt; rw [if_neg (by omega)]; simp [addr_none], hb, fun j u hu => ?_⟩
    have h := hc (n + j) u (by rw [List.map_drop, List.getElem?_drop] at hu; exact hu)
    rw [addr_none] at h ⊢
    rw [Nat.mul_one, Nat.add_assoc]; exact h
theorem xcutAt_block {A : Option Addr} {n m c m' c' : Nat} {k : Nat} (h : (Value.slice (xcutAt A n c) m' c').ownBlock = some k) : (Value.slice A m c).ownBlock = some k := by
  unfold xcutAt at h
  split at h
  · cases A <;> simp [Value.ownBlock] at h ⊢ <;> exact h
  · cases A with
    | none => simp [Value.ownBlock] at h
    | some a => simpa [Value.ownBlock, add_block] using h

theorem XSt.next {w : World} {G : Nat → Prop} {c q V a n cap : Nat} {A : Option Addr} {l : List Nat} (hB : Blk w c 130 #[.slice A (8 * q - a) cap, .int .i64 0]) (hR : Rd w 1 (.slice A (8 * q - a) cap) (8 * q - a) (l.map u8)) (hl : Bl l (rest q V a) (8 * q - a))
    (hk : ∀ k, (Value.slice A (8 * q - a) cap).ownBlock = some k → G k ∧ k ≠ c) (hG : G c) (hb : Bd G w) (hn : a + n ≤ 8 * q) :
    XSt (w.setCell ⟨c, 0, none⟩ (.slice (xcutAt A n cap) (8 * q - a - n) (cap - n))) G c q V (a + n) ∧ Adv G w G (w.setCell ⟨c, 0, none⟩ (.slice (xcutAt A n cap) (8 * q - a - n) (cap - n))) := by
  have e : 8 * q - (a + n) = 8 * q - a - n := by omega
  refine ⟨⟨⟨_, l.drop n, hB.set_ 0 _, ?_, ?_, fun k hk' => hk k (xcutAt_block hk')⟩, hG, fun k hk => by have := hb k hk; simpa [World.setCell] using this, hn⟩, (Adv.refl G w).setCell (p := ⟨c, 0, none⟩) (.inl hG) _⟩
  · rw [e]
    exact (hR.xback (by omega)).far (fun k hk' _ _ => Below.heap_setCell _ _ _ _ (hk k (xcutAt_block hk')).2) (by simp [World.setCell])
  · rw [e, ← rest_rest q V a n hn]
    exact (hl.parts (by omega)).2

set_option maxRecDepth 3000 in
set_option maxHeartbeats 400000 in
theorem xget_ok (c q V a n : Nat) (G : Nat → Prop) (w : World) (h : XSt w G c q V a) (hn : n ≤ 64) (hx : a + n ≤ 8 * q) :
    Calls Tryz.prog 73 #[.pointer (some ⟨c, 0, none⟩), .int .i64 n] w fun e w' => e = .returned (.int .u64 ((bitsAt q V a n : Nat) : Int)) ∧ XSt w' G c q V (a + n) ∧ Adv G w G w' := by
  obtain ⟨sv, l, hB, hR, hl, hk⟩ := h.ex
  obtain ⟨A, cap, rfl, hmc, hcm⟩ := hR.form
  unfold maxLen at hcm
  have c0 : w.cell? ⟨c, 0, none⟩ = some (.slice A (8 * q - a) cap) := hB.cell 0
  have c1 : w.cell? ⟨c, 1, none⟩ = some (.int .i64 0) := hB.cell 1
  have f0 := hB.frozen 0
  have hnx := XSt.next (n := n) hB hR hl hk h.inG h.bd hx
  have hfr := hR.xfront (n := n) (by omega)
  have hbl := (hl.parts (n := n) (by omega)).1
  rw [rest_bits q V a n hx] at hbl
  obtain ⟨m, hm⟩ : ∃ m, m = 8 * q - a := ⟨_, rfl⟩
  rw [← hm] at c0 hnx hmc
  have hmn : n ≤ m := by omega
  have HNX := Lib.hid hnx
  have HFR := Lib.hid hfr
  have HBL := Lib.hid hbl
  clear hB hR hl h hm hk hnx hfr hbl hx
  go_enter Tryz.func73, Tryz.ntmps73
  go_wp2_with fail
  refine (numberB_any _ (l.take n) _ n _ HFR.out HBL.out (by omega)).mono ?_
  rintro e w1 ⟨rfl, rfl⟩
  go_wp2_with fail
  · go_ret
    have h := HNX.out
    simp only [xcutAt, if_pos (show cap = n from ‹_›), show cap - n = 0 from by omega] at h
    exact ⟨rfl, h.1, h.2⟩
  · go_ret
    have h := HNX.out
    simp only [xcutAt, if_neg (show ¬ cap = n from ‹_›), Nat.mul_one] at h
    exact ⟨rfl, h.1, h.2⟩
end Go.Proofs.YtbdjlmdbnoghnaaGreat
namespace Go.Proofs.YtbdjlmdbnoghnaaGreat
open Go.RowKit Go.Maps

/-- the document's reader, also where it has fallen short -/
def XS (w : World) (G : Nat → Prop) (c q V a : Nat) : Prop := (a ≤ 8 * q ∧ XSt w G c q V a) ∨ (8 * q < a ∧ XErr w G c 3)
section
variable {w w' : World} {F F' G : Nat → Prop} {c q V a : Nat}
theorem XS.far (h : XS w G c q V a) (ha : Adv F w F' w') (hs : Sep F G) : XS w' G c q V a :=
  h.imp (fun h => ⟨h.1, h.2.far ha hs⟩) (fun h => ⟨h.1, h.2.far ha hs⟩)
theorem XS.bd (h : XS w G c q V a) : Bd G w := by
  rcases h with ⟨_, h⟩ | ⟨_, h⟩
  · exact h.bd
  · exact h.bd
theorem XS.getx (h : XS w G c q V a) (n : Nat) (hn : n ≤ 64) :
    Calls Tryz.prog 73 #[.pointer (some ⟨c, 0, none⟩), .int .i64 (n : Int)] w fun e w' => e = .returned (.int .u64 (getX q V a n : Int)) ∧ XS w' G c q V (a + n) ∧ Adv G w G w' := by
  rcases h with ⟨h1, h2⟩ | ⟨h1, h2⟩
  · by_cases hx : a + n ≤ 8 * q
    · refine (xget_ok c q V a n G w h2 hn hx).mono ?_
      rintro e w' ⟨rfl, k1, k2⟩
      exact ⟨by rw [getX, if_pos hx], .inl ⟨hx, k1⟩, k2⟩
    · refine (xget_short c q V a n G w h2 hn (by omega)).mono ?_
      rintro e w' ⟨rfl, k1, k2⟩
      exact ⟨by rw [getX, if_neg hx]; rfl, .inr ⟨by omega, k1⟩, k2⟩
  · refine (xget_err c n 3 G w h2).mono ?_
    rintro e w' ⟨rfl, rfl⟩
    exact ⟨by rw [getX, if_neg (by omega)]; rfl, .inr ⟨by omega, h2⟩, Adv.refl _ _⟩
theorem XS.end_ (h : XS w G c q V a) : Calls Tryz.prog 74 #[.pointer (some ⟨c, 0, none⟩)] w fun e w' => e = .returned (.int .i64 (endE q V a)) ∧ w = w' := by
  rcases h with ⟨h1, h2⟩ | ⟨h1, h2⟩
  · rw [endE, if_pos h1]
    exact xend_ok c q V a G w h2
  · rw [endE, if_neg (by omega)]
    exact xend_err c 3 G w h2
def errX (q a : Nat) : Int := if a ≤ 8 * q then 0 else 3
theorem XS.c1 (h : XS w G c q V a) : w.cell? ⟨c, 1, none⟩ = some (.int .i64 (errX q a)) := by
  rcases h with ⟨h1, h2⟩ | ⟨h1, h2⟩
  · obtain ⟨_, _, hB, _⟩ := h2.ex
    rw [errX, if_pos h1]
    exact hB.cell 1
  · obtain ⟨_, hB⟩ := h2.ex
    rw [errX, if_neg (by omega)]
    exact hB.cell 1
end
theorem xs_new {w w1 : World} {F : Nat → Prop} {v' : Value} {l bl : List Nat} (hS : Sl w1 F 5 1 v' (8 * l.length) (bl.map u8)) (hb : Bl bl (byN l) (8 * l.length)) (ha : Adv Nul w F w1) :
    XS (w1.alloc (.cells #[v', .int .i64 0] 130)) (fun j => F j ∨ j = w1.heap.size) w1.heap.size l.length (val l) 0 ∧ Adv Nul w (fun j => F j ∨ j = w1.heap.size) (w1.alloc (.cells #[v', .int .i64 0] 130)) := by
  have hr : rest l.length (val l) 0 = byN l := by
    rw [rest, byN_val, Nat.sub_zero]
    exact Nat.mod_eq_of_lt (by have := hb.lt; rwa [byN_val] at this)
  refine ⟨.inl ⟨Nat.zero_le _, ⟨v', bl, Blk.new _ _ _, ?_, ?_, fun k hk => ⟨.inl (hS.inF k hk), ?_⟩⟩, .inr rfl, ?_, Nat.zero_le _⟩, ?_⟩
  · exact (hS.rd).far (fun k _ _ hl => Below.heap_alloc _ _ _ hl) (by simp)
  · rw [hr]; exact hb
  · have := hS.bd k (hS.inF k hk); omega
  · rintro k (h | h)
    · have := hS.bd k h; simp; omega
    · simp; omega
  · refine ⟨ha.os, ha.tape, ha.output, by simpa using Nat.le_succ_of_le ha.size, fun k hk hn => ?_, fun k => ?_⟩
    · rw [← ha.block k hk hn]; exact Below.heap_alloc _ _ _ (Nat.lt_of_lt_of_le hk ha.size)
    · rintro (h | h)
      · exact ha.into k h
      · exact .inr (by have := ha.size; omega)

/-- between two puts: the reader, and k puts in a slice of one's own -/
structure OfI (W : World) (G : Nat → Prop) (c q V : Nat) (P : Nat → Pt) (k : Nat) (vo : Value) (F : Nat → Prop) (qs : List (Pt × Value)) (a : Nat) (w : World) : Prop where
  rd : XS w G c q V a
  out : QW W P k vo F qs w
  sep : Sep F G
  dg : ∀ i (h : i < qs.length), ∀ g, qs[i].2.ownBlock = some g → 0 < (P i).d.length → ¬ G g
  low : ∀ j, G j → W.heap.size ≤ j
section
variable {W w w' w1 w2 : World} {G F F' : Nat → Prop} {c q V k a a' : Nat} {P : Nat → Pt} {vo : Value} {qs : List (Pt × Value)}
theorem OfI.adv_ (h : OfI W G c q V P k vo F qs a w) (ha : Adv G w G w') (hr : XS w' G c q V a') : OfI W G c q V P k vo F qs a' w' := by
  refine ⟨hr, ⟨h.out.len, h.out.sl.far ha h.sep.symm, fun i hi => ?_, ?_⟩, h.sep, h.dg, h.low⟩
  · obtain ⟨e, A, q', e2, h1, h2⟩ := h.out.at_ i hi
    refine ⟨e, A, q', e2, h1.far (fun g hg hd hl => ha.block g hl (h.dg i hi g (by rw [e2]; exact hg) hd)) ha.size, h2⟩
  · have := h.out.adv
    exact ⟨ha.os.trans this.os, ha.tape.trans this.tape, ha.output.trans this.output, Nat.le_trans this.size ha.size, fun j hj hn => (ha.block j (Nat.lt_of_lt_of_le hj this.size) (fun g => by have := h.low j g; omega)).trans (this.block j hj hn), this.into⟩
theorem OfI.get (h : OfI W G c q V P k vo F qs a w) (n : Nat) (hn : n ≤ 64) : Calls Tryz.prog 73 #[.pointer (some ⟨c, 0, none⟩), .int .i64 (n : Int)] w fun e w' => e = .returned (.int .u64 (getX q V a n : Int)) ∧ OfI W G c q V P k vo F qs (a + n) w' ∧ Adv G w G w' :=
  (h.rd.getx n hn).mono (fun _ _ k => ⟨k.1, h.adv_ k.2.2 k.2.1, k.2.2⟩)
end
/-- one put is in work at block z: j of its bytes are there -/
structure DjI (wb : World) (G : Nat → Prop) (c q V z : Nat) (xa : Int) (f : Nat → Nat) (a0 j : Nat) (F : Nat → Prop) (v : Value) (w : World) : Prop where
  x : XS w G c q V (a0 + 8 * j)
  blk : Blk w z 90 #[.int .i64 xa, v]
  s : Sl w F 5 1 v j (((List.range j).map f).map u8)
  sep : Sep F G
  low : ∀ i, F i → wb.heap.size ≤ i
  zF : ¬ F z
  zG : ¬ G z
  zb : wb.heap.size ≤ z
  adv : Adv G wb G w
theorem rd_oneC (w : World) (v : Value) (t : TypeId) : Rd (w.alloc (.cells #[v] t)) 1 (.slice (some ⟨w.heap.size, 0, none⟩) 1 1) 1 [v] := by
  refine ⟨_, 1, rfl, Nat.le_refl _, by unfold maxLen; decide, rfl, fun h => (by cases h), fun _ => ⟨_, rfl, by simp, fun j u hu => ?_⟩⟩
  rw [addr_none, Nat.zero_add, (Blk.new w t #[v]).cell j, List.getElem?_toArray]
  exact hu
theorem DjI.next {wb wr w1 w2 : World} {G F : Nat → Prop} {c q V z a0 j y : Nat} {xa : Int} {f : Nat → Nat} {v v' : Value} {o : Obj} (h : DjI wb G c q V z xa f a0 j F v wr) (hX : XS w1 G c q V (a0 + 8 * j + 8)) (a1 : Adv G wr G w1) (hy : y = f j)
    (hown : w2.ownsRow 0 5 1 v' (j + 1) (((List.range j).map f).map u8 ++ [.int .u8 (y : Int)])) (hg : (w1.alloc o).grownBy w2 v.ownBlock) (hat : v'.ownBlock = v.ownBlock ∨ v'.ownBlock = some (w1.alloc o).heap.size) :
    w2.cell? ⟨z, 1, none⟩ = some v ∧ w2.frozen? ⟨z, 1, none⟩ = false ∧ DjI wb G c q V z xa f a0 (j + 1) (fun i => F i ∨ v'.ownBlock = some i) v' (w2.setCell ⟨z, 1, none⟩ v') := by
  have hS1 := h.s.far a1 h.sep.symm
  have hz1 : Blk w1 z 90 #[.int .i64 xa, v] := h.blk.keep (a1.block z h.blk.lt h.zG)
  have hin : ∀ i, (F i ∨ v'.ownBlock = some i) → F i ∨ w1.heap.size < i := by
    rintro i (h' | h')
    · exact .inl h'
    · rcases hat with e | e
      · exact .inl (h.s.inF i (by rw [← e]; exact h'))
      · rw [e] at h'; injection h' with h'; right; simp at h'; omega
  have hA2 : Adv F w1 (fun i => F i ∨ v'.ownBlock = some i) w2 := by
    have h1 := ((Adv.refl F w1).alloc o).grown hg (fun i hi => .inl (h.s.inF i hi))
    exact ⟨h1.os, h1.tape, h1.output, h1.size, h1.block, fun i hi => (hin i hi).imp id Nat.le_of_lt⟩
  have hz2 : Blk w2 z 90 #[.int .i64 xa, v] := hz1.keep (hA2.block z hz1.lt h.zF)
  have hne : ∀ i, (F i ∨ v'.ownBlock = some i) → i ≠ z := fun i hi e => by
    subst e
    rcases hin i hi with h' | h'
    · exact h.zF h'
    · have := hz1.lt; omega
  have hS2 : Sl w2 (fun i => F i ∨ v'.ownBlock = some i) 5 1 v' (j + 1) (((List.range j).map f).map u8 ++ [.int .u8 (y : Int)]) := by
    refine ⟨hown, fun i hi => .inr hi, ?_⟩
    rintro i (h' | h')
    · exact Nat.lt_of_lt_of_le (hS1.bd i h') hA2.size
    · exact (hown.lt i h').2
  have hA3 : Adv (fun i => i = z) w2 (fun i => i = z) (w2.setCell ⟨z, 1, none⟩ v') := (Adv.refl (fun i => i = z) w2).setCell (p := ⟨z, 1, none⟩) (.inl rfl) _
  refine ⟨hz2.cell 1, hz2.frozen 1, (hX.far hA2 h.sep).far hA3 (fun i e g => h.zG (e ▸ g)), hz2.set_ 1 v', ?_, ?_, ?_, fun e => hne z e rfl, h.zG, h.zb, ?_⟩
  · have := hS2.far hA3 (fun i e g => hne i g e)
    rw [List.range_succ, List.map_append, List.map_append]
    rw [hy] at this
    exact this
  · intro i hi hG
    rcases hin i hi with h' | h'
    · exact h.sep i h' hG
    · have := hX.bd i hG; omega
  · intro i hi
    rcases hin i hi with h' | h'
    · exact h.low i h'
    · have := h.adv.size; have := a1.size; omega
  · have hb := h.adv.trans a1
    refine ⟨(hA3.os.trans hA2.os).trans hb.os, (hA3.tape.trans hA2.tape).trans hb.tape, (hA3.output.trans hA2.output).trans hb.output, Nat.le_trans hb.size (Nat.le_trans hA2.size hA3.size), fun i hi hn => ?_, fun i hi => .inl hi⟩
    have hi1 : i < w1.heap.size := Nat.lt_of_lt_of_le hi hb.size
    rw [hA3.block i (Nat.lt_of_lt_of_le hi1 hA2.size) (fun e => by have := h.zb; omega), hA2.block i hi1 (fun e => by have := h.low i e; omega)]
    exact hb.block i hi hn
theorem DjI.new {wb : World} {G : Nat → Prop} {c q V a0 : Nat} {xa : Int} {f : Nat → Nat} (h : XS wb G c q V a0) : DjI wb G c q V wb.heap.size xa f a0 0 Nul (.slice none 0 0) (wb.alloc (.cells #[.int .i64 xa, .slice none 0 0] 90)) := by
  have ha : Adv Nul wb Nul (wb.alloc (.cells #[.int .i64 xa, .slice none 0 0] 90)) := (Adv.refl _ _).alloc _
  refine ⟨h.far ha (fun _ e _ => e), Blk.new _ _ _, Sl.nil _ _ _, fun _ e _ => e, fun _ e => e.elim, fun e => e, fun e => by have := h.bd _ e; omega, Nat.le_refl _, (Adv.refl _ _).alloc _⟩
/-- all its bytes are there: it is one more -/
theorem OfI.more {W wb w w' : World} {G F Fd : Nat → Prop} {c q V k a0 a z : Nat} {xa : Int} {f : Nat → Nat} {P : Nat → Pt} {vo vo' v : Value} {qs : List (Pt × Value)} {o : Obj} (h : OfI W G c q V P k vo F qs a0 wb) (hd : DjI wb G c q V z xa f a 128 Fd v w) (hP : P k = ⟨xa, (List.range 128).map f⟩)
    (hown : w'.ownsRow 0 90 2 vo' (k + 1) (qs.flatMap qcells ++ [.int .i64 xa, v])) (hg : (w.alloc o).grownBy w' vo.ownBlock) (hat : vo'.ownBlock = vo.ownBlock ∨ vo'.ownBlock = some (w.alloc o).heap.size) : ∃ F' qs', OfI W G c q V P (k + 1) vo' F' qs' (a + 8 * 128) w' := by
  have h1 := h.adv_ hd.adv hd.x
  obtain ⟨A, Q, rfl, -, -⟩ := hd.s.form0
  have hne : ∀ g, (Value.slice A 128 Q).ownBlock = some g → Fd g := hd.s.inF
  have hlen : ((List.range 128).map f).length = 128 := by simp
  have hou := h1.out.step ((Adv.refl Nul w).alloc o)
  have hFw : ∀ g, Fd g → ¬ F g := fun g hg hf => by
    have h2 := hd.low g hg
    have h3 := h.out.sl.bd g hf
    omega
  have hWw : W.heap.size ≤ wb.heap.size := h.out.adv.size
  have hq := hou.push1 (p := ⟨xa, (List.range 128).map f⟩) hP (by rw [hlen]; exact hd.s.rd.far (fun k _ _ hl => Below.heap_alloc _ _ _ hl) (by simp)) (by
    rw [hlen]
    intro g hg _
    exact ⟨hFw g (hne g hg), Nat.le_trans hWw (hd.low g (hne g hg))⟩) (by rw [hlen]; exact hown) hg hat
  rw [hlen] at hq
  have ha2 : Adv F w (fun g => F g ∨ vo'.ownBlock = some g) w' := by
    have h2 := ((Adv.refl F w).alloc o).grown hg (fun j hj => .inl (h1.out.sl.inF j hj))
    refine ⟨h2.os, h2.tape, h2.output, h2.size, h2.block, fun i hi => ?_⟩
    rcases hi with hi | hi
    · exact .inl hi
    · rcases hat with e | e
      · exact .inl (h1.out.sl.inF i (by rw [← e]; exact hi))
      · rw [e] at hi; injection hi with hi; right; simp at hi; omega
  refine ⟨_, _, h1.rd.far ha2 h1.sep, hq, ?_, ?_, h.low⟩
  · intro i hi hG
    rcases ha2.into i hi with h' | h'
    · exact h1.sep i h' hG
    · have := h1.rd.bd i hG; omega
  · intro i hi g hg hl hG
    rw [List.length_append, List.length_singleton] at hi
    by_cases hik : i < qs.length
    · rw [List.getElem_append_left hik] at hg
      exact h1.dg i hik g hg hl hG
    · obtain rfl : i = qs.length := by omega
      rw [List.getElem_append_right (Nat.le_refl _)] at hg
      simp only [Nat.sub_self, List.getElem_cons_zero] at hg
      exact hd.sep g (hne g hg) hG
end Go.Proofs.YtbdjlmdbnoghnaaGreat
namespace Go.Proofs.YtbdjlmdbnoghnaaGreat
open Go.RowKit Go.Maps

section
variable {ops : Array Oper} {rest : List Oper} {o : Oper} {a : Act} {w : World} {Q : Exit → Act → World → Prop}
theorem op_alloc_put (hgd : o.guard = none) (ho : o.op = .alloc 90) (h : wpList Tryz.prog ops Q rest (a.put o.dst (.pointer (some ⟨w.heap.size, 0, none⟩))) (w.alloc (.cells #[.int .i64 0, .slice none 0 0] 90))) : wpList Tryz.prog ops Q (o :: rest) a w := by
  obtain ⟨i, hi, hz⟩ : ∃ i, Tryz.prog.info? 90 = some i ∧ (i.zero, i.size, i.bytes) = (some (.agg #[.int .i64 0, .slice none 0 0]), 2, 32) := by
    have := infoPut
    cases h : Tryz.prog.info? 90 with
    | none => rw [h] at this; cases this
    | some i => rw [h] at this; exact ⟨i, rfl, Option.some.inj this⟩
  exact op_alloc hgd ho infoPut h
theorem op_store_put (hgd : o.guard = none) (x y : Operand) (ho : o.op = .store 90 x y) (g : Nat) (hg : g = w.heap.size) (u v : Value) (h1 : (#[u, v] : Array Value).all (·.oneCell') = true) (hx : a.eval x = .pointer (some ⟨g, 0, none⟩)) (hy : a.eval y = .agg #[u, v])
    (h : wpList Tryz.prog ops Q rest (a.put o.dst undef) (w.alloc (.cells #[u, v] 90))) : wpList Tryz.prog ops Q (o :: rest) a (w.alloc (.cells #[.int .i64 0, .slice none 0 0] 90)) :=
  op_store_new hgd x y ho g hg hx hy sizePut rfl rfl h1 h
end
def OfR (w : World) (l : List Nat) (H : Int) (e : Ending) (w' : World) : Prop := ∃ A n q, e = .returned (.tuple #[.slice A n q, .bool (decide (decE l = 0 ∧ isTx (decP l) H))]) ∧ (decE l = 0 → ∀ G, Bd G w → QRd w' G (.slice A n q) (decP l)) ∧ Adv Nul w Nul w'
def OfL (w : World) (G : Nat → Prop) (c N : Nat) (l : List Nat) (t9 t8 : Value) (wr : World) : Prop := ∃ k A q F qs, k ≤ N ∧ t9 = .int .i64 (k : Int) ∧ t8 = .slice A k q ∧ OfI w G c l.length (val l) (gT l) k (.slice A k q) F qs (8 + 1036 * k) wr
def OfM (wb : World) (G : Nat → Prop) (c z : Nat) (l : List Nat) (k : Nat) (t11 : Value) (wr : World) : Prop := ∃ (j : Nat) (F : Nat → Prop) (v : Value), j ≤ 128 ∧ t11 = .int .i64 (j : Int) ∧ DjI wb G c l.length (val l) z (gA l k : Int) (gB l k) (20 + 1036 * k) j F v wr

set_option maxRecDepth 3000 in
set_option maxHeartbeats 6400000 in
theorem rof_any (v : Value) (l : List Nat) (H : Int) (w : World) (h : Rd w 1 v l.length (l.map u8)) (h8 : ∀ x ∈ l, x < 256) (hl : l.length ≤ 100000) :
    Calls Tryz.prog 37 #[v, .int .i64 H] w (OfR w l H) := by
  have HOF := Lib.hid (of_big v l.length l w ⟨rfl, h, fun b hb h0 => by obtain ⟨A, c, rfl, _⟩ := h.form; exact h.lt hb h0, h8⟩ hl)
  obtain ⟨N, hN⟩ : ∃ N, N = gN l := ⟨_, rfl⟩
  have hN256 : N < 256 := by rw [hN]; exact gN_lt l
  have hNI : (N : Int) ≤ 256 := by omega
  have HN := Lib.hid hN
  have HN2 := Lib.hid hN256
  have H8 := Lib.hid h8
  clear h h8 hl hN hN256
  go_enter Tryz.func37, Tryz.ntmps37
  go_wp2_with fail
  refine HOF.out.mono ?_
  rintro e w1 ⟨v1, F1, bl, rfl, s1, b1, a1⟩
  obtain ⟨A1, q1, rfl, -, -⟩ := s1.form0
  obtain ⟨hx2, ha2⟩ := xs_new s1 b1 a1
  obtain ⟨c, hc⟩ : ∃ c, c = w1.heap.size := ⟨_, rfl⟩
  obtain ⟨V, hV⟩ : ∃ V, V = w1.alloc (.cells #[.slice A1 (8 * l.length) q1, .int .i64 0] 130) := ⟨_, rfl⟩
  obtain ⟨G, hG⟩ : ∃ G : Nat → Prop, G = fun j => F1 j ∨ j = w1.heap.size := ⟨_, rfl⟩
  rw [← hV, ← hG, ← hc] at hx2
  rw [← hV, ← hG] at ha2
  have HX2 := Lib.hid hx2
  have HA2 := Lib.hid ha2
  have HG2 := Lib.hid (hx2.getx 8 (by decide))
  have HV := Lib.hid hV
  have HC := Lib.hid hc
  clear s1 b1 a1 hx2 ha2 hc hV hG
  go_upto_region 2 with (fail)
  rw [← HV.out, ← HC.out]
  go_wp2_with fail
  refine HG2.out.mono ?_
  rintro e w2 ⟨rfl, x2, a2⟩
  rw [show getX l.length (val l) 0 8 = N from HN.out.symm]
  have hwN : IntKind.i64.wrap (N : Int) = (N : Int) := by rw [IntKind.wrap_i64]; omega
  have hadv : Adv Nul w G w2 := HA2.out.trans a2
  have HI := Lib.hid (show OfI w G c l.length (val l) (gT l) 0 (.slice none 0 0) Nul [] 8 w2 from
    ⟨x2, (QW.nil w (gT l)).step hadv, fun _ e _ => e, fun i hi => absurd hi (Nat.not_lt_zero _), fun j hj => (hadv.into j hj).elim (fun e => e.elim) id⟩)
  clear x2 a2 hadv
  go_wp2_with fail
  go_loopw [9, 8] (OfL w G c N l) (fun t _ _ => N - (intOf t).toNat)
  case atStart => exact ⟨0, none, 0, Nul, [], Nat.zero_le _, rfl, rfl, HI.out⟩
  case round =>
    obtain ⟨k, A, q, F, qs, hk, rfl, rfl, hi⟩ := hrel
    have c1 := hi.rd.c1
    obtain ⟨E1, hE1⟩ : ∃ E, E = errX l.length (8 + 1036 * k) := ⟨_, rfl⟩
    rw [← hE1] at c1
    have hiN : (k : Int) ≤ (N : Int) := by omega
    by_cases hlt : k < N
    · have hki : (k : Int) < (N : Int) := by omega
      by_cases hin : 8 + 1036 * k ≤ 8 * l.length
      · obtain rfl : E1 = 0 := by rw [hE1, errX, if_pos hin]
        obtain ⟨x, hx⟩ : ∃ x, x = gA l k := ⟨_, rfl⟩
        have hx4 : x < 4096 := by rw [hx]; exact gA_lt l k
        have hwX : IntKind.i64.wrap (x : Int) = (x : Int) := by rw [IntKind.wrap_i64]; omega
        have HX := Lib.hid hx
        have HGA := Lib.hid (show getX l.length (val l) (8 + 1036 * k) 12 = x by rw [hx]; rfl)
        have HG := Lib.hid (hi.get 12 (by decide))
        have HLT := Lib.hid hlt
        have HK0 := Lib.hid hk
        clear hi hlt hx hin hE1 hk
        go_wp2_with fail
        refine HG.out.mono ?_
        rintro e w3 ⟨rfl, i3, a3⟩
        rw [HGA.out]
        rw [show 8 + 1036 * k + 12 = 20 + 1036 * k by omega] at i3
        have HI3 := Lib.hid i3
        have hD0 : ∀ z, z = w3.heap.size → DjI w3 G c l.length (val l) z (gA l k : Int) (gB l k) (20 + 1036 * k) 0 Nul (.slice none 0 0) (w3.alloc (.cells #[.int .i64 (x : Int), .slice none 0 0] 90)) := fun z hz => by
          rw [hz, HX.out]
          exact DjI.new i3.rd
        have HD0 := Lib.hid hD0
        obtain ⟨z, hz⟩ : ∃ z, z = w3.heap.size := ⟨_, rfl⟩
        have HZ := Lib.hid hz
        clear i3 a3 c1 hD0 hz
        go_upto_region 8 with (first
          | (refine op_alloc_put rfl rfl ?_)
          | (refine op_store_put rfl _ _ rfl _ rfl _ _ rfl rfl rfl ?_)
          | fail)
        have hdz := HD0.out z HZ.out
        obtain ⟨V3, hV3⟩ : ∃ V, V = w3.alloc (.cells #[.int .i64 (x : Int), .slice none 0 0] 90) := ⟨_, rfl⟩
        rw [← hV3] at hdz ⊢
        rw [← HZ.out]
        have HDZ := Lib.hid hdz
        clear hdz hV3
        go_wp2_with fail
        go_loopw [11] (OfM w3 G c z l k) (fun t _ => 128 - (intOf t).toNat)
        case atStart => exact ⟨0, Nul, .slice none 0 0, Nat.zero_le _, rfl, HDZ.out⟩
        case round =>
          obtain ⟨j, F4, v4, hj, rfl, hd⟩ := hrel
          obtain ⟨A4, q4, rfl, -, -⟩ := hd.s.form0
          have z0 := hd.blk.cell 0
          have z1 := hd.blk.cell 1
          by_cases hjl : j < 128
          · have hji : (j : Int) < 128 := by omega
            have hj0 : (0 : Int) ≤ (j : Int) := by omega
            obtain ⟨y, hy⟩ : ∃ y, y = gB l k j := ⟨_, rfl⟩
            have hy8 : y < 256 := by rw [hy]; exact gB_lt l k j
            have hwY : IntKind.u8.wrap (y : Int) = (y : Int) := by rw [IntKind.wrap_u8]; omega
            have HGB := Lib.hid (show getX l.length (val l) (20 + 1036 * k + 8 * j) 8 = y by rw [hy]; rfl)
            have HG := Lib.hid (hd.x.getx 8 (by decide))
            have HD := Lib.hid hd
            have HY := Lib.hid hy
            have HJL := Lib.hid hjl
            clear hd hy hjl hj
            go_wp2_with fail
            refine HG.out.mono ?_
            rintro e w5 ⟨rfl, x5, a5⟩
            rw [HGB.out]
            have hS5 := HD.out.s.far a5 HD.out.sep.symm
            have hz5 : Blk w5 z 90 #[.int .i64 (gA l k : Int), .slice A4 j q4] := HD.out.blk.keep (a5.block z HD.out.blk.lt HD.out.zG)
            have X5 := Lib.hid x5
            have A5 := Lib.hid a5
            have hown := hS5.own
            clear x5 a5 z0 z1 hz5 hS5
            go_wp2_with (first
              | (at_builtin; refine wpList_append_rd rfl (.tmp 42) (.tmp 46) rfl rfl rfl (hown.alloc _) (rd_oneC w5 (.int .u8 (y : Int)) _) ?d1 ?d2 ?d3)
              | fail)
            case d1 => intro u hu; simp at hu; subst hu; rfl
            case d2 => omega
            case d3 =>
              intro v' w6 hown6 hg6 hat6
              obtain ⟨a6, q6, rfl⟩ := slice_of hown6
              obtain ⟨k1, kf, hd6⟩ := HD.out.next X5.out A5.out HY.out (by rw [List.map_map]; exact hown6) hg6 (by simpa using hat6)
              have HD6 := Lib.hid hd6
              have hjl := HJL.out
              clear hd6 hown6 hg6 hat6 hown
              go_wp2_with fail
              exact ⟨⟨j + 1, _, _, by omega, by go_num, HD6.out⟩, by simp [intOf] <;> omega⟩
          · obtain rfl : j = 128 := by omega
            have HO := Lib.hid (HI3.out.adv_ hd.adv hd.x)
            have HD := Lib.hid hd
            have hx10 : (gA l k : Int) = (x : Int) := by rw [HX.out]
            rw [hx10] at z0
            have HU := Lib.hid (HO.out.out.step ((Adv.refl Nul wr).alloc (.cells #[.int .i64 (x : Int), .slice A4 128 q4] 90)))
            have HK1 := Lib.hid (show k + 1 ≤ maxLen by have := HLT.out; have := HN2.out; unfold maxLen; omega)
            have HK2 := Lib.hid (show (k + 1) * 32 ≤ 140737488355328 by have := HLT.out; have := HN2.out; omega)
            have HX10 := Lib.hid hx10
            clear hd hjl hj hx10
            go_wp2_with (first
              | (at_builtin; refine lop_append_own rfl (.tmp 49) (.tmp 51) 37 90 rfl Tryz.underlying37 infoPut rfl (by decide) rfl HU.out.sl.own ⟨wr.heap.size, 0, none⟩ 1 1 rfl [.int .i64 (x : Int), .slice A4 128 q4] rfl qnew_at qone HK1.out HK2.out ?_; intro v' w8 hown hg2 hat; obtain ⟨a8, k8, rfl⟩ := (slice_of hown); have HOWN := Lib.hid hown; have HG2 := Lib.hid hg2; have HAT := Lib.hid hat; clear hown hg2 hat)
              | fail)
            obtain ⟨F8, qs8, hpu⟩ := HI3.out.more HD.out rfl (by rw [HX10.out]; exact HOWN.out) HG2.out HAT.out
            rw [show 20 + 1036 * k + 8 * 128 = 8 + 1036 * (k + 1) by omega] at hpu
            have hlt := HLT.out
            exact ⟨⟨k + 1, a8, k8, F8, qs8, by omega, by go_num, rfl, hpu⟩, by simp [intOf] <;> omega⟩
      · have hin' : 8 * l.length < 8 + 1036 * k := by omega
        obtain rfl : E1 = 3 := by rw [hE1, errX, if_neg hin]
        have HEN := Lib.hid hi.rd.end_
        have h3 : endE l.length (val l) (8 + 1036 * k) = 3 := by rw [endE, if_neg hin]
        rw [h3] at HEN
        have HB := Lib.hid (show decE l ≠ 0 from fun e => by
          rw [← gE_dec, gE] at e
          have := endE_in e
          rw [← HN.out] at this
          omega)
        have HI9 := Lib.hid hi
        clear hi hlt hin hin' hE1 hk h3
        go_wp2_with fail
        refine HEN.out.mono ?_
        rintro e w9 ⟨rfl, rfl⟩
        have HF := Lib.hid (show OfR w l H (.returned (.tuple #[.slice A k q, .bool false])) wr from
          ⟨A, k, q, by rw [decide_eq_false (fun e => HB.out e.1)], fun e => absurd e HB.out, HI9.out.out.adv.sub (fun _ x => x.elim)⟩)
        go_wp2_with fail
        go_ret2
        exact HF.out
    · obtain rfl : k = N := by omega
      have HEN := Lib.hid hi.rd.end_
      obtain ⟨E, hE⟩ : ∃ E, E = endE l.length (val l) (8 + 1036 * k) := ⟨_, rfl⟩
      rw [← hE] at HEN
      have HE := Lib.hid (show E = decE l by rw [hE, ← gE_dec, gE, ← HN.out])
      have HI9 := Lib.hid hi
      clear hi hlt hE1 hk hE
      go_wp2_with fail
      refine HEN.out.mono ?_
      rintro e w9 ⟨rfl, rfl⟩
      by_cases h0 : E = 0
      · subst h0
        have HGP := Lib.hid (show (List.range k).map (gT l) = decP l by rw [← gP_dec HE.out.symm, gP, ← HN.out])
        have HQ := Lib.hid (show ∀ G', Bd G' w → QRd wr G' (.slice A k q) (decP l) from fun G' hG => by rw [← HGP.out]; exact HI9.out.out.qrd hG)
        have HIS := Lib.hid (ris_any A k q (decP l) H Nul wr (HQ.out Nul (fun _ e => e.elim)))
        go_wp2_with fail
        refine HIS.out.mono ?_
        rintro e w9 ⟨rfl, a9⟩
        have HF := Lib.hid (show OfR w l H (.returned (.tuple #[.slice A k q, .bool (decide (isTx (decP l) H))])) w9 from
          ⟨A, k, q, by simp only [HE.out.symm, true_and], fun _ G' hG => (HQ.out G' hG).step a9, (HI9.out.out.adv.sub (fun _ x => x.elim)).trans a9⟩)
        clear a9
        go_wp2_with fail
        go_ret2
        exact HF.out
      · have hb : ((E : Int) == 0) = false := by rw [beq_eq_false_iff_ne]; exact h0
        have HB := Lib.hid (show decE l ≠ 0 from fun e => h0 (HE.out.trans e))
        have HF := Lib.hid (show OfR w l H (.returned (.tuple #[.slice A k q, .bool false])) wr from
          ⟨A, k, q, by rw [decide_eq_false (fun e => HB.out e.1)], fun e => absurd e HB.out, HI9.out.out.adv.sub (fun _ x => x.elim)⟩)
        clear h0
        go_wp2_with fail
        go_ret2
        exact HF.out
end Go.Proofs.YtbdjlmdbnoghnaaGreat
