/- DiskPlays: the program's disk and the document's, side by side. -/
import Derived.Test.YtochmeibmjfnnaaRkE
import Derived.Test.YtochmeibmjfnnaaAl
import Derived.Test.YtochmeibmjfnnaaDkP
import Derived.Test.YtochmeibmjfnnaaDkLa
namespace Go.Proofs.Ytochmeibmjfnnaa
open Go.RowKit

section
theorem Adv.side {F F' R : Nat → Prop} {w w' : World} (k : Adv F w F' w') : Adv (fun x => F x ∨ R x) w (fun x => F' x ∨ R x) w' :=
  ⟨k.os, k.tape, k.output, k.size, fun i hi hn => k.block i hi (fun h => hn (.inl h)), fun i hi => by
    rcases hi with h | h
    · exact (k.into i h).imp .inl id
    · exact .inl (.inr h)⟩
theorem Adv.side' {F F' R : Nat → Prop} {w w' : World} (k : Adv F w F' w') : Adv (fun x => R x ∨ F x) w (fun x => R x ∨ F' x) w' :=
  ⟨k.os, k.tape, k.output, k.size, fun i hi hn => k.block i hi (fun h => hn (.inr h)), fun i hi => by
    rcases hi with h | h
    · exact .inl (.inl h)
    · exact (k.into i h).imp .inr id⟩
end

theorem Blk.sl8 {w : World} {z : Nat} {t : TypeId} {l : List Nat} (h : Blk w z t (l.map u8).toArray) (hl : l.length = 128) : Sl w (fun k => k = z) t 1 (.slice (some ⟨z, 0, none⟩) 128 128) 128 (l.map u8) :=
  ⟨⟨by simp [hl], .inr ⟨z, 128, _, rfl, Nat.zero_le _, h, Nat.le_refl _, by decide, by simp [hl], by simp; rw [← hl, ← List.map_take, List.take_length]⟩⟩, fun k hk => by
    have : z = k := by simpa [Value.ownBlock] using hk
    exact this.symm, fun k hk => by rw [hk]; exact h.lt⟩
theorem Sl.set8e {w : World} {F : Nat → Prop} {e : TypeId} {g c n : Nat} {l : List Nat} (h : Sl w F e 1 (.slice (some ⟨g, 0, none⟩) n c) n (l.map u8)) (k y : Nat) :
    Sl (w.setCell ⟨g, k, none⟩ (.int .u8 (y : Int))) F e 1 (.slice (some ⟨g, 0, none⟩) n c) n ((l.set k y).map u8) := by
  have h1 := (h.own.stored k (.int .u8 (y : Int))).1
  refine ⟨?_, h.inF, fun j hj => by have := h.bd j hj; simpa [World.setCell] using this⟩
  rw [List.map_set, show u8 y = .int .u8 (y : Int) from rfl]
  exact h1
theorem Sl.at8e {w : World} {F : Nat → Prop} {e : TypeId} {g c n k : Nat} {l : List Nat} (h : Sl w F e 1 (.slice (some ⟨g, 0, none⟩) n c) n (l.map u8)) (hk : k < n) (hl : k < l.length) : w.cell? ⟨g, k, none⟩ = some (.int .u8 (l[k] : Int)) := by
  rw [h.own.cellAt k (by omega), List.getElem?_map, List.getElem?_eq_getElem hl]; rfl

/-- program and document, s and t -/
def Mix (w0 w : World) (d c n : Nat) (s t : DS) : Prop := ∃ F G, Dk w F d n s ∧ Rk w G c n t ∧ Sep F G ∧ Adv Nul w0 (fun k => F k ∨ G k) w
/-- and bytes beside them -/
def MixB (w0 w : World) (d c n : Nat) (s t : DS) (v : Value) (l : List Nat) : Prop :=
  ∃ F G B e, Dk w F d n s ∧ Rk w G c n t ∧ Sl w B e 1 v l.length (l.map u8) ∧ Sep F G ∧ Sep F B ∧ Sep G B ∧ Adv Nul w0 (fun k => F k ∨ G k ∨ B k) w

section
variable {w0 w w' : World} {d c n : Nat} {s t : DS} {v : Value} {l : List Nat}
theorem MixB.mix (h : MixB w0 w d c n s t v l) : Mix w0 w d c n s t := by
  obtain ⟨F, G, B, e0, h1, h2, h3, s1, s2, s3, ha⟩ := h
  exact ⟨F, G, h1, h2, s1, ha.sub (fun k hk => by rcases hk with h | h; exact .inl h; exact .inr (.inl h))⟩
theorem Mix.below (h : Mix w0 w d c n s t) : Below w0.heap.size w0 w := by
  obtain ⟨F, G, _, _, _, ha⟩ := h
  exact ha.toBelow
theorem Mix.far (h : Mix w0 w d c n s t) (ha : Adv Nul w Nul w') : Mix w0 w' d c n s t := by
  obtain ⟨F, G, h1, h2, s1, hb⟩ := h
  exact ⟨F, G, h1.far ha (fun _ h _ => h), h2.far ha (fun _ h _ => h), s1, hb.trans (ha.same (fun _ h => h.elim))⟩
theorem MixB.far (h : MixB w0 w d c n s t v l) (ha : Adv Nul w Nul w') : MixB w0 w' d c n s t v l := by
  obtain ⟨F, G, B, e0, h1, h2, h3, s1, s2, s3, hb⟩ := h
  exact ⟨F, G, B, e0, h1.far ha (fun _ h _ => h), h2.far ha (fun _ h _ => h), h3.far ha (fun _ h _ => h), s1, s2, s3, hb.trans (ha.same (fun _ h => h.elim))⟩
theorem Mix.drew (h : Mix w0 w d c n s t) : Mix w0 w.drew d c n s t := h.far (Adv.refl Nul w).drew
theorem MixB.drew (h : MixB w0 w d c n s t v l) : MixB w0 w.drew d c n s t v l := h.far (Adv.refl Nul w).drew
theorem Mix.drewN (h : Mix w0 w d c n s t) (k : Nat) : Mix w0 (w.drewN k) d c n s t := h.far ((Adv.refl Nul w).drewN k)
theorem MixB.drewN (h : MixB w0 w d c n s t v l) (k : Nat) : MixB w0 (w.drewN k) d c n s t v l := h.far ((Adv.refl Nul w).drewN k)
theorem Mix.c3 (h : Mix w0 w d c n s t) : w.cell? ⟨c, 3, none⟩ = some (.bool t.dead) := by
  obtain ⟨F, G, h1, ⟨_, _, _, _, h2⟩, s1, hb⟩ := h
  exact h2.c3
theorem Mix.new {F G : Nat → Prop} {w1 w2 : World} (hd : Dk w1 F d n s) (ha : Adv Nul w0 F w1) (hr : Rk w2 G c n s) (hb : Adv Nul w1 G w2) : Mix w0 w2 d c n s s :=
  ⟨F, G, hd.far hb (fun _ h _ => h), hr, fun k h1 h2 => by have := hd.bd k h1; have := hb.new_at h2; omega, ha.join hb⟩
theorem Mix.buf {B : Nat → Prop} {e0 : TypeId} (h : Mix w0 w d c n s t) (hs : Sl w' B e0 1 v l.length (l.map u8)) (ha : Adv Nul w B w') : MixB w0 w' d c n s t v l := by
  obtain ⟨F, G, h1, h2, s1, hb⟩ := h
  have e : (fun k => F k ∨ G k ∨ B k) = fun k => (F k ∨ G k) ∨ B k := by funext k; exact propext or_assoc.symm
  refine ⟨F, G, B, e0, h1.far ha (fun _ h _ => h), h2.far ha (fun _ h _ => h), hs, s1, fun k h1' h2' => ?_, fun k h1' h2' => ?_, ?_⟩
  · have := h1.bd k h1'; have := ha.new_at h2'; omega
  · have := h2.bd k h1'; have := ha.new_at h2'; omega
  · rw [e]; exact hb.join ha
theorem MixB.form (h : MixB w0 w d c n s t v l) : ∃ a cap, v = .slice a l.length cap := by
  obtain ⟨F, G, B, e0, h1, h2, h3, _⟩ := h
  obtain ⟨a, cap, rfl, _⟩ := h3.form0
  exact ⟨a, cap, rfl⟩
theorem MixB.rd (h : MixB w0 w d c n s t v l) : Rd w 1 v l.length (l.map u8) := by
  obtain ⟨F, G, B, e0, h1, h2, h3, _⟩ := h
  exact h3.rd

theorem MixB.max (h : MixB w0 w d c n s t v l) : l.length ≤ 9223372036854775807 := by
  obtain ⟨A, cc, _, h1, h2⟩ := h.rd.form
  unfold maxLen at h2
  omega

theorem mixb_write (h : MixB w0 w d c n s t v l) (i : Int) (hq : s.Q.length ≤ 1000000) :
    Calls Try.prog 10 #[.pointer (some ⟨d, 0, none⟩), .int .i64 i, v] w fun e w' => e = .returned (.int .i64 (writeS s i l).2) ∧ MixB w0 w' d c n (writeS s i l).1 t v l := by
  obtain ⟨F, G, B, e0, hd, hr, hb, s1, s2, s3, ha⟩ := h
  refine (write_dk d n l.length i v F s l w hd hb.rd (fun k hk hF => s2 k hF (hb.inF k hk)) hq).mono ?_
  rintro e w' ⟨rfl, F', h1, a1⟩
  exact ⟨rfl, F', G, B, e0, h1, hr.far a1 s1, hb.far a1 s2, a1.sep s1 hr.bd, a1.sep s2 hb.bd, s3, ha.trans a1.side⟩
theorem mixb_rwrite (h : MixB w0 w d c n s t v l) (i : Int) (hq : t.Q.length ≤ 1000000) :
    Calls Try.prog 13 #[.pointer (some ⟨c, 0, none⟩), .int .i64 i, v] w fun e w' => e = .returned (.int .i64 (writeS t i l).2) ∧ MixB w0 w' d c n s (writeS t i l).1 v l := by
  obtain ⟨F, G, B, e0, hd, hr, hb, s1, s2, s3, ha⟩ := h
  refine (rwrite_dk c n l.length i v G t l w hr hb.rd (fun k hk hF => s3 k hF (hb.inF k hk)) hq).mono ?_
  rintro e w' ⟨rfl, G', h1, a1⟩
  exact ⟨rfl, F, G', B, e0, hd.far a1 s1.symm, h1, hb.far a1 s3, (a1.sep s1.symm hd.bd).symm, s2, a1.sep s3 hb.bd, ha.trans a1.side.side'⟩
theorem mix_flush (h : Mix w0 w d c n s t) :
    Calls Try.prog 25 #[.pointer (some ⟨d, 0, none⟩)] w fun e w' => e = .returned (.int .i64 (flushS s).2) ∧ Mix w0 w' d c n (flushS s).1 t := by
  obtain ⟨F, G, hd, hr, s1, ha⟩ := h
  refine (flush_dk d n F s w hd).mono ?_
  rintro e w' ⟨rfl, h1, a1⟩
  exact ⟨rfl, F, G, h1, hr.far a1 s1, s1, ha.trans a1.side⟩
theorem mix_rflush (h : Mix w0 w d c n s t) (hn : 0 < n) (hq : t.Q.length ≤ 1000000) :
    Calls Try.prog 27 #[.pointer (some ⟨c, 0, none⟩)] w fun e w' => e = .returned (.int .i64 (flushS t).2) ∧ Mix w0 w' d c n s (flushS t).1 := by
  obtain ⟨F, G, hd, hr, s1, ha⟩ := h
  refine (rflush_dk c n G t w hr hn hq).mono ?_
  rintro e w' ⟨rfl, h1, a1⟩
  exact ⟨rfl, F, G, hd.far a1 s1.symm, h1, s1, ha.trans a1.side'⟩
theorem mix_fuse (h : Mix w0 w d c n s t) (k : Int) (hk : k < 9223372036854775808) :
    Calls Try.prog 14 #[.pointer (some ⟨d, 0, none⟩), .int .i64 k] w fun e w' => e = .returned (.int .i64 (fuseS s k).2) ∧ Mix w0 w' d c n (fuseS s k).1 t := by
  obtain ⟨F, G, hd, hr, s1, ha⟩ := h
  refine (fuse_r d n F s k w hd hk).mono ?_
  rintro e w' ⟨rfl, h1, a1⟩
  exact ⟨rfl, F, G, h1, hr.far a1 s1, s1, ha.trans a1.side⟩
theorem mix_rarm (h : Mix w0 w d c n s t) (k : Int) (hk : k < 9223372036854775808) :
    Calls Try.prog 15 #[.pointer (some ⟨c, 0, none⟩), .int .i64 k] w fun e w' => e = .returned (.int .i64 (fuseS t k).2) ∧ Mix w0 w' d c n s (fuseS t k).1 := by
  obtain ⟨F, G, hd, hr, s1, ha⟩ := h
  refine (rarm_dk c n G t k w hr hk).mono ?_
  rintro e w' ⟨rfl, h1, a1⟩
  exact ⟨rfl, F, G, hd.far a1 s1.symm, h1, s1, ha.trans a1.side'⟩
theorem mix_crash (h : Mix w0 w d c n s t) {m : Nat} {vk : Value} {ks : List Int} (torn : Int) (hk : Rd w0 1 vk m (ks.map (Value.int .i64))) (ho : ∀ b, vk.ownBlock = some b → 0 < m → b < w0.heap.size) :
    Calls Try.prog 16 #[.pointer (some ⟨d, 0, none⟩), vk, .int .i64 torn] w fun e w' => e = .returned (.tuple #[]) ∧ Mix w0 w' d c n (crashS s ks torn) t := by
  obtain ⟨F, G, hd, hr, s1, ha⟩ := h
  refine (crash_dk d n m vk F s ks torn w hd (hk.below ha.toBelow (fun k h1 h2 _ => ho k h1 h2)) (fun k h1 h2 hF => by have := ho k h1 h2; have := ha.new_at (.inl hF); omega)).mono ?_
  rintro e w' ⟨rfl, h1, a1⟩
  exact ⟨rfl, F, G, h1, hr.far a1 s1, s1, ha.trans a1.side⟩
theorem mix_rcrash (h : Mix w0 w d c n s t) {m : Nat} {vk : Value} {ks : List Int} (torn : Int) (hk : Rd w0 1 vk m (ks.map (Value.int .i64))) (ho : ∀ b, vk.ownBlock = some b → 0 < m → b < w0.heap.size) (hn : 0 < n) (hq : t.Q.length ≤ 1000000) :
    Calls Try.prog 17 #[.pointer (some ⟨c, 0, none⟩), vk, .int .i64 torn] w fun e w' => e = .returned (.tuple #[]) ∧ Mix w0 w' d c n s (crashS t ks torn) := by
  obtain ⟨F, G, hd, hr, s1, ha⟩ := h
  refine (rcrash_dk c n m vk G t ks torn w hr hn (hk.below ha.toBelow (fun k h1 h2 _ => ho k h1 h2)) (fun k h1 h2 hF => by have := ho k h1 h2; have := ha.new_at (.inr hF); omega) hq).mono ?_
  rintro e w' ⟨rfl, G', h1, a1⟩
  exact ⟨rfl, F, G', hd.far a1 s1.symm, h1, (a1.sep s1.symm hd.bd).symm, ha.trans a1.side'⟩

def rdL (s : DS) (n : Nat) (i : Int) : List Nat := if 0 ≤ i ∧ i < (n : Int) then isS s i.toNat else []
def rdC (n : Nat) (i : Int) : Int := if 0 ≤ i ∧ i < (n : Int) then 0 else 2
theorem mix_read (h : Mix w0 w d c n s t) (i : Int) :
    Calls Try.prog 36 #[.pointer (some ⟨d, 0, none⟩), .int .i64 i] w fun e w' => ∃ v, e = .returned (.tuple #[v, .int .i64 (rdC n i)]) ∧ MixB w0 w' d c n s t v (rdL s n i) := by
  have hm := h
  obtain ⟨F, G, hd, hr, s1, ha⟩ := h
  unfold rdL rdC
  by_cases hi : 0 ≤ i ∧ i < (n : Int)
  · obtain ⟨j, rfl⟩ := Int.eq_ofNat_of_zero_le hi.1
    rw [if_pos hi, if_pos hi, Int.toNat_natCast]
    refine (read_dk d n F s j w hd (by omega)).mono ?_
    rintro e w' ⟨z, rfl, hb, hl, a1⟩
    refine ⟨_, rfl, hm.buf (B := fun k => k = z) (e0 := 71) ?_ a1⟩
    rw [hl]
    exact hb.sl8 hl
  · rw [if_neg hi, if_neg hi]
    refine (read_none d n F s i w hd hi).mono ?_
    rintro e w' ⟨rfl, rfl⟩
    exact ⟨_, rfl, hm.buf (l := []) (Sl.nil _ 5 _) (Adv.refl Nul _)⟩
/-- the bytes are written over -/
def MixO (w0 w : World) (d c n : Nat) (s t : DS) (v : Value) (m : Nat) : Prop := ∃ l : List Nat, l.length = m ∧ MixB w0 w d c n s t v l
theorem MixO.mix {m : Nat} (h : MixO w0 w d c n s t v m) : Mix w0 w d c n s t := by
  obtain ⟨l, _, h⟩ := h
  exact h.mix
theorem MixO.drew {m : Nat} (h : MixO w0 w d c n s t v m) : MixO w0 w.drew d c n s t v m := by
  obtain ⟨l, h1, h⟩ := h
  exact ⟨l, h1, h.drew⟩
theorem MixO.at_ {m k : Nat} (h : MixO w0 w d c n s t v m) (hk : k < m) : ∃ (g cap x : Nat), v = .slice (some ⟨g, 0, none⟩) m cap ∧ w.cell? ⟨g, k, none⟩ = some (.int .u8 ((x : Nat) : Int)) ∧ w.frozen? ⟨g, k, none⟩ = false ∧
    ∀ y : Nat, MixO w0 (w.setCell ⟨g, k, none⟩ (.int .u8 (y : Int))) d c n s t v m := by
  obtain ⟨l, rfl, F, G, B, e0, hd, hr, hb, s1, s2, s3, ha⟩ := h
  obtain ⟨g, cap, rfl, hg, _⟩ := hb.form (by omega)
  refine ⟨g, cap, l[k]'hk, rfl, hb.at8e hk hk, hb.own.frozenAt k, fun y => ⟨l.set k y, by simp, F, G, B, e0, ?_⟩⟩
  have a1 : Adv B w B (w.setCell ⟨g, k, none⟩ (.int .u8 (y : Int))) := (Adv.refl B w).setCell (p := ⟨g, k, none⟩) (.inl hg) _
  exact ⟨hd.far a1 s2.symm, hr.far a1 s3.symm, by have := hb.set8e k y; simpa using this, s1, s2, s3, ha.trans a1.side'.side'⟩

theorem mix_size (h : Mix w0 w d c n s t) : Calls Try.prog 22 #[.pointer (some ⟨d, 0, none⟩)] w fun e w' => e = .returned (.int .i64 (n : Int)) ∧ w = w' := by
  obtain ⟨F, G, hd, _⟩ := h
  exact size_dk d n F s w hd
theorem mix_live (h : Mix w0 w d c n s t) : Calls Try.prog 21 #[.pointer (some ⟨d, 0, none⟩)] w fun e w' => e = .returned (.bool (!s.dead)) ∧ w = w' := by
  obtain ⟨F, G, hd, _⟩ := h
  exact live_dk d n F s w hd
end

/-- how many writes may wait -/
theorem few_write (s : DS) (i : Int) (b : List Nat) : (writeS s i b).1.Q.length ≤ s.Q.length + 1 := by
  unfold writeS
  split
  · exact Nat.le_succ _
  · split
    · simp
    · simp [stepS_Q]
theorem few_flush (s : DS) : (flushS s).1.Q.length ≤ s.Q.length := by
  unfold flushS
  split
  · simp
  · simp [stepS_Q]
theorem few_fuse (s : DS) (k : Int) : (fuseS s k).1.Q.length ≤ s.Q.length := by
  unfold fuseS
  split
  · simp
  · split <;> simp
theorem few_crash (s : DS) (ks : List Int) (torn : Int) : (crashS s ks torn).Q.length ≤ s.Q.length := by simp [crashS]
end Go.Proofs.Ytochmeibmjfnnaa
