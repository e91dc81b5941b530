/- The reader's Text. -/
import Derived.Test.YtpgeebhepegpaaaLives
import Derived.Laws.IdiomStrings
namespace Go.Proofs.Ytpgeebhepegpaaa
open Go.RowKit

theorem addr_none (b o j : Nat) : (⟨b, o, none⟩ : Addr).add j = ⟨b, o + j, none⟩ := by unfold Addr.add; split <;> simp_all

/-- the byte that stands at bit p -/
def byteAt (q V p : Nat) : UInt8 := UInt8.ofNat (bitsAt q V p 8)
theorem byteAt_toNat (q V p : Nat) : (byteAt q V p).toNat = bitsAt q V p 8 := by
  unfold byteAt
  rw [UInt8.toNat_ofNat']
  exact Nat.mod_eq_of_lt (bitsAt_lt q V p 8)
def bytesAt (q V p n : Nat) : List UInt8 := (List.range n).map fun i => byteAt q V (p + 8 * i)
def half (q V p n k : Nat) : List Value := (bytesAt q V p k).map (fun c => .int .u8 (c.toNat : Int)) ++ List.replicate (n - k) (.int .u8 0)
theorem bytesAt_length (q V p n : Nat) : (bytesAt q V p n).length = n := by simp [bytesAt]
theorem half_length (q V p n k : Nat) (hk : k ≤ n) : (half q V p n k).length = n := by simp [half, bytesAt]; omega
theorem half_zero (q V p n : Nat) : half q V p n 0 = List.replicate n (.int .u8 0) := by simp [half, bytesAt]
theorem half_at (q V p n k : Nat) (hk : k < n) : (half q V p n k)[k]? = some (.int .u8 0) := by
  unfold half
  rw [List.getElem?_append_right (by simp [bytesAt]), List.getElem?_replicate, if_pos (by simp [bytesAt]; omega)]
theorem half_set (q V p n k : Nat) (hk : k < n) : (half q V p n k).set k (.int .u8 ((bitsAt q V (p + 8 * k) 8 : Nat) : Int)) = half q V p n (k + 1) := by
  unfold half
  rw [List.set_append_right _ _ (by simp [bytesAt])]
  have e1 : bytesAt q V p (k + 1) = bytesAt q V p k ++ [byteAt q V (p + 8 * k)] := by simp [bytesAt, List.range_succ]
  have e2 : k - ((bytesAt q V p k).map (fun c => Value.int .u8 (c.toNat : Int))).length = 0 := by simp [bytesAt]
  rw [e2, e1, show n - k = (n - (k + 1)) + 1 from by omega, List.replicate_succ, List.set_cons_zero]
  simp [byteAt_toNat]

theorem make_bytes (n : Nat) (hn : n ≤ 1000000) (w : World) : (Instr.makeSlice 38 (.int .i64 (n : Int)) (.int .i64 (n : Int))).run Try.prog w = .ok (.slice (some ⟨w.heap.size, 0, none⟩) n n) (w.alloc (.cells (madeCells #[.int .u8 0] n) 5)) := by
  obtain ⟨i0, hi, hz0, hz1, hz2⟩ := info_parts Try.infoU8
  have hr := run_make (P := Try.prog) w 38 5 i0 (.int .u8 0) Try.underlying38 hi hz0 .i64 .i64 n n (by omega) (by omega) (by rw [hz2]; omega) (by omega)
  simp only [Int.toNat_natCast, hz1, Nat.mul_one] at hr
  exact hr

theorem half_made (q V p n : Nat) : (half q V p n 0).toArray = madeCells #[.int .u8 0] n := by
  rw [half_zero, ← toList_madeCells_one]

def rtextRel (w : World) (b q V p n g : Nat) (F : Nat → Prop) (t : Value) (wr : World) : Prop :=
  ∃ k, t = .int .i64 ((k : Nat) : Int) ∧ k ≤ n ∧ RSt wr F b q V (p + 8 * k) ∧ Bd F wr ∧ Blk wr g 5 (half q V p n k).toArray ∧ Adv F w F wr

theorem get_int' (b q V a : Nat) (n : Int) (F : Nat → Prop) (w : World) (hw : RSt w F b q V a) (hF : Bd F w) (hn0 : 0 ≤ n) (hn : n ≤ 64) (hx : a + n.toNat ≤ 8 * q) :
    Calls Try.prog 80 #[.pointer (some ⟨b, 0, none⟩), .int .i64 n] w fun e w' => e = .returned (.int .u64 ((bitsAt q V a n.toNat : Nat) : Int)) ∧ RSt w' F b q V (a + n.toNat) ∧ Adv (· = b) w (· = b) w' ∧ Bd F w' := by
  obtain ⟨k, rfl⟩ := Int.eq_ofNat_of_zero_le hn0
  exact take_any b q V a k F w hw hF (by omega) hx

theorem RSt.alloc {w : World} {F : Nat → Prop} {b q V a : Nat} (h : RSt w F b q V a) (hb : Bd F w) (o : Obj) : RSt (w.alloc o) F b q V a := by
  obtain ⟨v, h1, h2⟩ := h.ex
  exact ⟨⟨v, h1.alloc _, own_keep h2.own (fun k hk => Below.heap_alloc _ _ _ (hb k (h2.inF k hk))), h2.inF, fun k hk => by have := hb k hk; simp; omega⟩, h.inF, h.le, h.sm⟩

theorem RSt.setCell {w : World} {F : Nat → Prop} {b q V a : Nat} (h : RSt w F b q V a) (hb : Bd F w) {p : Addr} (hp : ¬ F p.block) (u : Value) : RSt (w.setCell p u) F b q V a := by
  obtain ⟨v, h1, h2⟩ := h.ex
  exact ⟨⟨v, h1.far (fun e => hp (by rw [← e]; exact h.inF)) _, own_keep h2.own (fun k hk => Below.heap_setCell _ _ _ _ (fun e => hp (by rw [← e]; exact h2.inF k hk))), h2.inF, fun k hk => by have := hb k hk; simpa [World.setCell] using this⟩, h.inF, h.le, h.sm⟩

set_option maxRecDepth 3000 in
set_option maxHeartbeats 1000000 in
theorem rtext_ok (b q V a n : Nat) (F : Nat → Prop) (w : World) (hw : RSt w F b q V a) (hF : Bd F w) (hn : n = bitsAt q V a 16) (hx : a + 16 + 8 * n ≤ 8 * q) :
    Calls Try.prog 76 #[.pointer (some ⟨b, 0, none⟩)] w fun e w' => e = .returned (.string ⟨(bytesAt q V (a + 16) n).toArray⟩) ∧ RSt w' F b q V (a + 16 + 8 * n) ∧ Adv F w F w' ∧ Bd F w' := by
  have hn16 : n < 65536 := by rw [hn]; exact bitsAt_lt q V a 16
  have hmk := make_bytes n (by omega)
  have hleft : (n : Int) * 8 ≤ ((8 * q - (a + 16) : Nat) : Int) := by omega
  have H := Lib.hid hw
  have HN := Lib.hid hn
  clear hw hn
  go_enter Try.func76, Try.ntmps76
  go_wp2_with (first
    | (go_at_call 74; refine (get_int _ _ _ _ _ _ _ H.out hF (by decide) (by decide) (by simp; omega)).mono ?_; rintro e w1 ⟨rfl, h1, a1, b1⟩; rw [show bitsAt q V a (16 : Int).toNat = n from HN.out.symm])
    | (go_at_call 78; refine (rerr_ok _ _ _ _ _ _ h1).mono ?_; rintro e w2 ⟨rfl, rfl⟩)
    | (go_at_call 79; refine (left_ok _ _ _ _ _ _ h1).mono ?_; rintro e w3 ⟨rfl, nd, rfl⟩))
  have hgF : ¬ F w1.heap.size := fun h => Nat.lt_irrefl _ (b1 _ h)
  have hbg : b ≠ w1.heap.size := fun e => hgF (by rw [← e]; exact h1.inF)
  have hgb : w1.heap.size ≠ b := hbg.symm
  have h0 : rtextRel w b q V (a + 16) n w1.heap.size F (.int .i64 0) ((w1.drewN nd).alloc (.cells (madeCells #[.int .u8 0] n) 5)) :=
    ⟨0, rfl, Nat.zero_le _, (h1.drewN nd).alloc (w := w1.drewN nd) b1 _, fun k hk => by have := b1 k hk; simp; omega, by rw [half_made]; exact Blk.new (w1.drewN nd) _ _, (a1.drewN nd).alloc _⟩
  have H0 := Lib.hid h0
  obtain ⟨g, hg⟩ : ∃ g, g = w1.heap.size := ⟨_, rfl⟩
  have hgw := a1.size
  rw [← hg] at hgF hbg hgb H0 hgw
  rw [← hg]
  clear h0 h1 a1 b1 hg
  go_loopw [22] (rtextRel w b q V (a + 16) n g F) (fun t _ => n - (intOf t).toNat)
  case atStart => exact H0.out
  case round =>
    obtain ⟨k, rfl, hk, hR, hb, hB, hA⟩ := hrel
    have HR := Lib.hid hR
    have HA := Lib.hid hA
    have HB := Lib.hid hB
    clear hR hA hB
    by_cases hlt : k < n
    · have hbit : ((bitsAt q V (a + 16 + 8 * k) 8 : Nat) : Int) < 256 := by have := bitsAt_lt q V (a + 16 + 8 * k) 8; omega
      go_wp2_with (first
        | (go_at_call 80; refine (get_int' _ _ _ _ _ _ _ HR.out hb (by decide) (by decide) (by simp; omega)).mono ?_; rintro e w2 ⟨rfl, h2, a2, b2⟩; have hB2 : Blk w2 g 5 (half q V (a + 16) n k).toArray := HB.out.keep (a2.block g HB.out.lt hgb); have hc2 : w2.cell? ⟨g, k, none⟩ = some (.int .u8 0) := (by rw [hB2.cell]; simpa using half_at q V (a + 16) n k hlt); have hf2 := hB2.frozen k))
      refine ⟨⟨k + 1, by simp, by omega, (RSt.setCell h2 b2 hgF _), fun i hi => by have := b2 i hi; simpa [World.setCell] using this, ?_, ?_⟩, by simp [intOf]; omega⟩
      · rw [← half_set q V (a + 16) n k hlt]
        have h := hB2.set_ k (.int .u8 ((bitsAt q V (a + 16 + 8 * k) 8 : Nat) : Int))
        simpa using h
      · exact (HA.out.trans (a2.same (fun i hi => by rw [hi]; exact HR.out.inF))).setCell (p := ⟨g, k, none⟩) (.inr hgw) _
    · obtain rfl : k = n := by omega
      have hcv := run_convert_bytes_back (P := Try.prog) wr 38 9 5 ⟨g, 0, none⟩ k (bytesAt q V (a + 16) k) Try.underlying38 Try.underlying5 Try.underlying9 (fun j hj => by
        rw [addr_none, Nat.zero_add, HB.out.cell]
        simp [half, List.getElem?_eq_getElem hj])
      rw [bytesAt_length] at hcv
      go_wp2
      go_ret
      exact ⟨rfl, HR.out, HA.out, hb⟩

set_option maxRecDepth 3000 in
theorem rtext_err (b : Nat) (x : Int) (F : Nat → Prop) (w : World) (hw : RErr w F b x) :
    Calls Try.prog 76 #[.pointer (some ⟨b, 0, none⟩)] w fun e w' => e = .returned (.string ⟨#[]⟩) ∧ w = w' := by
  have hx := hw.ne
  have H := Lib.hid hw
  clear hw
  go_enter Try.func76, Try.ntmps76
  go_wp2_with (first
    | (go_at_call 74; refine (get_err _ _ _ _ _ H.out).mono ?_; rintro e w1 ⟨rfl, rfl⟩)
    | (go_at_call 78; refine (rerr_err _ _ _ _ H.out).mono ?_; rintro e w1 ⟨rfl, rfl⟩))
  go_ret
  exact ⟨rfl, rfl⟩

theorem get_short_int (b q V a : Nat) (n : Int) (F : Nat → Prop) (w : World) (hw : RSt w F b q V a) (hF : Bd F w) (hn0 : 0 ≤ n) (hn : n ≤ 64) (hx : 8 * q < a + n.toNat) :
    Calls Try.prog 74 #[.pointer (some ⟨b, 0, none⟩), .int .i64 n] w fun e w' => e = .returned (.int .u64 0) ∧ RErr w' F b 3 ∧ Adv F w F w' := by
  obtain ⟨k, rfl⟩ := Int.eq_ofNat_of_zero_le hn0
  exact get_short b q V a k F w hw hF (by omega) hx

set_option maxRecDepth 3000 in
theorem rtext_short (b q V a : Nat) (F : Nat → Prop) (w : World) (hw : RSt w F b q V a) (hF : Bd F w) (hx : 8 * q < a + 16 ∨ 8 * q < a + 16 + 8 * bitsAt q V a 16) :
    Calls Try.prog 76 #[.pointer (some ⟨b, 0, none⟩)] w fun e w' => e = .returned (.string ⟨#[]⟩) ∧ RErr w' F b 3 ∧ Adv F w F w' := by
  have H := Lib.hid hw
  clear hw
  by_cases h16 : 8 * q < a + 16
  · clear hx
    go_enter Try.func76, Try.ntmps76
    go_wp2_with (first
      | (go_at_call 74; refine (get_short_int _ _ _ _ _ _ _ H.out hF (by decide) (by decide) (by simp; omega)).mono ?_; rintro e w1 ⟨rfl, h1, a1⟩)
      | (go_at_call 78; refine (rerr_err _ _ _ _ h1).mono ?_; rintro e w1 ⟨rfl, rfl⟩))
    go_ret
    exact ⟨rfl, h1, a1⟩
  · obtain ⟨n, hn⟩ : ∃ n, n = bitsAt q V a 16 := ⟨_, rfl⟩
    have hn16 : n < 65536 := by rw [hn]; exact bitsAt_lt q V a 16
    rw [← hn] at hx
    have hleft : ((8 * q - (a + 16) : Nat) : Int) < (n : Int) * 8 := by omega
    have HN := Lib.hid hn
    clear hn hx
    go_enter Try.func76, Try.ntmps76
    go_wp2_with (first
      | (go_at_call 74; refine (get_int _ _ _ _ _ _ _ H.out hF (by decide) (by decide) (by simp; omega)).mono ?_; rintro e w1 ⟨rfl, h1, a1, b1⟩; rw [show bitsAt q V a (16 : Int).toNat = n from HN.out.symm])
      | (go_at_call 78; refine (rerr_ok _ _ _ _ _ _ h1).mono ?_; rintro e w2 ⟨rfl, rfl⟩)
      | (go_at_call 79; refine (left_ok _ _ _ _ _ _ h1).mono ?_; rintro e w3 ⟨rfl, nd, rfl⟩)
      | (go_at_call 88; refine (rfail_any _ _ _ _ _ (by decide) _ _ (h1.drewN nd) b1).mono ?_; rintro e w4 ⟨rfl, h4, a4⟩))
    go_ret
    exact ⟨rfl, h4, a1.trans (Adv.of_drewN a4)⟩
end Go.Proofs.Ytpgeebhepegpaaa
