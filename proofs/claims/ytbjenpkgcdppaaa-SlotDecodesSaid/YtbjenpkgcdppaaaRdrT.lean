/- The document's own reader: Text. -/
import Derived.Test.YtbjenpkgcdppaaaRdrG
namespace Go.Proofs.Ytbjenpkgcdppaaa
open Go.RowKit

theorem xget_int (c q V a : Nat) (n : Int) (G : Nat → Prop) (w : World) (h : XSt w G c q V a) (h0 : 0 ≤ n) (hn : n ≤ 64) (hx : a + n.toNat ≤ 8 * q) :
    Calls Try.prog 32 #[.pointer (some ⟨c, 0, none⟩), .int .i64 n] w fun e w' => e = .returned (.int .u64 ((bitsAt q V a n.toNat : Nat) : Int)) ∧ XSt w' G c q V (a + n.toNat) ∧ Adv G w G w' := by
  obtain ⟨k, rfl⟩ := Int.eq_ofNat_of_zero_le h0
  exact xget_ok c q V a k G w h (by omega) hx
theorem xget_short_int (c q V a : Nat) (n : Int) (G : Nat → Prop) (w : World) (h : XSt w G c q V a) (h0 : 0 ≤ n) (hn : n ≤ 64) (hx : 8 * q < a + n.toNat) :
    Calls Try.prog 32 #[.pointer (some ⟨c, 0, none⟩), .int .i64 n] w fun e w' => e = .returned (.int .u64 0) ∧ XErr w' G c 3 ∧ Adv G w G w' := by
  obtain ⟨k, rfl⟩ := Int.eq_ofNat_of_zero_le h0
  exact xget_short c q V a k G w h (by omega) hx

set_option maxRecDepth 3000 in
theorem xtext_err (c : Nat) (x : Int) (G : Nat → Prop) (w : World) (h : XErr w G c x) :
    Calls Try.prog 33 #[.pointer (some ⟨c, 0, none⟩)] w fun e w' => e = .returned (.string ⟨#[]⟩) ∧ w = w' := by
  obtain ⟨sv, hB⟩ := h.ex
  have c1 : w.cell? ⟨c, 1, none⟩ = some (.int .i64 x) := hB.cell 1
  have hx := h.ne
  have hx0 : (x == 0) = false := by simpa using hx
  have H := Lib.hid h
  clear hB h
  go_enter Try.func33, Try.ntmps33
  go_wp2_with (first
    | (go_at_call 32; refine (xget_err _ _ _ _ _ H.out).mono ?_; rintro e w1 ⟨rfl, rfl⟩)
    | fail)
  go_ret
  exact ⟨rfl, rfl⟩

theorem XErr.cells {w : World} {G : Nat → Prop} {c : Nat} {x : Int} (h : XErr w G c x) : w.cell? ⟨c, 1, none⟩ = some (.int .i64 x) := by
  obtain ⟨sv, hB⟩ := h.ex
  exact hB.cell 1
theorem XSt.cells {w : World} {G : Nat → Prop} {c q V a : Nat} (h : XSt w G c q V a) : ∃ A cap, w.cell? ⟨c, 0, none⟩ = some (.slice A (8 * q - a) cap) ∧ w.cell? ⟨c, 1, none⟩ = some (.int .i64 0) ∧ w.frozen? ⟨c, 1, none⟩ = false := by
  obtain ⟨sv, l, hB, hR, _, _⟩ := h.ex
  obtain ⟨A, cap, rfl, _, _⟩ := hR.form
  exact ⟨A, cap, hB.cell 0, hB.cell 1, hB.frozen 1⟩
theorem XSt.fail {w : World} {G : Nat → Prop} {c q V a : Nat} (h : XSt w G c q V a) : XErr (w.setCell ⟨c, 1, none⟩ (.int .i64 3)) G c 3 ∧ Adv G w G (w.setCell ⟨c, 1, none⟩ (.int .i64 3)) ∧ (w.setCell ⟨c, 1, none⟩ (.int .i64 3)).cell? ⟨c, 1, none⟩ = some (.int .i64 3) := by
  obtain ⟨sv, l, hB, _, _, _⟩ := h.ex
  obtain ⟨h1, h2⟩ := XErr.made (x := 3) hB h.inG h.bd (by decide)
  exact ⟨h1, h2, h1.cells⟩

set_option maxRecDepth 3000 in
set_option maxHeartbeats 400000 in
theorem xtext_short (c q V a : Nat) (G : Nat → Prop) (w : World) (h : XSt w G c q V a) (hx : 8 * q < a + 16 ∨ 8 * q < a + 16 + 8 * bitsAt q V a 16) :
    Calls Try.prog 33 #[.pointer (some ⟨c, 0, none⟩)] w fun e w' => e = .returned (.string ⟨#[]⟩) ∧ XErr w' G c 3 ∧ Adv G w G w' := by
  have H := Lib.hid h
  clear h
  by_cases h16 : 8 * q < a + 16
  · clear hx
    go_enter Try.func33, Try.ntmps33
    go_wp2_with (first
      | (go_at_call 32; refine (xget_short_int _ _ _ _ _ _ _ H.out (by decide) (by decide) (by simp; omega)).mono ?_; rintro e w1 ⟨rfl, h1, a1⟩; have hc1 := h1.cells)
      | fail)
    go_ret
    exact ⟨rfl, h1, a1⟩
  · obtain ⟨n, hn⟩ : ∃ n, n = bitsAt q V a 16 := ⟨_, rfl⟩
    have hn16 : n < 65536 := by rw [hn]; exact bitsAt_lt q V a 16
    rw [← hn] at hx
    have HN := Lib.hid hn
    have hle : 8 * q - (a + 16) < 8 * n := by omega
    clear hn hx
    go_enter Try.func33, Try.ntmps33
    go_wp2_with fail
    refine (xget_int _ _ _ _ _ _ _ H.out (by decide) (by decide) (by simp; omega)).mono ?_
    rintro e w1 ⟨rfl, h1, a1⟩
    rw [show bitsAt q V a (16 : Int).toNat = n from HN.out.symm]
    obtain ⟨A, cap, k0, k1, kf⟩ := h1.cells
    obtain ⟨f1, f2, f3⟩ := h1.fail
    rw [show a + (16 : Int).toNat = a + 16 from rfl] at k0
    obtain ⟨m, hm⟩ : ∃ m, m = 8 * q - (a + 16) := ⟨_, rfl⟩
    rw [← hm] at k0 hle
    have F1 := Lib.hid f1
    have F2 := Lib.hid f2
    have hmn : (m : Int) < 8 * (n : Int) := by omega
    clear hm f1 f2 h1
    go_wp2
    go_ret
    exact ⟨rfl, F1.out, a1.trans F2.out⟩

theorem rd_one (w : World) (v : Value) (t : TypeId) : Rd (w.alloc (.cells #[v] t)) 1 (.slice (some ⟨w.heap.size, 0, none⟩) 1 1) 1 [v] := by
  refine ⟨_, 1, rfl, Nat.le_refl _, by unfold maxLen; decide, rfl, fun h => (by cases h), fun _ => ⟨_, rfl, by simp, fun j u hu => ?_⟩⟩
  rw [addr_none, Nat.zero_add, (Blk.new w t #[v]).cell j, List.getElem?_toArray]
  exact hu

def bytesN (q V p n : Nat) : List Nat := (bytesAt q V p n).map UInt8.toNat
theorem bytesN_next (q V p n : Nat) : bytesN q V p (n + 1) = bytesN q V p n ++ [bitsAt q V (p + 8 * n) 8] := by
  unfold bytesN bytesAt
  rw [List.range_succ]
  simp [byteAt_toNat]

def XTextRel (w : World) (G : Nat → Prop) (c q V p n : Nat) (t4 t5 : Value) (wr : World) : Prop :=
  ∃ k F, t5 = .int .i64 ((k : Nat) : Int) ∧ k ≤ n ∧ XSt wr G c q V (p + 8 * k) ∧ Sl wr F 5 1 t4 k ((bytesN q V p k).map u8) ∧ Sep F G ∧ (∀ j, F j → w.heap.size ≤ j) ∧ Adv G w G wr ∧ (k = 0 → t4 = .slice none 0 0)

theorem xtext_step {w wr w1 w2 : World} {F G : Nat → Prop} {c q V p n k : Nat} {v v' : Value} {o : Obj} (hS : Sl wr F 5 1 v k ((bytesN q V p k).map u8)) (hsep : Sep F G) (hF : ∀ j, F j → w.heap.size ≤ j) (hA : Adv G w G wr)
    (hX : XSt w1 G c q V (p + 8 * k + 8)) (a1 : Adv G wr G w1) (hown : w2.ownsRow 0 5 1 v' (k + 1) ((bytesN q V p k).map u8 ++ [.int .u8 ((bitsAt q V (p + 8 * k) 8 : Nat) : Int)])) (hg : (w1.alloc o).grownBy w2 v.ownBlock)
    (hat : v'.ownBlock = v.ownBlock ∨ v'.ownBlock = some (w1.alloc o).heap.size) (hk : k < n) : XTextRel w G c q V p n v' (.int .i64 ((k : Int) + 1)) w2 := by
  have hS1 := hS.far a1 hsep.symm
  have hin : ∀ j, (F j ∨ v'.ownBlock = some j) → F j ∨ w1.heap.size ≤ j := by
    rintro j (h | h)
    · exact .inl h
    · rcases hat with e | e
      · exact .inl (hS.inF j (by rw [← e]; exact h))
      · rw [e] at h; injection h with h; right; simp at h; omega
  have hA2 : Adv F w1 (fun j => F j ∨ v'.ownBlock = some j) w2 := by
    have h1 := ((Adv.refl F w1).alloc o).grown hg (fun j hj => .inl (hS.inF j hj))
    exact ⟨h1.os, h1.tape, h1.output, h1.size, h1.block, hin⟩
  have hX2 := hX.far hA2 hsep
  refine ⟨k + 1, (fun j => F j ∨ v'.ownBlock = some j), by simp, by omega, ?_, ⟨?_, fun j hj => .inr hj, ?_⟩, ?_, ?_, ?_, fun h => by omega⟩
  · rw [show p + 8 * (k + 1) = p + 8 * k + 8 from by omega]; exact hX2
  · rw [bytesN_next, List.map_append]; exact hown
  · rintro j (h | h)
    · exact Nat.lt_of_lt_of_le (hS1.bd j h) hA2.size
    · exact (hown.lt j h).2
  · intro j hj hG
    rcases hin j hj with h | h
    · exact hsep j h hG
    · have := hX.bd j hG; omega
  · intro j hj
    rcases hin j hj with h | h
    · exact hF j h
    · exact Nat.le_trans (Nat.le_trans hA.size a1.size) h
  · have hb := hA.trans a1
    exact ⟨hA2.os.trans hb.os, hA2.tape.trans hb.tape, hA2.output.trans hb.output, Nat.le_trans hb.size hA2.size, fun j hj hn => (hA2.block j (Nat.lt_of_lt_of_le hj hb.size) (fun hf => by have := hF j hf; omega)).trans (hb.block j hj hn), fun j hj => .inl hj⟩

set_option maxRecDepth 3000 in
set_option maxHeartbeats 1000000 in
theorem xtext_ok (c q V a n : Nat) (G : Nat → Prop) (w : World) (h : XSt w G c q V a) (hn : n = bitsAt q V a 16) (hx : a + 16 + 8 * n ≤ 8 * q) :
    Calls Try.prog 33 #[.pointer (some ⟨c, 0, none⟩)] w fun e w' => e = .returned (.string ⟨(bytesAt q V (a + 16) n).toArray⟩) ∧ XSt w' G c q V (a + 16 + 8 * n) ∧ Adv G w G w' := by
  have hn16 : n < 65536 := by rw [hn]; exact bitsAt_lt q V a 16
  have H := Lib.hid h
  have HN := Lib.hid hn
  clear h hn
  go_enter Try.func33, Try.ntmps33
  go_wp2_with fail
  refine (xget_int _ _ _ _ _ _ _ H.out (by decide) (by decide) (by simp; omega)).mono ?_
  rintro e w1 ⟨rfl, h1, a1⟩
  rw [show bitsAt q V a (16 : Int).toNat = n from HN.out.symm]
  rw [show a + (16 : Int).toNat = a + 16 from rfl] at h1
  obtain ⟨A, cap, k0, k1, kf⟩ := h1.cells
  obtain ⟨m, hm⟩ : ∃ m, m = 8 * q - (a + 16) := ⟨_, rfl⟩
  rw [← hm] at k0
  have hmn : 8 * (n : Int) ≤ (m : Int) := by omega
  have H1 := Lib.hid h1
  have A1 := Lib.hid a1
  clear hm h1 a1
  go_wp2_with fail
  have h0 : XTextRel w G c q V (a + 16) n (.slice none 0 0) (.int .i64 0) w1 :=
    ⟨0, Nul, rfl, Nat.zero_le _, H1.out, Sl.nil _ _ _, fun _ h _ => h, fun _ h => h.elim, A1.out, fun _ => rfl⟩
  have H0 := Lib.hid h0
  clear h0 k0 k1 kf hmn
  go_loopw [4, 5] (XTextRel w G c q V (a + 16) n) (fun _ t _ => n - (intOf t).toNat)
  case atStart => exact H0.out
  case round =>
    clear H0
    obtain ⟨k, F, rfl, hk, hX, hS, hsep, hF, hA, hz⟩ := hrel
    obtain ⟨a4, c4, rfl, _, _⟩ := hS.form0
    have HX := Lib.hid hX
    have HS := Lib.hid hS
    have HSP := Lib.hid hsep
    have HF := Lib.hid hF
    have HA := Lib.hid hA
    have HZ := Lib.hid hz
    clear hX hS hsep hF hA hz
    by_cases hlt : k < n
    · have hbit : ((bitsAt q V (a + 16 + 8 * k) 8 : Nat) : Int) < 256 := by have := bitsAt_lt q V (a + 16 + 8 * k) 8; omega
      obtain ⟨y, hy⟩ : ∃ y, y = bitsAt q V (a + 16 + 8 * k) 8 := ⟨_, rfl⟩
      rw [← hy] at hbit
      have HY := Lib.hid hy
      clear hy
      go_wp2_with fail
      refine (xget_int _ _ _ _ _ _ _ HX.out (by decide) (by decide) (by simp; omega)).mono ?_
      rintro e w2 ⟨rfl, h2, a2⟩
      rw [show bitsAt q V (a + 16 + 8 * k) (8 : Int).toNat = y from HY.out.symm]
      rw [show a + 16 + 8 * k + (8 : Int).toNat = a + 16 + 8 * k + 8 from rfl] at h2
      have hS2 := HS.out.far a2 HSP.out.symm
      have H2 := Lib.hid h2
      have A2 := Lib.hid a2
      have hown := hS2.own
      clear h2 a2
      go_wp2_with (first
        | (at_builtin; refine wpList_append_rd rfl (.tmp 37) (.tmp 41) rfl rfl rfl (hown.alloc _) (rd_one w2 (.int .u8 (y : Int)) _) ?d1 ?d2 ?d3)
        | fail)
      case d1 => intro u hu; simp at hu; subst hu; rfl
      case d2 => omega
      case d3 =>
        intro v' w3 hown3 hg3 hat3
        have hnx := xtext_step (n := n) HS.out HSP.out HF.out HA.out H2.out A2.out (by rw [← HY.out]; exact hown3) hg3 (by simpa using hat3) hlt
        have HNX := Lib.hid hnx
        clear hnx hown3 hg3 hat3 hS2 hown
        go_wp2
        exact ⟨HNX.out, by simp [intOf]; omega⟩
    · obtain rfl : k = n := by omega
      by_cases hk0 : k = 0
      · have hv := HZ.out hk0
        injection hv with v1 v2 v3
        subst v1 v3
        have hcv := run_convert_bytes_nil (P := Try.prog) wr 30 5 Try.underlying30 Try.underlying5 k 0 9 Try.underlying9
        have hb : ByteArray.empty = ⟨(bytesAt q V (a + 16) k).toArray⟩ := by rw [hk0]; rfl
        have HB := Lib.hid hb
        clear hk0 hb v2
        go_wp2
        go_ret
        exact ⟨congrArg (fun s => Ending.returned (Value.string s)) HB.out, HX.out, HA.out⟩
      · obtain ⟨g, cap4, e4, hFg, _⟩ := HS.out.form (by omega)
        injection e4 with v1 v2 v3
        subst v1 v3
        have hcv := run_convert_bytes_back (P := Try.prog) wr 30 9 5 ⟨g, 0, none⟩ c4 (bytesAt q V (a + 16) k) Try.underlying30 Try.underlying5 Try.underlying9 (fun j hj => by
          have hl : j < k := by rwa [bytesAt_length] at hj
          rw [addr_none, Nat.zero_add, HS.out.own.cellAt j (by omega), List.getElem?_map]
          simp [bytesN, u8, List.getElem?_eq_getElem hj])
        rw [bytesAt_length] at hcv
        clear v2 hk0
        go_wp2
        go_ret
        exact ⟨rfl, HX.out, HA.out⟩
end Go.Proofs.Ytbjenpkgcdppaaa
