/- BitsReads: both readers go alike. -/
import Derived.Test.YtplibkdnfjofdaaRdrT
import Derived.Test.YtplibkdnfjofdaaArgDo
import Derived.Deep.RegionHeld3
namespace Go.Proofs.Ytplibkdnfjofdaa
open Go.RowKit

/-- a reader's place: how many bits were read, or an error -/
inductive RS where
  | ok (a : Nat)
  | err (e : Int)
def R1 (w : World) (F : Nat → Prop) (b q V : Nat) : RS → Prop
  | .ok a => RSt w F b q V a
  | .err e => RErr w F b e
def X1 (w : World) (G : Nat → Prop) (c q V : Nat) : RS → Prop
  | .ok a => XSt w G c q V a
  | .err e => XErr w G c e
def errOf : RS → Int
  | .ok _ => 0
  | .err e => e
def leftOf (q : Nat) : RS → Nat
  | .ok a => 8 * q - a
  | .err _ => 0
def endS (q V : Nat) : RS → Int
  | .ok a => endOf q V a
  | .err e => e
def getS (q V : Nat) (s : RS) (n : Int) : RS × Nat :=
  match s with
  | .err e => (.err e, 0)
  | .ok a => if n < 0 ∨ 64 < n then (.err 2, 0) else if 8 * q < a + n.toNat then (.err 3, 0) else (.ok (a + n.toNat), bitsAt q V a n.toNat)
def textS (q V : Nat) (s : RS) : RS × ByteArray :=
  match s with
  | .err e => (.err e, ⟨#[]⟩)
  | .ok a => if 8 * q < a + 16 ∨ 8 * q < a + 16 + 8 * bitsAt q V a 16 then (.err 3, ⟨#[]⟩) else (.ok (a + 16 + 8 * bitsAt q V a 16), ⟨(bytesAt q V (a + 16) (bitsAt q V a 16)).toArray⟩)

theorem RErr.bd' {w : World} {F : Nat → Prop} {b : Nat} {e : Int} (h : RErr w F b e) : Bd F w := h.bd

theorem get_s (b q V : Nat) (s : RS) (n : Int) (F : Nat → Prop) (w : World) (h : R1 w F b q V s) (hb : Bd F w) :
    Calls Try.prog 9 #[.pointer (some ⟨b, 0, none⟩), .int .i64 n] w fun e w' => e = .returned (.int .u64 (((getS q V s n).2 : Nat) : Int)) ∧ R1 w' F b q V (getS q V s n).1 ∧ Adv F w F w' ∧ Bd F w' := by
  cases s with
  | err x =>
    refine (get_err b n x F w h).mono ?_
    rintro e w' ⟨rfl, rfl⟩
    exact ⟨rfl, h, Adv.refl _ _, hb⟩
  | ok a =>
    unfold getS
    by_cases h1 : n < 0 ∨ 64 < n
    · simp only [if_pos h1]
      refine (get_width b q V a n F w h hb h1).mono ?_
      rintro e w' ⟨rfl, h2, h3⟩
      exact ⟨rfl, h2, h3, h3.bd hb⟩
    · simp only [if_neg h1]
      obtain ⟨k, rfl⟩ := Int.eq_ofNat_of_zero_le (show 0 ≤ n by omega)
      by_cases h2 : 8 * q < a + k
      · simp only [Int.toNat_natCast, if_pos h2]
        refine (get_short b q V a k F w h hb (by omega) h2).mono ?_
        rintro e w' ⟨rfl, h2, h3⟩
        exact ⟨rfl, h2, h3, h3.bd hb⟩
      · simp only [Int.toNat_natCast, if_neg h2]
        refine (get_ok b q V a k F w h hb (by omega) (by omega)).mono ?_
        rintro e w' ⟨rfl, h2, h3, h4⟩
        exact ⟨rfl, h2, h3, h4⟩

theorem xget_s (c q V : Nat) (s : RS) (n : Int) (G : Nat → Prop) (w : World) (h : X1 w G c q V s) :
    Calls Try.prog 10 #[.pointer (some ⟨c, 0, none⟩), .int .i64 n] w fun e w' => e = .returned (.int .u64 (((getS q V s n).2 : Nat) : Int)) ∧ X1 w' G c q V (getS q V s n).1 ∧ Adv G w G w' := by
  cases s with
  | err x =>
    refine (xget_err c n x G w h).mono ?_
    rintro e w' ⟨rfl, rfl⟩
    exact ⟨rfl, h, Adv.refl _ _⟩
  | ok a =>
    unfold getS
    by_cases h1 : n < 0 ∨ 64 < n
    · simp only [if_pos h1]
      exact xget_width c q V a n G w h h1
    · simp only [if_neg h1]
      obtain ⟨k, rfl⟩ := Int.eq_ofNat_of_zero_le (show 0 ≤ n by omega)
      by_cases h2 : 8 * q < a + k
      · simp only [Int.toNat_natCast, if_pos h2]
        exact xget_short c q V a k G w h (by omega) h2
      · simp only [Int.toNat_natCast, if_neg h2]
        exact xget_ok c q V a k G w h (by omega) (by omega)

theorem text_s (b q V : Nat) (s : RS) (F : Nat → Prop) (w : World) (h : R1 w F b q V s) (hb : Bd F w) :
    Calls Try.prog 11 #[.pointer (some ⟨b, 0, none⟩)] w fun e w' => e = .returned (.string (textS q V s).2) ∧ R1 w' F b q V (textS q V s).1 ∧ Adv F w F w' ∧ Bd F w' := by
  cases s with
  | err x =>
    refine (rtext_err b x F w h).mono ?_
    rintro e w' ⟨rfl, rfl⟩
    exact ⟨rfl, h, Adv.refl _ _, hb⟩
  | ok a =>
    unfold textS
    by_cases h1 : 8 * q < a + 16 ∨ 8 * q < a + 16 + 8 * bitsAt q V a 16
    · simp only [if_pos h1]
      refine (rtext_short b q V a F w h hb h1).mono ?_
      rintro e w' ⟨rfl, h2, h3⟩
      exact ⟨rfl, h2, h3, h3.bd hb⟩
    · simp only [if_neg h1]
      exact rtext_ok b q V a _ F w h hb rfl (by omega)

theorem xtext_s (c q V : Nat) (s : RS) (G : Nat → Prop) (w : World) (h : X1 w G c q V s) :
    Calls Try.prog 12 #[.pointer (some ⟨c, 0, none⟩)] w fun e w' => e = .returned (.string (textS q V s).2) ∧ X1 w' G c q V (textS q V s).1 ∧ Adv G w G w' := by
  cases s with
  | err x =>
    refine (xtext_err c x G w h).mono ?_
    rintro e w' ⟨rfl, rfl⟩
    exact ⟨rfl, h, Adv.refl _ _⟩
  | ok a =>
    unfold textS
    by_cases h1 : 8 * q < a + 16 ∨ 8 * q < a + 16 + 8 * bitsAt q V a 16
    · simp only [if_pos h1]
      exact xtext_short c q V a G w h h1
    · simp only [if_neg h1]
      exact xtext_ok c q V a _ G w h rfl (by omega)

theorem err_s (b q V : Nat) (s : RS) (F : Nat → Prop) (w : World) (h : R1 w F b q V s) :
    Calls Try.prog 13 #[.pointer (some ⟨b, 0, none⟩)] w fun e w' => e = .returned (.int .i64 (errOf s)) ∧ w = w' := by
  cases s with
  | err x => exact rerr_err b x F w h
  | ok a => exact rerr_ok b q V a F w h
theorem left_s (b q V : Nat) (s : RS) (F : Nat → Prop) (w : World) (h : R1 w F b q V s) :
    Calls Try.prog 14 #[.pointer (some ⟨b, 0, none⟩)] w fun e w' => e = .returned (.int .i64 ((leftOf q s : Nat) : Int)) ∧ ∃ n, w' = w.drewN n := by
  cases s with
  | err x =>
    refine (left_err b x F w h).mono ?_
    rintro e w' ⟨rfl, rfl⟩
    exact ⟨rfl, 0, rfl⟩
  | ok a => exact left_ok b q V a F w h
theorem end_s (b q V : Nat) (s : RS) (F : Nat → Prop) (w : World) (h : R1 w F b q V s) (hb : Bd F w) :
    Calls Try.prog 16 #[.pointer (some ⟨b, 0, none⟩)] w fun e w' => e = .returned (.int .i64 (endS q V s)) ∧ Below w.heap.size w w' := by
  cases s with
  | err x =>
    refine (rend_err b x F w h).mono ?_
    rintro e w' ⟨rfl, rfl⟩
    exact ⟨rfl, Below.refl _ _⟩
  | ok a => exact rend_ok b q V a F w h hb
theorem xleft_s (c q V : Nat) (s : RS) (G : Nat → Prop) (w : World) (h : X1 w G c q V s) :
    Calls Try.prog 15 #[.pointer (some ⟨c, 0, none⟩)] w fun e w' => e = .returned (.int .i64 ((leftOf q s : Nat) : Int)) ∧ w = w' := by
  cases s with
  | err x => exact xleft_err c x G w h
  | ok a => exact xleft_ok c q V a G w h
theorem xend_s (c q V : Nat) (s : RS) (G : Nat → Prop) (w : World) (h : X1 w G c q V s) :
    Calls Try.prog 17 #[.pointer (some ⟨c, 0, none⟩)] w fun e w' => e = .returned (.int .i64 (endS q V s)) ∧ w = w' := by
  cases s with
  | err x => exact xend_err c x G w h
  | ok a => exact xend_ok c q V a G w h
theorem X1.cell {w : World} {G : Nat → Prop} {c q V : Nat} {s : RS} (h : X1 w G c q V s) : w.cell? ⟨c, 1, none⟩ = some (.int .i64 (errOf s)) := by
  cases s with
  | err x => exact XErr.cells h
  | ok a => obtain ⟨_, _, _, h1, _⟩ := XSt.cells h; exact h1
theorem X1.far {w w' : World} {F F' G : Nat → Prop} {c q V : Nat} {s : RS} (h : X1 w G c q V s) (ha : Adv F w F' w') (hs : Sep F G) : X1 w' G c q V s := by
  cases s with
  | err x => exact XErr.far h ha hs
  | ok a => exact XSt.far h ha hs
theorem RSt.far {w w' : World} {F F' G : Nat → Prop} {b q V a : Nat} (h : RSt w F b q V a) (ha : Adv G w F' w') (hs : Sep G F) (hb : Bd F w) : RSt w' F b q V a := by
  obtain ⟨v, h1, h2⟩ := h.ex
  exact ⟨⟨v, h1.keep (ha.far hs hb b h.inF), h2.far ha hs⟩, h.inF, h.le, h.sm⟩
theorem RErr.far {w w' : World} {F F' G : Nat → Prop} {b : Nat} {e : Int} (h : RErr w F b e) (ha : Adv G w F' w') (hs : Sep G F) : RErr w' F b e := by
  obtain ⟨v, r, h1⟩ := h.ex
  exact ⟨⟨v, r, h1.keep (ha.far hs h.bd b h.inF)⟩, h.ne, h.inF, ha.bd h.bd⟩
theorem R1.far {w w' : World} {F F' G : Nat → Prop} {b q V : Nat} {s : RS} (h : R1 w F b q V s) (ha : Adv G w F' w') (hs : Sep G F) (hb : Bd F w) : R1 w' F b q V s := by
  cases s with
  | err x => exact RErr.far h ha hs
  | ok a => exact RSt.far h ha hs hb
theorem X1.bd {w : World} {G : Nat → Prop} {c q V : Nat} {s : RS} (h : X1 w G c q V s) : Bd G w := by
  cases s with
  | err x => exact XErr.bd h
  | ok a => exact XSt.bd h

/-- the document's reader, made -/
theorem X1.made {w : World} {F : Nat → Prop} {v : Value} {q V : Nat} {bl : List Nat} (h : Sl w F 5 1 v (8 * q) (bl.map u8)) (hl : Bl bl V (8 * q)) :
    X1 (w.alloc (.cells #[v, .int .i64 0] 31)) (fun k => F k ∨ k = w.heap.size) w.heap.size q V (.ok 0) ∧ Adv F w (fun k => F k ∨ k = w.heap.size) (w.alloc (.cells #[v, .int .i64 0] 31)) := by
  refine ⟨⟨⟨v, bl, Blk.new _ _ _, ?_, ?_, fun k hk => ⟨.inl (h.inF k hk), fun e => ?_⟩⟩, .inr rfl, fun k hk => ?_, Nat.zero_le _⟩, ?_⟩
  · exact h.rd.far (fun k hk _ _ => Below.heap_alloc _ _ _ (h.bd k (h.inF k hk))) (by simp)
  · unfold rest
    rw [Nat.sub_zero, Nat.mod_eq_of_lt hl.lt]; exact hl
  · have := h.bd k (h.inF k hk); omega
  · rcases hk with hk | hk
    · have := h.bd k hk; simp; omega
    · simp [hk]
  · have h1 := (Adv.refl F w).alloc (.cells #[v, .int .i64 0] 31)
    exact ⟨h1.os, h1.tape, h1.output, h1.size, h1.block, fun k hk => hk.imp id (fun e => by omega)⟩

theorem X1.inB {w : World} {G : Nat → Prop} {c q V : Nat} {s : RS} (h : X1 w G c q V s) : c < w.heap.size := by
  cases s with
  | err x => exact (XErr.bd h) _ (XErr.inG h)
  | ok a => exact (XSt.bd h) _ (XSt.inG h)

def TurnRel (w : World) (F : Nat → Prop) (v : Value) (n : Nat) (t8 : Value) (wr : World) : Prop :=
  ∃ (k : Nat) (l : List Nat), t8 = .int .i64 ((k : Nat) : Int) ∧ k ≤ n ∧ l.length = n ∧ (∀ x ∈ l, x < 256) ∧ Sl wr F 5 1 v n (l.map u8) ∧ Adv F w F wr

def ReadsRel (W : World) (F0 F G : Nat → Prop) (v : Value) (es : List Do) (b c q V : Nat) (t9 : Value) (wr : World) : Prop :=
  ∃ j s, t9 = .int .i64 ((j : Nat) : Int) ∧ j ≤ es.length ∧ Made wr F0 v es ∧ Bd F wr ∧ R1 wr F b q V s ∧ X1 wr G c q V s ∧ Below W.heap.size W wr

set_option maxRecDepth 100000 in
set_option maxHeartbeats 4000000 in
theorem reads_walk (W : World) (v0 : Value) (hv0 : ∃ l, In W v0 l) (v : Value) (hv : DosArg W v) :
    Calls Try.prog 3 #[v0, v] W fun e w' => e = .returned (.bool true) ∧ Below W.heap.size W w' := by
  obtain ⟨l0, h0⟩ := hv0
  obtain ⟨ds, hd, hx⟩ := hv
  have HI0 := Lib.hid h0
  have HD := Lib.hid hd
  clear hd h0
  go_enter Try.func3, Try.ntmps3
  go_wp2_with fail
  refine (cut_form v0 l0 200 W HI0.out (by decide)).mono ?_
  rintro e w0 ⟨k0, A0, c0, q, rfl, hq, h0, rfl⟩
  have H0 := Lib.hid h0
  clear h0
  go_wp2_with fail
  refine (few_any _ _ _ HD.out).mono ?_
  rintro e w1 ⟨v1, F0, rfl, h1, a1⟩
  have hM1 := fewOf_made hx h1
  have B1 := a1.toBelow
  obtain ⟨es, hes⟩ : ∃ es, es = fewOf ds := ⟨_, rfl⟩
  rw [← hes] at hM1
  obtain ⟨A, c, rfl, hc1, hc2⟩ := hM1.sl.form0
  unfold maxLen at hc2
  have HM1 := Lib.hid hM1
  have HB1 := Lib.hid B1
  have hi1 := H0.out.far B1
  have HI1 := Lib.hid hi1
  have F0new := Lib.hid (a1.from_ (B := W.heap.size) (fun k hk => hk.elim) (Nat.le_refl _))
  clear h1 hx hes hM1 B1 a1 HD hi1
  go_wp2_with fail
  refine (copy_any _ q k0 _ HI1.out.rd (by omega)).mono ?_
  rintro e w2 ⟨v2, Fm, rfl, h2, a2⟩
  obtain ⟨A2, c2, rfl, _, _⟩ := h2.form0
  have hbe := be_byN k0 HI1.out.lt
  rw [← HI1.out.len] at hbe
  obtain ⟨V, hV⟩ : ∃ V, V = byN k0 := ⟨_, rfl⟩
  rw [← hV] at hbe
  have hrd : Rd w2 1 (.slice A2 q c2) q ((be q V).map u8) := by rw [hbe]; exact h2.rd
  have H2 := Lib.hid h2
  have HA2 := Lib.hid a2
  have HRD := Lib.hid hrd
  have HV := Lib.hid hV
  clear h2 a2 hrd hV hbe
  go_wp2_with fail
  refine (open_any _ q V _ HRD.out (by omega)).mono ?_
  rintro e w3 ⟨b, F, rfl, h3, a3, b3⟩
  have hi3 := (HI1.out.far HA2.out.toBelow).far a3.toBelow
  have H3 := Lib.hid h3
  have HA3 := Lib.hid a3
  have HI3 := Lib.hid hi3
  clear h3 a3 hi3
  go_wp2_with fail
  refine (of_any _ q k0 _ HI3.out (by omega)).mono ?_
  rintro e w4 ⟨v4, G0, bl, rfl, h4, hbl, a4⟩
  rw [← HV.out] at hbl
  obtain ⟨A4, c4, rfl, _, _⟩ := h4.form0
  obtain ⟨hX, aX⟩ := X1.made h4 hbl
  have HXX := Lib.hid hX
  have HAX := Lib.hid aX
  have H4 := Lib.hid h4
  have HA4 := Lib.hid a4
  clear h4 a4 hbl hX aX
  go_wp2_with fail
  have aN : Adv Nul w3 (fun k => G0 k ∨ k = w4.heap.size) (w4.alloc (.cells #[.slice A4 (8 * q) c4, .int .i64 0] 31)) := HA4.out.trans HAX.out
  have bd0 : Bd F0 w1 := HM1.out.sl.bd
  have bdm : Bd Fm w2 := H2.out.bd
  have sm0 : Sep Fm F0 := HA2.out.sep (fun _ h _ => h) bd0
  have sF0 : Sep F F0 := HA3.out.sep (fun _ h _ => h) (HA2.out.bd bd0)
  have sFm : Sep F Fm := HA3.out.sep (fun _ h _ => h) bdm
  have sG0 : Sep (fun k => G0 k ∨ k = w4.heap.size) F0 := aN.sep (fun _ h _ => h) (HA3.out.bd (HA2.out.bd bd0))
  have sGm : Sep (fun k => G0 k ∨ k = w4.heap.size) Fm := aN.sep (fun _ h _ => h) (HA3.out.bd bdm)
  have sGF : Sep (fun k => G0 k ∨ k = w4.heap.size) F := aN.sep (fun _ h _ => h) b3
  have hM5 := ((HM1.out.far HA2.out (fun _ h _ => h)).far HA3.out (fun _ h _ => h)).far aN (fun _ h _ => h)
  have hS5 := (H2.out.far HA3.out (fun _ h _ => h)).far aN (fun _ h _ => h)
  have hR5 : R1 (w4.alloc (.cells #[.slice A4 (8 * q) c4, .int .i64 0] 31)) F b q V (.ok 0) := R1.far (s := .ok 0) H3.out aN (fun _ h _ => h) b3
  have hb5 : Bd F (w4.alloc (.cells #[.slice A4 (8 * q) c4, .int .i64 0] 31)) := aN.bd b3
  have B2 := HA2.out.below HB1.out (fun k hk => hk.elim) HB1.out.size
  have B3 := HA3.out.below B2 (fun k hk => hk.elim) B2.size
  have B5 := aN.below B3 (fun k hk => hk.elim) B3.size
  have nm := HA2.out.from_ (B := W.heap.size) (fun k hk => hk.elim) HB1.out.size
  have nF := HA3.out.from_ (B := W.heap.size) (fun k hk => hk.elim) B2.size
  have nG := aN.from_ (B := W.heap.size) (fun k hk => hk.elim) B3.size
  have hX5 := HXX.out
  have hk5 := HI3.out.lt
  have hkl := HI3.out.len
  obtain ⟨G, hG⟩ : ∃ G : Nat → Prop, G = (fun k => G0 k ∨ k = w4.heap.size) := ⟨_, rfl⟩
  have nG' : ∀ k, G k → W.heap.size ≤ k := by rw [hG]; exact nG
  rw [← hG] at sG0 sGm sGF hX5
  obtain ⟨rc, hcc⟩ : ∃ c, c = w4.heap.size := ⟨_, rfl⟩
  rw [← hcc] at hX5 ⊢
  clear HXX HAX H4 HA4 HA3 H3 HI3 H2 HA2 HRD HM1 HB1 HI1 H0 aN hG hcc bd0 bdm B2 B3 b3
  generalize w4.alloc (.cells #[.slice A4 (8 * q) c4, .int .i64 0] 31) = w5 at hM5 hS5 hR5 hb5 B5 hX5 ⊢
  have HM5 := Lib.hid hM5
  have HS5 := Lib.hid hS5
  have HR5 := Lib.hid hR5
  have HX5 := Lib.hid hX5
  have HB5 := Lib.hid B5
  have SM0 := Lib.hid sm0
  have SF0 := Lib.hid sF0
  have SFM := Lib.hid sFm
  have SG0 := Lib.hid sG0
  have SGM := Lib.hid sGm
  have SGF := Lib.hid sGF
  have NM := Lib.hid nm
  have NF := Lib.hid nF
  have NG := Lib.hid nG'
  have HK5 := Lib.hid hk5
  have HKL := Lib.hid hkl
  clear hM5 hS5 hR5 hX5 B5 sm0 sF0 sFm sG0 sGm sGF nm nF nG nG' hk5 hkl
  go_wp2_with fail
  go_loopw [8] (TurnRel w5 Fm (.slice A2 q c2) q) (fun t _ => q - (intOf t).toNat)
  case atStart => exact ⟨0, k0, rfl, Nat.zero_le _, HKL.out.symm, HK5.out, HS5.out, Adv.refl _ _⟩
  case round =>
    obtain ⟨k, l, rfl, hk, hll, hl256, hS, hA⟩ := hrel
    by_cases hlt : k < q
    · obtain ⟨g, cc, e, hFg, _⟩ := hS.form (by omega)
      injection e with e1 e2 e3
      subst e1 e3
      clear e2
      have hkl : k < l.length := by omega
      have hc := hS.at8 hlt hkl
      have hf := hS.own.frozenAt k
      obtain ⟨x, hx⟩ : ∃ x, x = l[k] := ⟨_, rfl⟩
      rw [← hx] at hc
      have hx256 : x < 256 := by rw [hx]; exact hl256 _ (List.getElem_mem _)
      have hset := hS.set8 k ((x + 1) % 256) (((x : Int) + 1) % 256) (by omega)
      have hlen : (l.set k ((x + 1) % 256)).length = q := by rw [List.length_set]; exact hll
      have hlt2 : ∀ y ∈ l.set k ((x + 1) % 256), y < 256 := fun y hy => by
        rcases List.mem_or_eq_of_mem_set hy with h | h
        · exact hl256 y h
        · omega
      have hA' := hA.setCell (p := ⟨g, k, none⟩) (.inl hFg) (.int .u8 (((x : Int) + 1) % 256))
      have HSET := Lib.hid hset
      have HLEN := Lib.hid hlen
      have HLT2 := Lib.hid hlt2
      have HA' := Lib.hid hA'
      clear hset hlen hlt2 hA' hS hA hll hl256 hx hkl
      go_wp2
      exact ⟨⟨k + 1, _, by simp, by omega, HLEN.out, HLT2.out, HSET.out, HA'.out⟩, by simp [intOf]; omega⟩
    · obtain rfl : q = k := by omega
      have hM6 := HM5.out.far hA SM0.out
      have hR6 := HR5.out.far hA SFM.out.symm hb5
      have hX6 := HX5.out.far hA SGM.out.symm
      have hb6 := hA.bd hb5
      have B6 := hA.below HB5.out NM.out HB5.out.size
      have HM6 := Lib.hid hM6
      have HR6 := Lib.hid hR6
      have HX6 := Lib.hid hX6
      have HB6 := Lib.hid B6
      clear hM6 hR6 hX6 B6 hS hA hll hl256 HM5 HS5 HR5 HX5 HB5 hb5
      go_wp2_with fail
      go_loopw [9] (ReadsRel W F0 F G (.slice A es.length c) es b rc q V) (fun t _ => es.length - (intOf t).toNat)
      case atStart => exact ⟨0, .ok 0, rfl, Nat.zero_le _, HM6.out, hb6, HR6.out, HX6.out, HB6.out⟩
      case round =>
        clear HM6 HR6 HX6 HB6 hb6
        obtain ⟨j, s, rfl, hj, hM, hb, hR, hX, hB⟩ := hrel
        have HM := Lib.hid hM
        have HR := Lib.hid hR
        have HX := Lib.hid hX
        have HB := Lib.hid hB
        have HBD := Lib.hid hb
        clear hM hR hX hB hb
        by_cases hlt : j < es.length
        · obtain ⟨g, cap, e, _, _⟩ := HM.out.sl.form (by omega)
          injection e with e1 e2 e3
          subst e1
          subst e3
          clear e2
          obtain ⟨g0, g1, g2, g3⟩ := HM.out.cells hlt
          obtain ⟨d, hd⟩ : ∃ d, d = es[j] := ⟨_, rfl⟩
          rw [← hd] at g0 g1 g2 g3
          have HDD := Lib.hid hd
          clear hd
          by_cases hk : d.kind = 0
          · have hk1 : (d.kind == 0) = true := by simp [hk]
            obtain ⟨p, hp⟩ : ∃ p, p = getS q V s d.n := ⟨_, rfl⟩
            obtain ⟨s', X⟩ := p
            have hg1 : ∀ w, R1 w F b q V s → Bd F w → Calls Try.prog 9 #[.pointer (some ⟨b, 0, none⟩), .int .i64 d.n] w fun e w' => e = .returned (.int .u64 (X : Int)) ∧ R1 w' F b q V s' ∧ Adv F w F w' ∧ Bd F w' := fun w h hb => by
              have h1 := get_s b q V s d.n F w h hb
              rw [← hp] at h1; exact h1
            have hg2 : ∀ w, X1 w G rc q V s → Calls Try.prog 10 #[.pointer (some ⟨rc, 0, none⟩), .int .i64 d.n] w fun e w' => e = .returned (.int .u64 (X : Int)) ∧ X1 w' G rc q V s' ∧ Adv G w G w' := fun w h => by
              have h1 := xget_s rc q V s d.n G w h
              rw [← hp] at h1; exact h1
            have hxx : ((X : Int) != (X : Int)) = false := by simp
            have HRD := Lib.hid (R1.far HR.out ((Adv.refl Nul wr).drew) (fun _ h _ => h) HBD.out)
            have HG1 := Lib.hid hg1
            have HG2 := Lib.hid hg2
            clear hp hg1 hg2 hk
            go_wp2_with fail
            refine wp_region_held_drew (S := (fun w' => w'.cell? ⟨g, j * 4 + 2, none⟩ = some (.int .i64 d.n))) (by kernel_rfl) (by first | exact g2 | exact k2 | exact m2) (fun hHeld => ?_)
            clear hHeld
            refine wpAnyH_take (i := 0) (oi := { dst := some 48, op := Go.Op.move (Go.Operand.tmp 6), type := 27, pos := "law.go:71", after := #[], guard := none }) (v := ?_) rfl (by kernel_rfl) (by kernel_rfl) (by kernel_rfl) (fun _ _ _ h => h) (Or.inl ⟨by rfl, ?_⟩) (by first | exact g2 | exact k2 | exact m2) ?_
            rotate_left
            · (intro w hSw; obtain s1 := hSw; go_simp <;> with_reducible rfl)
            simp only [Act.put, List.setIfInBounds_toArray, List.set_cons_zero, List.set_cons_succ]
            refine wpAnyH_take (i := 1) (oi := { dst := some 49, op := Go.Op.move (Go.Operand.tmp 1), type := 23, pos := "law.go:71", after := #[], guard := none }) (v := ?_) rfl (by kernel_rfl) (by kernel_rfl) (by kernel_rfl) (fun _ _ _ h => h) (Or.inl ⟨by rfl, ?_⟩) (by first | exact g2 | exact k2 | exact m2) ?_
            rotate_left
            · (intro w hSw; obtain s1 := hSw; go_simp <;> with_reducible rfl)
            simp only [Act.put, List.setIfInBounds_toArray, List.set_cons_zero, List.set_cons_succ]
            refine wpAnyH_take (i := 2) (oi := { dst := some 50, op := Go.Op.move (Go.Operand.tmp 9), type := 3, pos := "law.go:71", after := #[], guard := none }) (v := ?_) rfl (by kernel_rfl) (by kernel_rfl) (by kernel_rfl) (fun _ _ _ h => h) (Or.inl ⟨by rfl, ?_⟩) (by first | exact g2 | exact k2 | exact m2) ?_
            rotate_left
            · (intro w hSw; obtain s1 := hSw; go_simp <;> with_reducible rfl)
            simp only [Act.put, List.setIfInBounds_toArray, List.set_cons_zero, List.set_cons_succ]
            refine wpAnyH_take (i := 3) (oi := { dst := some 51, op := Go.Op.indexAddr 23 (Go.Operand.tmp 49) (Go.Operand.tmp 50), type := 0, pos := "law.go:71", after := #[{ on := 1, ground := Go.Ground.data }, { on := 2, ground := Go.Ground.data }], guard := none }) (v := ?_) rfl (by kernel_rfl) (by kernel_rfl) (by kernel_rfl) (fun _ _ _ h => h) (Or.inl ⟨by rfl, ?_⟩) (by first | exact g2 | exact k2 | exact m2) ?_
            rotate_left
            · (intro w hSw; obtain s1 := hSw; go_simp <;> with_reducible rfl)
            simp only [Act.put, List.setIfInBounds_toArray, List.set_cons_zero, List.set_cons_succ]
            refine wpAnyH_take (i := 4) (oi := { dst := some 52, op := Go.Op.fieldAddr 34 (Go.Operand.tmp 51) 2, type := 0, pos := "law.go:71", after := #[{ on := 3, ground := Go.Ground.data }], guard := none }) (v := ?_) rfl (by kernel_rfl) (by kernel_rfl) (by kernel_rfl) (fun _ _ _ h => h) (Or.inl ⟨by rfl, ?_⟩) (by first | exact g2 | exact k2 | exact m2) ?_
            rotate_left
            · (intro w hSw; obtain s1 := hSw; go_simp <;> with_reducible rfl)
            simp only [Act.put, List.setIfInBounds_toArray, List.set_cons_zero, List.set_cons_succ]
            refine wpAnyH_take (i := 5) (oi := { dst := some 53, op := Go.Op.load 3 (Go.Operand.tmp 52), type := 3, pos := "law.go:71", after := #[{ on := 4, ground := Go.Ground.data }], guard := none }) (v := ?_) rfl (by kernel_rfl) (by kernel_rfl) (by kernel_rfl) (fun _ _ _ h => h) (Or.inl ⟨by rfl, ?_⟩) (by first | exact g2 | exact k2 | exact m2) ?_
            rotate_left
            · (intro w hSw; obtain s1 := hSw; go_simp <;> with_reducible rfl)
            simp only [Act.put, List.setIfInBounds_toArray, List.set_cons_zero, List.set_cons_succ]
            refine wpAnyH_take (i := 7) (oi := { dst := some 55, op := Go.Op.move (Go.Operand.tmp 7), type := 29, pos := "law.go:71", after := #[], guard := none }) (v := ?_) rfl (by kernel_rfl) (by kernel_rfl) (by kernel_rfl) (fun _ _ _ h => h) (Or.inl ⟨by rfl, ?_⟩) (by first | exact g2 | exact k2 | exact m2) ?_
            rotate_left
            · (intro w hSw; obtain s1 := hSw; go_simp <;> with_reducible rfl)
            simp only [Act.put, List.setIfInBounds_toArray, List.set_cons_zero, List.set_cons_succ]
            refine wpAnyH_take (i := 8) (oi := { dst := some 56, op := Go.Op.move (Go.Operand.tmp 1), type := 23, pos := "law.go:71", after := #[], guard := none }) (v := ?_) rfl (by kernel_rfl) (by kernel_rfl) (by kernel_rfl) (fun _ _ _ h => h) (Or.inl ⟨by rfl, ?_⟩) (by first | exact g2 | exact k2 | exact m2) ?_
            rotate_left
            · (intro w hSw; obtain s1 := hSw; go_simp <;> with_reducible rfl)
            simp only [Act.put, List.setIfInBounds_toArray, List.set_cons_zero, List.set_cons_succ]
            refine wpAnyH_take (i := 9) (oi := { dst := some 57, op := Go.Op.move (Go.Operand.tmp 9), type := 3, pos := "law.go:71", after := #[], guard := none }) (v := ?_) rfl (by kernel_rfl) (by kernel_rfl) (by kernel_rfl) (fun _ _ _ h => h) (Or.inl ⟨by rfl, ?_⟩) (by first | exact g2 | exact k2 | exact m2) ?_
            rotate_left
            · (intro w hSw; obtain s1 := hSw; go_simp <;> with_reducible rfl)
            simp only [Act.put, List.setIfInBounds_toArray, List.set_cons_zero, List.set_cons_succ]
            refine wpAnyH_take (i := 10) (oi := { dst := some 58, op := Go.Op.indexAddr 23 (Go.Operand.tmp 56) (Go.Operand.tmp 57), type := 0, pos := "law.go:71", after := #[{ on := 8, ground := Go.Ground.data }, { on := 9, ground := Go.Ground.data }], guard := none }) (v := ?_) rfl (by kernel_rfl) (by kernel_rfl) (by kernel_rfl) (fun _ _ _ h => h) (Or.inl ⟨by rfl, ?_⟩) (by first | exact g2 | exact k2 | exact m2) ?_
            rotate_left
            · (intro w hSw; obtain s1 := hSw; go_simp <;> with_reducible rfl)
            simp only [Act.put, List.setIfInBounds_toArray, List.set_cons_zero, List.set_cons_succ]
            refine wpAnyH_take (i := 11) (oi := { dst := some 59, op := Go.Op.fieldAddr 34 (Go.Operand.tmp 58) 2, type := 0, pos := "law.go:71", after := #[{ on := 10, ground := Go.Ground.data }], guard := none }) (v := ?_) rfl (by kernel_rfl) (by kernel_rfl) (by kernel_rfl) (fun _ _ _ h => h) (Or.inl ⟨by rfl, ?_⟩) (by first | exact g2 | exact k2 | exact m2) ?_
            rotate_left
            · (intro w hSw; obtain s1 := hSw; go_simp <;> with_reducible rfl)
            simp only [Act.put, List.setIfInBounds_toArray, List.set_cons_zero, List.set_cons_succ]
            refine wpAnyH_take (i := 12) (oi := { dst := some 60, op := Go.Op.load 3 (Go.Operand.tmp 59), type := 3, pos := "law.go:71", after := #[{ on := 11, ground := Go.Ground.data }], guard := none }) (v := ?_) rfl (by kernel_rfl) (by kernel_rfl) (by kernel_rfl) (fun _ _ _ h => h) (Or.inl ⟨by rfl, ?_⟩) (by first | exact g2 | exact k2 | exact m2) ?_
            rotate_left
            · (intro w hSw; obtain s1 := hSw; go_simp <;> with_reducible rfl)
            simp only [Act.put, List.setIfInBounds_toArray, List.set_cons_zero, List.set_cons_succ]
            refine wpAnyH_ready (rs := [6]) (by kernel_rfl) (by simp) ?_
            refine AllReadyH.cons (o := { dst := some 54, op := Go.Op.call { callee := Go.Callee.value (Go.Operand.func 9), args := #[Go.Operand.tmp 48, Go.Operand.tmp 53], argTypes := #[27, 3] }, type := 32, pos := "law.go:71", after := #[{ on := 0, ground := Go.Ground.data }, { on := 5, ground := Go.Ground.data }], guard := none }) rfl (fun K hK => ?_) AllReadyH.nil
            go_simp
            refine (HG1.out _ ?_ ?_).mono ?_
            exact HRD.out
            exact HBD.out
            rintro e w2 ⟨rfl, h2, a2, b2⟩
            have a2' := Adv.of_drew a2
            have hM2 := HM.out.far a2' SF0.out
            obtain ⟨_, _, k2, _⟩ := hM2.cells hlt
            rw [← HDD.out] at k2
            go_wp2_with fail
            refine hK.out _ _ (by first | exact g2 | exact k2 | exact m2) (fun hHeld => ?_)
            clear hK K hHeld
            try simp only [Act.put, List.setIfInBounds_toArray, List.set_cons_zero, List.set_cons_succ]
            refine wpAnyH_ready (rs := [13]) (by kernel_rfl) (by simp) ?_
            refine AllReadyH.cons (o := { dst := some 61, op := Go.Op.call { callee := Go.Callee.value (Go.Operand.func 10), args := #[Go.Operand.tmp 55, Go.Operand.tmp 60], argTypes := #[29, 3] }, type := 32, pos := "law.go:71", after := #[{ on := 7, ground := Go.Ground.data }, { on := 12, ground := Go.Ground.data }, { on := 6, ground := Go.Ground.chain }], guard := none }) rfl (fun K hK => ?_) AllReadyH.nil
            go_simp
            refine (HG2.out _ (HX.out.far a2' SGF.out.symm)).mono ?_
            rintro e w3 ⟨rfl, hX3, a3⟩
            have hM3 := hM2.far a3 SG0.out
            obtain ⟨_, _, m2, _⟩ := hM3.cells hlt
            rw [← HDD.out] at m2
            go_wp2_with fail
            refine hK.out _ _ (by first | exact g2 | exact k2 | exact m2) (fun hHeld => ?_)
            clear hK K hHeld
            try simp only [Act.put, List.setIfInBounds_toArray, List.set_cons_zero, List.set_cons_succ]
            refine wpAnyH_take (i := 14) (oi := { dst := some 62, op := Go.Op.binOp Go.BinOp.neq 32 (Go.Operand.tmp 54) (Go.Operand.tmp 61) 32, type := 4, pos := "law.go:71", after := #[{ on := 6, ground := Go.Ground.data }, { on := 13, ground := Go.Ground.data }], guard := none }) (v := ?_) rfl (by kernel_rfl) (by kernel_rfl) (by kernel_rfl) (fun _ _ _ h => h) (Or.inl ⟨by rfl, ?_⟩) (by first | exact g2 | exact k2 | exact m2) ?_
            rotate_left
            · (intro w hSw; obtain s1 := hSw; go_simp <;> with_reducible rfl)
            simp only [Act.put, List.setIfInBounds_toArray, List.set_cons_zero, List.set_cons_succ]
            refine wpAnyH_done (by kernel_rfl) ?_ _
            have hR3 := R1.far h2 a3 SGF.out b2
            have hb3 := a3.bd b2
            have B2 := a2'.below HB.out NF.out HB.out.size
            have B3 := a3.below B2 NG.out B2.size
            have HR3 := Lib.hid hR3
            have HX3 := Lib.hid hX3
            have HM3 := Lib.hid hM3
            have HB3 := Lib.hid B3
            have HBD3 := Lib.hid hb3
            clear hR3 hX3 hM3 B3 hb3 B2 h2 a2 a2' b2 a3 hM2
            clear k2 m2 HRD HG1 HG2
            go_wp2_with fail
            have hEE : (errOf s' != errOf s') = false := by simp
            have hLL : (((leftOf q s' : Nat) : Int) != ((leftOf q s' : Nat) : Int)) = false := by simp
            have hNN : (endS q V s' != endS q V s') = false := by simp
            have hc1 := HX3.out.cell
            have hrc := X1.inB HX3.out
            have hR1 : ∀ n, R1 (w3.drewN n) F b q V s' := fun n => R1.far HR3.out ((Adv.refl Nul w3).drewN n) (fun _ h _ => h) HBD3.out
            have hX1 : ∀ n, X1 (w3.drewN n) G rc q V s' := fun n => X1.far HX3.out ((Adv.refl Nul w3).drewN n) (fun _ h _ => h)
            have HR1 := Lib.hid hR1
            have HX1 := Lib.hid hX1
            clear hR1 hX1
            refine wp_region_held_drew (S := (fun w' => w'.cell? ⟨rc, 1, none⟩ = some (.int .i64 (errOf s')))) (by kernel_rfl) (by first | exact hc1 | exact hc7) (fun hHeld => ?_)
            clear hHeld
            refine wpAnyH_take (i := 0) (oi := { dst := some 68, op := Go.Op.move (Go.Operand.tmp 6), type := 27, pos := "law.go:77", after := #[], guard := none }) (v := ?_) rfl (by kernel_rfl) (by kernel_rfl) (by kernel_rfl) (fun _ _ _ h => h) (Or.inl ⟨by rfl, ?_⟩) (by first | exact hc1 | exact hc7) ?_
            rotate_left
            · (intro w hSw; obtain s1 := hSw; go_simp <;> with_reducible rfl)
            simp only [Act.put, List.setIfInBounds_toArray, List.set_cons_zero, List.set_cons_succ]
            refine wpAnyH_take (i := 2) (oi := { dst := some 70, op := Go.Op.move (Go.Operand.tmp 7), type := 29, pos := "law.go:77", after := #[], guard := none }) (v := ?_) rfl (by kernel_rfl) (by kernel_rfl) (by kernel_rfl) (fun _ _ _ h => h) (Or.inl ⟨by rfl, ?_⟩) (by first | exact hc1 | exact hc7) ?_
            rotate_left
            · (intro w hSw; obtain s1 := hSw; go_simp <;> with_reducible rfl)
            simp only [Act.put, List.setIfInBounds_toArray, List.set_cons_zero, List.set_cons_succ]
            refine wpAnyH_take (i := 3) (oi := { dst := some 71, op := Go.Op.nilCheck (Go.Operand.tmp 70), type := 0, pos := "law.go:77", after := #[{ on := 2, ground := Go.Ground.data }], guard := none }) (v := ?_) rfl (by kernel_rfl) (by kernel_rfl) (by kernel_rfl) (fun _ _ _ h => h) (Or.inl ⟨by rfl, ?_⟩) (by first | exact hc1 | exact hc7) ?_
            rotate_left
            · (intro w hSw; obtain s1 := hSw; go_simp <;> with_reducible rfl)
            simp only [Act.put, List.setIfInBounds_toArray, List.set_cons_zero, List.set_cons_succ]
            refine wpAnyH_take (i := 4) (oi := { dst := some 72, op := Go.Op.fieldAddr 31 (Go.Operand.tmp 71) 1, type := 0, pos := "law.go:77", after := #[{ on := 3, ground := Go.Ground.data }], guard := none }) (v := ?_) rfl (by kernel_rfl) (by kernel_rfl) (by kernel_rfl) (fun _ _ _ h => h) (Or.inl ⟨by rfl, ?_⟩) (by first | exact hc1 | exact hc7) ?_
            rotate_left
            · (intro w hSw; obtain s1 := hSw; go_simp <;> with_reducible rfl)
            simp only [Act.put, List.setIfInBounds_toArray, List.set_cons_zero, List.set_cons_succ]
            refine wpAnyH_take (i := 5) (oi := { dst := some 73, op := Go.Op.load 3 (Go.Operand.tmp 72), type := 3, pos := "law.go:77", after := #[{ on := 4, ground := Go.Ground.data }], guard := none }) (v := ?_) rfl (by kernel_rfl) (by kernel_rfl) (by kernel_rfl) (fun _ _ _ h => h) (Or.inl ⟨by rfl, ?_⟩) (by first | exact hc1 | exact hc7) ?_
            rotate_left
            · (intro w hSw; obtain s1 := hSw; go_simp <;> with_reducible rfl)
            simp only [Act.put, List.setIfInBounds_toArray, List.set_cons_zero, List.set_cons_succ]
            refine wpAnyH_ready (rs := [1]) (by kernel_rfl) (by simp) ?_
            refine AllReadyH.cons (o := { dst := some 69, op := Go.Op.call { callee := Go.Callee.value (Go.Operand.func 13), args := #[Go.Operand.tmp 68], argTypes := #[27] }, type := 37, pos := "law.go:77", after := #[{ on := 0, ground := Go.Ground.data }], guard := none }) rfl (fun K hK => ?_) AllReadyH.nil
            go_simp
            refine (err_s _ _ _ s' F _ (HR1.out 1)).mono ?_
            rintro e w4 ⟨rfl, rfl⟩
            go_wp2_with fail
            refine hK.out _ _ (by first | exact hc1 | exact hc7) (fun hHeld => ?_)
            clear hK K hHeld
            try simp only [Act.put, List.setIfInBounds_toArray, List.set_cons_zero, List.set_cons_succ]
            refine wpAnyH_take (i := 6) (oi := { dst := some 74, op := Go.Op.binOp Go.BinOp.neq 3 (Go.Operand.tmp 69) (Go.Operand.tmp 73) 3, type := 4, pos := "law.go:77", after := #[{ on := 1, ground := Go.Ground.data }, { on := 5, ground := Go.Ground.data }], guard := none }) (v := ?_) rfl (by kernel_rfl) (by kernel_rfl) (by kernel_rfl) (fun _ _ _ h => h) (Or.inl ⟨by rfl, ?_⟩) (by first | exact hc1 | exact hc7) ?_
            rotate_left
            · (intro w hSw; obtain s1 := hSw; go_simp <;> with_reducible rfl)
            simp only [Act.put, List.setIfInBounds_toArray, List.set_cons_zero, List.set_cons_succ]
            refine wpAnyH_take (i := 7) (oi := { dst := some 75, op := Go.Op.move (Go.Operand.tmp 74), type := 4, pos := "law.go:77", after := #[{ on := 6, ground := Go.Ground.data }, { on := 1, ground := Go.Ground.chain }], guard := none }) (v := ?_) rfl (by kernel_rfl) (by kernel_rfl) (by kernel_rfl) (fun _ _ _ h => h) (Or.inl ⟨by rfl, ?_⟩) (by first | exact hc1 | exact hc7) ?_
            rotate_left
            · (intro w hSw; obtain s1 := hSw; go_simp <;> with_reducible rfl)
            simp only [Act.put, List.setIfInBounds_toArray, List.set_cons_zero, List.set_cons_succ]
            refine wpAnyH_take (i := 8) (oi := { dst := some 76, op := Go.Op.move (Go.Operand.tmp 6), type := 27, pos := "law.go:77", after := #[{ on := 7, ground := Go.Ground.guard }], guard := some (7, false) }) (v := ?_) rfl (by kernel_rfl) (by kernel_rfl) (by kernel_rfl) (fun _ _ _ h => h) (Or.inl ⟨by rfl, ?_⟩) (by first | exact hc1 | exact hc7) ?_
            rotate_left
            · (intro w hSw; obtain s1 := hSw; go_simp <;> with_reducible rfl)
            simp only [Act.put, List.setIfInBounds_toArray, List.set_cons_zero, List.set_cons_succ]
            refine wpAnyH_take (i := 10) (oi := { dst := some 78, op := Go.Op.move (Go.Operand.tmp 7), type := 29, pos := "law.go:77", after := #[{ on := 7, ground := Go.Ground.guard }], guard := some (7, false) }) (v := ?_) rfl (by kernel_rfl) (by kernel_rfl) (by kernel_rfl) (fun _ _ _ h => h) (Or.inl ⟨by rfl, ?_⟩) (by first | exact hc1 | exact hc7) ?_
            rotate_left
            · (intro w hSw; obtain s1 := hSw; go_simp <;> with_reducible rfl)
            simp only [Act.put, List.setIfInBounds_toArray, List.set_cons_zero, List.set_cons_succ]
            refine wpAnyH_ready (rs := [9]) (by kernel_rfl) (by simp) ?_
            refine AllReadyH.cons (o := { dst := some 77, op := Go.Op.call { callee := Go.Callee.value (Go.Operand.func 14), args := #[Go.Operand.tmp 76], argTypes := #[27] }, type := 3, pos := "law.go:77", after := #[{ on := 8, ground := Go.Ground.data }, { on := 7, ground := Go.Ground.chain }, { on := 7, ground := Go.Ground.guard }], guard := some (7, false) }) rfl (fun K hK => ?_) AllReadyH.nil
            go_simp
            refine (left_s _ _ _ s' F _ (HR1.out 1)).mono ?_
            rintro e w4 ⟨rfl, nd, rfl⟩
            go_wp2_with fail
            refine hK.out _ _ (by first | exact hc1 | exact hc7) (fun hHeld => ?_)
            clear hK K hHeld
            try simp only [Act.put, List.setIfInBounds_toArray, List.set_cons_zero, List.set_cons_succ]
            refine wpAnyH_ready (rs := [11]) (by kernel_rfl) (by simp) ?_
            refine AllReadyH.cons (o := { dst := some 79, op := Go.Op.call { callee := Go.Callee.value (Go.Operand.func 15), args := #[Go.Operand.tmp 78], argTypes := #[29] }, type := 3, pos := "law.go:77", after := #[{ on := 10, ground := Go.Ground.data }, { on := 9, ground := Go.Ground.chain }, { on := 7, ground := Go.Ground.guard }], guard := some (7, false) }) rfl (fun K hK => ?_) AllReadyH.nil
            go_simp
            refine (xleft_s _ _ _ s' G _ (HX1.out (1 + nd))).mono ?_
            rintro e w4 ⟨rfl, rfl⟩
            go_wp2_with fail
            refine hK.out _ _ (by first | exact hc1 | exact hc7) (fun hHeld => ?_)
            clear hK K hHeld
            try simp only [Act.put, List.setIfInBounds_toArray, List.set_cons_zero, List.set_cons_succ]
            refine wpAnyH_take (i := 12) (oi := { dst := some 80, op := Go.Op.binOp Go.BinOp.neq 3 (Go.Operand.tmp 77) (Go.Operand.tmp 79) 3, type := 4, pos := "law.go:77", after := #[{ on := 9, ground := Go.Ground.data }, { on := 11, ground := Go.Ground.data }, { on := 7, ground := Go.Ground.guard }], guard := some (7, false) }) (v := ?_) rfl (by kernel_rfl) (by kernel_rfl) (by kernel_rfl) (fun _ _ _ h => h) (Or.inl ⟨by rfl, ?_⟩) (by first | exact hc1 | exact hc7) ?_
            rotate_left
            · (intro w hSw; obtain s1 := hSw; go_simp <;> with_reducible rfl)
            simp only [Act.put, List.setIfInBounds_toArray, List.set_cons_zero, List.set_cons_succ]
            refine wpAnyH_take (i := 13) (oi := { dst := some 81, op := Go.Op.pick (Go.Operand.tmp 75) (Go.Operand.const (Go.Value.bool true)) (Go.Operand.tmp 80), type := 4, pos := "law.go:77", after := #[{ on := 7, ground := Go.Ground.data }, { on := 12, ground := Go.Ground.data }], guard := none }) (v := ?_) rfl (by kernel_rfl) (by kernel_rfl) (by kernel_rfl) (fun _ _ _ h => h) (Or.inl ⟨by rfl, ?_⟩) (by first | exact hc1 | exact hc7) ?_
            rotate_left
            · (intro w hSw; obtain s1 := hSw; go_simp <;> with_reducible rfl)
            simp only [Act.put, List.setIfInBounds_toArray, List.set_cons_zero, List.set_cons_succ]
            refine wpAnyH_take (i := 14) (oi := { dst := some 82, op := Go.Op.move (Go.Operand.tmp 81), type := 4, pos := "law.go:77", after := #[{ on := 13, ground := Go.Ground.data }, { on := 11, ground := Go.Ground.chain }], guard := none }) (v := ?_) rfl (by kernel_rfl) (by kernel_rfl) (by kernel_rfl) (fun _ _ _ h => h) (Or.inl ⟨by rfl, ?_⟩) (by first | exact hc1 | exact hc7) ?_
            rotate_left
            · (intro w hSw; obtain s1 := hSw; go_simp <;> with_reducible rfl)
            simp only [Act.put, List.setIfInBounds_toArray, List.set_cons_zero, List.set_cons_succ]
            refine wpAnyH_take (i := 15) (oi := { dst := some 83, op := Go.Op.move (Go.Operand.tmp 6), type := 27, pos := "law.go:77", after := #[{ on := 14, ground := Go.Ground.guard }], guard := some (14, false) }) (v := ?_) rfl (by kernel_rfl) (by kernel_rfl) (by kernel_rfl) (fun _ _ _ h => h) (Or.inl ⟨by rfl, ?_⟩) (by first | exact hc1 | exact hc7) ?_
            rotate_left
            · (intro w hSw; obtain s1 := hSw; go_simp <;> with_reducible rfl)
            simp only [Act.put, List.setIfInBounds_toArray, List.set_cons_zero, List.set_cons_succ]
            refine wpAnyH_take (i := 17) (oi := { dst := some 85, op := Go.Op.move (Go.Operand.tmp 7), type := 29, pos := "law.go:77", after := #[{ on := 14, ground := Go.Ground.guard }], guard := some (14, false) }) (v := ?_) rfl (by kernel_rfl) (by kernel_rfl) (by kernel_rfl) (fun _ _ _ h => h) (Or.inl ⟨by rfl, ?_⟩) (by first | exact hc1 | exact hc7) ?_
            rotate_left
            · (intro w hSw; obtain s1 := hSw; go_simp <;> with_reducible rfl)
            simp only [Act.put, List.setIfInBounds_toArray, List.set_cons_zero, List.set_cons_succ]
            refine wpAnyH_ready (rs := [16]) (by kernel_rfl) (by simp) ?_
            refine AllReadyH.cons (o := { dst := some 84, op := Go.Op.call { callee := Go.Callee.value (Go.Operand.func 16), args := #[Go.Operand.tmp 83], argTypes := #[27] }, type := 37, pos := "law.go:77", after := #[{ on := 15, ground := Go.Ground.data }, { on := 14, ground := Go.Ground.chain }, { on := 14, ground := Go.Ground.guard }], guard := some (14, false) }) rfl (fun K hK => ?_) AllReadyH.nil
            go_simp
            refine (end_s _ _ _ s' F _ (HR1.out (1 + nd)) HBD3.out).mono ?_
            rintro e w7 ⟨rfl, hB7⟩
            have hX7 := X1.far (HX1.out (1 + nd)) (Adv.of_below (F := Nul) hB7) (fun _ h _ => h)
            have hc7 := hX7.cell
            go_wp2_with fail
            refine hK.out _ _ (by first | exact hc1 | exact hc7) (fun hHeld => ?_)
            clear hK K hHeld
            try simp only [Act.put, List.setIfInBounds_toArray, List.set_cons_zero, List.set_cons_succ]
            refine wpAnyH_ready (rs := [18]) (by kernel_rfl) (by simp) ?_
            refine AllReadyH.cons (o := { dst := some 86, op := Go.Op.call { callee := Go.Callee.value (Go.Operand.func 17), args := #[Go.Operand.tmp 85], argTypes := #[29] }, type := 3, pos := "law.go:77", after := #[{ on := 17, ground := Go.Ground.data }, { on := 16, ground := Go.Ground.chain }, { on := 14, ground := Go.Ground.guard }], guard := some (14, false) }) rfl (fun K hK => ?_) AllReadyH.nil
            go_simp
            refine (xend_s _ _ _ s' G _ hX7).mono ?_
            rintro e w8 ⟨rfl, rfl⟩
            go_wp2_with fail
            refine hK.out _ _ (by first | exact hc1 | exact hc7) (fun hHeld => ?_)
            clear hK K hHeld
            try simp only [Act.put, List.setIfInBounds_toArray, List.set_cons_zero, List.set_cons_succ]
            refine wpAnyH_take (i := 19) (oi := { dst := some 87, op := Go.Op.binOp Go.BinOp.neq 3 (Go.Operand.tmp 84) (Go.Operand.tmp 86) 3, type := 4, pos := "law.go:77", after := #[{ on := 16, ground := Go.Ground.data }, { on := 18, ground := Go.Ground.data }, { on := 14, ground := Go.Ground.guard }], guard := some (14, false) }) (v := ?_) rfl (by kernel_rfl) (by kernel_rfl) (by kernel_rfl) (fun _ _ _ h => h) (Or.inl ⟨by rfl, ?_⟩) (by first | exact hc1 | exact hc7) ?_
            rotate_left
            · (intro w hSw; obtain s1 := hSw; go_simp <;> with_reducible rfl)
            simp only [Act.put, List.setIfInBounds_toArray, List.set_cons_zero, List.set_cons_succ]
            refine wpAnyH_take (i := 20) (oi := { dst := some 88, op := Go.Op.pick (Go.Operand.tmp 82) (Go.Operand.const (Go.Value.bool true)) (Go.Operand.tmp 87), type := 4, pos := "law.go:77", after := #[{ on := 14, ground := Go.Ground.data }, { on := 19, ground := Go.Ground.data }], guard := none }) (v := ?_) rfl (by kernel_rfl) (by kernel_rfl) (by kernel_rfl) (fun _ _ _ h => h) (Or.inl ⟨by rfl, ?_⟩) (by first | exact hc1 | exact hc7) ?_
            rotate_left
            · (intro w hSw; obtain s1 := hSw; go_simp <;> with_reducible rfl)
            simp only [Act.put, List.setIfInBounds_toArray, List.set_cons_zero, List.set_cons_succ]
            refine wpAnyH_done (by kernel_rfl) ?_ _
            have hM7 := (HM3.out.far ((Adv.refl Nul w3).drewN (1 + nd)) (fun _ h _ => h)).far (Adv.of_below (F := Nul) hB7) (fun _ h _ => h)
            have hR7 := R1.far (HR1.out (1 + nd)) (Adv.of_below (F := Nul) hB7) (fun _ h _ => h) HBD3.out
            have hb7 := (Adv.of_below (F := Nul) hB7).bd (G := F) HBD3.out
            have hD7 := below_drewN HB3.out (1 + nd)
            have hW7 := hD7.trans (hB7.mono hD7.size)
            have HH7 := Lib.hid (⟨hM7, hb7, hR7, hX7, hW7⟩ : Made w7 F0 (.slice (some ⟨g, 0, none⟩) es.length c) es ∧ Bd F w7 ∧ R1 w7 F b q V s' ∧ X1 w7 G rc q V s' ∧ Below W.heap.size W w7)
            clear hM7 hR7 hb7 hD7 hW7 hX7 hB7
            go_wp2_with fail
            exact ⟨⟨j + 1, s', by simp, by omega, HH7.out⟩, by simp [intOf]; omega⟩
          · have hk1 : (d.kind == 0) = false := by simp [hk]
            obtain ⟨p, hp⟩ : ∃ p, p = textS q V s := ⟨_, rfl⟩
            obtain ⟨s', X⟩ := p
            have hg1 : ∀ w, R1 w F b q V s → Bd F w → Calls Try.prog 11 #[.pointer (some ⟨b, 0, none⟩)] w fun e w' => e = .returned (.string X) ∧ R1 w' F b q V s' ∧ Adv F w F w' ∧ Bd F w' := fun w h hb => by
              have h1 := text_s b q V s F w h hb
              rw [← hp] at h1; exact h1
            have hg2 : ∀ w, X1 w G rc q V s → Calls Try.prog 12 #[.pointer (some ⟨rc, 0, none⟩)] w fun e w' => e = .returned (.string X) ∧ X1 w' G rc q V s' ∧ Adv G w G w' := fun w h => by
              have h1 := xtext_s rc q V s G w h
              rw [← hp] at h1; exact h1
            have HG1 := Lib.hid hg1
            have HG2 := Lib.hid hg2
            clear hp hg1 hg2 hk
            go_wp2_with fail
            refine (HG1.out _ HR.out HBD.out).mono ?_
            rintro e w2 ⟨rfl, h2, a2, b2⟩
            have hM2 := HM.out.far a2 SF0.out
            have a2' := a2
            go_wp2_with fail
            refine (HG2.out _ (HX.out.far a2' SGF.out.symm)).mono ?_
            rintro e w3 ⟨rfl, hX3, a3⟩
            have hM3 := hM2.far a3 SG0.out
            have hR3 := R1.far h2 a3 SGF.out b2
            have hb3 := a3.bd b2
            have B2 := a2'.below HB.out NF.out HB.out.size
            have B3 := a3.below B2 NG.out B2.size
            have HR3 := Lib.hid hR3
            have HX3 := Lib.hid hX3
            have HM3 := Lib.hid hM3
            have HB3 := Lib.hid B3
            have HBD3 := Lib.hid hb3
            clear hR3 hX3 hM3 B3 hb3 B2 h2 a2 a2' b2 a3 hM2
            clear HG1 HG2
            go_wp2_with fail
            have hEE : (errOf s' != errOf s') = false := by simp
            have hLL : (((leftOf q s' : Nat) : Int) != ((leftOf q s' : Nat) : Int)) = false := by simp
            have hNN : (endS q V s' != endS q V s') = false := by simp
            have hc1 := HX3.out.cell
            have hrc := X1.inB HX3.out
            have hR1 : ∀ n, R1 (w3.drewN n) F b q V s' := fun n => R1.far HR3.out ((Adv.refl Nul w3).drewN n) (fun _ h _ => h) HBD3.out
            have hX1 : ∀ n, X1 (w3.drewN n) G rc q V s' := fun n => X1.far HX3.out ((Adv.refl Nul w3).drewN n) (fun _ h _ => h)
            have HR1 := Lib.hid hR1
            have HX1 := Lib.hid hX1
            clear hR1 hX1
            refine wp_region_held_drew (S := (fun w' => w'.cell? ⟨rc, 1, none⟩ = some (.int .i64 (errOf s')))) (by kernel_rfl) (by first | exact hc1 | exact hc7) (fun hHeld => ?_)
            clear hHeld
            refine wpAnyH_take (i := 0) (oi := { dst := some 68, op := Go.Op.move (Go.Operand.tmp 6), type := 27, pos := "law.go:77", after := #[], guard := none }) (v := ?_) rfl (by kernel_rfl) (by kernel_rfl) (by kernel_rfl) (fun _ _ _ h => h) (Or.inl ⟨by rfl, ?_⟩) (by first | exact hc1 | exact hc7) ?_
            rotate_left
            · (intro w hSw; obtain s1 := hSw; go_simp <;> with_reducible rfl)
            simp only [Act.put, List.setIfInBounds_toArray, List.set_cons_zero, List.set_cons_succ]
            refine wpAnyH_take (i := 2) (oi := { dst := some 70, op := Go.Op.move (Go.Operand.tmp 7), type := 29, pos := "law.go:77", after := #[], guard := none }) (v := ?_) rfl (by kernel_rfl) (by kernel_rfl) (by kernel_rfl) (fun _ _ _ h => h) (Or.inl ⟨by rfl, ?_⟩) (by first | exact hc1 | exact hc7) ?_
            rotate_left
            · (intro w hSw; obtain s1 := hSw; go_simp <;> with_reducible rfl)
            simp only [Act.put, List.setIfInBounds_toArray, List.set_cons_zero, List.set_cons_succ]
            refine wpAnyH_take (i := 3) (oi := { dst := some 71, op := Go.Op.nilCheck (Go.Operand.tmp 70), type := 0, pos := "law.go:77", after := #[{ on := 2, ground := Go.Ground.data }], guard := none }) (v := ?_) rfl (by kernel_rfl) (by kernel_rfl) (by kernel_rfl) (fun _ _ _ h => h) (Or.inl ⟨by rfl, ?_⟩) (by first | exact hc1 | exact hc7) ?_
            rotate_left
            · (intro w hSw; obtain s1 := hSw; go_simp <;> with_reducible rfl)
            simp only [Act.put, List.setIfInBounds_toArray, List.set_cons_zero, List.set_cons_succ]
            refine wpAnyH_take (i := 4) (oi := { dst := some 72, op := Go.Op.fieldAddr 31 (Go.Operand.tmp 71) 1, type := 0, pos := "law.go:77", after := #[{ on := 3, ground := Go.Ground.data }], guard := none }) (v := ?_) rfl (by kernel_rfl) (by kernel_rfl) (by kernel_rfl) (fun _ _ _ h => h) (Or.inl ⟨by rfl, ?_⟩) (by first | exact hc1 | exact hc7) ?_
            rotate_left
            · (intro w hSw; obtain s1 := hSw; go_simp <;> with_reducible rfl)
            simp only [Act.put, List.setIfInBounds_toArray, List.set_cons_zero, List.set_cons_succ]
            refine wpAnyH_take (i := 5) (oi := { dst := some 73, op := Go.Op.load 3 (Go.Operand.tmp 72), type := 3, pos := "law.go:77", after := #[{ on := 4, ground := Go.Ground.data }], guard := none }) (v := ?_) rfl (by kernel_rfl) (by kernel_rfl) (by kernel_rfl) (fun _ _ _ h => h) (Or.inl ⟨by rfl, ?_⟩) (by first | exact hc1 | exact hc7) ?_
            rotate_left
            · (intro w hSw; obtain s1 := hSw; go_simp <;> with_reducible rfl)
            simp only [Act.put, List.setIfInBounds_toArray, List.set_cons_zero, List.set_cons_succ]
            refine wpAnyH_ready (rs := [1]) (by kernel_rfl) (by simp) ?_
            refine AllReadyH.cons (o := { dst := some 69, op := Go.Op.call { callee := Go.Callee.value (Go.Operand.func 13), args := #[Go.Operand.tmp 68], argTypes := #[27] }, type := 37, pos := "law.go:77", after := #[{ on := 0, ground := Go.Ground.data }], guard := none }) rfl (fun K hK => ?_) AllReadyH.nil
            go_simp
            refine (err_s _ _ _ s' F _ (HR1.out 1)).mono ?_
            rintro e w4 ⟨rfl, rfl⟩
            go_wp2_with fail
            refine hK.out _ _ (by first | exact hc1 | exact hc7) (fun hHeld => ?_)
            clear hK K hHeld
            try simp only [Act.put, List.setIfInBounds_toArray, List.set_cons_zero, List.set_cons_succ]
            refine wpAnyH_take (i := 6) (oi := { dst := some 74, op := Go.Op.binOp Go.BinOp.neq 3 (Go.Operand.tmp 69) (Go.Operand.tmp 73) 3, type := 4, pos := "law.go:77", after := #[{ on := 1, ground := Go.Ground.data }, { on := 5, ground := Go.Ground.data }], guard := none }) (v := ?_) rfl (by kernel_rfl) (by kernel_rfl) (by kernel_rfl) (fun _ _ _ h => h) (Or.inl ⟨by rfl, ?_⟩) (by first | exact hc1 | exact hc7) ?_
            rotate_left
            · (intro w hSw; obtain s1 := hSw; go_simp <;> with_reducible rfl)
            simp only [Act.put, List.setIfInBounds_toArray, List.set_cons_zero, List.set_cons_succ]
            refine wpAnyH_take (i := 7) (oi := { dst := some 75, op := Go.Op.move (Go.Operand.tmp 74), type := 4, pos := "law.go:77", after := #[{ on := 6, ground := Go.Ground.data }, { on := 1, ground := Go.Ground.chain }], guard := none }) (v := ?_) rfl (by kernel_rfl) (by kernel_rfl) (by kernel_rfl) (fun _ _ _ h => h) (Or.inl ⟨by rfl, ?_⟩) (by first | exact hc1 | exact hc7) ?_
            rotate_left
            · (intro w hSw; obtain s1 := hSw; go_simp <;> with_reducible rfl)
            simp only [Act.put, List.setIfInBounds_toArray, List.set_cons_zero, List.set_cons_succ]
            refine wpAnyH_take (i := 8) (oi := { dst := some 76, op := Go.Op.move (Go.Operand.tmp 6), type := 27, pos := "law.go:77", after := #[{ on := 7, ground := Go.Ground.guard }], guard := some (7, false) }) (v := ?_) rfl (by kernel_rfl) (by kernel_rfl) (by kernel_rfl) (fun _ _ _ h => h) (Or.inl ⟨by rfl, ?_⟩) (by first | exact hc1 | exact hc7) ?_
            rotate_left
            · (intro w hSw; obtain s1 := hSw; go_simp <;> with_reducible rfl)
            simp only [Act.put, List.setIfInBounds_toArray, List.set_cons_zero, List.set_cons_succ]
            refine wpAnyH_take (i := 10) (oi := { dst := some 78, op := Go.Op.move (Go.Operand.tmp 7), type := 29, pos := "law.go:77", after := #[{ on := 7, ground := Go.Ground.guard }], guard := some (7, false) }) (v := ?_) rfl (by kernel_rfl) (by kernel_rfl) (by kernel_rfl) (fun _ _ _ h => h) (Or.inl ⟨by rfl, ?_⟩) (by first | exact hc1 | exact hc7) ?_
            rotate_left
            · (intro w hSw; obtain s1 := hSw; go_simp <;> with_reducible rfl)
            simp only [Act.put, List.setIfInBounds_toArray, List.set_cons_zero, List.set_cons_succ]
            refine wpAnyH_ready (rs := [9]) (by kernel_rfl) (by simp) ?_
            refine AllReadyH.cons (o := { dst := some 77, op := Go.Op.call { callee := Go.Callee.value (Go.Operand.func 14), args := #[Go.Operand.tmp 76], argTypes := #[27] }, type := 3, pos := "law.go:77", after := #[{ on := 8, ground := Go.Ground.data }, { on := 7, ground := Go.Ground.chain }, { on := 7, ground := Go.Ground.guard }], guard := some (7, false) }) rfl (fun K hK => ?_) AllReadyH.nil
            go_simp
            refine (left_s _ _ _ s' F _ (HR1.out 1)).mono ?_
            rintro e w4 ⟨rfl, nd, rfl⟩
            go_wp2_with fail
            refine hK.out _ _ (by first | exact hc1 | exact hc7) (fun hHeld => ?_)
            clear hK K hHeld
            try simp only [Act.put, List.setIfInBounds_toArray, List.set_cons_zero, List.set_cons_succ]
            refine wpAnyH_ready (rs := [11]) (by kernel_rfl) (by simp) ?_
            refine AllReadyH.cons (o := { dst := some 79, op := Go.Op.call { callee := Go.Callee.value (Go.Operand.func 15), args := #[Go.Operand.tmp 78], argTypes := #[29] }, type := 3, pos := "law.go:77", after := #[{ on := 10, ground := Go.Ground.data }, { on := 9, ground := Go.Ground.chain }, { on := 7, ground := Go.Ground.guard }], guard := some (7, false) }) rfl (fun K hK => ?_) AllReadyH.nil
            go_simp
            refine (xleft_s _ _ _ s' G _ (HX1.out (1 + nd))).mono ?_
            rintro e w4 ⟨rfl, rfl⟩
            go_wp2_with fail
            refine hK.out _ _ (by first | exact hc1 | exact hc7) (fun hHeld => ?_)
            clear hK K hHeld
            try simp only [Act.put, List.setIfInBounds_toArray, List.set_cons_zero, List.set_cons_succ]
            refine wpAnyH_take (i := 12) (oi := { dst := some 80, op := Go.Op.binOp Go.BinOp.neq 3 (Go.Operand.tmp 77) (Go.Operand.tmp 79) 3, type := 4, pos := "law.go:77", after := #[{ on := 9, ground := Go.Ground.data }, { on := 11, ground := Go.Ground.data }, { on := 7, ground := Go.Ground.guard }], guard := some (7, false) }) (v := ?_) rfl (by kernel_rfl) (by kernel_rfl) (by kernel_rfl) (fun _ _ _ h => h) (Or.inl ⟨by rfl, ?_⟩) (by first | exact hc1 | exact hc7) ?_
            rotate_left
            · (intro w hSw; obtain s1 := hSw; go_simp <;> with_reducible rfl)
            simp only [Act.put, List.setIfInBounds_toArray, List.set_cons_zero, List.set_cons_succ]
            refine wpAnyH_take (i := 13) (oi := { dst := some 81, op := Go.Op.pick (Go.Operand.tmp 75) (Go.Operand.const (Go.Value.bool true)) (Go.Operand.tmp 80), type := 4, pos := "law.go:77", after := #[{ on := 7, ground := Go.Ground.data }, { on := 12, ground := Go.Ground.data }], guard := none }) (v := ?_) rfl (by kernel_rfl) (by kernel_rfl) (by kernel_rfl) (fun _ _ _ h => h) (Or.inl ⟨by rfl, ?_⟩) (by first | exact hc1 | exact hc7) ?_
            rotate_left
            · (intro w hSw; obtain s1 := hSw; go_simp <;> with_reducible rfl)
            simp only [Act.put, List.setIfInBounds_toArray, List.set_cons_zero, List.set_cons_succ]
            refine wpAnyH_take (i := 14) (oi := { dst := some 82, op := Go.Op.move (Go.Operand.tmp 81), type := 4, pos := "law.go:77", after := #[{ on := 13, ground := Go.Ground.data }, { on := 11, ground := Go.Ground.chain }], guard := none }) (v := ?_) rfl (by kernel_rfl) (by kernel_rfl) (by kernel_rfl) (fun _ _ _ h => h) (Or.inl ⟨by rfl, ?_⟩) (by first | exact hc1 | exact hc7) ?_
            rotate_left
            · (intro w hSw; obtain s1 := hSw; go_simp <;> with_reducible rfl)
            simp only [Act.put, List.setIfInBounds_toArray, List.set_cons_zero, List.set_cons_succ]
            refine wpAnyH_take (i := 15) (oi := { dst := some 83, op := Go.Op.move (Go.Operand.tmp 6), type := 27, pos := "law.go:77", after := #[{ on := 14, ground := Go.Ground.guard }], guard := some (14, false) }) (v := ?_) rfl (by kernel_rfl) (by kernel_rfl) (by kernel_rfl) (fun _ _ _ h => h) (Or.inl ⟨by rfl, ?_⟩) (by first | exact hc1 | exact hc7) ?_
            rotate_left
            · (intro w hSw; obtain s1 := hSw; go_simp <;> with_reducible rfl)
            simp only [Act.put, List.setIfInBounds_toArray, List.set_cons_zero, List.set_cons_succ]
            refine wpAnyH_take (i := 17) (oi := { dst := some 85, op := Go.Op.move (Go.Operand.tmp 7), type := 29, pos := "law.go:77", after := #[{ on := 14, ground := Go.Ground.guard }], guard := some (14, false) }) (v := ?_) rfl (by kernel_rfl) (by kernel_rfl) (by kernel_rfl) (fun _ _ _ h => h) (Or.inl ⟨by rfl, ?_⟩) (by first | exact hc1 | exact hc7) ?_
            rotate_left
            · (intro w hSw; obtain s1 := hSw; go_simp <;> with_reducible rfl)
            simp only [Act.put, List.setIfInBounds_toArray, List.set_cons_zero, List.set_cons_succ]
            refine wpAnyH_ready (rs := [16]) (by kernel_rfl) (by simp) ?_
            refine AllReadyH.cons (o := { dst := some 84, op := Go.Op.call { callee := Go.Callee.value (Go.Operand.func 16), args := #[Go.Operand.tmp 83], argTypes := #[27] }, type := 37, pos := "law.go:77", after := #[{ on := 15, ground := Go.Ground.data }, { on := 14, ground := Go.Ground.chain }, { on := 14, ground := Go.Ground.guard }], guard := some (14, false) }) rfl (fun K hK => ?_) AllReadyH.nil
            go_simp
            refine (end_s _ _ _ s' F _ (HR1.out (1 + nd)) HBD3.out).mono ?_
            rintro e w7 ⟨rfl, hB7⟩
            have hX7 := X1.far (HX1.out (1 + nd)) (Adv.of_below (F := Nul) hB7) (fun _ h _ => h)
            have hc7 := hX7.cell
            go_wp2_with fail
            refine hK.out _ _ (by first | exact hc1 | exact hc7) (fun hHeld => ?_)
            clear hK K hHeld
            try simp only [Act.put, List.setIfInBounds_toArray, List.set_cons_zero, List.set_cons_succ]
            refine wpAnyH_ready (rs := [18]) (by kernel_rfl) (by simp) ?_
            refine AllReadyH.cons (o := { dst := some 86, op := Go.Op.call { callee := Go.Callee.value (Go.Operand.func 17), args := #[Go.Operand.tmp 85], argTypes := #[29] }, type := 3, pos := "law.go:77", after := #[{ on := 17, ground := Go.Ground.data }, { on := 16, ground := Go.Ground.chain }, { on := 14, ground := Go.Ground.guard }], guard := some (14, false) }) rfl (fun K hK => ?_) AllReadyH.nil
            go_simp
            refine (xend_s _ _ _ s' G _ hX7).mono ?_
            rintro e w8 ⟨rfl, rfl⟩
            go_wp2_with fail
            refine hK.out _ _ (by first | exact hc1 | exact hc7) (fun hHeld => ?_)
            clear hK K hHeld
            try simp only [Act.put, List.setIfInBounds_toArray, List.set_cons_zero, List.set_cons_succ]
            refine wpAnyH_take (i := 19) (oi := { dst := some 87, op := Go.Op.binOp Go.BinOp.neq 3 (Go.Operand.tmp 84) (Go.Operand.tmp 86) 3, type := 4, pos := "law.go:77", after := #[{ on := 16, ground := Go.Ground.data }, { on := 18, ground := Go.Ground.data }, { on := 14, ground := Go.Ground.guard }], guard := some (14, false) }) (v := ?_) rfl (by kernel_rfl) (by kernel_rfl) (by kernel_rfl) (fun _ _ _ h => h) (Or.inl ⟨by rfl, ?_⟩) (by first | exact hc1 | exact hc7) ?_
            rotate_left
            · (intro w hSw; obtain s1 := hSw; go_simp <;> with_reducible rfl)
            simp only [Act.put, List.setIfInBounds_toArray, List.set_cons_zero, List.set_cons_succ]
            refine wpAnyH_take (i := 20) (oi := { dst := some 88, op := Go.Op.pick (Go.Operand.tmp 82) (Go.Operand.const (Go.Value.bool true)) (Go.Operand.tmp 87), type := 4, pos := "law.go:77", after := #[{ on := 14, ground := Go.Ground.data }, { on := 19, ground := Go.Ground.data }], guard := none }) (v := ?_) rfl (by kernel_rfl) (by kernel_rfl) (by kernel_rfl) (fun _ _ _ h => h) (Or.inl ⟨by rfl, ?_⟩) (by first | exact hc1 | exact hc7) ?_
            rotate_left
            · (intro w hSw; obtain s1 := hSw; go_simp <;> with_reducible rfl)
            simp only [Act.put, List.setIfInBounds_toArray, List.set_cons_zero, List.set_cons_succ]
            refine wpAnyH_done (by kernel_rfl) ?_ _
            have hM7 := (HM3.out.far ((Adv.refl Nul w3).drewN (1 + nd)) (fun _ h _ => h)).far (Adv.of_below (F := Nul) hB7) (fun _ h _ => h)
            have hR7 := R1.far (HR1.out (1 + nd)) (Adv.of_below (F := Nul) hB7) (fun _ h _ => h) HBD3.out
            have hb7 := (Adv.of_below (F := Nul) hB7).bd (G := F) HBD3.out
            have hD7 := below_drewN HB3.out (1 + nd)
            have hW7 := hD7.trans (hB7.mono hD7.size)
            have HH7 := Lib.hid (⟨hM7, hb7, hR7, hX7, hW7⟩ : Made w7 F0 (.slice (some ⟨g, 0, none⟩) es.length c) es ∧ Bd F w7 ∧ R1 w7 F b q V s' ∧ X1 w7 G rc q V s' ∧ Below W.heap.size W w7)
            clear hM7 hR7 hb7 hD7 hW7 hX7 hB7
            go_wp2_with fail
            exact ⟨⟨j + 1, s', by simp, by omega, HH7.out⟩, by simp [intOf]; omega⟩
        · obtain rfl : j = es.length := by omega
          go_wp2_with fail
          refine (lives_any _).mono ?_
          rintro e w7 ⟨rfl, hb7⟩
          go_wp2
          go_ret
          exact ⟨rfl, HB.out.trans (hb7.mono HB.out.size)⟩
end Go.Proofs.Ytplibkdnfjofdaa
