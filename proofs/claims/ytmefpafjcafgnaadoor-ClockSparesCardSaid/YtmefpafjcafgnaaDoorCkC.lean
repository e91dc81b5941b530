/- The program's ring: made, check, New, Use, Drop, Touch, Pin, Unpin, Hand. -/
import Derived.Test.YtmefpafjcafgnaaDoorCkA
import Derived.Test.YtmefpafjcafgnaaDoorOne
namespace Go.Proofs.YtmefpafjcafgnaaDoor
open Go.RowKit

def ccells (s : CS) : Array Value := #[.int .i64 (s.n : Int), .int .u64 (s.u : Int), .int .u64 (s.p : Int), .int .u64 (s.m : Int), .int .i64 (s.h : Int)]
/-- the program's ring of s -/
structure Cl (w : World) (d : Nat) (s : CS) : Prop where
  ok : COk s
  blk : Blk w d 55 (ccells s)
section
variable {w w' : World} {d : Nat} {s t : CS}
set_option maxRecDepth 3000 in
theorem Cl.lt (h : Cl w d s) : d < w.heap.size := h.blk.lt
set_option maxRecDepth 3000 in
theorem Cl.keep (h : Cl w d s) (k : w'.heap[d]? = w.heap[d]?) : Cl w' d s := ⟨h.ok, h.blk.keep k⟩
set_option maxRecDepth 3000 in
theorem Cl.far {F F' : Nat → Prop} (h : Cl w d s) (a : Adv F w F' w') (hF : ¬ F d) : Cl w' d s := h.keep (a.block d h.lt hF)
set_option maxRecDepth 3000 in
theorem Cl.drewN (h : Cl w d s) (k : Nat) : Cl (w.drewN k) d s := ⟨h.ok, h.blk⟩
set_option maxRecDepth 3000 in
theorem Cl.drew (h : Cl w d s) : Cl w.drew d s := ⟨h.ok, h.blk⟩
set_option maxRecDepth 3000 in
theorem Cl.c0 (h : Cl w d s) : w.cell? ⟨d, 0, none⟩ = some (.int .i64 (s.n : Int)) := h.blk.cell 0
set_option maxRecDepth 3000 in
theorem Cl.c1 (h : Cl w d s) : w.cell? ⟨d, 1, none⟩ = some (.int .u64 (s.u : Int)) := h.blk.cell 1
set_option maxRecDepth 3000 in
theorem Cl.c2 (h : Cl w d s) : w.cell? ⟨d, 2, none⟩ = some (.int .u64 (s.p : Int)) := h.blk.cell 2
set_option maxRecDepth 3000 in
theorem Cl.c3 (h : Cl w d s) : w.cell? ⟨d, 3, none⟩ = some (.int .u64 (s.m : Int)) := h.blk.cell 3
set_option maxRecDepth 3000 in
theorem Cl.c4 (h : Cl w d s) : w.cell? ⟨d, 4, none⟩ = some (.int .i64 (s.h : Int)) := h.blk.cell 4
end

set_option maxRecDepth 3000 in
theorem cmade_any (w : World) (d : Nat) (s : CS) (h : Cl w d s) : Calls Tryd.prog 25 #[.pointer (some ⟨d, 0, none⟩)] w fun e w' => e = .returned (.bool true) ∧ w = w' := by
  have c := h.c0
  have h0 : 0 < s.n := h.ok.lo
  obtain ⟨n, hn⟩ : ∃ n, n = s.n := ⟨_, rfl⟩
  rw [← hn] at c h0
  clear h hn
  go_enter Tryd.func25, Tryd.ntmps25
  go_wp2
  go_ret
  exact ⟨rfl, rfl⟩
def chkE (s : CS) (i : Int) : Int := if hereC s i then 0 else 2
set_option maxRecDepth 3000 in
theorem ccheck_any (w : World) (d : Nat) (s : CS) (h : Cl w d s) (i : Int) : Calls Tryd.prog 30 #[.pointer (some ⟨d, 0, none⟩), .int .i64 i] w fun e w' => e = .returned (.int .i64 (chkE s i)) ∧ w = w' := by
  have HM := Lib.hid (cmade_any w d s h)
  have c := h.c0
  obtain ⟨E, hE⟩ : ∃ E, E = chkE s i := ⟨_, rfl⟩
  rw [← hE]
  clear h
  by_cases hi : i < 0
  · obtain rfl : E = 2 := by rw [hE]; exact if_neg (by unfold hereC; omega)
    clear hE
    generalize s.n = n at c
    go_enter Tryd.func30, Tryd.ntmps30
    go_wp2_with (first
      | (go_at_call 25; refine HM.out.mono ?_; rintro e w1 ⟨rfl, rfl⟩)
      | fail)
    go_ret
    exact ⟨rfl, rfl⟩
  · replace hi : 0 ≤ i := by omega
    by_cases hn : i < (s.n : Int)
    · obtain rfl : E = 0 := by rw [hE]; exact if_pos ⟨hi, hn⟩
      clear hE
      generalize s.n = n at c hn
      go_enter Tryd.func30, Tryd.ntmps30
      go_wp2_with (first
        | (go_at_call 25; refine HM.out.mono ?_; rintro e w1 ⟨rfl, rfl⟩)
        | fail)
      go_ret
      exact ⟨rfl, rfl⟩
    · obtain rfl : E = 2 := by rw [hE]; exact if_neg (fun k => hn k.2)
      clear hE
      replace hn : (s.n : Int) ≤ i := by omega
      generalize s.n = n at c hn
      go_enter Tryd.func30, Tryd.ntmps30
      go_wp2_with (first
        | (go_at_call 25; refine HM.out.mono ?_; rintro e w1 ⟨rfl, rfl⟩)
        | fail)
      go_ret
      exact ⟨rfl, rfl⟩
def usedE (s : CS) (i : Int) : Int := if hereC s i then (if s.u.testBit i.toNat = false then 11 else 0) else 2
set_option maxRecDepth 3000 in
theorem hereC_nat {s : CS} {i : Int} (h : hereC s i) : ∃ k : Nat, i = (k : Int) ∧ k < s.n := ⟨i.toNat, by have := h.1; omega, by have := h.1; have := h.2; omega⟩
set_option maxRecDepth 3000 in
theorem ccheckUsed_any (w : World) (d : Nat) (s : CS) (h : Cl w d s) (i : Int) : Calls Tryd.prog 33 #[.pointer (some ⟨d, 0, none⟩), .int .i64 i] w fun e w' => e = .returned (.int .i64 (usedE s i)) ∧ w = w' := by
  have hc := ccheck_any w d s h i
  unfold usedE
  unfold chkE at hc
  by_cases hh : hereC s i
  · rw [if_pos hh] at hc
    obtain ⟨k, rfl, hk⟩ := hereC_nat hh
    have HC := Lib.hid hc
    have HB := Lib.hid (has_any s.u k h.ok.u64 (Nat.lt_of_lt_of_le hk h.ok.hi) w)
    have c1 := h.c1
    rw [if_pos hh, Int.toNat_natCast]
    generalize s.u = u at c1 HB
    generalize u.testBit k = b at HB
    clear hc hh hk h
    cases b
    · go_enter Tryd.func33, Tryd.ntmps33
      go_wp2_with (first
        | (go_at_call 30; refine HC.out.mono ?_; rintro e w1 ⟨rfl, rfl⟩)
        | (go_at_call 35; refine HB.out.mono ?_; rintro e w1 ⟨rfl, rfl⟩)
        | fail)
      go_ret
      exact ⟨rfl, rfl⟩
    · go_enter Tryd.func33, Tryd.ntmps33
      go_wp2_with (first
        | (go_at_call 30; refine HC.out.mono ?_; rintro e w1 ⟨rfl, rfl⟩)
        | (go_at_call 35; refine HB.out.mono ?_; rintro e w1 ⟨rfl, rfl⟩)
        | fail)
      go_ret
      exact ⟨rfl, rfl⟩
  · rw [if_neg hh] at hc ⊢
    have HC := Lib.hid hc
    clear hc hh h
    go_enter Tryd.func33, Tryd.ntmps33
    go_wp2_with (first
      | (go_at_call 30; refine HC.out.mono ?_; rintro e w1 ⟨rfl, rfl⟩)
      | fail)
    go_ret
    exact ⟨rfl, rfl⟩

/-! A set in the ring that is put or dropped. -/
def fld (s : CS) (j x : Nat) : CS := if j = 1 then { s with u := x } else if j = 2 then { s with p := x } else { s with m := x }
/-- the ring with whatever sets of this size: between the calls of one operation -/
structure Cw (w : World) (d : Nat) (s : CS) : Prop where
  blk : Blk w d 55 (ccells s)
  u : s.u < 18446744073709551616
  p : s.p < 18446744073709551616
  m : s.m < 18446744073709551616
set_option maxRecDepth 3000 in
theorem Cl.cw {w : World} {d : Nat} {s : CS} (h : Cl w d s) : Cw w d s := ⟨h.blk, h.ok.u64, h.ok.p64, h.ok.m64⟩
set_option maxRecDepth 3000 in
theorem ddrop_64 {x i : Nat} (hx : x < 18446744073709551616) : ddrop x i < 18446744073709551616 := ddrop_lt (n := 64) hx
set_option maxRecDepth 3000 in
theorem pput_64 {x i : Nat} (hx : x < 18446744073709551616) (hi : i < 64) : pput x i < 18446744073709551616 := pput_lt (n := 64) hx hi
set_option maxRecDepth 3000 in
theorem cput1 (w : World) (d : Nat) (s : CS) (h : Cw w d s) (i : Nat) (hi : i < 64) : Calls Tryd.prog 31 #[.pointer (some ⟨d, 1, none⟩), .int .i64 (i : Int)] w fun e w' => e = .returned (.tuple #[]) ∧ Cw w' d { s with u := pput s.u i } ∧ Adv (One d) w (One d) w' := by
  refine (put_any s.u i d 1 h.u hi w (h.blk.cell 1) (h.blk.frozen 1)).mono ?_
  rintro e w1 ⟨rfl, k, rfl⟩
  exact ⟨rfl, ⟨(show Blk (w.drewN k) d _ _ from h.blk).set_ 1 _, pput_64 h.u hi, h.p, h.m⟩, adv_set _ _ _ _ _⟩
set_option maxRecDepth 3000 in
theorem cput2 (w : World) (d : Nat) (s : CS) (h : Cw w d s) (i : Nat) (hi : i < 64) : Calls Tryd.prog 31 #[.pointer (some ⟨d, 2, none⟩), .int .i64 (i : Int)] w fun e w' => e = .returned (.tuple #[]) ∧ Cw w' d { s with p := pput s.p i } ∧ Adv (One d) w (One d) w' := by
  refine (put_any s.p i d 2 h.p hi w (h.blk.cell 2) (h.blk.frozen 2)).mono ?_
  rintro e w1 ⟨rfl, k, rfl⟩
  exact ⟨rfl, ⟨(show Blk (w.drewN k) d _ _ from h.blk).set_ 2 _, h.u, pput_64 h.p hi, h.m⟩, adv_set _ _ _ _ _⟩
set_option maxRecDepth 3000 in
theorem cput3 (w : World) (d : Nat) (s : CS) (h : Cw w d s) (i : Nat) (hi : i < 64) : Calls Tryd.prog 31 #[.pointer (some ⟨d, 3, none⟩), .int .i64 (i : Int)] w fun e w' => e = .returned (.tuple #[]) ∧ Cw w' d { s with m := pput s.m i } ∧ Adv (One d) w (One d) w' := by
  refine (put_any s.m i d 3 h.m hi w (h.blk.cell 3) (h.blk.frozen 3)).mono ?_
  rintro e w1 ⟨rfl, k, rfl⟩
  exact ⟨rfl, ⟨(show Blk (w.drewN k) d _ _ from h.blk).set_ 3 _, h.u, h.p, pput_64 h.m hi⟩, adv_set _ _ _ _ _⟩
set_option maxRecDepth 3000 in
theorem cdrop1 (w : World) (d : Nat) (s : CS) (h : Cw w d s) (i : Nat) (hi : i < 64) : Calls Tryd.prog 32 #[.pointer (some ⟨d, 1, none⟩), .int .i64 (i : Int)] w fun e w' => e = .returned (.tuple #[]) ∧ Cw w' d { s with u := ddrop s.u i } ∧ Adv (One d) w (One d) w' := by
  refine (drop_any s.u i d 1 h.u hi w (h.blk.cell 1) (h.blk.frozen 1)).mono ?_
  rintro e w1 ⟨rfl, k, rfl⟩
  exact ⟨rfl, ⟨(show Blk (w.drewN k) d _ _ from h.blk).set_ 1 _, ddrop_64 h.u, h.p, h.m⟩, adv_set _ _ _ _ _⟩
set_option maxRecDepth 3000 in
theorem cdrop2 (w : World) (d : Nat) (s : CS) (h : Cw w d s) (i : Nat) (hi : i < 64) : Calls Tryd.prog 32 #[.pointer (some ⟨d, 2, none⟩), .int .i64 (i : Int)] w fun e w' => e = .returned (.tuple #[]) ∧ Cw w' d { s with p := ddrop s.p i } ∧ Adv (One d) w (One d) w' := by
  refine (drop_any s.p i d 2 h.p hi w (h.blk.cell 2) (h.blk.frozen 2)).mono ?_
  rintro e w1 ⟨rfl, k, rfl⟩
  exact ⟨rfl, ⟨(show Blk (w.drewN k) d _ _ from h.blk).set_ 2 _, h.u, ddrop_64 h.p, h.m⟩, adv_set _ _ _ _ _⟩
set_option maxRecDepth 3000 in
theorem cdrop3 (w : World) (d : Nat) (s : CS) (h : Cw w d s) (i : Nat) (hi : i < 64) : Calls Tryd.prog 32 #[.pointer (some ⟨d, 3, none⟩), .int .i64 (i : Int)] w fun e w' => e = .returned (.tuple #[]) ∧ Cw w' d { s with m := ddrop s.m i } ∧ Adv (One d) w (One d) w' := by
  refine (drop_any s.m i d 3 h.m hi w (h.blk.cell 3) (h.blk.frozen 3)).mono ?_
  rintro e w1 ⟨rfl, k, rfl⟩
  exact ⟨rfl, ⟨(show Blk (w.drewN k) d _ _ from h.blk).set_ 3 _, h.u, h.p, ddrop_64 h.m⟩, adv_set _ _ _ _ _⟩
/-- what a call that names a place says -/
def DoC (f : Nat) (k : Int) (i : Int) : Prop := ∀ (w : World) (d : Nat) (s : CS), Cl w d s → Calls Tryd.prog f #[.pointer (some ⟨d, 0, none⟩), .int .i64 i] w fun e w' => e = .returned (.int .i64 (doE k s i)) ∧ Cl w' d (doC k s i) ∧ Adv (One d) w (One d) w'
set_option maxRecDepth 3000 in
set_option maxHeartbeats 800000 in
theorem cuse_any (i : Int) : DoC 20 0 i := by
  intro w d s h
  have HC := Lib.hid (ccheck_any w d s h i)
  have HL := Lib.hid h
  by_cases hu : hereC s i
  · have hh := hu
    have e1 : chkE s i = 0 := if_pos hh
    have e2 : doE 0 s i = 0 := by unfold doE; rw [if_pos hh]; exact if_neg (by rintro ⟨h1 | h1, _⟩ <;> cases h1)
    have hok := doC_ok (k := 0) h.ok i
    obtain ⟨k, rfl, hk⟩ := hereC_nat hh
    have e3 : doC 0 s (k : Int) = doS 0 s k := by unfold doC; rw [if_pos hh, Int.toNat_natCast]
    have e4 : doS 0 s k = { s with u := pput s.u k, p := ddrop s.p k, m := pput s.m k } := rfl
    rw [e3, e4] at hok
    rw [e2, e3, e4]
    rw [e1] at HC
    have HO := Lib.hid hok
    have hk64 : k < 64 := Nat.lt_of_lt_of_le hk h.ok.hi
    have H0 := Lib.hid (fun w t (h : Cw w d t) => cput1 w d t h k hk64)
    have H1 := Lib.hid (fun w t (h : Cw w d t) => cdrop2 w d t h k hk64)
    have H2 := Lib.hid (fun w t (h : Cw w d t) => cput3 w d t h k hk64)
    have HW0 := Lib.hid h.cw
    clear hu hh h hok e1 e2 e3 e4 hk hk64
    go_enter Tryd.func20, Tryd.ntmps20
    go_wp2_with (first
      | (go_at_call 30; refine HC.out.mono ?_; rintro e w1 ⟨rfl, rfl⟩)
      | (go_at_call 31; refine (H0.out _ _ HW0.out).mono ?_; rintro e w2 ⟨rfl, a0, b0⟩; have HW1 := Lib.hid a0; have HB1 := Lib.hid b0; clear a0 b0 H0)
      | (go_at_call 32; refine (H1.out _ _ HW1.out).mono ?_; rintro e w3 ⟨rfl, a1, b1⟩; have HW2 := Lib.hid a1; have HB2 := Lib.hid b1; clear a1 b1 H1)
      | (go_at_call 31; refine (H2.out _ _ HW2.out).mono ?_; rintro e w4 ⟨rfl, a2, b2⟩; have HW3 := Lib.hid a2; have HB3 := Lib.hid b2; clear a2 b2 H2)
      | fail)
    go_ret
    exact ⟨rfl, ⟨HO.out, HW3.out.blk⟩, ((HB1.out.trans HB2.out).trans HB3.out)⟩
  · have e1 : chkE s i = 2 := if_neg hu
    have e2 : doE 0 s i = 2 := if_neg hu
    have e3 : doC 0 s i = s := if_neg hu
    rw [e1] at HC
    rw [e2, e3]
    clear hu h e1 e2 e3
    go_enter Tryd.func20, Tryd.ntmps20
    go_wp2_with (first
      | (go_at_call 30; refine HC.out.mono ?_; rintro e w1 ⟨rfl, rfl⟩)
      | fail)
    go_ret
    exact ⟨rfl, HL.out, Adv.refl _ _⟩
set_option maxRecDepth 3000 in
set_option maxHeartbeats 800000 in
theorem cdrop_any (i : Int) : DoC 21 1 i := by
  intro w d s h
  have HC := Lib.hid (ccheck_any w d s h i)
  have HL := Lib.hid h
  by_cases hu : hereC s i
  · have hh := hu
    have e1 : chkE s i = 0 := if_pos hh
    have e2 : doE 1 s i = 0 := by unfold doE; rw [if_pos hh]; exact if_neg (by rintro ⟨h1 | h1, _⟩ <;> cases h1)
    have hok := doC_ok (k := 1) h.ok i
    obtain ⟨k, rfl, hk⟩ := hereC_nat hh
    have e3 : doC 1 s (k : Int) = doS 1 s k := by unfold doC; rw [if_pos hh, Int.toNat_natCast]
    have e4 : doS 1 s k = { s with u := ddrop s.u k, p := ddrop s.p k, m := ddrop s.m k } := rfl
    rw [e3, e4] at hok
    rw [e2, e3, e4]
    rw [e1] at HC
    have HO := Lib.hid hok
    have hk64 : k < 64 := Nat.lt_of_lt_of_le hk h.ok.hi
    have H0 := Lib.hid (fun w t (h : Cw w d t) => cdrop1 w d t h k hk64)
    have H1 := Lib.hid (fun w t (h : Cw w d t) => cdrop2 w d t h k hk64)
    have H2 := Lib.hid (fun w t (h : Cw w d t) => cdrop3 w d t h k hk64)
    have HW0 := Lib.hid h.cw
    clear hu hh h hok e1 e2 e3 e4 hk hk64
    go_enter Tryd.func21, Tryd.ntmps21
    go_wp2_with (first
      | (go_at_call 30; refine HC.out.mono ?_; rintro e w1 ⟨rfl, rfl⟩)
      | (go_at_call 32; refine (H0.out _ _ HW0.out).mono ?_; rintro e w2 ⟨rfl, a0, b0⟩; have HW1 := Lib.hid a0; have HB1 := Lib.hid b0; clear a0 b0 H0)
      | (go_at_call 32; refine (H1.out _ _ HW1.out).mono ?_; rintro e w3 ⟨rfl, a1, b1⟩; have HW2 := Lib.hid a1; have HB2 := Lib.hid b1; clear a1 b1 H1)
      | (go_at_call 32; refine (H2.out _ _ HW2.out).mono ?_; rintro e w4 ⟨rfl, a2, b2⟩; have HW3 := Lib.hid a2; have HB3 := Lib.hid b2; clear a2 b2 H2)
      | fail)
    go_ret
    exact ⟨rfl, ⟨HO.out, HW3.out.blk⟩, ((HB1.out.trans HB2.out).trans HB3.out)⟩
  · have e1 : chkE s i = 2 := if_neg hu
    have e2 : doE 1 s i = 2 := if_neg hu
    have e3 : doC 1 s i = s := if_neg hu
    rw [e1] at HC
    rw [e2, e3]
    clear hu h e1 e2 e3
    go_enter Tryd.func21, Tryd.ntmps21
    go_wp2_with (first
      | (go_at_call 30; refine HC.out.mono ?_; rintro e w1 ⟨rfl, rfl⟩)
      | fail)
    go_ret
    exact ⟨rfl, HL.out, Adv.refl _ _⟩
set_option maxRecDepth 3000 in
set_option maxHeartbeats 800000 in
theorem ctouch_any (i : Int) : DoC 22 2 i := by
  intro w d s h
  have HC := Lib.hid (ccheckUsed_any w d s h i)
  have HL := Lib.hid h
  by_cases hu : hereC s i ∧ s.u.testBit i.toNat = true
  · obtain ⟨hh, hb⟩ := hu
    have e1 : usedE s i = 0 := by unfold usedE; rw [if_pos hh, if_neg (by rw [hb]; decide)]
    have e2 : doE 2 s i = 0 := by unfold doE; rw [if_pos hh, if_neg (by rw [hb]; rintro ⟨_, k⟩; cases k)]
    have hok := doC_ok (k := 2) h.ok i
    obtain ⟨k, rfl, hk⟩ := hereC_nat hh
    have e3 : doC 2 s (k : Int) = doS 2 s k := by unfold doC; rw [if_pos hh, Int.toNat_natCast]
    have e4 : doS 2 s k = { s with m := pput s.m k } := by rw [Int.toNat_natCast] at hb; unfold doS; rw [if_neg (by decide), if_neg (by decide),  if_pos rfl, if_pos hb]
    rw [e3, e4] at hok
    rw [e2, e3, e4]
    rw [e1] at HC
    have HO := Lib.hid hok
    have hk64 : k < 64 := Nat.lt_of_lt_of_le hk h.ok.hi
    have H0 := Lib.hid (fun w t (h : Cw w d t) => cput3 w d t h k hk64)
    have HW0 := Lib.hid h.cw
    clear hh h hok e1 e2 e3 e4 hk hk64 hb
    go_enter Tryd.func22, Tryd.ntmps22
    go_wp2_with (first
      | (go_at_call 33; refine HC.out.mono ?_; rintro e w1 ⟨rfl, rfl⟩)
      | (go_at_call 31; refine (H0.out _ _ HW0.out).mono ?_; rintro e w2 ⟨rfl, a0, b0⟩; have HW1 := Lib.hid a0; have HB1 := Lib.hid b0; clear a0 b0 H0)
      | fail)
    go_ret
    exact ⟨rfl, ⟨HO.out, HW1.out.blk⟩, HB1.out⟩
  · have e1 : usedE s i = doE 2 s i := by
      unfold usedE doE
      split
      · simp
      · rfl
    have e2 : doE 2 s i ≠ 0 := by
      unfold doE
      split
      · rename_i hh
        have hb : s.u.testBit i.toNat = false := by
          cases e : s.u.testBit i.toNat
          · rfl
          · exact (hu ⟨hh, e⟩).elim
        rw [if_pos ⟨by decide, hb⟩]; decide
      · decide
    have e3 : doC 2 s i = s := by
      unfold doC
      split
      · rename_i hh
        have hb : s.u.testBit i.toNat = false := by
          cases e : s.u.testBit i.toNat
          · rfl
          · exact (hu ⟨hh, e⟩).elim
        unfold doS; rw [if_neg (by decide), if_neg (by decide), if_pos rfl, if_neg (by rw [hb]; decide)]
      · rfl
    rw [e1] at HC
    rw [e3]
    generalize doE 2 s i = E at HC e2 ⊢
    have e4 : (E == 0) = false := by simpa using e2
    clear hu h e1 e2 e3
    go_enter Tryd.func22, Tryd.ntmps22
    go_wp2_with (first
      | (go_at_call 33; refine HC.out.mono ?_; rintro e w1 ⟨rfl, rfl⟩)
      | fail)
    go_ret
    exact ⟨rfl, HL.out, Adv.refl _ _⟩
set_option maxRecDepth 3000 in
set_option maxHeartbeats 800000 in
theorem cpin_any (i : Int) : DoC 23 3 i := by
  intro w d s h
  have HC := Lib.hid (ccheckUsed_any w d s h i)
  have HL := Lib.hid h
  by_cases hu : hereC s i ∧ s.u.testBit i.toNat = true
  · obtain ⟨hh, hb⟩ := hu
    have e1 : usedE s i = 0 := by unfold usedE; rw [if_pos hh, if_neg (by rw [hb]; decide)]
    have e2 : doE 3 s i = 0 := by unfold doE; rw [if_pos hh, if_neg (by rw [hb]; rintro ⟨_, k⟩; cases k)]
    have hok := doC_ok (k := 3) h.ok i
    obtain ⟨k, rfl, hk⟩ := hereC_nat hh
    have e3 : doC 3 s (k : Int) = doS 3 s k := by unfold doC; rw [if_pos hh, Int.toNat_natCast]
    have e4 : doS 3 s k = { s with p := pput s.p k } := by rw [Int.toNat_natCast] at hb; unfold doS; rw [if_neg (by decide), if_neg (by decide), if_neg (by decide),  if_pos rfl, if_pos hb]
    rw [e3, e4] at hok
    rw [e2, e3, e4]
    rw [e1] at HC
    have HO := Lib.hid hok
    have hk64 : k < 64 := Nat.lt_of_lt_of_le hk h.ok.hi
    have H0 := Lib.hid (fun w t (h : Cw w d t) => cput2 w d t h k hk64)
    have HW0 := Lib.hid h.cw
    clear hh h hok e1 e2 e3 e4 hk hk64 hb
    go_enter Tryd.func23, Tryd.ntmps23
    go_wp2_with (first
      | (go_at_call 33; refine HC.out.mono ?_; rintro e w1 ⟨rfl, rfl⟩)
      | (go_at_call 31; refine (H0.out _ _ HW0.out).mono ?_; rintro e w2 ⟨rfl, a0, b0⟩; have HW1 := Lib.hid a0; have HB1 := Lib.hid b0; clear a0 b0 H0)
      | fail)
    go_ret
    exact ⟨rfl, ⟨HO.out, HW1.out.blk⟩, HB1.out⟩
  · have e1 : usedE s i = doE 3 s i := by
      unfold usedE doE
      split
      · simp
      · rfl
    have e2 : doE 3 s i ≠ 0 := by
      unfold doE
      split
      · rename_i hh
        have hb : s.u.testBit i.toNat = false := by
          cases e : s.u.testBit i.toNat
          · rfl
          · exact (hu ⟨hh, e⟩).elim
        rw [if_pos ⟨by decide, hb⟩]; decide
      · decide
    have e3 : doC 3 s i = s := by
      unfold doC
      split
      · rename_i hh
        have hb : s.u.testBit i.toNat = false := by
          cases e : s.u.testBit i.toNat
          · rfl
          · exact (hu ⟨hh, e⟩).elim
        unfold doS; rw [if_neg (by decide), if_neg (by decide), if_neg (by decide), if_pos rfl, if_neg (by rw [hb]; decide)]
      · rfl
    rw [e1] at HC
    rw [e3]
    generalize doE 3 s i = E at HC e2 ⊢
    have e4 : (E == 0) = false := by simpa using e2
    clear hu h e1 e2 e3
    go_enter Tryd.func23, Tryd.ntmps23
    go_wp2_with (first
      | (go_at_call 33; refine HC.out.mono ?_; rintro e w1 ⟨rfl, rfl⟩)
      | fail)
    go_ret
    exact ⟨rfl, HL.out, Adv.refl _ _⟩
set_option maxRecDepth 3000 in
set_option maxHeartbeats 800000 in
theorem cunpin_any (i : Int) : DoC 24 4 i := by
  intro w d s h
  have HC := Lib.hid (ccheck_any w d s h i)
  have HL := Lib.hid h
  by_cases hu : hereC s i
  · have hh := hu
    have e1 : chkE s i = 0 := if_pos hh
    have e2 : doE 4 s i = 0 := by unfold doE; rw [if_pos hh]; exact if_neg (by rintro ⟨h1 | h1, _⟩ <;> cases h1)
    have hok := doC_ok (k := 4) h.ok i
    obtain ⟨k, rfl, hk⟩ := hereC_nat hh
    have e3 : doC 4 s (k : Int) = doS 4 s k := by unfold doC; rw [if_pos hh, Int.toNat_natCast]
    have e4 : doS 4 s k = { s with p := ddrop s.p k } := rfl
    rw [e3, e4] at hok
    rw [e2, e3, e4]
    rw [e1] at HC
    have HO := Lib.hid hok
    have hk64 : k < 64 := Nat.lt_of_lt_of_le hk h.ok.hi
    have H0 := Lib.hid (fun w t (h : Cw w d t) => cdrop2 w d t h k hk64)
    have HW0 := Lib.hid h.cw
    clear hu hh h hok e1 e2 e3 e4 hk hk64
    go_enter Tryd.func24, Tryd.ntmps24
    go_wp2_with (first
      | (go_at_call 30; refine HC.out.mono ?_; rintro e w1 ⟨rfl, rfl⟩)
      | (go_at_call 32; refine (H0.out _ _ HW0.out).mono ?_; rintro e w2 ⟨rfl, a0, b0⟩; have HW1 := Lib.hid a0; have HB1 := Lib.hid b0; clear a0 b0 H0)
      | fail)
    go_ret
    exact ⟨rfl, ⟨HO.out, HW1.out.blk⟩, HB1.out⟩
  · have e1 : chkE s i = 2 := if_neg hu
    have e2 : doE 4 s i = 2 := if_neg hu
    have e3 : doC 4 s i = s := if_neg hu
    rw [e1] at HC
    rw [e2, e3]
    clear hu h e1 e2 e3
    go_enter Tryd.func24, Tryd.ntmps24
    go_wp2_with (first
      | (go_at_call 30; refine HC.out.mono ?_; rintro e w1 ⟨rfl, rfl⟩)
      | fail)
    go_ret
    exact ⟨rfl, HL.out, Adv.refl _ _⟩
end Go.Proofs.YtmefpafjcafgnaaDoor
