/- The program's ring: turn, Next. -/
import Derived.Test.YtmefpafjcafgnaaDoorCkD
import Derived.Deep.LoopGhost
namespace Go.Proofs.YtmefpafjcafgnaaDoor
open Go.RowKit

def TnR (w : World) (d : Nat) (r : Nat × CS) (k : Nat) (_ : Value) (wr : World) : Prop := ∃ t, turnF k t = some r ∧ Cl wr d t ∧ Adv (One d) w (One d) wr
set_option maxRecDepth 3000 in
theorem cl_set4 {w : World} {d : Nat} {s t : CS} (h : Cl w d s) (x : Nat) (ht : COk t) (e : ccells t = (ccells s).setIfInBounds 4 (.int .i64 (x : Int))) : Cl (w.setCell ⟨d, 4, none⟩ (.int .i64 (x : Int))) d t := by
  refine ⟨ht, ?_⟩
  rw [e]
  exact h.blk.set_ 4 _
set_option maxRecDepth 3000 in
theorem turn_done {k i : Nat} {s t : CS} (hp : s.p.testBit s.h = false) (hm : s.m.testBit s.h = false) (h : turnF (k + 1) s = some (i, t)) : i = s.h ∧ t = stepP s := by
  unfold turnF at h
  rw [if_neg (by rw [hp]; decide), if_neg (by rw [hm]; decide)] at h
  injection h with h
  injection h with h1 h2
  exact ⟨h1.symm, h2.symm⟩
set_option maxRecDepth 3000 in
theorem turn_p {k : Nat} {s : CS} {r : Nat × CS} (hp : s.p.testBit s.h = true) (h : turnF (k + 1) s = some r) : turnF k (stepP s) = some r := by
  unfold turnF at h
  rwa [if_pos hp] at h
set_option maxRecDepth 3000 in
theorem turn_m {k : Nat} {s : CS} {r : Nat × CS} (hp : s.p.testBit s.h = false) (hm : s.m.testBit s.h = true) (h : turnF (k + 1) s = some r) : turnF k (stepM s) = some r := by
  unfold turnF at h
  rwa [if_neg (by rw [hp]; decide), if_pos hm] at h
set_option maxRecDepth 3000 in
set_option maxHeartbeats 1600000 in
theorem turn_any (w : World) (d i K : Nat) (s t : CS) (h : Cl w d s) (hr : turnF K s = some (i, t)) : Calls Tryd.prog 28 #[.pointer (some ⟨d, 0, none⟩)] w fun e w' => e = .returned (.int .i64 (i : Int)) ∧ Cl w' d t ∧ Adv (One d) w (One d) w' := by
  have HI := Lib.hid (show TnR w d (i, t) K (.int .i64 0) w from ⟨s, hr, h, Adv.refl _ _⟩)
  clear h hr
  go_enter Tryd.func28, Tryd.ntmps28
  go_wp2_with fail
  go_loopg [3] K (fun k v wr => TnR w d (i, t) k v wr)
  case atStart =>
    obtain ⟨s, hr, h, a⟩ := HI.out
    exact ⟨s, hr, h, a⟩
  case round =>
    obtain ⟨x, hx, hc, ha⟩ := hrel
    clear HI
    cases gk with
    | zero => cases hx
    | succ k =>
    have c0 := hc.c0
    have c4 := hc.c4
    have f4 : wr.frozen? ⟨d, 4, none⟩ = false := hc.blk.frozen 4
    have hn := hc.ok.hi
    have hlo := hc.ok.lo
    have hh := hc.ok.h
    have hmod : ((x.h : Int) + 1) % (x.n : Int) = (nxt x : Int) := by rw [← nxt_mod hc.ok, Int.natCast_emod, Int.natCast_add]; rfl
    have hs1 : Cl (wr.setCell ⟨d, 4, none⟩ (.int .i64 (nxt x : Int))) d (stepP x) := cl_set4 hc _ hc.ok.stepP rfl
    have ha1 : Adv (One d) w (One d) (wr.setCell ⟨d, 4, none⟩ (.int .i64 (nxt x : Int))) := ha.set_one 0 4 _
    have c2 := hc.c2
    have c3 := hc.c3
    have HP := Lib.hid (fun w1 => has_any x.p x.h hc.ok.p64 (Nat.lt_of_lt_of_le hh hn) w1)
    have HM := Lib.hid (fun w1 => has_any x.m x.h hc.ok.m64 (Nat.lt_of_lt_of_le hh hn) w1)
    have HX := Lib.hid hx
    have HS1 := Lib.hid hs1
    have HA1 := Lib.hid ha1
    have HD := Lib.hid (fun w1 (h1 : Cw w1 d (stepP x)) => cdrop3 w1 d (stepP x) h1 x.h (Nat.lt_of_lt_of_le hh hn))
    have HOK := Lib.hid hc.ok
    obtain ⟨bp, hbp⟩ : ∃ bp, bp = x.p.testBit x.h := ⟨_, rfl⟩
    obtain ⟨bm, hbm⟩ : ∃ bm, bm = x.m.testBit x.h := ⟨_, rfl⟩
    rw [← hbp] at HP
    rw [← hbm] at HM
    have HBP := Lib.hid hbp
    have HBM := Lib.hid hbm
    obtain ⟨y, hy⟩ : ∃ y, y = nxt x := ⟨_, rfl⟩
    obtain ⟨n, hne⟩ : ∃ n, n = x.n := ⟨_, rfl⟩
    obtain ⟨p, hp⟩ : ∃ p, p = x.h := ⟨_, rfl⟩
    rw [← hy] at hmod HS1 HA1
    rw [← hne] at c0 hn hlo hh hmod
    rw [← hp] at c4 hh hmod HP HM HD HBP HBM
    have HPE := Lib.hid hp
    clear hx hc ha hs1 ha1 hy hne hp hbp hbm
    cases bp
    · cases bm
      · go_wp2_with (first
          | (go_at_call 35; first | (refine (HP.out _).mono ?_; rintro e w1 ⟨rfl, rfl⟩) | (refine (HM.out _).mono ?_; rintro e w1 ⟨rfl, rfl⟩))
          | fail)
        go_ret
        have hb1 := HBP.out.symm
        have hb2 := HBM.out.symm
        rw [HPE.out] at hb1 hb2
        obtain ⟨rfl, rfl⟩ := turn_done hb1 hb2 HX.out
        exact ⟨by first | rfl | (rw [HPE.out]; rfl), HS1.out, HA1.out⟩
      · go_wp2_with (first
          | (go_at_call 35; first | (refine (HP.out _).mono ?_; rintro e w1 ⟨rfl, rfl⟩) | (refine (HM.out _).mono ?_; rintro e w1 ⟨rfl, rfl⟩))
          | (go_at_call 32; refine (HD.out _ HS1.out.cw).mono ?_; rintro e w1 ⟨rfl, a1, b1⟩; have HC1 := Lib.hid a1; have HB1 := Lib.hid b1; clear a1 b1)
          | fail)
        go_roundg k
        case measure => omega
        case rel =>
          have hb1 := HBP.out.symm
          have hb2 := HBM.out.symm
          have hq := HC1.out.blk
          rw [HPE.out] at hb1 hb2 hq
          exact ⟨stepM x, turn_m hb1 hb2 HX.out, ⟨HOK.out.stepM, hq⟩, HA1.out.trans HB1.out⟩
    · go_wp2_with (first
        | (go_at_call 35; (refine (HP.out _).mono ?_; rintro e w1 ⟨rfl, rfl⟩))
        | fail)
      go_roundg k
      case measure => omega
      case rel =>
        have hb1 := HBP.out.symm
        rw [HPE.out] at hb1
        exact ⟨stepP x, turn_p hb1 HX.out, HS1.out, HA1.out⟩

set_option maxRecDepth 3000 in
set_option maxHeartbeats 1600000 in
theorem cnext_any (w : World) (d : Nat) (s : CS) (h : Cl w d s) (hT : Tz w) : Calls Tryd.prog 10 #[.pointer (some ⟨d, 0, none⟩)] w fun e w' => e = .returned (.tuple #[.int .i64 (nextS s).i, .int .i64 (nextS s).e]) ∧ Cl w' d (nextS s).s ∧ Adv (One d) w (One d) w' := by
  have HM := Lib.hid (cmade_any w d s h)
  have HF := Lib.hid (first_any s.n h.ok.lo h.ok.hi w)
  have c0 := h.c0
  have c1 := h.c1
  have c2 := h.c2
  have hev : bits BinOp.andNot IntKind.u64 ((2 ^ s.n - 1 : Nat) : Int) (s.u : Int) = ((freeN s : Nat) : Int) := by
    have := lt64 (x := 2 ^ s.n - 1) (n := s.n) (by have := Nat.two_pow_pos s.n; omega) h.ok.hi
    rw [u64_andNot_nat _ _ this h.ok.u64]; rfl
  have HL := Lib.hid h
  have HLS := Lib.hid (fun h0 => least_any (freeN s) (freeN_lt s h.ok) h0 w hT)
  by_cases h0 : freeN s = 0
  · by_cases hp : s.p = 2 ^ s.n - 1
    · rw [next_all (all_used h.ok h0) hp]
      rw [← hp] at HF hev
      rw [h0] at hev
      clear hp h0 h hT HLS
      generalize s.n = n at *
      generalize s.u = u at *
      generalize s.p = p at *
      go_enter Tryd.func10, Tryd.ntmps10
      go_wp2_with (first
        | (go_at_call 25; refine HM.out.mono ?_; rintro e w1 ⟨rfl, rfl⟩)
        | (go_at_call 26; refine HF.out.mono ?_; rintro e w1 ⟨rfl, rfl⟩)
        | fail)
      go_ret2
      exact ⟨rfl, HL.out, Adv.refl _ _⟩
    · obtain ⟨i, t, hr, e⟩ := next_turn h.ok (all_used h.ok h0) hp
      rw [e]
      have HTN := Lib.hid (turn_any w d i _ s t h hr)
      have hq : ((s.p : Int) == ((2 ^ s.n - 1 : Nat) : Int)) = false := by
        rw [beq_eq_false_iff_ne]; intro q; exact hp (by omega)
      rw [h0] at hev
      obtain ⟨E, hE⟩ : ∃ E, E = 2 ^ s.n - 1 := ⟨_, rfl⟩
      rw [← hE] at hev hq HF
      clear hp h0 h hT HLS hr e hE
      generalize s.n = n at *
      generalize s.u = u at *
      generalize s.p = p at *
      go_enter Tryd.func10, Tryd.ntmps10
      go_wp2_with (first
        | (go_at_call 25; refine HM.out.mono ?_; rintro e w1 ⟨rfl, rfl⟩)
        | (go_at_call 26; refine HF.out.mono ?_; rintro e w1 ⟨rfl, rfl⟩)
        | (go_at_call 28; refine HTN.out.mono ?_; rintro e w1 ⟨rfl, a1, b1⟩; have HA1 := Lib.hid a1; have HB1 := Lib.hid b1; clear a1 b1)
        | fail)
      go_ret2
      exact ⟨rfl, HA1.out, HB1.out⟩
  · rw [(next_free h.ok h0).1]
    have HLS2 := Lib.hid (HLS.out h0)
    have hq : (((freeN s : Nat) : Int) == 0) = false := by rw [beq_eq_false_iff_ne]; omega
    generalize Lib.ctz 64 (freeN s) = c at HLS2 ⊢
    generalize freeN s = F at hev hq HLS2
    obtain ⟨E, hE⟩ : ∃ E, E = 2 ^ s.n - 1 := ⟨_, rfl⟩
    rw [← hE] at hev HF
    clear h0 h hT HLS hE
    go_enter Tryd.func10, Tryd.ntmps10
    go_wp2_with (first
      | (go_at_call 25; refine HM.out.mono ?_; rintro e w1 ⟨rfl, rfl⟩)
      | (go_at_call 26; refine HF.out.mono ?_; rintro e w1 ⟨rfl, rfl⟩)
      | (go_at_call 27; refine HLS2.out.mono ?_; rintro e w1 ⟨rfl, rfl⟩)
      | fail)
    go_ret2
    exact ⟨rfl, HL.out, Adv.refl _ _⟩
end Go.Proofs.YtmefpafjcafgnaaDoor
