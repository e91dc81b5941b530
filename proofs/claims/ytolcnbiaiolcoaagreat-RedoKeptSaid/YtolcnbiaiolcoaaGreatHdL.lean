/- The newest head: the program's Load. -/
import Derived.Test.YtolcnbiaiolcoaaGreatMgHd
import Derived.Test.YtolcnbiaiolcoaaGreatMgDl
import Derived.Test.YtolcnbiaiolcoaaGreatMgS
namespace Go.Proofs.YtolcnbiaiolcoaaGreat
open Go.RowKit

def nx (c : Option Hd) (o : Option Hd) : Option Hd := match o with
  | some h => if (c.getD hZ).g ≤ h.g then some h else c
  | none => c
def curAt (s : DS) (p : Nat) : Nat → Option Hd
  | 0 => none
  | k + 1 => nx (curAt s p k) (unO (isS s (p + k)) k)
def inR (n : Nat) (at_ : Int) (k : Nat) : Prop := ∀ j : Nat, j < k → 0 ≤ at_ + (j : Int) ∧ at_ + (j : Int) < (n : Int)
def LoadR (s : DS) (n : Nat) (at_ : Int) (x : Ending) : Prop :=
  (inR n at_ 2 ∧ x = .returned (.tuple #[hv ((curAt s at_.toNat 2).getD hZ), .bool (curAt s at_.toNat 2).isSome, .int .i64 0])) ∨ (¬ inR n at_ 2 ∧ x = .returned (.tuple #[hv hZ, .bool false, .int .i64 2]))
/-- the bytes of a disk are bytes -/
def SB (s : DS) (n : Nat) : Prop := ∀ i, i < n → ∀ x ∈ isS s i, x < 256
/-- after k sectors -/
def HLoadL (w : World) (s : DS) (n : Nat) (at_ : Int) (y z : Nat) (t15 t8 : Value) (wr : World) : Prop :=
  ∃ k : Nat, k ≤ 2 ∧ inR n at_ k ∧ t15 = .int .i64 (k : Int) ∧ t8 = .bool (curAt s at_.toNat k).isSome ∧
    Blk wr y 73 (h3 (((curAt s at_.toNat k).getD hZ).g : Int) (((curAt s at_.toNat k).getD hZ).t : Int) (((curAt s at_.toNat k).getD hZ).f : Int)) ∧ Blk wr z 73 (h3 0 0 0) ∧ Adv (fun j => j = y) w (fun j => j = y) wr
theorem curAt_succ (s : DS) (p k : Nat) : curAt s p (k + 1) = nx (curAt s p k) (unO (isS s (p + k)) k) := rfl

theorem Adv.overN {F G : Nat → Prop} {w w1 w2 : World} (h : Adv F w G w1) (k : Adv Nul w1 Nul w2) : Adv F w G w2 := h.over k
theorem adv_new {w V wr : World} {y : Nat} (ha : Adv Nul w Nul V) (hb : Adv (fun j => j = y) V (fun j => j = y) wr) (hy : w.heap.size ≤ y) : Adv Nul w Nul wr :=
  ⟨hb.os.trans ha.os, hb.tape.trans ha.tape, hb.output.trans ha.output, Nat.le_trans ha.size hb.size, fun j hj _ => (hb.block j (Nat.lt_of_lt_of_le hj ha.size) (fun e => by omega)).trans (ha.block j hj (fun x => x)), fun _ h => h.elim⟩
theorem inR_succ {n : Nat} {at_ : Int} {k : Nat} (h : inR n at_ k) (h1 : 0 ≤ at_ + (k : Int) ∧ at_ + (k : Int) < (n : Int)) : inR n at_ (k + 1) := fun j hj => by
  by_cases e : j = k
  · rw [e]; exact h1
  · exact h j (by omega)
theorem hl_next {w wr : World} {s : DS} {n y z k p : Nat} {at_ : Int} {c : Option Hd} {g t f : Nat} {b : Bool} (hk : k < 2) (hin : inR n at_ k) (hq : at_ + (k : Int) = (p : Int)) (hp : p < n) (hc : nx (curAt s at_.toNat k) (unO (isS s p) k) = c)
    (h1 : g = (c.getD hZ).g) (h2 : t = (c.getD hZ).t) (h3' : f = (c.getD hZ).f) (h4 : b = c.isSome) (hby : Blk wr y 73 (h3 (g : Int) (t : Int) (f : Int))) (hbz : Blk wr z 73 (h3 0 0 0)) (ha : Adv (fun j => j = y) w (fun j => j = y) wr) :
    HLoadL w s n at_ y z (.int .i64 ((k : Int) + 1)) (.bool b) wr := by
  have h0 : at_.toNat + k = p := by
    by_cases hk0 : k = 0
    · subst hk0; omega
    · have := hin 0 (by omega); omega
  have e : curAt s at_.toNat (k + 1) = c := by rw [curAt_succ, h0]; exact hc
  subst h1 h2 h3' h4
  refine ⟨k + 1, by omega, inR_succ hin (by omega), by go_num, by rw [e], by rw [e]; exact hby, hbz, ha⟩

set_option maxRecDepth 3000 in
set_option maxHeartbeats 6400000 in
theorem hload_dk (d n : Nat) (F : Nat → Prop) (s : DS) (at_ : Int) (w : World) (hd : Dk w F d n s) (hsb : SB s n) (hn : n ≤ 4096) (ha0 : -9223372036854775808 ≤ at_) (ha1 : at_ < 9223372036854775808) :
    Calls Tryz.prog 36 #[.pointer (some ⟨d, 0, none⟩), .int .i64 at_] w fun x w' => LoadR s n at_ x ∧ Adv Nul w Nul w' := by
  obtain ⟨z, hz⟩ : ∃ z, z = w.heap.size := ⟨_, rfl⟩
  obtain ⟨V0, hV0⟩ : ∃ V, V = w.alloc (.cells #[.int .u64 0, .int .u64 0, .int .u64 0] 73) := ⟨_, rfl⟩
  obtain ⟨y, hy⟩ : ∃ y, y = V0.heap.size := ⟨_, rfl⟩
  obtain ⟨V, hV⟩ : ∃ V, V = V0.alloc (.cells #[.int .u64 0, .int .u64 0, .int .u64 0] 73) := ⟨_, rfl⟩
  have HZ := Lib.hid (show Blk V z 73 (h3 0 0 0) by rw [hV, hV0, hz]; exact (Blk.new _ _ _).alloc _)
  have HY := Lib.hid (show Blk V y 73 (h3 0 0 0) by rw [hV, hy]; exact Blk.new _ _ _)
  have HA := Lib.hid (show Adv Nul w Nul V by rw [hV, hV0]; exact ((Adv.refl _ _).alloc _).alloc _)
  have HYZ := Lib.hid (show y ≠ z by rw [hy, hz, hV0]; simp)
  have HWZ := Lib.hid (show w.heap.size ≤ z by rw [hz]; exact Nat.le_refl _)
  have HWY := Lib.hid (show w.heap.size ≤ y by rw [hy, hV0]; simp)
  have hd1 := hd.far HA.out (fun _ h _ => h)
  have HD := Lib.hid hd1
  have HFY := Lib.hid (show ∀ j, j = y → F j → False from fun j e h => by have := hd.bd j h; have := HWY.out; omega)
  have HSB := Lib.hid hsb
  have hy1 : y = z + 1 := by rw [hy, hz, hV0]; simp
  have HY1 := Lib.hid hy1
  have HV := Lib.hid (show V = (w.alloc (.cells #[.int .u64 0, .int .u64 0, .int .u64 0] 73)).alloc (.cells #[.int .u64 0, .int .u64 0, .int .u64 0] 73) by rw [hV, hV0])
  have HZZ := Lib.hid hz
  have hnI : (n : Int) ≤ 4096 := by omega
  have HA0 := Lib.hid ha0
  have HA1 := Lib.hid ha1
  clear hd hd1 hsb hn hy1 hV hV0 hz hy ha0 ha1
  go_enter Tryz.func36, Tryz.ntmps36
  go_upto_region 2 with (fail)
  rw [← HV.out, ← HZZ.out, ← HY1.out]
  go_wp2_with fail
  go_loopw [15, 8] (HLoadL V s n at_ y z) (fun t _ _ => 2 - (intOf t).toNat)
  case atStart => exact ⟨0, by decide, fun j h => absurd h (Nat.not_lt_zero _), rfl, rfl, HY.out, HZ.out, Adv.refl _ _⟩
  case round =>
    obtain ⟨k, hk, hin, rfl, rfl, hby, hbz, had⟩ := hrel
    obtain ⟨cur, hcur⟩ : ∃ c, c = curAt s at_.toNat k := ⟨_, rfl⟩
    obtain ⟨cg, hcg⟩ : ∃ x, x = (cur.getD hZ).g := ⟨_, rfl⟩
    obtain ⟨ct, hct⟩ : ∃ x, x = (cur.getD hZ).t := ⟨_, rfl⟩
    obtain ⟨cf, hcf⟩ : ∃ x, x = (cur.getD hZ).f := ⟨_, rfl⟩
    obtain ⟨cb, hcb⟩ : ∃ x, x = cur.isSome := ⟨_, rfl⟩
    rw [← hcur, ← hcg, ← hct, ← hcf] at hby
    rw [← hcur, ← hcb]
    have HCUR := Lib.hid hcur
    have HCG := Lib.hid hcg
    have HCT := Lib.hid hct
    have HCF := Lib.hid hcf
    have HCB := Lib.hid hcb
    have HBY := Lib.hid hby
    have HBZ := Lib.hid hbz
    have HAD := Lib.hid had
    have HIN := Lib.hid hin
    have HDW := Lib.hid (HD.out.far had HFY.out)
    clear hcur hcg hct hcf hcb hby hbz had hin
    by_cases hlt : k < 2
    · have hki : (k : Int) < 2 := by omega
      have hw1 : IntKind.i64.wrap (at_ + (k : Int)) = at_ + (k : Int) := by
        rw [IntKind.wrap_i64]
        have h0 := HA0.out
        have h1 := HA1.out
        by_cases hk0 : k = 0
        · subst hk0; omega
        · have := HIN.out 0 (by omega)
          omega
      have HLT := Lib.hid hlt
      obtain ⟨q, hq⟩ : ∃ q, q = at_ + (k : Int) := ⟨_, rfl⟩
      rw [← hq] at hw1
      have HQ := Lib.hid hq
      have hq' : at_ + (k : Int) = q := hq.symm
      clear hlt hk hq
      by_cases hr : 0 ≤ q ∧ q < (n : Int)
      · obtain ⟨p, rfl⟩ := Int.eq_ofNat_of_zero_le hr.1
        have HPN := Lib.hid (show p < n by omega)
        clear hr
        go_wp2_with fail
        refine (read_dk d n F s p wr HDW.out HPN.out).mono ?_
        rintro e w2 ⟨z2, rfl, hb2, hl2, a2⟩
        have HR2 := Lib.hid ((hb2.sl8 hl2).rd)
        have HA2 := Lib.hid (a2.sub (G := Nul) (fun _ h => h.elim))
        clear hb2 hl2 a2
        go_wp2_with fail
        refine (hunseal_any _ 128 (isS s p) w2 HR2.out (HSB.out p HPN.out)).mono ?_
        intro x w3 h
        obtain ⟨⟨g, t, f⟩, ok, rfl, hun, a3⟩ := h
        simp only
        obtain ⟨u, hu⟩ : ∃ u, u = w3.heap.size := ⟨_, rfl⟩
        obtain ⟨w4, hw4⟩ : ∃ w4, w4 = w3.alloc (.cells #[.int .u64 (g : Int), .int .u64 (t : Int), .int .u64 (f : Int)] 73) := ⟨_, rfl⟩
        have HU := Lib.hid (show Blk w4 u 73 #[.int .u64 (g : Int), .int .u64 (t : Int), .int .u64 (f : Int)] by rw [hw4, hu]; exact Blk.new _ _ _)
        have HA4 := Lib.hid (show Adv Nul wr Nul w4 by rw [hw4]; exact (HA2.out.trans a3).alloc _)
        have HBY4 := Lib.hid (HBY.out.keep (HA4.out.block y HBY.out.lt (fun h => h)))
        have HBZ4 := Lib.hid (HBZ.out.keep (HA4.out.block z HBZ.out.lt (fun h => h)))
        have HAD4 := Lib.hid (HAD.out.overN HA4.out)
        have HUN := Lib.hid hun
        have HUU := Lib.hid hu
        have HW4 := Lib.hid hw4
        clear hun a3 hu hw4
        go_upto_region 9 with (fail)
        rw [← HW4.out, ← HUU.out]
        obtain ⟨u0, u1, u2⟩ := HU.out.three
        cases ok with
        | false =>
          have hno : unHd (isS s p) = none := by have h := HUN.out; simpa using h
          have hnx : nx (curAt s at_.toNat k) (unO (isS s p) k) = cur := by rw [unO_none hno, ← HCUR.out]; rfl
          have HNX := Lib.hid hnx
          clear hno hnx
          go_wp2_with fail
          have hlt := HLT.out
          exact ⟨hl_next hlt HIN.out hq' HPN.out HNX.out HCG.out HCT.out HCF.out HCB.out HBY4.out HBZ4.out HAD4.out, by simp [intOf]; omega⟩
        | true =>
          have hyes : unHd (isS s p) = some ⟨g, t, f⟩ := by have h := HUN.out; simpa using h
          have HYES := Lib.hid hyes
          obtain ⟨r, hr⟩ : ∃ r, r = g % 2 := ⟨_, rfl⟩
          have HRR := Lib.hid hr
          clear hyes hr
          go_wp2_with fail
          refine (place_any g t f _).mono ?_
          rintro x w5 ⟨rfl, a5⟩
          rw [← HRR.out]
          have HU5 := Lib.hid (HU.out.keep (a5.block u HU.out.lt (fun h => h)))
          have HBY5 := Lib.hid (HBY4.out.keep (a5.block y HBY4.out.lt (fun h => h)))
          have HBZ5 := Lib.hid (HBZ4.out.keep (a5.block z HBZ4.out.lt (fun h => h)))
          have HAD5 := Lib.hid (HAD4.out.overN a5)
          obtain ⟨v0, v1, v2⟩ := HU5.out.three
          obtain ⟨y0, y1, y2⟩ := HBY5.out.three
          clear u0 u1 u2 a5
          by_cases hpar : r = k
          · have hpe : ((r : Int) == (k : Int)) = true := by rw [beq_iff_eq]; omega
            have HPAR := Lib.hid (show (⟨g, t, f⟩ : Hd).g % 2 = k by show g % 2 = k; rw [← HRR.out]; exact hpar)
            clear hpar
            by_cases hge : cg ≤ g
            · have hgi : (cg : Int) ≤ (g : Int) := by omega
              have hnx : nx (curAt s at_.toNat k) (unO (isS s p) k) = some ⟨g, t, f⟩ := by
                rw [unO_yes HYES.out HPAR.out, ← HCUR.out]
                exact if_pos (by rw [← HCG.out]; exact hge)
              have HNX := Lib.hid hnx
              clear hge hnx
              go_wp2_with (first
                | (refine op_store3 sizeHead rfl (.tmp 7) (.tmp 49) rfl y _ (h3 (g : Int) (t : Int) (f : Int)) HBY5.out rfl rfl (h3_one _ _ _) rfl rfl ?_)
                | fail)
              have hlt := HLT.out
              exact ⟨hl_next hlt HIN.out hq' HPN.out HNX.out rfl rfl rfl rfl (HBY5.out.putAll rfl) (HBZ5.out.keep (lsetCells_heap y HYZ.out.symm _ 0 _)) (Adv.lsetCells _ 0 _ HAD5.out (.inl rfl)), by simp [intOf]; omega⟩
            · have hgi : (g : Int) < (cg : Int) := by omega
              have hnx : nx (curAt s at_.toNat k) (unO (isS s p) k) = cur := by
                rw [unO_yes HYES.out HPAR.out, ← HCUR.out]
                exact if_neg (by rw [← HCG.out]; exact hge)
              have HNX := Lib.hid hnx
              clear hge hnx
              go_wp2_with fail
              have hlt := HLT.out
              exact ⟨hl_next hlt HIN.out hq' HPN.out HNX.out HCG.out HCT.out HCF.out HCB.out HBY5.out HBZ5.out HAD5.out, by simp [intOf]; omega⟩
          · have hpe : ((r : Int) == (k : Int)) = false := by rw [beq_eq_false_iff_ne]; omega
            have hnx : nx (curAt s at_.toNat k) (unO (isS s p) k) = cur := by
              rw [unO_no HYES.out (by show g % 2 ≠ k; rw [← HRR.out]; exact hpar), ← HCUR.out]
              rfl
            have HNX := Lib.hid hnx
            clear hpar hnx
            go_wp2_with fail
            have hlt := HLT.out
            exact ⟨hl_next hlt HIN.out hq' HPN.out HNX.out HCG.out HCT.out HCF.out HCB.out HBY5.out HBZ5.out HAD5.out, by simp [intOf]; omega⟩
      · have HNR := Lib.hid hr
        clear hr
        go_wp2_with fail
        refine (read_none d n F s q wr HDW.out HNR.out).mono ?_
        rintro e w2 ⟨rfl, rfl⟩
        have HFIN := Lib.hid (show LoadR s n at_ (.returned (.tuple #[.agg #[.int .u64 0, .int .u64 0, .int .u64 0], .bool false, .int .i64 2])) from .inr ⟨fun h => HNR.out (by have h1 := h k HLT.out; rw [hq'] at h1; exact h1), rfl⟩)
        go_wp2_with (first
          | (refine op_store3 sizeHead rfl (.tmp 4) (.tmp 28) rfl z _ (h3 0 0 0) HBZ.out rfl rfl (h3_one _ _ _) rfl rfl ?_)
          | fail)
        obtain ⟨hz0, hz1, hz2⟩ := (HBZ.out.putAll (D := h3 0 0 0) rfl).three
        exact bodyPost_ret (v := .tuple #[.agg #[.int .u64 0, .int .u64 0, .int .u64 0], .bool false, .int .i64 2]) (by simp [results, Tryz.results36, go_sem, hz0, hz1, hz2]) rfl ⟨HFIN.out, Adv.lsetCells _ 0 _ (adv_new HA.out HAD.out HWY.out) (.inr HWZ.out)⟩
    · obtain rfl : k = 2 := by omega
      have HFIN := Lib.hid (show LoadR s n at_ (.returned (.tuple #[.agg #[.int .u64 (cg : Int), .int .u64 (ct : Int), .int .u64 (cf : Int)], .bool cb, .int .i64 0])) from .inl ⟨HIN.out, by rw [HCG.out, HCT.out, HCF.out, HCB.out, ← HCUR.out]; rfl⟩)
      obtain ⟨y0, y1, y2⟩ := HBY.out.three
      clear hlt hk
      go_wp2_with (first
        | (refine op_store3 sizeHead rfl (.tmp 4) (.tmp 51) rfl z _ (h3 (cg : Int) (ct : Int) (cf : Int)) HBZ.out rfl rfl (h3_one _ _ _) rfl rfl ?_)
        | fail)
      obtain ⟨hz0, hz1, hz2⟩ := (HBZ.out.putAll (D := h3 (cg : Int) (ct : Int) (cf : Int)) rfl).three
      exact bodyPost_ret (v := .tuple #[.agg #[.int .u64 (cg : Int), .int .u64 (ct : Int), .int .u64 (cf : Int)], .bool cb, .int .i64 0]) (by simp [results, Tryz.results36, go_sem, hz0, hz1, hz2]) rfl ⟨HFIN.out, Adv.lsetCells _ 0 _ (adv_new HA.out HAD.out HWY.out) (.inr HWZ.out)⟩
end Go.Proofs.YtolcnbiaiolcoaaGreat
