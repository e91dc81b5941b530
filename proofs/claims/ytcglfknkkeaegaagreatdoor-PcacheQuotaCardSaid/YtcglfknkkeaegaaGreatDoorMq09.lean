/- The newest head: the program's Load. How many writes wait. The homes that are not home: a map in memory; the log. Slots: cells, two of them held against each other; the program's Free, mayKeep, flag. The map of places: which slot keeps a block. The log's small methods. -/
import Derived.Test.YtcglfknkkeaegaaGreatDoorMq07
import Derived.Test.YtcglfknkkeaegaaGreatDoorMq08
import Derived.Maps.OwnSet
import Derived.Test.YtcglfknkkeaegaaGreatDoorMq01
import Derived.Test.YtcglfknkkeaegaaGreatDoorMq00
import Derived.Test.YtcglfknkkeaegaaGreatDoorMq02
import Derived.DeepKeys
import Derived.DeepKeys5
namespace Go.Proofs.YtcglfknkkeaegaaGreatDoor
open Go.RowKit

def nx (c : Option Hd) (o : Option Hd) : Option Hd := match o with
  | some h => if (c.getD hZ).g ≤ h.g then some h else c
  | none => c
def curAt (s : DS) (p : Nat) : Nat → Option Hd
  | 0 => none
  | k + 1 => nx (curAt s p k) (unO (isS s (p + k)) k)
def inR (n : Nat) (at_ : Int) (k : Nat) : Prop := ∀ j : Nat, j < k → 0 ≤ at_ + (j : Int) ∧ at_ + (j : Int) < (n : Int)
def LoadR (s : DS) (n : Nat) (at_ : Int) (x : Ending) : Prop :=
  (inR n at_ 2 ∧ x = .returned (.tuple #[hv ((curAt s at_.toNat 2).getD hZ), .bool (curAt s at_.toNat 2).isSome, .int .i64 0])) ∨ (¬ inR n at_ 2 ∧ x = .returned (.tuple #[hv hZ, .bool false, .int .i64 2]))
/-- the bytes of a disk are bytes -/
def SB (s : DS) (n : Nat) : Prop := ∀ i, i < n → ∀ x ∈ isS s i, x < 256
/-- after k sectors -/
def HLoadL (w : World) (s : DS) (n : Nat) (at_ : Int) (y z : Nat) (t15 t8 : Value) (wr : World) : Prop :=
  ∃ k : Nat, k ≤ 2 ∧ inR n at_ k ∧ t15 = .int .i64 (k : Int) ∧ t8 = .bool (curAt s at_.toNat k).isSome ∧
    Blk wr y 140 (h3 (((curAt s at_.toNat k).getD hZ).g : Int) (((curAt s at_.toNat k).getD hZ).t : Int) (((curAt s at_.toNat k).getD hZ).f : Int)) ∧ Blk wr z 140 (h3 0 0 0) ∧ Adv (fun j => j = y) w (fun j => j = y) wr
theorem curAt_succ (s : DS) (p k : Nat) : curAt s p (k + 1) = nx (curAt s p k) (unO (isS s (p + k)) k) := rfl

theorem Adv.overN {F G : Nat → Prop} {w w1 w2 : World} (h : Adv F w G w1) (k : Adv Nul w1 Nul w2) : Adv F w G w2 := h.over k
theorem adv_new {w V wr : World} {y : Nat} (ha : Adv Nul w Nul V) (hb : Adv (fun j => j = y) V (fun j => j = y) wr) (hy : w.heap.size ≤ y) : Adv Nul w Nul wr :=
  ⟨hb.os.trans ha.os, hb.tape.trans ha.tape, hb.output.trans ha.output, Nat.le_trans ha.size hb.size, fun j hj _ => (hb.block j (Nat.lt_of_lt_of_le hj ha.size) (fun e => by omega)).trans (ha.block j hj (fun x => x)), fun _ h => h.elim⟩
theorem inR_succ {n : Nat} {at_ : Int} {k : Nat} (h : inR n at_ k) (h1 : 0 ≤ at_ + (k : Int) ∧ at_ + (k : Int) < (n : Int)) : inR n at_ (k + 1) := fun j hj => by
  by_cases e : j = k
  · rw [e]; exact h1
  · exact h j (by omega)
theorem hl_next {w wr : World} {s : DS} {n y z k p : Nat} {at_ : Int} {c : Option Hd} {g t f : Nat} {b : Bool} (hk : k < 2) (hin : inR n at_ k) (hq : at_ + (k : Int) = (p : Int)) (hp : p < n) (hc : nx (curAt s at_.toNat k) (unO (isS s p) k) = c)
    (h1 : g = (c.getD hZ).g) (h2 : t = (c.getD hZ).t) (h3' : f = (c.getD hZ).f) (h4 : b = c.isSome) (hby : Blk wr y 140 (h3 (g : Int) (t : Int) (f : Int))) (hbz : Blk wr z 140 (h3 0 0 0)) (ha : Adv (fun j => j = y) w (fun j => j = y) wr) :
    HLoadL w s n at_ y z (.int .i64 ((k : Int) + 1)) (.bool b) wr := by
  have h0 : at_.toNat + k = p := by
    by_cases hk0 : k = 0
    · subst hk0; omega
    · have := hin 0 (by omega); omega
  have e : curAt s at_.toNat (k + 1) = c := by rw [curAt_succ, h0]; exact hc
  subst h1 h2 h3' h4
  refine ⟨k + 1, by omega, inR_succ hin (by omega), by go_num, by rw [e], by rw [e]; exact hby, hbz, ha⟩

set_option maxRecDepth 3000 in
set_option maxHeartbeats 6400000 in
theorem hload_dk (d n : Nat) (F : Nat → Prop) (s : DS) (at_ : Int) (w : World) (hd : Dk w F d n s) (hsb : SB s n) (hn : n ≤ 4096) (ha0 : -9223372036854775808 ≤ at_) (ha1 : at_ < 9223372036854775808) :
    Calls Tryz.prog 75 #[.pointer (some ⟨d, 0, none⟩), .int .i64 at_] w fun x w' => LoadR s n at_ x ∧ Adv Nul w Nul w' := by
  obtain ⟨z, hz⟩ : ∃ z, z = w.heap.size := ⟨_, rfl⟩
  obtain ⟨V0, hV0⟩ : ∃ V, V = w.alloc (.cells #[.int .u64 0, .int .u64 0, .int .u64 0] 140) := ⟨_, rfl⟩
  obtain ⟨y, hy⟩ : ∃ y, y = V0.heap.size := ⟨_, rfl⟩
  obtain ⟨V, hV⟩ : ∃ V, V = V0.alloc (.cells #[.int .u64 0, .int .u64 0, .int .u64 0] 140) := ⟨_, rfl⟩
  have HZ := Lib.hid (show Blk V z 140 (h3 0 0 0) by rw [hV, hV0, hz]; exact (Blk.new _ _ _).alloc _)
  have HY := Lib.hid (show Blk V y 140 (h3 0 0 0) by rw [hV, hy]; exact Blk.new _ _ _)
  have HA := Lib.hid (show Adv Nul w Nul V by rw [hV, hV0]; exact ((Adv.refl _ _).alloc _).alloc _)
  have HYZ := Lib.hid (show y ≠ z by rw [hy, hz, hV0]; simp)
  have HWZ := Lib.hid (show w.heap.size ≤ z by rw [hz]; exact Nat.le_refl _)
  have HWY := Lib.hid (show w.heap.size ≤ y by rw [hy, hV0]; simp)
  have hd1 := hd.far HA.out (fun _ h _ => h)
  have HD := Lib.hid hd1
  have HFY := Lib.hid (show ∀ j, j = y → F j → False from fun j e h => by have := hd.bd j h; have := HWY.out; omega)
  have HSB := Lib.hid hsb
  have hy1 : y = z + 1 := by rw [hy, hz, hV0]; simp
  have HY1 := Lib.hid hy1
  have HV := Lib.hid (show V = (w.alloc (.cells #[.int .u64 0, .int .u64 0, .int .u64 0] 140)).alloc (.cells #[.int .u64 0, .int .u64 0, .int .u64 0] 140) by rw [hV, hV0])
  have HZZ := Lib.hid hz
  have hnI : (n : Int) ≤ 4096 := by omega
  have HA0 := Lib.hid ha0
  have HA1 := Lib.hid ha1
  clear hd hd1 hsb hn hy1 hV hV0 hz hy ha0 ha1
  go_enter Tryz.func75, Tryz.ntmps75
  go_upto_region 2 with (fail)
  rw [← HV.out, ← HZZ.out, ← HY1.out]
  go_wp2_with fail
  go_loopw [15, 8] (HLoadL V s n at_ y z) (fun t _ _ => 2 - (intOf t).toNat)
  case atStart => exact ⟨0, by decide, fun j h => absurd h (Nat.not_lt_zero _), rfl, rfl, HY.out, HZ.out, Adv.refl _ _⟩
  case round =>
    obtain ⟨k, hk, hin, rfl, rfl, hby, hbz, had⟩ := hrel
    obtain ⟨cur, hcur⟩ : ∃ c, c = curAt s at_.toNat k := ⟨_, rfl⟩
    obtain ⟨cg, hcg⟩ : ∃ x, x = (cur.getD hZ).g := ⟨_, rfl⟩
    obtain ⟨ct, hct⟩ : ∃ x, x = (cur.getD hZ).t := ⟨_, rfl⟩
    obtain ⟨cf, hcf⟩ : ∃ x, x = (cur.getD hZ).f := ⟨_, rfl⟩
    obtain ⟨cb, hcb⟩ : ∃ x, x = cur.isSome := ⟨_, rfl⟩
    rw [← hcur, ← hcg, ← hct, ← hcf] at hby
    rw [← hcur, ← hcb]
    have HCUR := Lib.hid hcur
    have HCG := Lib.hid hcg
    have HCT := Lib.hid hct
    have HCF := Lib.hid hcf
    have HCB := Lib.hid hcb
    have HBY := Lib.hid hby
    have HBZ := Lib.hid hbz
    have HAD := Lib.hid had
    have HIN := Lib.hid hin
    have HDW := Lib.hid (HD.out.far had HFY.out)
    clear hcur hcg hct hcf hcb hby hbz had hin
    by_cases hlt : k < 2
    · have hki : (k : Int) < 2 := by omega
      have hw1 : IntKind.i64.wrap (at_ + (k : Int)) = at_ + (k : Int) := by
        rw [IntKind.wrap_i64]
        have h0 := HA0.out
        have h1 := HA1.out
        by_cases hk0 : k = 0
        · subst hk0; omega
        · have := HIN.out 0 (by omega)
          omega
      have HLT := Lib.hid hlt
      obtain ⟨q, hq⟩ : ∃ q, q = at_ + (k : Int) := ⟨_, rfl⟩
      rw [← hq] at hw1
      have HQ := Lib.hid hq
      have hq' : at_ + (k : Int) = q := hq.symm
      clear hlt hk hq
      by_cases hr : 0 ≤ q ∧ q < (n : Int)
      · obtain ⟨p, rfl⟩ := Int.eq_ofNat_of_zero_le hr.1
        have HPN := Lib.hid (show p < n by omega)
        clear hr
        go_wp2_with fail
        refine (read_dk d n F s p wr HDW.out HPN.out).mono ?_
        rintro e w2 ⟨z2, rfl, hb2, hl2, a2⟩
        have HR2 := Lib.hid ((hb2.sl8 hl2).rd)
        have HA2 := Lib.hid (a2.sub (G := Nul) (fun _ h => h.elim))
        clear hb2 hl2 a2
        go_wp2_with fail
        refine (hunseal_any _ 128 (isS s p) w2 HR2.out (HSB.out p HPN.out)).mono ?_
        intro x w3 h
        obtain ⟨⟨g, t, f⟩, ok, rfl, hun, a3⟩ := h
        simp only
        obtain ⟨u, hu⟩ : ∃ u, u = w3.heap.size := ⟨_, rfl⟩
        obtain ⟨w4, hw4⟩ : ∃ w4, w4 = w3.alloc (.cells #[.int .u64 (g : Int), .int .u64 (t : Int), .int .u64 (f : Int)] 140) := ⟨_, rfl⟩
        have HU := Lib.hid (show Blk w4 u 140 #[.int .u64 (g : Int), .int .u64 (t : Int), .int .u64 (f : Int)] by rw [hw4, hu]; exact Blk.new _ _ _)
        have HA4 := Lib.hid (show Adv Nul wr Nul w4 by rw [hw4]; exact (HA2.out.trans a3).alloc _)
        have HBY4 := Lib.hid (HBY.out.keep (HA4.out.block y HBY.out.lt (fun h => h)))
        have HBZ4 := Lib.hid (HBZ.out.keep (HA4.out.block z HBZ.out.lt (fun h => h)))
        have HAD4 := Lib.hid (HAD.out.overN HA4.out)
        have HUN := Lib.hid hun
        have HUU := Lib.hid hu
        have HW4 := Lib.hid hw4
        clear hun a3 hu hw4
        go_upto_region 9 with (fail)
        rw [← HW4.out, ← HUU.out]
        obtain ⟨u0, u1, u2⟩ := HU.out.three
        cases ok with
        | false =>
          have hno : unHd (isS s p) = none := by have h := HUN.out; simpa using h
          have hnx : nx (curAt s at_.toNat k) (unO (isS s p) k) = cur := by rw [unO_none hno, ← HCUR.out]; rfl
          have HNX := Lib.hid hnx
          clear hno hnx
          go_wp2_with fail
          have hlt := HLT.out
          exact ⟨hl_next hlt HIN.out hq' HPN.out HNX.out HCG.out HCT.out HCF.out HCB.out HBY4.out HBZ4.out HAD4.out, by simp [intOf]; omega⟩
        | true =>
          have hyes : unHd (isS s p) = some ⟨g, t, f⟩ := by have h := HUN.out; simpa using h
          have HYES := Lib.hid hyes
          obtain ⟨r, hr⟩ : ∃ r, r = g % 2 := ⟨_, rfl⟩
          have HRR := Lib.hid hr
          clear hyes hr
          go_wp2_with fail
          refine (place_any g t f _).mono ?_
          rintro x w5 ⟨rfl, a5⟩
          rw [← HRR.out]
          have HU5 := Lib.hid (HU.out.keep (a5.block u HU.out.lt (fun h => h)))
          have HBY5 := Lib.hid (HBY4.out.keep (a5.block y HBY4.out.lt (fun h => h)))
          have HBZ5 := Lib.hid (HBZ4.out.keep (a5.block z HBZ4.out.lt (fun h => h)))
          have HAD5 := Lib.hid (HAD4.out.overN a5)
          obtain ⟨v0, v1, v2⟩ := HU5.out.three
          obtain ⟨y0, y1, y2⟩ := HBY5.out.three
          clear u0 u1 u2 a5
          by_cases hpar : r = k
          · have hpe : ((r : Int) == (k : Int)) = true := by rw [beq_iff_eq]; omega
            have HPAR := Lib.hid (show (⟨g, t, f⟩ : Hd).g % 2 = k by show g % 2 = k; rw [← HRR.out]; exact hpar)
            clear hpar
            by_cases hge : cg ≤ g
            · have hgi : (cg : Int) ≤ (g : Int) := by omega
              have hnx : nx (curAt s at_.toNat k) (unO (isS s p) k) = some ⟨g, t, f⟩ := by
                rw [unO_yes HYES.out HPAR.out, ← HCUR.out]
                exact if_pos (by rw [← HCG.out]; exact hge)
              have HNX := Lib.hid hnx
              clear hge hnx
              go_wp2_with (first
                | (refine op_store3 sizeHead rfl (.tmp 7) (.tmp 49) rfl y _ (h3 (g : Int) (t : Int) (f : Int)) HBY5.out rfl rfl (h3_one _ _ _) rfl rfl ?_)
                | fail)
              have hlt := HLT.out
              exact ⟨hl_next hlt HIN.out hq' HPN.out HNX.out rfl rfl rfl rfl (HBY5.out.putAll rfl) (HBZ5.out.keep (lsetCells_heap y HYZ.out.symm _ 0 _)) (Adv.lsetCells _ 0 _ HAD5.out (.inl rfl)), by simp [intOf]; omega⟩
            · have hgi : (g : Int) < (cg : Int) := by omega
              have hnx : nx (curAt s at_.toNat k) (unO (isS s p) k) = cur := by
                rw [unO_yes HYES.out HPAR.out, ← HCUR.out]
                exact if_neg (by rw [← HCG.out]; exact hge)
              have HNX := Lib.hid hnx
              clear hge hnx
              go_wp2_with fail
              have hlt := HLT.out
              exact ⟨hl_next hlt HIN.out hq' HPN.out HNX.out HCG.out HCT.out HCF.out HCB.out HBY5.out HBZ5.out HAD5.out, by simp [intOf]; omega⟩
          · have hpe : ((r : Int) == (k : Int)) = false := by rw [beq_eq_false_iff_ne]; omega
            have hnx : nx (curAt s at_.toNat k) (unO (isS s p) k) = cur := by
              rw [unO_no HYES.out (by show g % 2 ≠ k; rw [← HRR.out]; exact hpar), ← HCUR.out]
              rfl
            have HNX := Lib.hid hnx
            clear hpar hnx
            go_wp2_with fail
            have hlt := HLT.out
            exact ⟨hl_next hlt HIN.out hq' HPN.out HNX.out HCG.out HCT.out HCF.out HCB.out HBY5.out HBZ5.out HAD5.out, by simp [intOf]; omega⟩
      · have HNR := Lib.hid hr
        clear hr
        go_wp2_with fail
        refine (read_none d n F s q wr HDW.out HNR.out).mono ?_
        rintro e w2 ⟨rfl, rfl⟩
        have HFIN := Lib.hid (show LoadR s n at_ (.returned (.tuple #[.agg #[.int .u64 0, .int .u64 0, .int .u64 0], .bool false, .int .i64 2])) from .inr ⟨fun h => HNR.out (by have h1 := h k HLT.out; rw [hq'] at h1; exact h1), rfl⟩)
        go_wp2_with (first
          | (refine op_store3 sizeHead rfl (.tmp 4) (.tmp 28) rfl z _ (h3 0 0 0) HBZ.out rfl rfl (h3_one _ _ _) rfl rfl ?_)
          | fail)
        obtain ⟨hz0, hz1, hz2⟩ := (HBZ.out.putAll (D := h3 0 0 0) rfl).three
        exact bodyPost_ret (v := .tuple #[.agg #[.int .u64 0, .int .u64 0, .int .u64 0], .bool false, .int .i64 2]) (by simp [results, Tryz.results75, go_sem, hz0, hz1, hz2]) rfl ⟨HFIN.out, Adv.lsetCells _ 0 _ (adv_new HA.out HAD.out HWY.out) (.inr HWZ.out)⟩
    · obtain rfl : k = 2 := by omega
      have HFIN := Lib.hid (show LoadR s n at_ (.returned (.tuple #[.agg #[.int .u64 (cg : Int), .int .u64 (ct : Int), .int .u64 (cf : Int)], .bool cb, .int .i64 0])) from .inl ⟨HIN.out, by rw [HCG.out, HCT.out, HCF.out, HCB.out, ← HCUR.out]; rfl⟩)
      obtain ⟨y0, y1, y2⟩ := HBY.out.three
      clear hlt hk
      go_wp2_with (first
        | (refine op_store3 sizeHead rfl (.tmp 4) (.tmp 51) rfl z _ (h3 (cg : Int) (ct : Int) (cf : Int)) HBZ.out rfl rfl (h3_one _ _ _) rfl rfl ?_)
        | fail)
      obtain ⟨hz0, hz1, hz2⟩ := (HBZ.out.putAll (D := h3 (cg : Int) (ct : Int) (cf : Int)) rfl).three
      exact bodyPost_ret (v := .tuple #[.agg #[.int .u64 (cg : Int), .int .u64 (ct : Int), .int .u64 (cf : Int)], .bool cb, .int .i64 0]) (by simp [results, Tryz.results75, go_sem, hz0, hz1, hz2]) rfl ⟨HFIN.out, Adv.lsetCells _ 0 _ (adv_new HA.out HAD.out HWY.out) (.inr HWZ.out)⟩
end Go.Proofs.YtcglfknkkeaegaaGreatDoor
namespace Go.Proofs.YtcglfknkkeaegaaGreatDoor
open Go.RowKit

theorem few_write (s : DS) (i : Int) (b : List Nat) : (writeS s i b).1.Q.length ≤ s.Q.length + 1 := by
  unfold writeS
  split
  · exact Nat.le_succ _
  · split
    · simp
    · simp [stepS_Q]
theorem few_flush (s : DS) : (flushS s).1.Q.length ≤ s.Q.length := by
  unfold flushS
  split
  · simp
  · simp [stepS_Q]
end Go.Proofs.YtcglfknkkeaegaaGreatDoor
namespace Go.Proofs.YtcglfknkkeaegaaGreatDoor
open Go.RowKit Go.Maps

abbrev DU := DataW Unit
def u8D : Value → DU
  | .int .u8 x => .lit (.int .u8 x)
  | _ => .nil
def litD (x : Nat) : DU := .lit (.int .u8 (x : Int))
def secD (l : List Nat) : DU := .agg (l.map litD)
/-- how a sector reads -/
def secR : Value → Option (DU × List MemPlace)
  | .agg cs => some (.agg (cs.toList.map u8D), [])
  | _ => none
theorem secR_mk (l : List Nat) : secR (.agg (l.map u8).toArray) = some (secD l, []) := by
  have e : (l.map u8).map u8D = l.map litD := by rw [List.map_map]; rfl
  simp [secR, secD, e]
theorem u8D_inv : ∀ {cs : List Value} {l : List Nat}, cs.map u8D = l.map litD → cs = l.map u8
  | [], [], _ => rfl
  | [], _ :: _, h => by simp at h
  | _ :: _, [], h => by simp at h
  | c :: cs, x :: l, h => by
    rw [List.map_cons, List.map_cons, List.cons.injEq] at h
    have h2 := u8D_inv h.2
    have h1 : c = u8 x := by
      have h3 := h.1
      unfold u8D litD at h3
      split at h3
      · injection h3 with h3; injection h3 with _ h3; subst h3; rfl
      · cases h3
    rw [h1, h2]; rfl
theorem secR_inv {v : Value} {ps : List MemPlace} {l : List Nat} (h : secR v = some (secD l, ps)) : v = .agg (l.map u8).toArray := by
  unfold secR at h
  split at h
  · injection h with h
    injection h with h _
    unfold secD at h
    injection h with h
    have := u8D_inv h
    rw [← this]
  · cases h
def ik (i : Nat) : Lit := .int .i64 (i : Int)
theorem ik_ne {i j : Nat} (h : i ≠ j) : ik i ≠ ik j := fun e => h (by unfold ik at e; injection e with _ e; omega)
theorem ik_wf {i : Nat} (h : i < 1000000000) : (Lit.int .i64 (i : Int)).wf = true := by
  have h0 : IntKind.i64.min = -9223372036854775808 := rfl
  have h1 : IntKind.i64.max = 9223372036854775807 := rfl
  simp [Lit.wf]
  omega
def cnt (A : Nat → Option (List Nat)) (N : Nat) : Nat := ((List.range N).filter (fun i => (A i).isSome)).length
theorem cnt_succ (A : Nat → Option (List Nat)) (N : Nat) : cnt A (N + 1) = cnt A N + (if (A N).isSome then 1 else 0) := by
  unfold cnt
  rw [List.range_succ, List.filter_append, List.length_append]
  congr 1
  cases h : (A N).isSome <;> simp [h]
def setA (A : Nat → Option (List Nat)) (i : Nat) (l : List Nat) : Nat → Option (List Nat) := fun j => if j = i then some l else A j
theorem cnt_le (A : Nat → Option (List Nat)) (N : Nat) : cnt A N ≤ N := by
  have := List.length_filter_le (fun i => (A i).isSome) (List.range N)
  rwa [List.length_range] at this
theorem cnt_far {A B : Nat → Option (List Nat)} : ∀ {N : Nat}, (∀ j, j < N → A j = B j) → cnt A N = cnt B N
  | 0, _ => rfl
  | N + 1, h => by rw [cnt_succ, cnt_succ, cnt_far (N := N) (fun j hj => h j (by omega)), h N (by omega)]
theorem cnt_set {A : Nat → Option (List Nat)} {i : Nat} {l : List Nat} : ∀ {N : Nat}, i < N → cnt (setA A i l) N = if (A i).isSome then cnt A N else cnt A N + 1
  | 0, h => by omega
  | N + 1, h => by
    rw [cnt_succ, cnt_succ]
    by_cases e : i = N
    · subst e
      rw [cnt_far (A := setA A i l) (B := A) (fun j hj => by unfold setA; rw [if_neg (by omega)])]
      have : (setA A i l i).isSome = true := by unfold setA; rw [if_pos rfl]; rfl
      rw [this]
      cases (A i).isSome <;> simp
    · rw [cnt_set (N := N) (by omega)]
      have : setA A i l N = A N := by unfold setA; rw [if_neg (by omega)]
      rw [this]
      cases (A i).isSome <;> simp <;> omega

/-- the datum of a map of homes -/
structure MpD (N : Nat) (A : Nat → Option (List Nat)) (D : DU) : Prop where
  tidy : Tidy D
  size : Maps.size D = cnt A N
  has : ∀ i, i < N → Maps.has D (ik i) = (A i).isSome
  at_ : ∀ i, i < N → ∀ z, D.atKey (ik i) z = ((A i).map secD).getD z
  keys : ∀ k : Lit, WideAt.IsKeyLit k → Maps.has D k = true → ∃ i, i < N ∧ k = ik i
theorem ik_key (i : Nat) : WideAt.IsKeyLit (ik i) := trivial
theorem cnt_none (N : Nat) : cnt (fun _ => none) N = 0 := by unfold cnt; simp
theorem MpD.empty (N : Nat) : MpD N (fun _ => none) (.map []) :=
  ⟨tidy_empty, by rw [cnt_none]; rfl, fun _ _ => rfl, fun _ _ _ => rfl, fun _ _ h => by simp [Maps.has_eq] at h⟩
theorem MpD.put {N i : Nat} {A : Nat → Option (List Nat)} {D : DU} {l : List Nat} (h : MpD N A D) (hi : i < N) : MpD N (setA A i l) (D.put (ik i) (secD l)) where
  tidy := h.tidy.put (ik_key i) _
  size := by rw [size_put h.tidy, h.has i hi, cnt_set hi, h.size]
  has j hj := by
    by_cases e : j = i
    · subst e; rw [has_put_same h.tidy.isMap (ik_key j)]; unfold setA; rw [if_pos rfl]; rfl
    · rw [has_put_other (ik_ne e), h.has j hj]; unfold setA; rw [if_neg e]
  at_ j hj z := by
    by_cases e : j = i
    · subst e; rw [atKey_put_same h.tidy.isMap (ik_key j)]; unfold setA; rw [if_pos rfl]; rfl
    · rw [atKey_put_other (ik_ne e), h.at_ j hj]; unfold setA; rw [if_neg e]
  keys k hk hh := by
    by_cases e : k = ik i
    · exact ⟨i, hi, e⟩
    · rw [has_put_other e] at hh
      exact h.keys k hk hh

/-- block b is a map of homes -/
def Mp (w : World) (b N : Nat) (A : Nat → Option (List Nat)) : Prop := ∃ D : DU, w.ownsMap Tryz.prog 3 secR b (cnt A N) D ∧ MpD N A D
theorem keyed_int : Keyed Tryz.prog 3 := int_keyed Tryz.underlying3
theorem key_ik {i : Nat} (h : i < 1000000000) : keyOf Tryz.prog 3 (.int .i64 (i : Int)) = some (ik i) := keyOf_int_mk Tryz.underlying3 (ik_wf h)
theorem infoSec : (Tryz.prog.info? 182).map (fun i => (i.zero, i.size, i.bytes)) = some (some (.agg zS), 128, 128) := by kernel_rfl
theorem sizeSec : (Tryz.prog.info? 182).map (·.size) = some 128 := by kernel_rfl
theorem Mp.lt {w : World} {b N : Nat} {A : Nat → Option (List Nat)} (h : Mp w b N A) : b < w.heap.size := by obtain ⟨D, h, _⟩ := h; exact h.lt
theorem Mp.keep {w w' : World} {b N : Nat} {A : Nat → Option (List Nat)} (h : Mp w b N A) (hk : w'.heap[b]? = w.heap[b]?) : Mp w' b N A := by
  obtain ⟨D, ⟨es, c, h1, h2⟩, h3⟩ := h
  exact ⟨D, ⟨es, c, hk.trans h1, h2⟩, h3⟩
theorem Mp.new (w : World) (N : Nat) : Mp (w.alloc (.map #[] 0)) w.heap.size N (fun _ => none) := ⟨_, by rw [cnt_none]; exact World.ownsMap_made _ _ _ _, MpD.empty N⟩
theorem Mp.ne {w : World} {b g N : Nat} {t : TypeId} {cs : Array Value} {A : Nat → Option (List Nat)} (h : Mp w b N A) (hg : Blk w g t cs) : g ≠ b := by
  rintro rfl
  obtain ⟨D, ⟨es, c, h1, h2⟩, h3⟩ := h
  unfold Blk at hg
  rw [h1] at hg
  cases hg

section
variable {ops : Array Oper} {rest : List Oper} {o : Oper} {a : Act} {w : World} {Q : Exit → Act → World → Prop}
theorem op_look (hgd : o.guard = none) (m x : Operand) (ho : o.op = Op.lookup 143 m x true) (b N i : Nat) (A : Nat → Option (List Nat)) (hM : Mp w b N A) (hm : a.eval m = .map (some b)) (hx : a.eval x = .int .i64 (i : Int)) (hi : i < N) (hN : N ≤ 4096)
    (hK : wpList Tryz.prog ops Q rest (a.put o.dst (.tuple #[.agg ((((A i).getD (List.replicate 128 0)).map u8).toArray), .bool (A i).isSome])) w) : wpList Tryz.prog ops Q (o :: rest) a w := by
  obtain ⟨D, h, d⟩ := hM
  refine wpList_lookup_own_ok w hgd m x 143 ho 3 182 keyed_int Tryz.underlying143 secR (zero_run infoSec) (secD (List.replicate 128 0)) [] (by rw [zS, ← List.map_replicate]; exact secR_mk _) b _ D hm h _ (ik i) hx (key_ik (by omega)) (fun v ps hv => ?_)
  rw [d.at_ i hi] at hv
  rw [d.has i hi]
  have e : ((A i).map secD).getD (secD (List.replicate 128 0)) = secD ((A i).getD (List.replicate 128 0)) := by cases A i <;> rfl
  rw [e] at hv
  rw [secR_inv hv]
  exact hK
theorem op_alloc_sec (hgd : o.guard = none) (ho : o.op = .alloc 182) (h : wpList Tryz.prog ops Q rest (a.put o.dst (.pointer (some ⟨w.heap.size, 0, none⟩))) (w.alloc (.cells zS 182))) : wpList Tryz.prog ops Q (o :: rest) a w :=
  op_alloc hgd ho infoSec h
theorem op_store_sec (hgd : o.guard = none) (x y : Operand) (ho : o.op = .store 182 x y) (g : Nat) (hg : g = w.heap.size) (l : List Nat) (hl : l.length = 128) (hx : a.eval x = .pointer (some ⟨g, 0, none⟩)) (hy : a.eval y = .agg (l.map u8).toArray)
    (h : wpList Tryz.prog ops Q rest (a.put o.dst undef) (w.alloc (.cells (l.map u8).toArray 182))) : wpList Tryz.prog ops Q (o :: rest) a (w.alloc (.cells zS 182)) :=
  op_store_new hgd x y ho g hg hx hy sizeSec (by simpa using hl) zS_size (one_u8 l) h
end

/-- The log: the head, the next count, its epoch, what is not home, the error that stays. -/
structure LS where
  h : Hd
  next : Nat
  ep : Nat
  A : Nat → Option (List Nat)
  err : Int
def lcells (d n b : Nat) (g : LS) : Array Value := #[.pointer (some ⟨d, 0, none⟩), .int .i64 (n : Int), .int .u64 (g.h.g : Int), .int .u64 (g.h.t : Int), .int .u64 (g.h.f : Int), .int .u64 (g.next : Int), .int .u64 (g.ep : Int), .map (some b), .int .i64 g.err]
structure Lg (w : World) (l b d n N : Nat) (g : LS) : Prop where
  blk : Blk w l 145 (lcells d n b g)
  mp : Mp w b (N - 2 - n) g.A
def LF (l b : Nat) : Nat → Prop := fun k => k = l ∨ k = b
theorem Lg.bd {w : World} {l b d n N : Nat} {g : LS} (h : Lg w l b d n N g) : Bd (LF l b) w := fun k hk => by
  rcases hk with rfl | rfl
  · exact h.blk.lt
  · exact h.mp.lt
theorem Lg.far {w w' : World} {F F' : Nat → Prop} {l b d n N : Nat} {g : LS} (h : Lg w l b d n N g) (ha : Adv F w F' w') (hs : Sep F (LF l b)) : Lg w' l b d n N g :=
  ⟨h.blk.keep (ha.block l h.blk.lt (fun x => hs l x (.inl rfl))), h.mp.keep (ha.block b h.mp.lt (fun x => hs b x (.inr rfl)))⟩
theorem Lg.ne {w : World} {l b d n N : Nat} {g : LS} (h : Lg w l b d n N g) : l ≠ b := h.mp.ne h.blk
theorem Lg.cells {w : World} {l b d n N : Nat} {g : LS} (h : Lg w l b d n N g) : w.cell? ⟨l, 0, none⟩ = some (.pointer (some ⟨d, 0, none⟩)) ∧ w.cell? ⟨l, 1, none⟩ = some (.int .i64 (n : Int)) ∧ w.cell? ⟨l, 2, none⟩ = some (.int .u64 (g.h.g : Int)) ∧
    w.cell? ⟨l, 3, none⟩ = some (.int .u64 (g.h.t : Int)) ∧ w.cell? ⟨l, 4, none⟩ = some (.int .u64 (g.h.f : Int)) ∧ w.cell? ⟨l, 5, none⟩ = some (.int .u64 (g.next : Int)) ∧ w.cell? ⟨l, 6, none⟩ = some (.int .u64 (g.ep : Int)) ∧ w.cell? ⟨l, 7, none⟩ = some (.map (some b)) ∧ w.cell? ⟨l, 8, none⟩ = some (.int .i64 g.err) :=
  ⟨h.blk.cell 0, h.blk.cell 1, h.blk.cell 2, h.blk.cell 3, h.blk.cell 4, h.blk.cell 5, h.blk.cell 6, h.blk.cell 7, h.blk.cell 8⟩
end Go.Proofs.YtcglfknkkeaegaaGreatDoor
namespace Go.Proofs.YtcglfknkkeaegaaGreatDoor
open Go.ChangeShapes Go.WideShapes Go.ChangeAt Go.RowKit

/-- the cells of a slot in a block -/
structure C7 (w : World) (y : Nat) (x : Slt) : Prop where
  all : w.cell? ⟨y, 0, none⟩ = some (.bool x.u) ∧ w.cell? ⟨y, 1, none⟩ = some (.int .i64 x.i) ∧ w.cell? ⟨y, 2, none⟩ = some (.int .i64 x.g) ∧ w.cell? ⟨y, 3, none⟩ = some (.int .i64 x.a) ∧ w.cell? ⟨y, 4, none⟩ = some (.int .u64 (x.v : Int)) ∧ w.cell? ⟨y, 5, none⟩ = some (.bool x.d) ∧ w.cell? ⟨y, 6, none⟩ = some (.string x.s)
set_option maxRecDepth 3000 in
theorem Blk.c7 {w : World} {y : Nat} {t : TypeId} {x : Slt} (h : Blk w y t (tc x)) : C7 w y x :=
  ⟨h.cell 0, h.cell 1, h.cell 2, h.cell 3, h.cell 4, h.cell 5, h.cell 6⟩
set_option maxRecDepth 3000 in
theorem tc_one (x : Slt) : (tc x).all (·.oneCell') = true := by simp [tc, Value.oneCell']
set_option maxRecDepth 3000 in
theorem tc_size (x : Slt) : (tc x).size = 7 := rfl
set_option maxRecDepth 3000 in
theorem tc_inj {x y : Slt} (h : tc x = tc y) : x = y := by
  obtain ⟨u, i, g, a, v, d, s⟩ := x
  obtain ⟨u', i', g', a', v', d', s'⟩ := y
  simp [tc] at h
  obtain ⟨rfl, rfl, rfl, rfl, h, rfl, rfl⟩ := h
  obtain rfl : v = v' := by omega
  rfl
/-- a slot's parts as plain letters -/
def lits (x : Slt) : List Lit := [.bool x.u, .int .i64 x.i, .int .i64 x.g, .int .i64 x.a, .int .u64 (x.v : Int), .bool x.d, .string x.s.data.toList]
set_option maxRecDepth 3000 in
theorem lits_inj {x y : Slt} (h : lits x = lits y) : x = y := by
  obtain ⟨u, i, g, a, v, d, s⟩ := x
  obtain ⟨u', i', g', a', v', d', s'⟩ := y
  simp [lits] at h
  obtain ⟨rfl, rfl, rfl, rfl, h, rfl, h2⟩ := h
  obtain rfl : v = v' := by omega
  obtain rfl : s = s' := ByteArray.ext h2
  rfl
set_option maxRecDepth 3000 in
theorem cellsT : Tryz.prog.cellsOf 44 = 7 := by kernel_rfl
set_option maxRecDepth 3000 in
theorem cellsQT : Tryz.prog.cellsOf 40 = 7 := by kernel_rfl
set_option maxRecDepth 3000 in
theorem cellsB_ : Tryz.prog.cellsOf 37 = 3 := by kernel_rfl
set_option maxRecDepth 3000 in
theorem cellsF_ : Tryz.prog.cellsOf 35 = 2 := by kernel_rfl
set_option maxRecDepth 3000 in
theorem cellsI_ : Tryz.prog.cellsOf 3 = 1 := by kernel_rfl
set_option maxRecDepth 3000 in
theorem cellsO_ : Tryz.prog.cellsOf 4 = 1 := by kernel_rfl
set_option maxRecDepth 3000 in
theorem cellsU_ : Tryz.prog.cellsOf 38 = 1 := by kernel_rfl
set_option maxRecDepth 3000 in
theorem cellsS_ : Tryz.prog.cellsOf 9 = 1 := by kernel_rfl
set_option maxRecDepth 3000 in
theorem tkey_bool (d : Nat) (b : Bool) : Tryz.prog.keyLits (d + 1) 4 [.bool b] = some [.bool b] := by
  unfold Program.keyLits
  rw [Tryz.underlying4]
set_option maxRecDepth 3000 in
theorem tkey_int (d : Nat) (z : Int) (h : (Lit.int .i64 z).wf = true) : Tryz.prog.keyLits (d + 1) 3 [.int .i64 z] = some [.int .i64 z] := by
  unfold Program.keyLits
  rw [Tryz.underlying3]
  simp [h]
set_option maxRecDepth 3000 in
theorem tkey_u64 (d : Nat) (z : Int) (h : (Lit.int .u64 z).wf = true) : Tryz.prog.keyLits (d + 1) 38 [.int .u64 z] = some [.int .u64 z] := by
  unfold Program.keyLits
  rw [Tryz.underlying38]
  simp [h]
set_option maxRecDepth 3000 in
theorem tkey_str (d : Nat) (s : ByteArray) (h : s.size ≤ maxLen) : Tryz.prog.keyLits (d + 1) 9 [.string s] = some [.string s.data.toList] := by
  unfold Program.keyLits
  rw [Tryz.underlying9]
  simp [h]
set_option maxRecDepth 3000 in
theorem twf_i64 {z : Int} (h : -9223372036854775808 ≤ z ∧ z < 9223372036854775808) : (Lit.int .i64 z).wf = true := by
  simp [Lit.wf, IntKind.min, IntKind.max, IntKind.signed, IntKind.bits]; omega
set_option maxRecDepth 3000 in
theorem twf_u64 {z : Nat} (h : z < 18446744073709551616) : (Lit.int .u64 (z : Int)).wf = true := by
  simp [Lit.wf, IntKind.min, IntKind.max, IntKind.signed, IntKind.bits]; omega
set_option maxRecDepth 3000 in
theorem tkey_file (d : Nat) (i g : Int) (h1 : (Lit.int .i64 i).wf = true) (h2 : (Lit.int .i64 g).wf = true) : Tryz.prog.keyLits (d + 2) 35 [.int .i64 i, .int .i64 g] = some [.int .i64 i, .int .i64 g] := by
  unfold Program.keyLits
  rw [Tryz.underlying35]
  simp [cellsF_, cellsI_, tkey_int d _ h1, tkey_int d _ h2]
set_option maxRecDepth 3000 in
theorem tkey_block (d : Nat) (i g a : Int) (h1 : (Lit.int .i64 i).wf = true) (h2 : (Lit.int .i64 g).wf = true) (h3 : (Lit.int .i64 a).wf = true) : Tryz.prog.keyLits (d + 3) 37 [.int .i64 i, .int .i64 g, .int .i64 a] = some [.int .i64 i, .int .i64 g, .int .i64 a] := by
  unfold Program.keyLits
  rw [Tryz.underlying37]
  simp [cellsB_, cellsF_, cellsI_, tkey_file d _ _ h1 h2, tkey_int (d + 1) _ h3]
set_option maxRecDepth 3000 in
theorem tkey_slot (x : Slt) (h : WfT x) : Tryz.prog.keyLits 5 44 (tc x).toList = some (lits x) := by
  unfold Program.keyLits
  rw [Tryz.underlying44]
  simp [tc, lits, cellsT, cellsB_, cellsU_, cellsO_, cellsS_, tkey_bool 3, tkey_block 1 _ _ _ (twf_i64 h.i) (twf_i64 h.g) (twf_i64 h.a), tkey_u64 3 _ (twf_u64 h.v), tkey_str 3 _ (show x.s.size ≤ maxLen by have := h.s; unfold maxLen; omega)]
set_option maxRecDepth 3000 in
theorem eq_slots {t : TypeId} (hk : Tryz.prog.keyTypeAt 4 t = true) (x y : Slt) (fx : (Value.agg (tc x)).formed Tryz.prog t = true) (fy : (Value.agg (tc y)).formed Tryz.prog t = true) (kx : Tryz.prog.keyLits 5 t (tc x).toList = some (lits x)) (ky : Tryz.prog.keyLits 5 t (tc y).toList = some (lits y)) :
    ∀ w, (Op.equalIn 10000 t (.agg (tc x)) (.agg (tc y))).run Tryz.prog w = .ok (decide (x = y)) w := by
  intro w
  obtain ⟨c, h1, h2⟩ := run_equalIn_deep (P := Tryz.prog) 9996 4 t hk w 5 5 (.agg (tc x)) (.agg (tc y)) _ _ fx fy kx ky
  rw [h1]
  congr 1
  by_cases e : x = y
  · rw [decide_eq_true e, h2.2 (by rw [e])]
  · rw [decide_eq_false e]
    cases c
    · rfl
    · exact absurd (lits_inj (h2.1 rfl)) e
set_option maxRecDepth 3000 in
theorem formedT (x : Slt) : (Value.agg (tc x)).formed Tryz.prog 44 = true := by
  unfold Value.formed
  simp only [Tryz.underlying44, cellsT]
  rfl
set_option maxRecDepth 3000 in
theorem eq_tslot (x y : Slt) (hx : WfT x) (hy : WfT y) : ∀ w, (Op.equalIn 10000 44 (.agg (tc x)) (.agg (tc y))).run Tryz.prog w = .ok (decide (x = y)) w :=
  eq_slots (by kernel_rfl) x y (formedT x) (formedT y) (tkey_slot x hx) (tkey_slot y hy)
set_option maxRecDepth 3000 in
theorem sizeT : (Tryz.prog.info? 44).map (·.size) = some 7 := by kernel_rfl
set_option maxRecDepth 3000 in
theorem sizeQT : (Tryz.prog.info? 40).map (·.size) = some 7 := by kernel_rfl
set_option maxRecDepth 3000 in
theorem infoT : (Tryz.prog.info? 44).map (fun i => (i.zero, i.size, i.bytes)) = some (some (.agg (tc zeroT)), 7, 64) := by kernel_rfl
set_option maxRecDepth 3000 in
theorem builtT : Tryz.prog.built 44 [] = some (tc zeroT) := by kernel_rfl
set_option maxRecDepth 3000 in
theorem kop_zero {t : TypeId} {C : Array Value} {ops : Array Oper} {rest : List Oper} {o : Oper} {a : Act} {w : World} {Q : Exit → Act → World → Prop} (hb : Tryz.prog.built t [] = some C) (hgd : o.guard = none) (ho : o.op = .build t #[])
    (h : wpList Tryz.prog ops Q rest (a.put o.dst (.agg C)) w) : wpList Tryz.prog ops Q (o :: rest) a w := by
  refine wpList_build hgd t #[] ho (by simp [hb]) ?_
  simpa [hb] using h
set_option maxRecDepth 3000 in
theorem kyl_neqs {t ty : TypeId} {C D : Array Value} {c : Bool} {ops : Array Oper} {S : World → Prop} {o : Oper} {a : Act} (hE : ∀ w, (Op.equalIn 10000 t (.agg C) (.agg D)).run Tryz.prog w = .ok c w) (hg : Tryz.prog.eqGuardType Tryz.prog.depth t = false) (hw : Region.wanted o (yielded ops a.tmps) = true) (x y : Operand) (ho : o.op = .binOp .neq t x y ty) (hx : a.eval x = .agg C) (hy : a.eval y = .agg D) : YieldsIf Tryz.prog ops S o (.bool (!c)) a := .inl ⟨hw, fun w _ => by
  have h1 := run_eqGuard_agg (P := Tryz.prog) w .neq t x y C D hg
  have h2 := run_neq_struct (P := Tryz.prog) w t C D
  rw [hE] at h2
  unfold execOp
  simp only [ho, hx, hy, Sem.run_bind, Sem.run_pure, Result.andThen_ok, h1, h2]⟩
set_option maxRecDepth 3000 in
theorem guardT : Tryz.prog.eqGuardType Tryz.prog.depth 44 = false := by kernel_rfl
set_option maxRecDepth 3000 in
set_option maxHeartbeats 1000000 in
theorem free_any (x : Slt) (hx : WfT x) (w : World) : Calls Tryz.prog 33 #[.agg (tc x)] w fun e w' => e = .returned (.bool (decide (x = zeroT))) ∧ Adv Nul w Nul w' := by
  have hE := eq_tslot x zeroT hx zeroT_wf
  obtain ⟨B, hB⟩ : ∃ B, B = decide (x = zeroT) := ⟨_, rfl⟩
  rw [← hB] at hE ⊢
  obtain ⟨C, hC⟩ : ∃ C, C = tc x := ⟨_, rfl⟩
  obtain ⟨Z, hZ⟩ : ∃ C, C = tc zeroT := ⟨_, rfl⟩
  have HS := Lib.hid (show C.size = 7 by rw [hC]; rfl)
  have HB0 := Lib.hid builtT
  rw [← hC] at hE ⊢
  rw [← hZ] at hE HB0
  clear hB hx hC hZ
  go_enter Tryz.func33, Tryz.ntmps33
  go_wp2_with (first
    | (refine kop_box rfl _ rfl rfl ?_; intro z w1 hz hb ha; have HB := Lib.hid hb; have HA := Lib.hid ha; clear hz hb ha)
    | (refine kop_load rfl _ rfl z HB.out rfl Tryz.underlying44 rfl sizeT HS.out ?_)
    | (refine kop_zero HB0.out rfl rfl ?_)
    | fail)
  go_ret
  exact ⟨rfl, HA.out⟩
set_option maxRecDepth 3000 in
theorem flag_any (b : Bool) (w : World) : Calls Tryz.prog 92 #[.bool b] w fun e w' => e = .returned (.int .u64 (b.toNat : Int)) ∧ w' = w := by
  cases b
  all_goals
    go_enter Tryz.func92, Tryz.ntmps92
    go_wp2_with fail
    go_ret
    exact ⟨rfl, rfl⟩
def kpT (x : Slt) : Prop := x.u = true ∧ (0 < x.i ∧ x.i < 41) ∧ x.s.size ≤ 64
instance (x : Slt) : Decidable (kpT x) := by unfold kpT; exact inferInstance
set_option maxRecDepth 3000 in
set_option maxHeartbeats 1000000 in
theorem maykeep_any (x : Slt) (w : World) : Calls Tryz.prog 89 #[.agg (tc x)] w fun e w' => e = .returned (.bool (decide (kpT x))) ∧ Adv Nul w Nul w' := by
  obtain ⟨B, hB⟩ : ∃ B, B = decide (kpT x) := ⟨_, rfl⟩
  rw [← hB]
  have HB := Lib.hid hB
  clear hB
  obtain ⟨u, i, g, a, v, d, s⟩ := x
  simp only [tc]
  by_cases hk : u = true ∧ (0 < i ∧ i < 41) ∧ s.size ≤ 64
  · obtain rfl : B = true := HB.out.trans (decide_eq_true hk)
    obtain ⟨rfl, ⟨h1, h2⟩, h3⟩ := hk
    have h1' : 1 ≤ i := by omega
    have h2' : i ≤ 40 := by omega
    have h3' : (s.size : Int) ≤ 64 := by omega
    clear h1 h2 h3
    go_enter Tryz.func89, Tryz.ntmps89
    go_wp2_with fail
    go_ret
    exact ⟨by simp, (Adv.refl _ _).alloc _⟩
  · obtain rfl : B = false := HB.out.trans (decide_eq_false hk)
    cases u with
    | false =>
      clear hk
      go_enter Tryz.func89, Tryz.ntmps89
      go_wp2_with fail
      go_ret
      exact ⟨rfl, (Adv.refl _ _).alloc _⟩
    | true =>
      by_cases h1 : 0 < i
      · by_cases h2 : i < 41
        · have h3 : ¬ (s.size : Int) ≤ 64 := fun h => hk ⟨rfl, ⟨h1, h2⟩, by omega⟩
          have h1' : 1 ≤ i := by omega
          have h2' : i ≤ 40 := by omega
          clear h1 h2 hk
          go_enter Tryz.func89, Tryz.ntmps89
          go_wp2_with fail
          go_ret
          exact ⟨by simp, (Adv.refl _ _).alloc _⟩
        · have h1' : 1 ≤ i := by omega
          have h2' : ¬ i ≤ 40 := by omega
          clear h1 h2 hk
          go_enter Tryz.func89, Tryz.ntmps89
          go_wp2_with fail
          go_ret
          exact ⟨rfl, (Adv.refl _ _).alloc _⟩
      · have h1' : ¬ 1 ≤ i := by omega
        clear h1 hk
        go_enter Tryz.func89, Tryz.ntmps89
        go_wp2_with fail
        go_ret
        exact ⟨rfl, (Adv.refl _ _).alloc _⟩
end Go.Proofs.YtcglfknkkeaegaaGreatDoor
namespace Go.Proofs.YtcglfknkkeaegaaGreatDoor
open Go.RowKit Go.Maps

def putsT (ps : List Plc) : List Pt := ps.map (fun p => ⟨((1 + p.1 : Nat) : Int), secT p.2⟩)
structure WfB (b : Bk) : Prop where
  i : -9223372036854775808 ≤ b.i ∧ b.i < 9223372036854775808
  g : -9223372036854775808 ≤ b.g ∧ b.g < 9223372036854775808
  a : -9223372036854775808 ≤ b.a ∧ b.a < 9223372036854775808
set_option maxRecDepth 3000 in
theorem WfT.b {x : Slt} (h : WfT x) : WfB (bkT x) := ⟨h.i, h.g, h.a⟩
def kbL (b : Bk) : List Lit := [.int .i64 b.i, .int .i64 b.g, .int .i64 b.a]
def kb (b : Bk) : Lit := .string (keyBytes (kbL b))
set_option maxRecDepth 3000 in
theorem typesP : decide (2 ≤ Tryz.prog.types.size) = true := by kernel_rfl
set_option maxRecDepth 3000 in
theorem keyTypeB : Tryz.prog.keyType 37 = true := by kernel_rfl
set_option maxRecDepth 3000 in
theorem key_kb {b : Bk} (h : WfB b) : keyOf Tryz.prog 37 (.agg (bkc b)) = some (kb b) := by
  obtain ⟨d, hd⟩ : ∃ d, Tryz.prog.types.size + 1 = d + 3 := ⟨Tryz.prog.types.size - 2, by have := of_decide_eq_true typesP; omega⟩
  have h1 : (Value.agg (bkc b)).formed Tryz.prog 37 = true := by
    unfold Value.formed
    simp only [Tryz.underlying37, cellsB_]
    rfl
  unfold keyOf
  rw [Tryz.underlying37]
  simp only [keyTypeB, h1, Bool.and_self, if_true]
  have h2 := tkey_block d b.i b.g b.a (twf_i64 h.i) (twf_i64 h.g) (twf_i64 h.a)
  rw [hd]
  have h3 : (Value.agg (bkc b)).cells.toList = [.int .i64 b.i, .int .i64 b.g, .int .i64 b.a] := rfl
  rw [h3, h2]
  rfl
set_option maxRecDepth 3000 in
theorem keyed_blk : Keyed Tryz.prog 37 := Keyed.of_law (deep_law (m := 3) (by decide) (by kernel_rfl) (by kernel_rfl) (by kernel_rfl))
set_option maxRecDepth 3000 in
theorem kb_key (b : Bk) : WideAt.IsKeyLit (kb b) := trivial
set_option maxRecDepth 3000 in
theorem kb_ne {b c : Bk} (hb : WfB b) (hc : WfB c) (h : b ≠ c) : kb b ≠ kb c := fun e => h (by
  have h1 := key_kb hb
  have h2 := key_kb hc
  rw [← e] at h2
  have h3 := keyed_blk.inj h1 h2
  obtain ⟨i, g, a⟩ := b
  obtain ⟨i2, g2, a2⟩ := c
  simp [bkc] at h3
  obtain ⟨rfl, rfl, rfl⟩ := h3
  rfl)
def idD (i : Nat) : DU := .lit (.int .i64 (i : Int))
/-- the datum of a map of places -/
structure MbD (L : List Slt) (D : DU) : Prop where
  tidy : Tidy D
  size : Maps.size D = usedL L
  has : ∀ b, WfB b → Maps.has D (kb b) = (atL L b).isSome
  at_ : ∀ b, WfB b → ∀ z, D.atKey (kb b) z = ((atL L b).map idD).getD z
set_option maxRecDepth 3000 in
theorem usedL_rep (n : Nat) : usedL (List.replicate n zeroT) = 0 := by
  unfold usedL
  rw [List.countP_eq_zero]
  intro x hx
  rw [List.eq_of_mem_replicate hx]
  decide
set_option maxRecDepth 3000 in
theorem atL_rep (n : Nat) (b : Bk) : atL (List.replicate n zeroT) b = none := atL_none.2 fun i hi h => by rw [List.getElem_replicate] at h; cases h
set_option maxRecDepth 3000 in
theorem MbD.empty (n : Nat) : MbD (List.replicate n zeroT) (.map []) :=
  ⟨tidy_empty, by rw [usedL_rep]; rfl, fun b _ => by rw [atL_rep]; rfl, fun b _ z => by rw [atL_rep]; rfl⟩
set_option maxRecDepth 3000 in
theorem MbD.drop {L : List Slt} {D : DU} (h : MbD L D) (hw : WL L) {i : Nat} (hi : i < L.length) : MbD (L.set i zeroT) (D.del (kb (bkT L[i]))) := by
  have hwf := (isT_wf (hw.is _ (List.getElem_mem hi))).b
  by_cases hu : L[i].u = true
  · have hat : atL L (bkT L[i]) = some i := (atL_some hw).2 ⟨hi, hu, rfl⟩
    have hus := usedL_set hi zeroT
    rw [if_pos hu, if_neg (by decide)] at hus
    have hsz := size_del (k := kb (bkT L[i])) h.tidy
    rw [h.has _ hwf, hat, Option.isSome_some, if_pos rfl, h.size] at hsz
    refine ⟨h.tidy.del _, by omega, fun b hb => ?_, fun b hb z => ?_⟩
    · rw [atL_set0 hw hi]
      by_cases e : bkT L[i] = b
      · rw [if_pos ⟨hu, e⟩, ← e]; exact has_del_same
      · rw [if_neg (fun x => e x.2), has_del_other (kb_ne hb hwf (fun x => e x.symm))]; exact h.has b hb
    · rw [atL_set0 hw hi]
      by_cases e : bkT L[i] = b
      · rw [if_pos ⟨hu, e⟩, ← e]; exact atKey_del_same z
      · rw [if_neg (fun x => e x.2), atKey_del_other (kb_ne hb hwf (fun x => e x.symm))]; exact h.at_ b hb z
  · have hz : L[i] = zeroT := isT_u (hw.is _ (List.getElem_mem hi)) (by simpa using hu)
    have hset : L.set i zeroT = L := by rw [← hz]; exact List.set_getElem_self hi
    have hat : atL L (bkT L[i]) = none := atL_none.2 fun j hj h1 h2 => by
      have h3 := (isT_ne (hw.is _ (List.getElem_mem hj)) (fun e => by rw [e] at h1; cases h1)).2.1.1
      have h4 : L[j].i = L[i].i := congrArg Bk.i h2
      rw [h4, hz] at h3
      exact absurd h3 (by decide)
    have hh := h.has _ hwf
    rw [hat] at hh
    rw [hset, del_of_not_has hh]
    exact h
set_option maxRecDepth 3000 in
theorem MbD.put {L : List Slt} {D : DU} {i : Nat} {x : Slt} (hw : WL L) (k : LayOk L i x) (hx : x ≠ zeroT) (h : MbD (L.set i zeroT) D) : MbD (L.set i x) (D.put (kb (bkT x)) (idD i)) := by
  have hwf := (isT_wf k.is).b
  have hno := k.no.resolve_left hx
  have h0 := h.has _ hwf
  rw [hno, Option.isSome_none] at h0
  have hus := usedL_set (L := L.set i zeroT) (i := i) (by rw [List.length_set]; exact k.lt) x
  rw [set_twice, List.getElem_set, if_pos rfl, if_neg (by decide), if_pos (isT_ne k.is hx).1] at hus
  refine ⟨h.tidy.put (kb_key _) _, by rw [size_put h.tidy, h0, if_neg (by decide), h.size]; omega, fun b hb => ?_, fun b hb z => ?_⟩
  · rw [atL_lay hw k hx]
    by_cases e : bkT x = b
    · rw [if_pos e, ← e, has_put_same h.tidy.isMap (kb_key _)]; rfl
    · rw [if_neg e, has_put_other (kb_ne hb hwf (fun x => e x.symm))]; exact h.has b hb
  · rw [atL_lay hw k hx]
    by_cases e : bkT x = b
    · rw [if_pos e, ← e, atKey_put_same h.tidy.isMap (kb_key _)]; rfl
    · rw [if_neg e, atKey_put_other (kb_ne hb hwf (fun x => e x.symm))]; exact h.at_ b hb z
/-- block m is the map of places of L -/
def Mb (w : World) (m : Nat) (L : List Slt) : Prop := ∃ D : DU, w.ownsMap Tryz.prog 37 (plainElem Tryz.prog 3) m (usedL L) D ∧ MbD L D
set_option maxRecDepth 3000 in
theorem Mb.lt {w : World} {m : Nat} {L : List Slt} (h : Mb w m L) : m < w.heap.size := by obtain ⟨D, h, _⟩ := h; exact h.lt
set_option maxRecDepth 3000 in
theorem Mb.keep {w w' : World} {m : Nat} {L : List Slt} (h : Mb w m L) (hk : w'.heap[m]? = w.heap[m]?) : Mb w' m L := by
  obtain ⟨D, ⟨es, c, h1, h2⟩, h3⟩ := h
  exact ⟨D, ⟨es, c, hk.trans h1, h2⟩, h3⟩
set_option maxRecDepth 3000 in
theorem Mb.new (w : World) (n : Nat) : Mb (w.alloc (.map #[] 0)) w.heap.size (List.replicate n zeroT) := ⟨_, by rw [usedL_rep]; exact World.ownsMap_made _ _ _ _, MbD.empty n⟩
set_option maxRecDepth 3000 in
theorem Mb.ne {w : World} {m g : Nat} {t : TypeId} {cs : Array Value} {L : List Slt} (h : Mb w m L) (hg : Blk w g t cs) : g ≠ m := by
  rintro rfl
  obtain ⟨D, ⟨es, c, h1, h2⟩, h3⟩ := h
  unfold Blk at hg
  rw [h1] at hg
  cases hg
set_option maxRecDepth 3000 in
theorem Mb.size {w : World} {m n : Nat} {L : List Slt} {D : DU} (h : w.ownsMap Tryz.prog 37 (plainElem Tryz.prog 3) m n D) (d : MbD L D) : w.ownsMap Tryz.prog 37 (plainElem Tryz.prog 3) m (usedL L) D := by
  obtain ⟨es, c, h1, h2, h3, h4⟩ := h
  refine ⟨es, c, h1, h2, ?_, h4⟩
  have e1 := d.size
  rw [h4] at e1
  rw [← e1]
  simp [Maps.size, length_sorted]
set_option maxRecDepth 3000 in
theorem plain_id {i : Nat} (h : i < 1000000) : plainElem (H := Unit) Tryz.prog 3 (.int .i64 (i : Int)) = some (idD i, []) := plainElem_int Tryz.underlying3 (twf_i64 (by omega))
set_option maxRecDepth 3000 in
theorem zero_int (w : World) : (zeroValue 3).run Tryz.prog w = .ok (.int .i64 0) w := by
  have h : (Tryz.prog.info? 3).map (fun i => (i.zero, i.size, i.bytes)) = some (some (.int .i64 0), 1, 8) := by kernel_rfl
  obtain ⟨i, hi, hz, _⟩ := info_parts h
  simp [zeroValue, typeInfo, hi, hz]
set_option maxRecDepth 3000 in
theorem adv_one {w w' : World} {m : Nat} (hg : w.grownBy w' (some m)) : Adv (One m) w (One m) w' := (Adv.refl (One m) w).grown hg (fun k hk => .inl (by injection hk with hk; exact hk.symm))
section
variable {ops : Array Oper} {rest : List Oper} {o : Oper} {a : Act} {w : World} {Q : Exit → Act → World → Prop}
end
end Go.Proofs.YtcglfknkkeaegaaGreatDoor
namespace Go.Proofs.YtcglfknkkeaegaaGreatDoor
open Go.RowKit Go.Maps

section
variable {w : World} {l b d n N : Nat} {g : LS}
set_option maxRecDepth 3000 in
theorem gmade_lg (h : Lg w l b d n N g) : Calls Tryz.prog 115 #[.pointer (some ⟨l, 0, none⟩)] w fun e w' => e = .returned (.bool true) ∧ w = w' := by
  have c0 := h.cells.1
  clear h
  go_enter Tryz.func115, Tryz.ntmps115
  go_wp2_with fail
  go_ret
  exact ⟨rfl, rfl⟩
set_option maxRecDepth 3000 in
theorem gstays_lg (h : Lg w l b d n N g) : Calls Tryz.prog 102 #[.pointer (some ⟨l, 0, none⟩)] w fun e w' => e = .returned (.int .i64 g.err) ∧ w = w' := by
  obtain ⟨c0, -, -, -, -, -, -, -, c8⟩ := h.cells
  have HM := Lib.hid (gmade_lg h)
  obtain ⟨E, hE⟩ : ∃ E, E = g.err := ⟨_, rfl⟩
  rw [← hE] at c8 ⊢
  clear h hE
  go_enter Tryz.func102, Tryz.ntmps102
  go_wp2_with fail
  refine HM.out.mono ?_
  rintro e w1 ⟨rfl, rfl⟩
  go_wp2_with fail
  go_ret
  exact ⟨rfl, rfl⟩
theorem Lg.setErr (h : Lg w l b d n N g) (E : Int) : Lg (w.setCell ⟨l, 8, none⟩ (.int .i64 E)) l b d n N { g with err := E } :=
  ⟨h.blk.set_ 8 _, h.mp.keep (Below.heap_setCell w _ _ b (fun e => h.ne e.symm))⟩
set_option maxRecDepth 3000 in
theorem gkeep_lg (E : Int) (h : Lg w l b d n N g) : Calls Tryz.prog 103 #[.pointer (some ⟨l, 0, none⟩), .int .i64 E] w fun e w' => e = .returned (.int .i64 E) ∧ Lg w' l b d n N { g with err := E } ∧ Adv (LF l b) w (LF l b) w' := by
  have c8 := h.cells.2.2.2.2.2.2.2.2
  have HF := Lib.hid (h.blk.frozen 8)
  have HS := Lib.hid (h.setErr E)
  have HA := Lib.hid ((Adv.refl (LF l b) w).setCell (p := ⟨l, 8, none⟩) (.inl (.inl rfl)) (.int .i64 E))
  have hf := HF.out
  clear h
  go_enter Tryz.func103, Tryz.ntmps103
  go_wp2_with fail
  go_ret
  exact ⟨rfl, HS.out, HA.out⟩
set_option maxRecDepth 3000 in
theorem ghome_lg (i : Nat) (h : Lg w l b d n N g) (hi : i ≤ 100000) (hn : n ≤ 100000) : Calls Tryz.prog 116 #[.pointer (some ⟨l, 0, none⟩), .int .i64 (i : Int)] w fun e w' => e = .returned (.int .i64 ((2 + n + i : Nat) : Int)) ∧ w = w' := by
  have c1 := h.cells.2.1
  have e : ((2 + n + i : Nat) : Int) = 2 + (n : Int) + (i : Int) := by omega
  rw [e]
  have hiI : (i : Int) ≤ 100000 := by omega
  have hnI : (n : Int) ≤ 100000 := by omega
  clear h e hi hn
  go_enter Tryz.func116, Tryz.ntmps116
  go_wp2_with fail
  go_ret
  exact ⟨rfl, rfl⟩
set_option maxRecDepth 3000 in
theorem gplace_lg (c : Nat) (h : Lg w l b d n N g) (hn : 1 ≤ n ∧ n ≤ 100000) : Calls Tryz.prog 145 #[.pointer (some ⟨l, 0, none⟩), .int .u64 (c : Int)] w fun e w' => e = .returned (.int .i64 ((2 + c % n : Nat) : Int)) ∧ w = w' := by
  have c1 := h.cells.2.1
  obtain ⟨r, hr⟩ : ∃ r, r = c % n := ⟨_, rfl⟩
  have hrn : r < n := by rw [hr]; exact Nat.mod_lt _ hn.1
  have e : ((2 + r : Nat) : Int) = 2 + (r : Int) := by omega
  rw [← hr, e]
  have h1 : IntKind.u64.wrap (n : Int) = (n : Int) := wrapU (by omega)
  have h2 : (c : Int).tmod (n : Int) = (r : Int) := by rw [hr]; rfl
  have h2' : (c : Int) % (n : Int) = (r : Int) := by rw [hr]; rfl
  have h3 : IntKind.u64.wrap (r : Int) = (r : Int) := wrapU (by omega)
  have h4 : IntKind.i64.wrap (r : Int) = (r : Int) := by rw [IntKind.wrap_i64]; omega
  have h5 : IntKind.i64.wrap (2 + (r : Int)) = 2 + (r : Int) := by rw [IntKind.wrap_i64]; omega
  have h6 : ((n : Int) == 0) = false := by rw [beq_eq_false_iff_ne]; omega
  have h7 : (n : Int) ≠ 0 := by omega
  clear h e hn hr hrn
  go_enter Tryz.func145, Tryz.ntmps145
  go_wp2_with fail
  go_ret
  exact ⟨rfl, rfl⟩
set_option maxRecDepth 3000 in
set_option maxHeartbeats 1600000 in
theorem ghomes_lg {F : Nat → Prop} {s : DS} (h : Lg w l b d n N g) (hd : Dk w F d N s) (hN : N ≤ 4096) (hn : n + 2 ≤ N) : Calls Tryz.prog 113 #[.pointer (some ⟨l, 0, none⟩)] w fun e w' => e = .returned (.int .i64 ((N - 2 - n : Nat) : Int)) ∧ ∃ k, w' = w.drewN k := by
  obtain ⟨c0, c1, -⟩ := h.cells
  have HM := Lib.hid (gmade_lg h)
  have HS := Lib.hid (fun (k : Nat) => (size_dk d N F s (w.drewN k) (hd.far ((Adv.refl Nul w).drewN k) (fun _ h _ => h))).mono (R' := fun e w' => e = .returned (.int .i64 (N : Int)) ∧ w' = w.drewN k) (fun _ _ ⟨a, b⟩ => ⟨a, b.symm⟩))
  have e : ((N - 2 - n : Nat) : Int) = (N : Int) - 2 - (n : Int) := by omega
  have h1 : IntKind.i64.wrap ((N : Int) - 2) = (N : Int) - 2 := by rw [IntKind.wrap_i64]; omega
  have h2 : IntKind.i64.wrap ((N : Int) - 2 - (n : Int)) = (N : Int) - 2 - (n : Int) := by rw [IntKind.wrap_i64]; omega
  rw [e]
  clear h hd e hN hn
  go_enter Tryz.func113, Tryz.ntmps113
  go_wp2_with fail
  refine HM.out.mono ?_
  rintro e w1 ⟨rfl, rfl⟩
  go_wp2_with fail
  go_quiet (exact Calls.quiet_of_same (HS.out _))
  go_wp2
  go_ret
  exact ⟨rfl, _, rfl⟩
set_option maxRecDepth 3000 in
theorem gfree_lg (h : Lg w l b d n N g) (hn : n ≤ 100000) (h1 : g.h.t ≤ g.next) (h2 : g.next - g.h.t ≤ n) : Calls Tryz.prog 133 #[.pointer (some ⟨l, 0, none⟩)] w fun e w' => e = .returned (.int .i64 ((n - (g.next - g.h.t) : Nat) : Int)) ∧ ∃ k, w' = w.drewN k := by
  obtain ⟨-, c1, -, c3, -, c5, -⟩ := h.cells
  have HM := Lib.hid (gmade_lg h)
  obtain ⟨u, hu⟩ : ∃ u, u = g.next - g.h.t := ⟨_, rfl⟩
  have e : ((n - (g.next - g.h.t) : Nat) : Int) = (n : Int) - (u : Int) := by omega
  have e2 : (g.next : Int) - (g.h.t : Int) = (u : Int) := by omega
  have h3 : IntKind.u64.wrap ((g.next : Int) - (g.h.t : Int)) = (u : Int) := by rw [e2]; exact wrapU (by omega)
  have h4 : IntKind.i64.wrap (u : Int) = (u : Int) := by rw [IntKind.wrap_i64]; omega
  have h5 : IntKind.i64.wrap ((n : Int) - (u : Int)) = (n : Int) - (u : Int) := by rw [IntKind.wrap_i64]; omega
  rw [e]
  have c0 := h.cells.1
  clear h e hn h1 h2 hu e2
  go_enter Tryz.func133, Tryz.ntmps133
  go_wp2_with fail
  refine HM.out.mono ?_
  rintro e w1 ⟨rfl, rfl⟩
  go_wp2_with fail
  go_quiet (fail)
  go_wp2
  go_ret
  exact ⟨rfl, _, rfl⟩
end
end Go.Proofs.YtcglfknkkeaegaaGreatDoor
