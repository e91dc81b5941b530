/- A slot's sector: the program's. Sets of places as numbers: math/bits.TrailingZeros64, least, has, put, drop, first. The program's ring: made, check, New, Use, Drop, Touch, Pin, Unpin, Hand. -/
import Derived.Test.YtcglfknkkeaegaaGreatDoorMq09
import Derived.Test.YtcglfknkkeaegaaGreatDoorMq16
import Derived.Test.YtcglfknkkeaegaaGreatDoorMq08
import Derived.Deep.QuietTactic
import Derived.BigQuiet
import Derived.Deep.RegionHeld3
import Derived.Deep.RegionWith
import Derived.Deep.DeepCutAuto
import Derived.Test.YtcglfknkkeaegaaGreatDoorMq01
import Derived.Test.YtcglfknkkeaegaaGreatDoorMq02
import Derived.Laws.Closers25
import Derived.Shelf.Spec.TrailingZeros
namespace Go.Proofs.YtcglfknkkeaegaaGreatDoor
open Go.ChangeShapes Go.WideShapes Go.ChangeAt Go.RowKit

set_option maxRecDepth 3000 in
theorem WP.text {V w : World} {F : Nat → Prop} {b N m : Nat} {ok : Prop} (h : WP V F b ok N m w) (s : ByteArray) (hs : s.size ≤ 65535) (hm : m + 16 + 8 * s.size ≤ 1000000000) :
    Calls Tryz.prog 93 #[.pointer (some ⟨b, 0, none⟩), .string s] w fun e w' => ∃ F', e = .returned (.pointer (some ⟨b, 0, none⟩)) ∧ WP V F' b ok (tx (N * 65536 + s.size) s.data.toList) (m + 16 + 8 * s.size) w' := by
  rcases h.ws with ⟨h1, h2, h3⟩ | ⟨h1, h2⟩
  · refine (text_ok b N m s F w h2 h3 hs hm).mono ?_
    rintro e w' ⟨rfl, F', k1, k2, k3⟩
    exact ⟨F', rfl, .inl ⟨h1, k1, k3⟩, h.ad.trans k2⟩
  · refine (text_err b s F w h2).mono ?_
    rintro e w' ⟨rfl, rfl⟩
    exact ⟨F, rfl, .inr ⟨h1, h2⟩, h.ad⟩
set_option maxRecDepth 3000 in
theorem tmade_128 (w : World) : (Instr.makeSlice 118 (.int .i64 128) (.int .i64 128)).run Tryz.prog w = .ok (.slice (some ⟨w.heap.size, 0, none⟩) 128 128) (w.alloc (.cells ((List.replicate 128 0).map u8).toArray 5)) := by
  obtain ⟨ie, hie, hz, hs, hb⟩ := info_parts Tryz.infoU8
  have h := run_make (P := Tryz.prog) w 118 5 ie _ Tryz.underlying118 hie hz .i64 .i64 128 128 (by omega) (Int.le_refl _) (by rw [hb]; omega) (by omega)
  rw [hs] at h
  rw [show madeCells (Value.int .u8 0).cells (Int.toNat 128 * 1) = ((List.replicate 128 0).map u8).toArray from by kernel_rfl] at h
  exact h
/-- a slot's sector in new memory, or none -/
def EncT (w : World) (x : Slt) (e : Ending) (w' : World) : Prop :=
  ∃ A m k F, e = .returned (.tuple #[.slice A m k, .int .i64 (if isT x then 0 else 2)]) ∧ Adv Nul w F w' ∧ (isT x → m = 128 ∧ Sl w' F 5 1 (.slice A 128 k) 128 ((secT x).map u8)) ∧ (¬ isT x → A = none ∧ m = 0 ∧ k = 0)
set_option maxRecDepth 3000 in
theorem EncT.no {w w' : World} {x : Slt} (h : ¬ isT x) (ha : Adv Nul w Nul w') : EncT w x (.returned (.tuple #[.slice none 0 0, .int .i64 2])) w' :=
  ⟨none, 0, 0, Nul, by rw [if_neg h], ha, fun o => absurd o h, fun _ => ⟨rfl, rfl, rfl⟩⟩
set_option maxRecDepth 3000 in
theorem EncT.yes {w w' : World} {x : Slt} {F : Nat → Prop} {A : Option Addr} {k : Nat} (h : isT x) (hs : Sl w' F 5 1 (.slice A 128 k) 128 ((secT x).map u8)) (ha : Adv Nul w F w') : EncT w x (.returned (.tuple #[.slice A 128 k, .int .i64 0])) w' :=
  ⟨A, 128, k, F, by rw [if_pos h], ha, fun _ => ⟨rfl, hs⟩, fun o => absurd h o⟩
set_option maxRecDepth 3000 in
theorem grown_nt {w w2 w3 : World} {F : Nat → Prop} {g cap n m : Nat} {v' : Value} {xs ys : List Value} (hS : Sl w2 F 5 1 (.slice (some ⟨g, 0, none⟩) n cap) n xs) (ha : Adv Nul w F w2) (hown : w3.ownsRow 0 5 1 v' m ys) (hg : w2.grownBy w3 (some g)) (hat : v'.ownBlock = some g ∨ v'.ownBlock = some w2.heap.size) :
    Sl w3 (fun j => F j ∨ v'.ownBlock = some j) 5 1 v' m ys ∧ Adv Nul w (fun j => F j ∨ v'.ownBlock = some j) w3 := by
  obtain ⟨h1, _, h3⟩ := own_grown (v := .slice (some ⟨g, 0, none⟩) n cap) hS ha hown hg hat (Nat.le_refl _)
  exact ⟨h1, h3⟩
set_option maxRecDepth 3000 in
set_option maxHeartbeats 3200000 in
theorem sencode_any (x : Slt) (hx : WfT x) (w : World) : Calls Tryz.prog 65 #[.agg (tc x)] w (EncT w x) := by
  obtain ⟨y, hy⟩ : ∃ y, y = w.heap.size := ⟨_, rfl⟩
  obtain ⟨V, hV⟩ : ∃ V, V = w.alloc (.cells (tc x) 44) := ⟨_, rfl⟩
  have HY := Lib.hid (show Blk V y 44 (tc x) by rw [hV, hy]; exact Blk.new _ _ _)
  have HA := Lib.hid (show Adv Nul w Nul V by rw [hV]; exact (Adv.refl _ _).alloc _)
  have HV := Lib.hid hV
  have HYY := Lib.hid hy
  have HFR := Lib.hid (free_any x hx)
  have HMK := Lib.hid (maykeep_any x)
  have HX := Lib.hid (fun (w' : World) (h : Adv Nul V Nul w') => (HY.out.keep (h.block y HY.out.lt (fun h => h))).c7.all)
  obtain ⟨s0, s1, s2, s3, s4, s5, s6⟩ := HY.out.c7.all
  by_cases h0 : x = zeroT
  · have HI := Lib.hid (fun (w' : World) (F : Nat → Prop) (A : Option Addr) (k : Nat) hs ha => EncT.yes (x := x) (w := w) (w' := w') (F := F) (A := A) (k := k) (.inl h0) hs ha)
    have HD := Lib.hid (decide_eq_true h0)
    have HS := Lib.hid (show secT x = List.replicate 128 0 by rw [h0]; exact secT_zero)
    clear hV hy hx h0
    obtain ⟨u, i, g, a, v, d, s⟩ := x
    simp only [tc] at HV HFR ⊢
    simp only at s0 s1 s2 s3 s4 s5 s6 HX
    go_enter Tryz.func65, Tryz.ntmps65
    go_upto_region 1 with (fail)
    rw [← HV.out, ← HYY.out]
    have hmk := tmade_128
    generalize hL : ((List.replicate 128 0).map u8).toArray = L at hmk
    go_wp2_with (first
      | (go_at_call 33; refine (HFR.out _).mono ?_; rintro e w1 ⟨rfl, a1⟩; rw [HD.out]; have HA1 := Lib.hid a1; clear a1)
      | fail)
    refine bodyPost_ret (v := .tuple #[.slice (some ⟨w1.heap.size, 0, none⟩) 128 128, .int .i64 0]) (by simp [results, Tryz.results65, go_sem]) rfl (HI.out _ (fun k => k = w1.heap.size) _ _ ?_ ?_)
    · rw [HS.out, ← hL]
      exact (Blk.new w1 5 _).sl8 (by simp)
    · have := HA.out.trans HA1.out
      exact ⟨this.os, this.tape, this.output, by have := this.size; simp; omega, fun k hk hn => (Below.heap_alloc _ _ _ (Nat.lt_of_lt_of_le hk this.size)).trans (this.block k hk hn), fun k hk => .inr (by rw [hk]; exact this.size)⟩
  · have HD0 := Lib.hid (decide_eq_false h0)
    by_cases hk : kpT x
    · have HDK := Lib.hid (decide_eq_true hk)
      have HIF := Lib.hid (okT_iff hx hk.1 hk.2.1 hk.2.2)
      have HISO := Lib.hid (show isT x ↔ okT x from ⟨fun h => h.elim (fun e => absurd e h0) id, .inr⟩)
      have HSEC := Lib.hid (row_secT h0 hk.2.2)
      have HSZ := Lib.hid hk.2.2
      have HVV := Lib.hid hx.v
      have HF := Lib.hid (fun w => flag_any x.d w)
      obtain ⟨dn, hdn⟩ : ∃ dn, dn = x.d.toNat := ⟨_, rfl⟩
      have HDN := Lib.hid (show dn < 2 by rw [hdn]; cases x.d <;> decide)
      have HDE := Lib.hid hdn
      rw [← hdn] at HF
      have hu : x.u = true := hk.1
      clear hV hy hx h0 hk hdn
      obtain ⟨u, i, g, a, v, d, s⟩ := x
      simp only at hu
      subst hu
      simp only [tc] at HV HFR HMK ⊢
      simp only at s0 s1 s2 s3 s4 s5 s6 HX HF HVV HSZ
      go_enter Tryz.func65, Tryz.ntmps65
      go_upto_region 1 with (fail)
      rw [← HV.out, ← HYY.out]
      go_upto_region 3 with (first
        | (go_at_call 33; refine (HFR.out _).mono ?_; rintro e w1 ⟨rfl, a1⟩; rw [HD0.out]; have HA1 := Lib.hid a1; obtain ⟨s0, s1, s2, s3, s4, s5, s6⟩ := HX.out _ a1; clear a1)
        | fail)
      go_upto_region 6 with (first
        | (go_at_call 89; refine (HMK.out _).mono ?_; rintro e w2 ⟨rfl, a2⟩; rw [HDK.out]; have HA2 := Lib.hid (HA1.out.trans a2); obtain ⟨s0, s1, s2, s3, s4, s5, s6⟩ := HX.out _ HA2.out; clear a2)
        | fail)
      obtain ⟨f, hf⟩ : ∃ f, f = w2.heap.size := ⟨_, rfl⟩
      obtain ⟨VF, hVF⟩ : ∃ VF, VF = w2.alloc (.cells #[.int .i64 i, .int .i64 g] 35) := ⟨_, rfl⟩
      have HAF := Lib.hid (show Adv Nul V Nul VF by rw [hVF]; exact HA2.out.alloc _)
      have HBF := Lib.hid (show Blk VF f 35 #[.int .i64 i, .int .i64 g] by rw [hVF, hf]; exact Blk.new _ _ _)
      have HYF := Lib.hid (HY.out.keep (HAF.out.block y HY.out.lt (fun h => h)))
      rw [← hVF, ← hf]
      clear hVF hf
      have HK := Lib.hid (fun (F : Nat → Prop) (w' : World) (h : Adv Nul VF F w') => show ((w'.cell? ⟨y, 0, none⟩ = some (.bool true) ∧ w'.cell? ⟨y, 3, none⟩ = some (.int .i64 a) ∧ w'.cell? ⟨y, 4, none⟩ = some (.int .u64 (v : Int)) ∧ w'.cell? ⟨y, 5, none⟩ = some (.bool d) ∧ w'.cell? ⟨y, 6, none⟩ = some (.string s)) ∧ w'.cell? ⟨f, 0, none⟩ = some (.int .i64 i) ∧ w'.cell? ⟨f, 1, none⟩ = some (.int .i64 g)) from
        have c := (HYF.out.keep (h.block y HYF.out.lt (fun h => h))).c7.all
        have e := HBF.out.keep (h.block f HBF.out.lt (fun h => h))
        ⟨⟨c.1, c.2.2.2.1, c.2.2.2.2.1, c.2.2.2.2.2.1, c.2.2.2.2.2.2⟩, e.cell 0, e.cell 1⟩)
      have HXF := Lib.hid (fun (F : Nat → Prop) (b : Nat) (ok : Prop) (N m : Nat) (w' : World) (h : WP VF F b ok N m w') => HK.out F w' h.ad)
      have K0 := Lib.hid (HK.out Nul _ (Adv.refl Nul VF).drew)
      clear s0 s1 s2 s3 s4 s5 s6
      refine rstart (S := (fun w' => (w'.cell? ⟨y, 0, none⟩ = some (.bool true) ∧ w'.cell? ⟨y, 3, none⟩ = some (.int .i64 a) ∧ w'.cell? ⟨y, 4, none⟩ = some (.int .u64 (v : Int)) ∧ w'.cell? ⟨y, 5, none⟩ = some (.bool d) ∧ w'.cell? ⟨y, 6, none⟩ = some (.string s)) ∧ w'.cell? ⟨f, 0, none⟩ = some (.int .i64 i) ∧ w'.cell? ⟨f, 1, none⟩ = some (.int .i64 g))) (by first | with_reducible exact K3.out | with_reducible exact K2.out | with_reducible exact K1.out | with_reducible exact K0.out) (fun hH => ?_)
      refine tk (i := 1) (oi := ⟨some 18, .fieldAddr 44 (.tmp 1) 0, 0, "slot.go:39", #[], none⟩) hH.out (by rintro w ⟨⟨s0, s3, s4, s5, s6⟩, f0, f1⟩; go_simp <;> with_reducible rfl) ?_
      simp only [Act.put, sA, sB, sC]
      refine tk (i := 2) (oi := ⟨some 19, .load 4 (.tmp 18), 4, "slot.go:39", #[⟨1, .data⟩], none⟩) hH.out (by rintro w ⟨⟨s0, s3, s4, s5, s6⟩, f0, f1⟩; go_simp <;> with_reducible rfl) ?_
      simp only [Act.put, sA, sB, sC]
      refine tk (i := 5) (oi := ⟨some 22, .fieldAddr 44 (.tmp 1) 3, 0, "slot.go:39", #[], none⟩) hH.out (by rintro w ⟨⟨s0, s3, s4, s5, s6⟩, f0, f1⟩; go_simp <;> with_reducible rfl) ?_
      simp only [Act.put, sA, sB, sC]
      refine tk (i := 6) (oi := ⟨some 23, .load 4 (.tmp 22), 4, "slot.go:39", #[⟨5, .data⟩], none⟩) hH.out (by rintro w ⟨⟨s0, s3, s4, s5, s6⟩, f0, f1⟩; go_simp <;> with_reducible rfl) ?_
      simp only [Act.put, sA, sB, sC]
      refine rdy (i := 0) (oi := ⟨some 17, .call ⟨.value (.func 90), #[], #[]⟩, 158, "slot.go:39", #[], none⟩) (fun K hK => ?_)
      go_simp
      refine (WP.new ((Adv.refl Nul VF).drew)).mono ?_
      rintro e w3 ⟨b, F3, rfl, g3⟩
      have G3 := Lib.hid g3
      have K1 := Lib.hid (HXF.out _ _ _ _ _ _ g3)
      clear g3
      go_wp2_with fail
      refine hK.out _ _ (by first | with_reducible exact K3.out | with_reducible exact K2.out | with_reducible exact K1.out | with_reducible exact K0.out) (fun hHeld => ?_)
      replace hH := Lib.hid hHeld
      clear hK K hHeld
      try simp only [Act.put, sA, sB, sC]
      refine rdy (i := 3) (oi := ⟨some 20, .call ⟨.value (.func 92), #[.tmp 19], #[4]⟩, 38, "slot.go:39", #[⟨2, .data⟩, ⟨0, .chain⟩], none⟩) (fun K hK => ?_)
      go_simp
      refine (flag_any true _).mono ?_
      rintro e w9 ⟨rfl, rfl⟩
      go_wp2_with fail
      refine hK.out _ _ (by first | with_reducible exact K3.out | with_reducible exact K2.out | with_reducible exact K1.out | with_reducible exact K0.out) (fun hHeld => ?_)
      replace hH := Lib.hid hHeld
      clear hK K hHeld
      try simp only [Act.put, sA, sB, sC]
      refine rdy (i := 4) (oi := ⟨some 21, .call ⟨.value (.func 91), #[.tmp 17, .tmp 20, .const (Go.Value.int Go.IntKind.i64 1)], #[158, 38, 3]⟩, 158, "slot.go:39", #[⟨0, .data⟩, ⟨3, .data⟩, ⟨3, .chain⟩], none⟩) (fun K hK => ?_)
      go_simp
      refine (G3.out.put 1 1 (by decide) (by decide) (by decide)).mono ?_
      rintro e w4 ⟨F4, rfl, g4⟩
      have G4 := Lib.hid g4
      have K2 := Lib.hid (HXF.out _ _ _ _ _ _ g4)
      clear g4
      go_wp2_with fail
      refine hK.out _ _ (by first | with_reducible exact K3.out | with_reducible exact K2.out | with_reducible exact K1.out | with_reducible exact K0.out) (fun hHeld => ?_)
      replace hH := Lib.hid hHeld
      clear hK K hHeld
      try simp only [Act.put, sA, sB, sC]
      refine rdy (i := 7) (oi := ⟨some 24, .call ⟨.value (.func 92), #[.tmp 23], #[4]⟩, 38, "slot.go:39", #[⟨6, .data⟩, ⟨4, .chain⟩], none⟩) (fun K hK => ?_)
      go_simp
      refine (HF.out _).mono ?_
      rintro e w9 ⟨rfl, rfl⟩
      go_wp2_with fail
      refine hK.out _ _ (by first | with_reducible exact K3.out | with_reducible exact K2.out | with_reducible exact K1.out | with_reducible exact K0.out) (fun hHeld => ?_)
      replace hH := Lib.hid hHeld
      clear hK K hHeld
      try simp only [Act.put, sA, sB, sC]
      refine rdy (i := 8) (oi := ⟨some 25, .call ⟨.value (.func 91), #[.tmp 21, .tmp 24, .const (Go.Value.int Go.IntKind.i64 1)], #[158, 38, 3]⟩, 158, "slot.go:39", #[⟨4, .data⟩, ⟨7, .data⟩, ⟨7, .chain⟩], none⟩) (fun K hK => ?_)
      go_simp
      refine (G4.out.put dn 1 (by decide) (by have := HDN.out; omega) (by decide)).mono ?_
      rintro e w5 ⟨F5, rfl, g5⟩
      have G5 := Lib.hid g5
      have K3 := Lib.hid (HXF.out _ _ _ _ _ _ g5)
      clear g5
      go_wp2_with fail
      refine hK.out _ _ (by first | with_reducible exact K3.out | with_reducible exact K2.out | with_reducible exact K1.out | with_reducible exact K0.out) (fun hHeld => ?_)
      replace hH := Lib.hid hHeld
      clear hK K hHeld
      try simp only [Act.put, sA, sB, sC]
      refine tk (i := 9) (oi := ⟨some 5, .assign (.tmp 25), 158, "slot.go:39", #[⟨8, .data⟩, ⟨8, .chain⟩, ⟨0, .phase⟩, ⟨1, .phase⟩, ⟨2, .phase⟩, ⟨3, .phase⟩, ⟨4, .phase⟩, ⟨5, .phase⟩, ⟨6, .phase⟩, ⟨7, .phase⟩, ⟨8, .phase⟩], none⟩) hH.out (by rintro w ⟨⟨s0, s3, s4, s5, s6⟩, f0, f1⟩; go_simp <;> with_reducible rfl) ?_
      simp only [Act.put, sA, sB, sC]
      refine wpAnyH_done (by kernel_rfl) ?_ _
      go_upto_region 7 with (fail)
      replace K0 := Lib.hid (HK.out _ _ G5.out.ad.drew)
      refine rstart (S := (fun w' => (w'.cell? ⟨y, 0, none⟩ = some (.bool true) ∧ w'.cell? ⟨y, 3, none⟩ = some (.int .i64 a) ∧ w'.cell? ⟨y, 4, none⟩ = some (.int .u64 (v : Int)) ∧ w'.cell? ⟨y, 5, none⟩ = some (.bool d) ∧ w'.cell? ⟨y, 6, none⟩ = some (.string s)) ∧ w'.cell? ⟨f, 0, none⟩ = some (.int .i64 i) ∧ w'.cell? ⟨f, 1, none⟩ = some (.int .i64 g))) (by first | with_reducible exact K6.out | with_reducible exact K5.out | with_reducible exact K4.out | with_reducible exact K3.out | with_reducible exact K2.out | with_reducible exact K1.out | with_reducible exact K0.out) (fun hH => ?_)
      refine tk (i := 0) (oi := ⟨some 26, .move (.tmp 5), 158, "slot.go:41", #[], none⟩) hH.out (by rintro w ⟨⟨s0, s3, s4, s5, s6⟩, f0, f1⟩; go_simp <;> with_reducible rfl) ?_
      simp only [Act.put, sA, sB, sC]
      refine tk (i := 1) (oi := ⟨some 27, .fieldAddr 35 (.tmp 4) 0, 0, "slot.go:41", #[], none⟩) hH.out (by rintro w ⟨⟨s0, s3, s4, s5, s6⟩, f0, f1⟩; go_simp <;> with_reducible rfl) ?_
      simp only [Act.put, sA, sB, sC]
      refine tk (i := 2) (oi := ⟨some 28, .load 3 (.tmp 27), 3, "slot.go:41", #[⟨1, .data⟩], none⟩) hH.out (by rintro w ⟨⟨s0, s3, s4, s5, s6⟩, f0, f1⟩; go_simp <;> with_reducible rfl) ?_
      simp only [Act.put, sA, sB, sC]
      refine tk (i := 3) (oi := ⟨some 29, .convert 3 38 (.tmp 28), 38, "slot.go:41", #[⟨2, .data⟩], none⟩) hH.out (by rintro w ⟨⟨s0, s3, s4, s5, s6⟩, f0, f1⟩; go_simp <;> with_reducible rfl) ?_
      simp only [Act.put, sA, sB, sC]
      refine tk (i := 5) (oi := ⟨some 31, .fieldAddr 35 (.tmp 4) 1, 0, "slot.go:41", #[], none⟩) hH.out (by rintro w ⟨⟨s0, s3, s4, s5, s6⟩, f0, f1⟩; go_simp <;> with_reducible rfl) ?_
      simp only [Act.put, sA, sB, sC]
      refine tk (i := 6) (oi := ⟨some 32, .load 3 (.tmp 31), 3, "slot.go:41", #[⟨5, .data⟩], none⟩) hH.out (by rintro w ⟨⟨s0, s3, s4, s5, s6⟩, f0, f1⟩; go_simp <;> with_reducible rfl) ?_
      simp only [Act.put, sA, sB, sC]
      refine tk (i := 7) (oi := ⟨some 33, .convert 3 38 (.tmp 32), 38, "slot.go:41", #[⟨6, .data⟩], none⟩) hH.out (by rintro w ⟨⟨s0, s3, s4, s5, s6⟩, f0, f1⟩; go_simp <;> with_reducible rfl) ?_
      simp only [Act.put, sA, sB, sC]
      refine tk (i := 9) (oi := ⟨some 35, .fieldAddr 44 (.tmp 1) 1, 0, "slot.go:41", #[], none⟩) hH.out (by rintro w ⟨⟨s0, s3, s4, s5, s6⟩, f0, f1⟩; go_simp <;> with_reducible rfl) ?_
      simp only [Act.put, sA, sB, sC]
      refine tk (i := 10) (oi := ⟨some 36, .fieldAddr 37 (.tmp 35) 1, 0, "slot.go:41", #[⟨9, .data⟩], none⟩) hH.out (by rintro w ⟨⟨s0, s3, s4, s5, s6⟩, f0, f1⟩; go_simp <;> with_reducible rfl) ?_
      simp only [Act.put, sA, sB, sC]
      refine tk (i := 11) (oi := ⟨some 37, .load 3 (.tmp 36), 3, "slot.go:41", #[⟨10, .data⟩], none⟩) hH.out (by rintro w ⟨⟨s0, s3, s4, s5, s6⟩, f0, f1⟩; go_simp <;> with_reducible rfl) ?_
      simp only [Act.put, sA, sB, sC]
      refine tk (i := 12) (oi := ⟨some 38, .convert 3 38 (.tmp 37), 38, "slot.go:41", #[⟨11, .data⟩], none⟩) hH.out (by rintro w ⟨⟨s0, s3, s4, s5, s6⟩, f0, f1⟩; go_simp <;> with_reducible rfl) ?_
      simp only [Act.put, sA, sB, sC]
      refine rdy (i := 4) (oi := ⟨some 30, .call ⟨.value (.func 91), #[.tmp 26, .tmp 29, .const (Go.Value.int Go.IntKind.i64 6)], #[158, 38, 3]⟩, 158, "slot.go:41", #[⟨0, .data⟩, ⟨3, .data⟩], none⟩) (fun K hK => ?_)
      go_simp
      rw [wrap_u64n]
      refine (G5.out.drew.put (u64n i) 6 (by decide) (u64n_lt _) (by decide)).mono ?_
      rintro e w6 ⟨F6, rfl, g6⟩
      have G6 := Lib.hid g6
      have K4 := Lib.hid (HXF.out _ _ _ _ _ _ g6)
      clear g6
      go_wp2_with fail
      refine hK.out _ _ (by first | with_reducible exact K6.out | with_reducible exact K5.out | with_reducible exact K4.out | with_reducible exact K3.out | with_reducible exact K2.out | with_reducible exact K1.out | with_reducible exact K0.out) (fun hHeld => ?_)
      replace hH := Lib.hid hHeld
      clear hK K hHeld
      try simp only [Act.put, sA, sB, sC]
      refine rdy (i := 8) (oi := ⟨some 34, .call ⟨.value (.func 91), #[.tmp 30, .tmp 33, .const (Go.Value.int Go.IntKind.i64 31)], #[158, 38, 3]⟩, 158, "slot.go:41", #[⟨4, .data⟩, ⟨7, .data⟩, ⟨4, .chain⟩], none⟩) (fun K hK => ?_)
      go_simp
      rw [wrap_u64n]
      refine (G6.out.put (u64n g) 31 (by decide) (u64n_lt _) (by decide)).mono ?_
      rintro e w7 ⟨F7, rfl, g7⟩
      have G7 := Lib.hid g7
      have K5 := Lib.hid (HXF.out _ _ _ _ _ _ g7)
      clear g7
      go_wp2_with fail
      refine hK.out _ _ (by first | with_reducible exact K6.out | with_reducible exact K5.out | with_reducible exact K4.out | with_reducible exact K3.out | with_reducible exact K2.out | with_reducible exact K1.out | with_reducible exact K0.out) (fun hHeld => ?_)
      replace hH := Lib.hid hHeld
      clear hK K hHeld
      try simp only [Act.put, sA, sB, sC]
      refine rdy (i := 13) (oi := ⟨some 39, .call ⟨.value (.func 91), #[.tmp 34, .tmp 38, .const (Go.Value.int Go.IntKind.i64 3)], #[158, 38, 3]⟩, 158, "slot.go:41", #[⟨8, .data⟩, ⟨12, .data⟩, ⟨8, .chain⟩], none⟩) (fun K hK => ?_)
      go_simp
      rw [wrap_u64n]
      refine (G7.out.put (u64n a) 3 (by decide) (u64n_lt _) (by decide)).mono ?_
      rintro e w8 ⟨F8, rfl, g8⟩
      have G8 := Lib.hid g8
      have K6 := Lib.hid (HXF.out _ _ _ _ _ _ g8)
      clear g8
      go_wp2_with fail
      refine hK.out _ _ (by first | with_reducible exact K6.out | with_reducible exact K5.out | with_reducible exact K4.out | with_reducible exact K3.out | with_reducible exact K2.out | with_reducible exact K1.out | with_reducible exact K0.out) (fun hHeld => ?_)
      replace hH := Lib.hid hHeld
      clear hK K hHeld
      try simp only [Act.put, sA, sB, sC]
      refine wpAnyH_done (by kernel_rfl) ?_ _
      go_upto_region 8 with (fail)
      replace K0 := Lib.hid (HK.out _ _ G8.out.ad.drew)
      refine rstart (S := (fun w' => (w'.cell? ⟨y, 0, none⟩ = some (.bool true) ∧ w'.cell? ⟨y, 3, none⟩ = some (.int .i64 a) ∧ w'.cell? ⟨y, 4, none⟩ = some (.int .u64 (v : Int)) ∧ w'.cell? ⟨y, 5, none⟩ = some (.bool d) ∧ w'.cell? ⟨y, 6, none⟩ = some (.string s)) ∧ w'.cell? ⟨f, 0, none⟩ = some (.int .i64 i) ∧ w'.cell? ⟨f, 1, none⟩ = some (.int .i64 g))) (by first | with_reducible exact K8.out | with_reducible exact K7.out | with_reducible exact K6.out | with_reducible exact K5.out | with_reducible exact K4.out | with_reducible exact K3.out | with_reducible exact K2.out | with_reducible exact K1.out | with_reducible exact K0.out) (fun hH => ?_)
      refine tk (i := 0) (oi := ⟨some 40, .move (.tmp 5), 158, "slot.go:42", #[], none⟩) hH.out (by rintro w ⟨⟨s0, s3, s4, s5, s6⟩, f0, f1⟩; go_simp <;> with_reducible rfl) ?_
      simp only [Act.put, sA, sB, sC]
      refine tk (i := 1) (oi := ⟨some 41, .fieldAddr 44 (.tmp 1) 2, 0, "slot.go:42", #[], none⟩) hH.out (by rintro w ⟨⟨s0, s3, s4, s5, s6⟩, f0, f1⟩; go_simp <;> with_reducible rfl) ?_
      simp only [Act.put, sA, sB, sC]
      refine tk (i := 2) (oi := ⟨some 42, .load 38 (.tmp 41), 38, "slot.go:42", #[⟨1, .data⟩], none⟩) hH.out (by rintro w ⟨⟨s0, s3, s4, s5, s6⟩, f0, f1⟩; go_simp <;> with_reducible rfl) ?_
      simp only [Act.put, sA, sB, sC]
      refine tk (i := 4) (oi := ⟨some 44, .fieldAddr 44 (.tmp 1) 4, 0, "slot.go:42", #[], none⟩) hH.out (by rintro w ⟨⟨s0, s3, s4, s5, s6⟩, f0, f1⟩; go_simp <;> with_reducible rfl) ?_
      simp only [Act.put, sA, sB, sC]
      refine tk (i := 5) (oi := ⟨some 45, .load 9 (.tmp 44), 9, "slot.go:42", #[⟨4, .data⟩], none⟩) hH.out (by rintro w ⟨⟨s0, s3, s4, s5, s6⟩, f0, f1⟩; go_simp <;> with_reducible rfl) ?_
      simp only [Act.put, sA, sB, sC]
      refine rdy (i := 3) (oi := ⟨some 43, .call ⟨.value (.func 91), #[.tmp 40, .tmp 42, .const (Go.Value.int Go.IntKind.i64 40)], #[158, 38, 3]⟩, 158, "slot.go:42", #[⟨0, .data⟩, ⟨2, .data⟩], none⟩) (fun K hK => ?_)
      go_simp
      refine (G8.out.drew.put v 40 (by decide) HVV.out (by decide)).mono ?_
      rintro e w10 ⟨F10, rfl, g10⟩
      have G10 := Lib.hid g10
      have K7 := Lib.hid (HXF.out _ _ _ _ _ _ g10)
      clear g10
      go_wp2_with fail
      refine hK.out _ _ (by first | with_reducible exact K8.out | with_reducible exact K7.out | with_reducible exact K6.out | with_reducible exact K5.out | with_reducible exact K4.out | with_reducible exact K3.out | with_reducible exact K2.out | with_reducible exact K1.out | with_reducible exact K0.out) (fun hHeld => ?_)
      replace hH := Lib.hid hHeld
      clear hK K hHeld
      try simp only [Act.put, sA, sB, sC]
      refine rdy (i := 6) (oi := ⟨some 46, .call ⟨.value (.func 93), #[.tmp 43, .tmp 45], #[158, 9]⟩, 158, "slot.go:42", #[⟨3, .data⟩, ⟨5, .data⟩, ⟨3, .chain⟩], none⟩) (fun K hK => ?_)
      go_simp
      refine (G10.out.text s (by have := HSZ.out; omega) (by have := HSZ.out; omega)).mono ?_
      rintro e w11 ⟨F11, rfl, g11⟩
      have G11 := Lib.hid g11
      have K8 := Lib.hid (HXF.out _ _ _ _ _ _ g11)
      clear g11
      go_wp2_with fail
      refine hK.out _ _ (by first | with_reducible exact K8.out | with_reducible exact K7.out | with_reducible exact K6.out | with_reducible exact K5.out | with_reducible exact K4.out | with_reducible exact K3.out | with_reducible exact K2.out | with_reducible exact K1.out | with_reducible exact K0.out) (fun hHeld => ?_)
      replace hH := Lib.hid hHeld
      clear hK K hHeld
      try simp only [Act.put, sA, sB, sC]
      refine wpAnyH_done (by kernel_rfl) ?_ _
      obtain ⟨x, hx⟩ : ∃ x : Slt, x = ⟨true, i, g, a, v, d, s⟩ := ⟨_, rfl⟩
      have G0 := Lib.hid (show WP VF F11 b ((((((True ∧ 1 < 2 ^ 1) ∧ d.toNat < 2 ^ 1) ∧ u64n i < 2 ^ 6) ∧ u64n g < 2 ^ 31) ∧ u64n a < 2 ^ 3) ∧ v < 2 ^ 40) (nmT x) (82 + 16 + 8 * s.size) w11 by
        have h := G11.out
        rw [HDE.out] at h
        rw [hx]
        exact h)
      rw [← hx] at HISO HIF HSEC
      have HAV := Lib.hid (HA.out.trans HAF.out)
      have HXX := Lib.hid hx
      obtain ⟨sz, hsz⟩ : ∃ n, n = s.size := ⟨_, rfl⟩
      rw [← hsz] at HSEC HSZ G0
      rw [← hx]
      clear K0 K1 K2 K3 K4 K5 K6 K7 K8 G3 G4 G5 G6 G7 G8 G10 G11 hx hsz
      by_cases hok : okT x
      · have HOK := Lib.hid (HIF.out.mp hok)
        have HIS := Lib.hid (HISO.out.mpr hok)
        clear hok
        obtain ⟨n, hn⟩ : ∃ n, n = 13 + sz := ⟨_, rfl⟩
        obtain ⟨k, hk⟩ : ∃ k, k = 115 - sz := ⟨_, rfl⟩
        have HNK := Lib.hid (show n + k = 128 ∧ n ≤ 77 ∧ 51 ≤ k ∧ 0 < n by have := HSZ.out; omega)
        have HQN := Lib.hid (show qn (82 + 16 + 8 * sz) = n by rw [qnT, hn])
        rw [← hk] at HSEC
        clear hn hk
        go_wp2_with (first
          | (go_at_call 94; refine (G0.out.done_ (by have := HSZ.out; omega)).mono ?_; rintro e w12 ⟨A, m, c, F12, rfl, d12, a12⟩; rw [if_pos HOK.out]; obtain ⟨hm, s12⟩ := d12 HOK.out; rw [HQN.out] at hm; subst hm; obtain ⟨g0, cc, e0, _, _⟩ := s12.form HNK.out.2.2.2; injection e0 with e1 e2 e3; subst e1; subst e3; have HS12 := Lib.hid s12; have HA12 := Lib.hid a12; have hown := s12.own; have ek := HNK.out; have e128 : (128 : Int) - (m : Int) = (k : Int) := (by omega); have HK1 := Lib.hid ek; clear d12 s12 a12 e2 ek)
          | (at_builtin; refine wpList_append_noughts rfl (.tmp 55) (.tmp 58) rfl (m := k) rfl rfl hown (Nat.lt_of_lt_of_le (by decide) HK1.out.2.2.1) (Nat.le_trans (Nat.le_of_eq HK1.out.1) (by decide)) ?c5)
          | fail)
        case c5 =>
          intro v' w13 hown13 hg13 hat13
          obtain ⟨s13, a13⟩ := grown_nt HS12.out HA12.out hown13 hg13 hat13
          have e2 : (rowOf (nmT x) (82 + 16 + 8 * sz)).map u8 ++ List.replicate k (u8 0) = (secT x).map u8 := by
            rw [← HSEC.out, List.map_append, List.map_replicate]
          rw [HK1.out.1, e2] at s13
          obtain ⟨A13, c13, rfl, _, _⟩ := s13.form0
          have HFIN := Lib.hid (EncT.yes HIS.out s13 (HAV.out.trans a13))
          clear s13 a13 hown hown13 hg13 hat13 e2 e128
          go_wp2_with fail
          rw [← HXX.out]
          exact bodyPost_ret (v := .tuple #[.slice A13 128 c13, .int .i64 0]) (by simp [results, Tryz.results65, go_sem]) rfl HFIN.out
      · have HOK := Lib.hid (fun o => hok (HIF.out.mpr o))
        have HIS := Lib.hid (fun o => hok (HISO.out.mp o))
        clear hok
        go_wp2_with (first
          | (go_at_call 94; refine (G0.out.done_ (by have := HSZ.out; omega)).mono ?_; rintro e w12 ⟨A, m, c, F12, rfl, d12, a12⟩; rw [if_neg HOK.out]; have HA12 := Lib.hid a12; clear d12 a12)
          | fail)
        rw [← HXX.out]
        exact bodyPost_ret (v := .tuple #[.slice none 0 0, .int .i64 2]) (by simp [results, Tryz.results65, go_sem]) rfl (EncT.no HIS.out (HAV.out.trans (HA12.out.sub (fun _ h => h.elim))))
    · have HDK := Lib.hid (decide_eq_false hk)
      have HNO := Lib.hid (show ¬ isT x from fun h => h.elim h0 fun o => hk ⟨o.1, o.2.1, o.2.2.2.2.2⟩)
      clear hV hy hx h0 hk
      obtain ⟨u, i, g, a, v, d, s⟩ := x
      simp only [tc] at HV HFR HMK ⊢
      simp only at s0 s1 s2 s3 s4 s5 s6 HX
      go_enter Tryz.func65, Tryz.ntmps65
      go_upto_region 1 with (fail)
      rw [← HV.out, ← HYY.out]
      go_wp2_with (first
        | (go_at_call 33; refine (HFR.out _).mono ?_; rintro e w1 ⟨rfl, a1⟩; rw [HD0.out]; have HA1 := Lib.hid a1; obtain ⟨s0, s1, s2, s3, s4, s5, s6⟩ := HX.out _ a1; clear a1)
        | (go_at_call 89; refine (HMK.out _).mono ?_; rintro e w2 ⟨rfl, a2⟩; rw [HDK.out]; have HA2 := Lib.hid (HA1.out.trans a2); clear a2)
        | fail)
      exact bodyPost_ret (v := .tuple #[.slice none 0 0, .int .i64 2]) (by simp [results, Tryz.results65, go_sem]) rfl (EncT.no HNO.out (HA.out.trans HA2.out))
end Go.Proofs.YtcglfknkkeaegaaGreatDoor
namespace Go.Proofs.YtcglfknkkeaegaaGreatDoor
open Go.RowKit

/-- the library's table lies in its variable -/
def Tz (w : World) : Prop := ∀ j, j < 64 → w.cell? ⟨0, j, none⟩ = some (.int .u8 (Lib.deBruijn64tab.getD j 0 : Int))
theorem Tz.lt {w : World} (h : Tz w) : 0 < w.heap.size := World.block_lt_of_cell? _ _ (h 0 (by decide))
theorem Tz.far {w w' : World} {F F' : Nat → Prop} (h : Tz w) (a : Adv F w F' w') (hF : ¬ F 0) : Tz w' := fun j hj => by
  rw [World.cell?_of_block (w := w) (a.block 0 h.lt hF)]; exact h j hj
set_option maxRecDepth 3000 in
set_option maxHeartbeats 1000000 in
theorem tz_core (x k idx : Nat) (w : World) (hx0 : ((x : Int) == 0) = false)
    (key : IntKind.u64.wrap (bits BinOp.and IntKind.u64 (x : Int) (IntKind.u64.wrap (-(x : Int))) * 285870213051353865) / 288230376151711744 = (idx : Int))
    (hi : idx < 64) (hk : k < 64) (hcell : w.cell? ⟨0, idx, none⟩ = some (.int .u8 k)) :
    Calls Tryz.prog 162 #[.int .u64 x] w fun e w' => e = .returned (.int .i64 k) ∧ w = w' := by
  go_enter Tryz.func162, Tryz.ntmps162
  go_wp2_with (simp only [key])
  go_ret
  exact ⟨rfl, rfl⟩
/-- the least place, where there is one -/
theorem tz_any (x : Nat) (hx : x < 18446744073709551616) (hx0 : x ≠ 0) (w : World) (hT : Tz w) :
    Calls Tryz.prog 162 #[.int .u64 x] w fun e w' => e = .returned (.int .i64 (Lib.ctz 64 x : Int)) ∧ w = w' := by
  obtain ⟨hlow, hk⟩ := Lib.lowest_bit 64 x hx0 hx
  obtain ⟨hi, htab⟩ := Lib.deBruijn64_at _ hk
  have hcell := hT _ hi
  rw [htab] at hcell
  exact tz_core x _ _ w (by simp; omega) (tz64_key x _ hx hx0 hlow) hi hk hcell
set_option maxRecDepth 3000 in
theorem least_any (x : Nat) (hx : x < 18446744073709551616) (hx0 : x ≠ 0) (w : World) (hT : Tz w) :
    Calls Tryz.prog 129 #[.int .u64 x] w fun e w' => e = .returned (.int .i64 (Lib.ctz 64 x : Int)) ∧ w = w' := by
  have HA := Lib.hid (tz_any x hx hx0 w hT)
  clear hT hx0
  obtain ⟨c, hc⟩ : ∃ c, c = Lib.ctz 64 x := ⟨_, rfl⟩
  rw [← hc] at HA ⊢
  clear hc
  go_enter Tryz.func129, Tryz.ntmps129
  go_wp2_with (first
    | (go_at_call 162; refine HA.out.mono ?_; rintro e w1 ⟨rfl, rfl⟩)
    | fail)
  go_ret
  exact ⟨rfl, rfl⟩

theorem pow_cast (i : Nat) : ((2 : Int) ^ i) = ((2 ^ i : Nat) : Int) := by simp
theorem pow_ltw {i : Nat} (hi : i < 64) : 2 ^ i < 18446744073709551616 := show 2 ^ i < 2 ^ 64 from Nat.pow_lt_pow_right (by decide) hi
theorem wrap_pow {i : Nat} (hi : i < 64) : IntKind.u64.wrap ((2 : Int) ^ i) = ((2 ^ i : Nat) : Int) := by
  have := pow_ltw hi
  rw [pow_cast, IntKind.wrap_u64]
  generalize 2 ^ i = y at this ⊢
  omega
set_option maxRecDepth 3000 in
theorem has_any (x i : Nat) (hx : x < 18446744073709551616) (hi : i < 64) (w : World) :
    Calls Tryz.prog 120 #[.int .u64 x, .int .i64 (i : Int)] w fun e w' => e = .returned (.bool (x.testBit i)) ∧ w = w' := by
  have h1 : (0 : Int) ≤ (i : Int) := by omega
  have h2 : (i : Int) < 64 := by omega
  go_enter Tryz.func120, Tryz.ntmps120
  go_wp2
  go_ret
  refine ⟨?_, rfl⟩
  show Ending.returned (.bool (bits BinOp.and IntKind.u64 ((x : Int) / 2 ^ i) 1 != 0)) = _
  rw [pow_cast, ← Int.natCast_ediv, show (1 : Int) = ((1 : Nat) : Int) from rfl, u64_and_nat _ _ (Nat.lt_of_le_of_lt (Nat.div_le_self _ _) hx) (by decide), Nat.and_one_is_mod, Nat.testBit_eq_decide_div_mod_eq]
  generalize x / 2 ^ i = y
  have : y % 2 < 2 := Nat.mod_lt _ (by decide)
  generalize y % 2 = z at this
  match z, this with
  | 0, _ | 1, _ => rfl
set_option maxRecDepth 3000 in
theorem put_any (x i b o : Nat) (hx : x < 18446744073709551616) (hi : i < 64) (w : World) (hc : w.cell? ⟨b, o, none⟩ = some (.int .u64 x)) (hf : w.frozen? ⟨b, o, none⟩ = false) :
    Calls Tryz.prog 82 #[.pointer (some ⟨b, o, none⟩), .int .i64 (i : Int)] w fun e w' => e = .returned (.tuple #[]) ∧ ∃ k, w' = (w.drewN k).setCell ⟨b, o, none⟩ (.int .u64 (pput x i : Nat)) := by
  have h1 : (0 : Int) ≤ (i : Int) := by omega
  have h2 : (i : Int) < 64 := by omega
  go_enter Tryz.func82, Tryz.ntmps82
  go_wp2_with fail
  go_region
  go_wp2
  go_end0
  refine ⟨rfl, 1, ?_⟩
  rw [wrap_pow hi, u64_or_nat _ _ hx (pow_ltw hi)]
  rfl
set_option maxRecDepth 3000 in
theorem drop_any (x i b o : Nat) (hx : x < 18446744073709551616) (hi : i < 64) (w : World) (hc : w.cell? ⟨b, o, none⟩ = some (.int .u64 x)) (hf : w.frozen? ⟨b, o, none⟩ = false) :
    Calls Tryz.prog 131 #[.pointer (some ⟨b, o, none⟩), .int .i64 (i : Int)] w fun e w' => e = .returned (.tuple #[]) ∧ ∃ k, w' = (w.drewN k).setCell ⟨b, o, none⟩ (.int .u64 (ddrop x i : Nat)) := by
  have h1 : (0 : Int) ≤ (i : Int) := by omega
  have h2 : (i : Int) < 64 := by omega
  go_enter Tryz.func131, Tryz.ntmps131
  go_wp2_with fail
  go_region
  go_wp2
  go_end0
  refine ⟨rfl, 1, ?_⟩
  rw [wrap_pow hi, u64_andNot_nat _ _ hx (pow_ltw hi)]
  rfl
theorem first_num : ∀ n < 65, 1 ≤ n → 18446744073709551615 / 2 ^ (64 - n) = 2 ^ n - 1 := by decide +kernel
set_option maxRecDepth 3000 in
theorem first_any (n : Nat) (h1 : 1 ≤ n) (h2 : n ≤ 64) (w : World) :
    Calls Tryz.prog 128 #[.int .i64 (n : Int)] w fun e w' => e = .returned (.int .u64 ((2 ^ n - 1 : Nat) : Int)) ∧ w = w' := by
  have h1' : (1 : Int) ≤ (n : Int) := by omega
  have h2' : (n : Int) ≤ 64 := by omega
  go_enter Tryz.func128, Tryz.ntmps128
  go_wp2
  go_ret
  refine ⟨?_, rfl⟩
  show Ending.returned (.int .u64 ((18446744073709551615 : Int) / 2 ^ (64 - n))) = _
  rw [pow_cast, show (18446744073709551615 : Int) = ((18446744073709551615 : Nat) : Int) from rfl, ← Int.natCast_ediv, first_num n (by omega) h1]
end Go.Proofs.YtcglfknkkeaegaaGreatDoor
namespace Go.Proofs.YtcglfknkkeaegaaGreatDoor
open Go.RowKit

def ccells (s : RgS) : Array Value := #[.int .i64 (s.n : Int), .int .u64 (s.u : Int), .int .u64 (s.p : Int), .int .u64 (s.m : Int), .int .i64 (s.h : Int)]
/-- the program's ring of s -/
structure Cl (w : World) (d : Nat) (s : RgS) : Prop where
  ok : COk s
  blk : Blk w d 137 (ccells s)
section
variable {w w' : World} {d : Nat} {s t : RgS}
set_option maxRecDepth 3000 in
theorem Cl.lt (h : Cl w d s) : d < w.heap.size := h.blk.lt
set_option maxRecDepth 3000 in
theorem Cl.keep (h : Cl w d s) (k : w'.heap[d]? = w.heap[d]?) : Cl w' d s := ⟨h.ok, h.blk.keep k⟩
set_option maxRecDepth 3000 in
theorem Cl.far {F F' : Nat → Prop} (h : Cl w d s) (a : Adv F w F' w') (hF : ¬ F d) : Cl w' d s := h.keep (a.block d h.lt hF)
set_option maxRecDepth 3000 in
theorem Cl.c0 (h : Cl w d s) : w.cell? ⟨d, 0, none⟩ = some (.int .i64 (s.n : Int)) := h.blk.cell 0
set_option maxRecDepth 3000 in
theorem Cl.c1 (h : Cl w d s) : w.cell? ⟨d, 1, none⟩ = some (.int .u64 (s.u : Int)) := h.blk.cell 1
set_option maxRecDepth 3000 in
theorem Cl.c2 (h : Cl w d s) : w.cell? ⟨d, 2, none⟩ = some (.int .u64 (s.p : Int)) := h.blk.cell 2
set_option maxRecDepth 3000 in
theorem Cl.c3 (h : Cl w d s) : w.cell? ⟨d, 3, none⟩ = some (.int .u64 (s.m : Int)) := h.blk.cell 3
set_option maxRecDepth 3000 in
theorem Cl.c4 (h : Cl w d s) : w.cell? ⟨d, 4, none⟩ = some (.int .i64 (s.h : Int)) := h.blk.cell 4
end

set_option maxRecDepth 3000 in
theorem cmade_any (w : World) (d : Nat) (s : RgS) (h : Cl w d s) : Calls Tryz.prog 127 #[.pointer (some ⟨d, 0, none⟩)] w fun e w' => e = .returned (.bool true) ∧ w = w' := by
  have c := h.c0
  have h0 : 0 < s.n := h.ok.lo
  obtain ⟨n, hn⟩ : ∃ n, n = s.n := ⟨_, rfl⟩
  rw [← hn] at c h0
  clear h hn
  go_enter Tryz.func127, Tryz.ntmps127
  go_wp2
  go_ret
  exact ⟨rfl, rfl⟩
def chkE (s : RgS) (i : Int) : Int := if hereC s i then 0 else 2
set_option maxRecDepth 3000 in
theorem ccheck_any (w : World) (d : Nat) (s : RgS) (h : Cl w d s) (i : Int) : Calls Tryz.prog 119 #[.pointer (some ⟨d, 0, none⟩), .int .i64 i] w fun e w' => e = .returned (.int .i64 (chkE s i)) ∧ w = w' := by
  have HM := Lib.hid (cmade_any w d s h)
  have c := h.c0
  obtain ⟨E, hE⟩ : ∃ E, E = chkE s i := ⟨_, rfl⟩
  rw [← hE]
  clear h
  by_cases hi : i < 0
  · obtain rfl : E = 2 := by rw [hE]; exact if_neg (by unfold hereC; omega)
    clear hE
    generalize s.n = n at c
    go_enter Tryz.func119, Tryz.ntmps119
    go_wp2_with (first
      | (go_at_call 127; refine HM.out.mono ?_; rintro e w1 ⟨rfl, rfl⟩)
      | fail)
    go_ret
    exact ⟨rfl, rfl⟩
  · replace hi : 0 ≤ i := by omega
    by_cases hn : i < (s.n : Int)
    · obtain rfl : E = 0 := by rw [hE]; exact if_pos ⟨hi, hn⟩
      clear hE
      generalize s.n = n at c hn
      go_enter Tryz.func119, Tryz.ntmps119
      go_wp2_with (first
        | (go_at_call 127; refine HM.out.mono ?_; rintro e w1 ⟨rfl, rfl⟩)
        | fail)
      go_ret
      exact ⟨rfl, rfl⟩
    · obtain rfl : E = 2 := by rw [hE]; exact if_neg (fun k => hn k.2)
      clear hE
      replace hn : (s.n : Int) ≤ i := by omega
      generalize s.n = n at c hn
      go_enter Tryz.func119, Tryz.ntmps119
      go_wp2_with (first
        | (go_at_call 127; refine HM.out.mono ?_; rintro e w1 ⟨rfl, rfl⟩)
        | fail)
      go_ret
      exact ⟨rfl, rfl⟩
def usedE (s : RgS) (i : Int) : Int := if hereC s i then (if s.u.testBit i.toNat = false then 11 else 0) else 2
set_option maxRecDepth 3000 in
theorem hereC_nat {s : RgS} {i : Int} (h : hereC s i) : ∃ k : Nat, i = (k : Int) ∧ k < s.n := ⟨i.toNat, by have := h.1; omega, by have := h.1; have := h.2; omega⟩
set_option maxRecDepth 3000 in
theorem ccheckUsed_any (w : World) (d : Nat) (s : RgS) (h : Cl w d s) (i : Int) : Calls Tryz.prog 81 #[.pointer (some ⟨d, 0, none⟩), .int .i64 i] w fun e w' => e = .returned (.int .i64 (usedE s i)) ∧ w = w' := by
  have hc := ccheck_any w d s h i
  unfold usedE
  unfold chkE at hc
  by_cases hh : hereC s i
  · rw [if_pos hh] at hc
    obtain ⟨k, rfl, hk⟩ := hereC_nat hh
    have HC := Lib.hid hc
    have HB := Lib.hid (has_any s.u k h.ok.u64 (Nat.lt_of_lt_of_le hk h.ok.hi) w)
    have c1 := h.c1
    rw [if_pos hh, Int.toNat_natCast]
    generalize s.u = u at c1 HB
    generalize u.testBit k = b at HB
    clear hc hh hk h
    cases b
    · go_enter Tryz.func81, Tryz.ntmps81
      go_wp2_with (first
        | (go_at_call 119; refine HC.out.mono ?_; rintro e w1 ⟨rfl, rfl⟩)
        | (go_at_call 120; refine HB.out.mono ?_; rintro e w1 ⟨rfl, rfl⟩)
        | fail)
      go_ret
      exact ⟨rfl, rfl⟩
    · go_enter Tryz.func81, Tryz.ntmps81
      go_wp2_with (first
        | (go_at_call 119; refine HC.out.mono ?_; rintro e w1 ⟨rfl, rfl⟩)
        | (go_at_call 120; refine HB.out.mono ?_; rintro e w1 ⟨rfl, rfl⟩)
        | fail)
      go_ret
      exact ⟨rfl, rfl⟩
  · rw [if_neg hh] at hc ⊢
    have HC := Lib.hid hc
    clear hc hh h
    go_enter Tryz.func81, Tryz.ntmps81
    go_wp2_with (first
      | (go_at_call 119; refine HC.out.mono ?_; rintro e w1 ⟨rfl, rfl⟩)
      | fail)
    go_ret
    exact ⟨rfl, rfl⟩

/-! A set in the ring that is put or dropped. -/
/-- the ring with whatever sets of this size: between the calls of one operation -/
structure Cw (w : World) (d : Nat) (s : RgS) : Prop where
  blk : Blk w d 137 (ccells s)
  u : s.u < 18446744073709551616
  p : s.p < 18446744073709551616
  m : s.m < 18446744073709551616
set_option maxRecDepth 3000 in
theorem Cl.cw {w : World} {d : Nat} {s : RgS} (h : Cl w d s) : Cw w d s := ⟨h.blk, h.ok.u64, h.ok.p64, h.ok.m64⟩
set_option maxRecDepth 3000 in
theorem ddrop_64 {x i : Nat} (hx : x < 18446744073709551616) : ddrop x i < 18446744073709551616 := ddrop_lt (n := 64) hx
set_option maxRecDepth 3000 in
theorem pput_64 {x i : Nat} (hx : x < 18446744073709551616) (hi : i < 64) : pput x i < 18446744073709551616 := pput_lt (n := 64) hx hi
set_option maxRecDepth 3000 in
theorem cput1 (w : World) (d : Nat) (s : RgS) (h : Cw w d s) (i : Nat) (hi : i < 64) : Calls Tryz.prog 82 #[.pointer (some ⟨d, 1, none⟩), .int .i64 (i : Int)] w fun e w' => e = .returned (.tuple #[]) ∧ Cw w' d { s with u := pput s.u i } ∧ Adv (One d) w (One d) w' := by
  refine (put_any s.u i d 1 h.u hi w (h.blk.cell 1) (h.blk.frozen 1)).mono ?_
  rintro e w1 ⟨rfl, k, rfl⟩
  exact ⟨rfl, ⟨(show Blk (w.drewN k) d _ _ from h.blk).set_ 1 _, pput_64 h.u hi, h.p, h.m⟩, adv_set _ _ _ _ _⟩
set_option maxRecDepth 3000 in
theorem cput2 (w : World) (d : Nat) (s : RgS) (h : Cw w d s) (i : Nat) (hi : i < 64) : Calls Tryz.prog 82 #[.pointer (some ⟨d, 2, none⟩), .int .i64 (i : Int)] w fun e w' => e = .returned (.tuple #[]) ∧ Cw w' d { s with p := pput s.p i } ∧ Adv (One d) w (One d) w' := by
  refine (put_any s.p i d 2 h.p hi w (h.blk.cell 2) (h.blk.frozen 2)).mono ?_
  rintro e w1 ⟨rfl, k, rfl⟩
  exact ⟨rfl, ⟨(show Blk (w.drewN k) d _ _ from h.blk).set_ 2 _, h.u, pput_64 h.p hi, h.m⟩, adv_set _ _ _ _ _⟩
set_option maxRecDepth 3000 in
theorem cput3 (w : World) (d : Nat) (s : RgS) (h : Cw w d s) (i : Nat) (hi : i < 64) : Calls Tryz.prog 82 #[.pointer (some ⟨d, 3, none⟩), .int .i64 (i : Int)] w fun e w' => e = .returned (.tuple #[]) ∧ Cw w' d { s with m := pput s.m i } ∧ Adv (One d) w (One d) w' := by
  refine (put_any s.m i d 3 h.m hi w (h.blk.cell 3) (h.blk.frozen 3)).mono ?_
  rintro e w1 ⟨rfl, k, rfl⟩
  exact ⟨rfl, ⟨(show Blk (w.drewN k) d _ _ from h.blk).set_ 3 _, h.u, h.p, pput_64 h.m hi⟩, adv_set _ _ _ _ _⟩
set_option maxRecDepth 3000 in
theorem cdrop2 (w : World) (d : Nat) (s : RgS) (h : Cw w d s) (i : Nat) (hi : i < 64) : Calls Tryz.prog 131 #[.pointer (some ⟨d, 2, none⟩), .int .i64 (i : Int)] w fun e w' => e = .returned (.tuple #[]) ∧ Cw w' d { s with p := ddrop s.p i } ∧ Adv (One d) w (One d) w' := by
  refine (drop_any s.p i d 2 h.p hi w (h.blk.cell 2) (h.blk.frozen 2)).mono ?_
  rintro e w1 ⟨rfl, k, rfl⟩
  exact ⟨rfl, ⟨(show Blk (w.drewN k) d _ _ from h.blk).set_ 2 _, h.u, ddrop_64 h.p, h.m⟩, adv_set _ _ _ _ _⟩
set_option maxRecDepth 3000 in
theorem cdrop3 (w : World) (d : Nat) (s : RgS) (h : Cw w d s) (i : Nat) (hi : i < 64) : Calls Tryz.prog 131 #[.pointer (some ⟨d, 3, none⟩), .int .i64 (i : Int)] w fun e w' => e = .returned (.tuple #[]) ∧ Cw w' d { s with m := ddrop s.m i } ∧ Adv (One d) w (One d) w' := by
  refine (drop_any s.m i d 3 h.m hi w (h.blk.cell 3) (h.blk.frozen 3)).mono ?_
  rintro e w1 ⟨rfl, k, rfl⟩
  exact ⟨rfl, ⟨(show Blk (w.drewN k) d _ _ from h.blk).set_ 3 _, h.u, h.p, ddrop_64 h.m⟩, adv_set _ _ _ _ _⟩
/-- what a call that names a place says -/
def DoC (f : Nat) (k : Int) (i : Int) : Prop := ∀ (w : World) (d : Nat) (s : RgS), Cl w d s → Calls Tryz.prog f #[.pointer (some ⟨d, 0, none⟩), .int .i64 i] w fun e w' => e = .returned (.int .i64 (doE k s i)) ∧ Cl w' d (doC k s i) ∧ Adv (One d) w (One d) w'
set_option maxRecDepth 3000 in
set_option maxHeartbeats 800000 in
theorem cuse_any (i : Int) : DoC 97 0 i := by
  intro w d s h
  have HC := Lib.hid (ccheck_any w d s h i)
  have HL := Lib.hid h
  by_cases hu : hereC s i
  · have hh := hu
    have e1 : chkE s i = 0 := if_pos hh
    have e2 : doE 0 s i = 0 := by unfold doE; rw [if_pos hh]; exact if_neg (by rintro ⟨h1 | h1, _⟩ <;> cases h1)
    have hok := doC_ok (k := 0) h.ok i
    obtain ⟨k, rfl, hk⟩ := hereC_nat hh
    have e3 : doC 0 s (k : Int) = doS 0 s k := by unfold doC; rw [if_pos hh, Int.toNat_natCast]
    have e4 : doS 0 s k = { s with u := pput s.u k, p := ddrop s.p k, m := pput s.m k } := rfl
    rw [e3, e4] at hok
    rw [e2, e3, e4]
    rw [e1] at HC
    have HO := Lib.hid hok
    have hk64 : k < 64 := Nat.lt_of_lt_of_le hk h.ok.hi
    have H0 := Lib.hid (fun w t (h : Cw w d t) => cput1 w d t h k hk64)
    have H1 := Lib.hid (fun w t (h : Cw w d t) => cdrop2 w d t h k hk64)
    have H2 := Lib.hid (fun w t (h : Cw w d t) => cput3 w d t h k hk64)
    have HW0 := Lib.hid h.cw
    clear hu hh h hok e1 e2 e3 e4 hk hk64
    go_enter Tryz.func97, Tryz.ntmps97
    go_wp2_with (first
      | (go_at_call 119; refine HC.out.mono ?_; rintro e w1 ⟨rfl, rfl⟩)
      | (go_at_call 82; refine (H0.out _ _ HW0.out).mono ?_; rintro e w2 ⟨rfl, a0, b0⟩; have HW1 := Lib.hid a0; have HB1 := Lib.hid b0; clear a0 b0 H0)
      | (go_at_call 131; refine (H1.out _ _ HW1.out).mono ?_; rintro e w3 ⟨rfl, a1, b1⟩; have HW2 := Lib.hid a1; have HB2 := Lib.hid b1; clear a1 b1 H1)
      | (go_at_call 82; refine (H2.out _ _ HW2.out).mono ?_; rintro e w4 ⟨rfl, a2, b2⟩; have HW3 := Lib.hid a2; have HB3 := Lib.hid b2; clear a2 b2 H2)
      | fail)
    go_ret
    exact ⟨rfl, ⟨HO.out, HW3.out.blk⟩, ((HB1.out.trans HB2.out).trans HB3.out)⟩
  · have e1 : chkE s i = 2 := if_neg hu
    have e2 : doE 0 s i = 2 := if_neg hu
    have e3 : doC 0 s i = s := if_neg hu
    rw [e1] at HC
    rw [e2, e3]
    clear hu h e1 e2 e3
    go_enter Tryz.func97, Tryz.ntmps97
    go_wp2_with (first
      | (go_at_call 119; refine HC.out.mono ?_; rintro e w1 ⟨rfl, rfl⟩)
      | fail)
    go_ret
    exact ⟨rfl, HL.out, Adv.refl _ _⟩
set_option maxRecDepth 3000 in
set_option maxHeartbeats 800000 in
theorem ctouch_any (i : Int) : DoC 47 2 i := by
  intro w d s h
  have HC := Lib.hid (ccheckUsed_any w d s h i)
  have HL := Lib.hid h
  by_cases hu : hereC s i ∧ s.u.testBit i.toNat = true
  · obtain ⟨hh, hb⟩ := hu
    have e1 : usedE s i = 0 := by unfold usedE; rw [if_pos hh, if_neg (by rw [hb]; decide)]
    have e2 : doE 2 s i = 0 := by unfold doE; rw [if_pos hh, if_neg (by rw [hb]; rintro ⟨_, k⟩; cases k)]
    have hok := doC_ok (k := 2) h.ok i
    obtain ⟨k, rfl, hk⟩ := hereC_nat hh
    have e3 : doC 2 s (k : Int) = doS 2 s k := by unfold doC; rw [if_pos hh, Int.toNat_natCast]
    have e4 : doS 2 s k = { s with m := pput s.m k } := by rw [Int.toNat_natCast] at hb; unfold doS; rw [if_neg (by decide), if_neg (by decide),  if_pos rfl, if_pos hb]
    rw [e3, e4] at hok
    rw [e2, e3, e4]
    rw [e1] at HC
    have HO := Lib.hid hok
    have hk64 : k < 64 := Nat.lt_of_lt_of_le hk h.ok.hi
    have H0 := Lib.hid (fun w t (h : Cw w d t) => cput3 w d t h k hk64)
    have HW0 := Lib.hid h.cw
    clear hh h hok e1 e2 e3 e4 hk hk64 hb
    go_enter Tryz.func47, Tryz.ntmps47
    go_wp2_with (first
      | (go_at_call 81; refine HC.out.mono ?_; rintro e w1 ⟨rfl, rfl⟩)
      | (go_at_call 82; refine (H0.out _ _ HW0.out).mono ?_; rintro e w2 ⟨rfl, a0, b0⟩; have HW1 := Lib.hid a0; have HB1 := Lib.hid b0; clear a0 b0 H0)
      | fail)
    go_ret
    exact ⟨rfl, ⟨HO.out, HW1.out.blk⟩, HB1.out⟩
  · have e1 : usedE s i = doE 2 s i := by
      unfold usedE doE
      split
      · simp
      · rfl
    have e2 : doE 2 s i ≠ 0 := by
      unfold doE
      split
      · rename_i hh
        have hb : s.u.testBit i.toNat = false := by
          cases e : s.u.testBit i.toNat
          · rfl
          · exact (hu ⟨hh, e⟩).elim
        rw [if_pos ⟨by decide, hb⟩]; decide
      · decide
    have e3 : doC 2 s i = s := by
      unfold doC
      split
      · rename_i hh
        have hb : s.u.testBit i.toNat = false := by
          cases e : s.u.testBit i.toNat
          · rfl
          · exact (hu ⟨hh, e⟩).elim
        unfold doS; rw [if_neg (by decide), if_neg (by decide), if_pos rfl, if_neg (by rw [hb]; decide)]
      · rfl
    rw [e1] at HC
    rw [e3]
    generalize doE 2 s i = E at HC e2 ⊢
    have e4 : (E == 0) = false := by simpa using e2
    clear hu h e1 e2 e3
    go_enter Tryz.func47, Tryz.ntmps47
    go_wp2_with (first
      | (go_at_call 81; refine HC.out.mono ?_; rintro e w1 ⟨rfl, rfl⟩)
      | fail)
    go_ret
    exact ⟨rfl, HL.out, Adv.refl _ _⟩
set_option maxRecDepth 3000 in
set_option maxHeartbeats 800000 in
theorem cpin_any (i : Int) : DoC 98 3 i := by
  intro w d s h
  have HC := Lib.hid (ccheckUsed_any w d s h i)
  have HL := Lib.hid h
  by_cases hu : hereC s i ∧ s.u.testBit i.toNat = true
  · obtain ⟨hh, hb⟩ := hu
    have e1 : usedE s i = 0 := by unfold usedE; rw [if_pos hh, if_neg (by rw [hb]; decide)]
    have e2 : doE 3 s i = 0 := by unfold doE; rw [if_pos hh, if_neg (by rw [hb]; rintro ⟨_, k⟩; cases k)]
    have hok := doC_ok (k := 3) h.ok i
    obtain ⟨k, rfl, hk⟩ := hereC_nat hh
    have e3 : doC 3 s (k : Int) = doS 3 s k := by unfold doC; rw [if_pos hh, Int.toNat_natCast]
    have e4 : doS 3 s k = { s with p := pput s.p k } := by rw [Int.toNat_natCast] at hb; unfold doS; rw [if_neg (by decide), if_neg (by decide), if_neg (by decide),  if_pos rfl, if_pos hb]
    rw [e3, e4] at hok
    rw [e2, e3, e4]
    rw [e1] at HC
    have HO := Lib.hid hok
    have hk64 : k < 64 := Nat.lt_of_lt_of_le hk h.ok.hi
    have H0 := Lib.hid (fun w t (h : Cw w d t) => cput2 w d t h k hk64)
    have HW0 := Lib.hid h.cw
    clear hh h hok e1 e2 e3 e4 hk hk64 hb
    go_enter Tryz.func98, Tryz.ntmps98
    go_wp2_with (first
      | (go_at_call 81; refine HC.out.mono ?_; rintro e w1 ⟨rfl, rfl⟩)
      | (go_at_call 82; refine (H0.out _ _ HW0.out).mono ?_; rintro e w2 ⟨rfl, a0, b0⟩; have HW1 := Lib.hid a0; have HB1 := Lib.hid b0; clear a0 b0 H0)
      | fail)
    go_ret
    exact ⟨rfl, ⟨HO.out, HW1.out.blk⟩, HB1.out⟩
  · have e1 : usedE s i = doE 3 s i := by
      unfold usedE doE
      split
      · simp
      · rfl
    have e2 : doE 3 s i ≠ 0 := by
      unfold doE
      split
      · rename_i hh
        have hb : s.u.testBit i.toNat = false := by
          cases e : s.u.testBit i.toNat
          · rfl
          · exact (hu ⟨hh, e⟩).elim
        rw [if_pos ⟨by decide, hb⟩]; decide
      · decide
    have e3 : doC 3 s i = s := by
      unfold doC
      split
      · rename_i hh
        have hb : s.u.testBit i.toNat = false := by
          cases e : s.u.testBit i.toNat
          · rfl
          · exact (hu ⟨hh, e⟩).elim
        unfold doS; rw [if_neg (by decide), if_neg (by decide), if_neg (by decide), if_pos rfl, if_neg (by rw [hb]; decide)]
      · rfl
    rw [e1] at HC
    rw [e3]
    generalize doE 3 s i = E at HC e2 ⊢
    have e4 : (E == 0) = false := by simpa using e2
    clear hu h e1 e2 e3
    go_enter Tryz.func98, Tryz.ntmps98
    go_wp2_with (first
      | (go_at_call 81; refine HC.out.mono ?_; rintro e w1 ⟨rfl, rfl⟩)
      | fail)
    go_ret
    exact ⟨rfl, HL.out, Adv.refl _ _⟩
end Go.Proofs.YtcglfknkkeaegaaGreatDoor
