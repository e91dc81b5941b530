/- AllocLoads. -/
import Derived.Test.YtekafclhddhnpaaAqC
namespace Go.Proofs.Ytekafclhddhnpaa
open Go.ChangeShapes Go.WideShapes Go.ChangeAt Go.RowKit

theorem In.adv {w w' : World} {F : Nat → Prop} {v : Value} {l : List Nat} (h : In w v l) (a : Adv Nul w F w') : In w' v l := h.far a.none_.toBelow
theorem load_pick {w : World} {l : List Nat} {n : Int} {e : Ending} {w' : World} (h : LoadR w l n e w') : (loadOk l n → ∃ d, e = .returned (.tuple #[.pointer (some ⟨d, 0, none⟩), .int .i64 0]) ∧ Am w' d (loadT l n.toNat) ∧ Adv Nul w (One d) w') ∧
    (¬ loadOk l n → e = .returned (.tuple #[.pointer none, .int .i64 (if n < 1 ∨ 1024 < n then 2 else 4)]) ∧ Adv Nul w Nul w') := by
  rcases h with ⟨h1, h2⟩ | ⟨h1, h2⟩
  · exact ⟨fun _ => h2, fun k => absurd h1 k⟩
  · exact ⟨fun k => absurd k h1, fun _ => h2⟩
theorem qload_pick {w : World} {l : List Nat} {n : Int} {e : Ending} {w' : World} (h : LoadQ w l n e w') : (loadOk l n → ∃ d g, e = .returned (.tuple #[.pointer (some ⟨d, 0, none⟩), .int .i64 0]) ∧ Qm w' d g (loadT l n.toNat) ∧ Adv Nul w (Two d g) w') ∧
    (¬ loadOk l n → e = .returned (.tuple #[.pointer none, .int .i64 (if n < 1 ∨ 1024 < n then 2 else 4)]) ∧ Adv Nul w Nul w') := by
  rcases h with ⟨h1, h2⟩ | ⟨h1, h2⟩
  · exact ⟨fun _ => h2, fun k => absurd h1 k⟩
  · exact ⟨fun k => absurd k h1, fun _ => h2⟩
/-- program's and document's map of one T, in one memory -/
structure Mx (w : World) (d x g : Nat) (T : List Bool) (wr : World) : Prop where
  map : Am wr d T
  ref : Qm wr x g T
  adv : Adv Nul w (fun k => k = d ∨ k = x ∨ k = g) wr
  ne : d ≠ x ∧ d ≠ g
theorem Mx.start {w w1 w2 : World} {d x g : Nat} {T : List Bool} (h1 : Am w1 d T) (a1 : Adv Nul w (One d) w1) (h2 : Qm w2 x g T) (a2 : Adv Nul w1 (Two x g) w2) : Mx w d x g T w2 := by
  have hd := h1.lt
  have hx : w1.heap.size ≤ x := by
    rcases a2.into x (.inl rfl) with e | e
    · exact e.elim
    · exact e
  have hg : w1.heap.size ≤ g := by
    rcases a2.into g (.inr rfl) with e | e
    · exact e.elim
    · exact e
  have a := a1.trans (a2.none_.same (G := One d) (fun _ e => e.elim))
  refine ⟨h1.far a2 (fun e => e), h2, ⟨a.os, a.tape, a.output, a.size, a.block, fun k hk => ?_⟩, by omega, by omega⟩
  rcases hk with hk | hk | hk
  · exact a.into k hk
  · exact .inr (by rw [hk]; exact Nat.le_trans a1.size hx)
  · exact .inr (by rw [hk]; exact Nat.le_trans a1.size hg)
theorem Mx.still {w wr w' : World} {d x g : Nat} {F : Nat → Prop} {T : List Bool} (h : Mx w d x g T wr) (a : Adv Nul wr F w') : Mx w d x g T w' :=
  ⟨h.map.far a (fun e => e), h.ref.far a (fun e => e) (fun e => e), h.adv.trans (a.none_.same (fun _ e => e.elim)), h.ne⟩
theorem Mx.drewN {w wr : World} {d x g : Nat} {T : List Bool} (h : Mx w d x g T wr) (n : Nat) : Mx w d x g T (wr.drewN n) := ⟨h.map, h.ref.drewN n, h.adv.drewN n, h.ne⟩
theorem Mx.below {w wr : World} {d x g : Nat} {T : List Bool} (h : Mx w d x g T wr) : Below w.heap.size w wr := h.adv.toBelow
theorem bytes_rd {w : World} {d : Nat} {T : List Bool} {l : List Nat} (h : Am w d T) (hl : Rep l T) : Calls Try.prog 20 #[.pointer (some ⟨d, 0, none⟩)] w fun e w' => ∃ z, e = .returned (.slice (some ⟨z, 0, none⟩) 128 128) ∧ Rd w' 1 (.slice (some ⟨z, 0, none⟩) 128 128) 128 (l.map u8) ∧ Adv Nul w (One z) w' := by
  refine (bytes_am w d T h).mono ?_
  rintro e w' ⟨z, r, rfl, hr, hs, ha⟩
  rw [hr.inj hl] at hs
  exact ⟨z, rfl, hs.rd, ha⟩
theorem qbytes_rd {w : World} {d g : Nat} {T : List Bool} {l : List Nat} (h : Qm w d g T) (hl : Rep l T) : Calls Try.prog 21 #[.pointer (some ⟨d, 0, none⟩)] w fun e w' => ∃ z, e = .returned (.slice (some ⟨z, 0, none⟩) 128 128) ∧ Rd w' 1 (.slice (some ⟨z, 0, none⟩) 128 128) 128 (l.map u8) ∧ Adv Nul w (One z) w' := by
  refine (qbytes_any w d g T h).mono ?_
  rintro e w' ⟨z, r, rfl, hr, hs, ha⟩
  rw [hr.inj hl] at hs
  exact ⟨z, rfl, hs.rd, ha⟩

set_option maxRecDepth 3000 in
set_option maxHeartbeats 3200000 in
theorem aloads_walk (w : World) (v : Value) (hv : ∃ l, In w v l) (n : Int) (_ : (Lit.int .i64 n).wf = true) :
    Calls Try.prog 4 #[v, .int .i64 n] w fun e w' => e = .returned (.bool true) ∧ Below w.heap.size w w' := by
  obtain ⟨l0, h0⟩ := hv
  have HC := Lib.hid (cut_any v l0 140 w h0 (by decide))
  obtain ⟨l, hl⟩ : ∃ l, l = l0.take 140 := ⟨_, rfl⟩
  rw [← hl] at HC
  clear hl h0
  by_cases hok : loadOk l n
  · have HOK := Lib.hid hok
    obtain ⟨T, hT⟩ : ∃ T, T = loadT l n.toNat := ⟨_, rfl⟩
    have HL := Lib.hid (fun (v' : Value) (h : In w v' l) => (load_any v' l n w h).mono (fun e w' k => (load_pick k).1 hok))
    have HQ := Lib.hid (fun (v' : Value) (w1 : World) (h : In w1 v' l) => (qload_any v' l n w1 h).mono (fun e w' k => (qload_pick k).1 hok))
    rw [← hT] at HL HQ
    have HRep := Lib.hid (fun (h : ∀ x ∈ l, x < 256) => show Rep l T by rw [hT]; exact rep_loadT hok.2.2.1 h hok.2.2.2)
    have HLen := Lib.hid hok.2.2.1
    clear hok hT
    go_enter Try.func4, Try.ntmps4
    go_wp2_with (first
      | (go_at_call 23; refine HC.out.mono ?_; rintro e w0 ⟨v', rfl, h1, rfl⟩; have HI := Lib.hid h1; clear h1)
      | (go_at_call 24; refine (HL.out v' HI.out).mono ?_; rintro e w1 ⟨d, rfl, m1, a1⟩; have HM1 := Lib.hid m1; have HA1 := Lib.hid a1; have HI1 := Lib.hid (HI.out.adv a1); clear m1 a1)
      | (go_at_call 25; refine (HQ.out v' w1 HI1.out).mono ?_; rintro e w2 ⟨x, g, rfl, m2, a2⟩; have HX := Lib.hid (Mx.start HM1.out HA1.out m2 a2); have HI2 := Lib.hid (HI1.out.adv a2); clear m2 a2)
      | fail)
    have HRd := Lib.hid (fun (w' : World) (F : Nat → Prop) (a : Adv Nul w2 F w') => show Rd w' 1 v' 128 (l.map u8) by have := (HI2.out.adv a).rd; rw [HLen.out] at this; exact this)
    have HRp := Lib.hid (HRep.out HI2.out.lt)
    have HBy := Lib.hid (fun (w' : World) (F : Nat → Prop) (a : Adv Nul w2 F w') => bytes_rd (HX.out.still a).map HRp.out)
    have HQy := Lib.hid (fun (w' : World) (F : Nat → Prop) (a : Adv Nul w2 F w') => qbytes_rd (HX.out.still a).ref HRp.out)
    have HFr := Lib.hid (fun (w' : World) (F : Nat → Prop) (a : Adv Nul w2 F w') => free_am w' d T (HX.out.still a).map)
    have HFq := Lib.hid (fun (w' : World) (F : Nat → Prop) (a : Adv Nul w2 F w') => qfree_any w' x g T (HX.out.still a).ref)
    obtain ⟨f, hf⟩ : ∃ f, f = freeT T := ⟨_, rfl⟩
    rw [← hf] at HFr HFq
    clear hf
    go_wp2_with (first
      | (go_at_call 20; refine (HBy.out w2 _ (Adv.refl _ _)).mono ?_; rintro e w3 ⟨z1, rfl, r1, a3⟩; have HR1 := Lib.hid r1; have HA3 := Lib.hid a3; clear r1 a3)
      | (go_at_call 21; refine (HQy.out _ _ (HA3.out.drewN k1)).mono ?_; rintro e w4 ⟨z2, rfl, r2, a4⟩; have HR2 := Lib.hid r2; have HA4 := Lib.hid ((HA3.out.drewN k1).over a4); clear r2 a4)
      | (go_at_call 19; refine (same_eq _ _ 128 l _ HR2.out (HRd.out _ _ HA4.out)).mono ?_; rintro e w5 ⟨rfl, k2, rfl⟩)
      | (go_at_call 19; refine (same_eq _ _ 128 l _ HR1.out (HRd.out _ _ HA3.out)).mono ?_; rintro e w5 ⟨rfl, k1, rfl⟩)
      | (go_at_call 15; refine (HFr.out _ _ (HA4.out.drewN _)).mono ?_; rintro e w6 ⟨rfl, k3, rfl⟩)
      | (go_at_call 16; refine (HFq.out _ _ (HA4.out.drewN _)).mono ?_; rintro e w7 ⟨rfl, rfl⟩)
      | (go_at_call 22; refine (alives_any _).mono ?_; rintro e w8 ⟨rfl, hb7⟩)
      | fail)
    go_ret
    have hb := (HX.out.still (HA4.out.drewN (k2 + k3))).below
    exact ⟨rfl, hb.trans (hb7.mono hb.size)⟩
  · obtain ⟨z, hz⟩ : ∃ z : Int, z = if n < 1 ∨ 1024 < n then 2 else 4 := ⟨_, rfl⟩
    have HL := Lib.hid (fun (v' : Value) (h : In w v' l) => (load_any v' l n w h).mono (fun e w' k => (load_pick k).2 hok))
    have HQ := Lib.hid (fun (v' : Value) (w1 : World) (h : In w1 v' l) => (qload_any v' l n w1 h).mono (fun e w' k => (qload_pick k).2 hok))
    rw [← hz] at HL HQ
    clear hok hz
    go_enter Try.func4, Try.ntmps4
    go_wp2_with (first
      | (go_at_call 23; refine HC.out.mono ?_; rintro e w0 ⟨v', rfl, h1, rfl⟩; have HI := Lib.hid h1; clear h1)
      | (go_at_call 24; refine (HL.out v' HI.out).mono ?_; rintro e w1 ⟨rfl, a1⟩; have HA1 := Lib.hid a1; have HI1 := Lib.hid (HI.out.adv a1); clear a1)
      | (go_at_call 25; refine (HQ.out v' w1 HI1.out).mono ?_; rintro e w2 ⟨rfl, a2⟩; have HA2 := Lib.hid a2; clear a2)
      | (go_at_call 22; refine (alives_any _).mono ?_; rintro e w7 ⟨rfl, hb7⟩)
      | fail)
    go_ret
    have hb := (HA1.out.trans HA2.out).toBelow
    exact ⟨rfl, hb.trans (hb7.mono hb.size)⟩
end Go.Proofs.Ytekafclhddhnpaa
