/- RedoKept. -/
import Derived.Test.YtolcnbiaiolcoaaGreatMgH
namespace Go.Proofs.YtolcnbiaiolcoaaGreat
open Go.RowKit Go.Maps

def HmP (w : World) (G : Nat → Prop) (H : Nat) (hs : List (List Nat)) (e : Ending) (w' : World) : Prop := ∃ A q, e = .returned (.slice A H q) ∧ RwR w' G (.slice A H q) hs ∧ Adv Nul w Nul w'
theorem HmR.toP {w w' : World} {G : Nat → Prop} {H : Nat} {hs : List (List Nat)} {e : Ending} (h : HmR w G hs e w') (hl : hs.length = H) : HmP w G H hs e w' := by
  subst hl
  exact h
theorem homes_p (l b d n N H : Nat) (g : LS) (F : Nat → Prop) (s : DS) (G : Nat → Prop) (w : World) (h : Rs w F d l b n N s g) (hn : 2 ≤ n ∧ n + 3 ≤ N ∧ N ≤ 4096) (hA : AOk (N - 2 - n) g.A) (hG : Bd G w) (hH : N - 2 - n = H) :
    Calls Tryz.prog 30 #[.pointer (some ⟨l, 0, none⟩)] w (HmP w G H (homesL s n g (N - 2 - n))) :=
  (homes_any l b d n N g F s G w h hn hA hG).mono (fun _ _ k => HmR.toP k ((homesL_len s n g _).trans hH))
theorem over_p (v : Value) (pv : Value) (G : Nat → Prop) (hs : List (List Nat)) (H : Nat) (ps : List Pt) (w : World) (h : RwR w G v hs) (hp : QRd w G pv ps) (hG : Bd G w) (hH : hs.length = H) (h0 : 0 < H) (hm : H ≤ 4096) (ht : isTx ps (H : Int)) :
    Calls Tryz.prog 32 #[v, pv] w (HmP w G H (overL hs ps)) := by
  subst hH
  exact (over_any v pv G hs ps w h hp hG h0 hm (fun p hp => ht.row p hp) (by have := ht.1.2; omega)).mono (fun _ _ k => HmR.toP k (over_len ps hs))
/-- the log's blocks and the states' -/
def UZ (F : Nat → Prop) (l b z : Nat) : Nat → Prop := fun k => UF F l b k ∨ k = z
theorem KpM.bdz {W w : World} {d l b n N H : Nat} {SL : List (List (List Nat))} {s : DS} {g : LS} {F : Nat → Prop} {z : Nat} {v : Value} (h : KpM W d l b n N H SL s g F z v w) : Bd (UZ F l b z) w := fun k hk => by
  rcases hk with hk | hk
  · exact h.rs.bd k hk
  · rw [hk]; exact h.st.lt
def KpL (W : World) (d m N H M : Nat) (t12 t11 t9 : Value) (wr : World) : Prop :=
  ∃ (k : Nat) (s : DS) (g : LS) (F : Nat → Prop) (l b z o p cap : Nat) (SL : List (List (List Nat))), (k ≤ M ∧ p ≤ k ∧ SL.length = p + 1) ∧ t12 = .int .i64 (k : Int) ∧ t11 = .slice (some ⟨z, o, none⟩) (p + 1) cap ∧ t9 = .pointer (some ⟨l, 0, none⟩) ∧
    KI s g m N k SL ∧ KpM W d l b m N H SL s g F z (.slice (some ⟨z, o, none⟩) (p + 1) cap) wr
def GoesOn (N m : Nat) (s : DS) (g : LS) : Prop := GOk m N s g
theorem KI.gok {s : DS} {g : LS} {n N k : Nat} {SL : List (List (List Nat))} (h : KI s g n N k SL) (hn : 2 ≤ n ∧ n + 3 ≤ N ∧ N ≤ 4096) (hk : k ≤ 100) : GOk n N s g :=
  ⟨hn, by have := h.q; omega, h.tn, by have := h.fr; omega, by have := h.nx; omega, by have := h.ep; omega⟩

theorem kp_crash {W w : World} {d l b n N H : Nat} {SL : List (List (List Nat))} {s : DS} {g : LS} {F : Nat → Prop} {z : Nat} {v : Value} (h : KpM W d l b n N H SL s g F z v w) {m : Nat} {vk : Value} {ks : List Int} (torn : Int) (hk : Rd W 1 vk m (ks.map (Value.int .i64))) (ho : ∀ b, vk.ownBlock = some b → 0 < m → b < W.heap.size) :
    Calls Tryz.prog 19 #[.pointer (some ⟨d, 0, none⟩), vk, .int .i64 torn] w fun e w' => e = .returned (.tuple #[]) ∧ KpM W d l b n N H SL (crashS s ks torn) g F z v w' := by
  refine (crash_dk d N m vk F s ks torn w h.rs.dk (hk.below h.adv.toBelow (fun k h1 h2 _ => ho k h1 h2)) (fun k h1 h2 hF => by
    have := ho k h1 h2
    have := h.low k (.inl hF)
    omega)).mono ?_
  rintro e w' ⟨rfl, h1, a1⟩
  exact ⟨rfl, h.call (h.rs.disk a1 h1) (adv_disk a1)⟩
theorem kp_fuse {W w : World} {d l b n N H : Nat} {SL : List (List (List Nat))} {s : DS} {g : LS} {F : Nat → Prop} {z : Nat} {v : Value} (h : KpM W d l b n N H SL s g F z v w) (c : Int) (hc : c < 9223372036854775808) :
    Calls Tryz.prog 17 #[.pointer (some ⟨d, 0, none⟩), .int .i64 c] w fun e w' => e = .returned (.int .i64 (fuseS s c).2) ∧ KpM W d l b n N H SL (fuseS s c).1 g F z v w' := by
  refine (fuse_r d N F s c w h.rs.dk hc).mono ?_
  rintro e w' ⟨rfl, h1, a1⟩
  exact ⟨rfl, h.call (h.rs.disk a1 h1) (adv_disk a1)⟩
theorem cell_over {w w' : World} {F' : Nat → Prop} {z i : Nat} {u : Value} (ha : Adv Nul w F' w') (hz : z < w.heap.size) (h : w.cell? ⟨z, i, none⟩ = some u) : w'.cell? ⟨z, i, none⟩ = some u := (World.cell?_of_block (ha.block z hz (fun x => x))).trans h
/-- how far the search has come -/
def FndL (w : World) (SL : List (List (List Nat))) (X : List (List Nat)) (p : Nat) (t23 t24 : Value) (wr : World) : Prop :=
  ∃ (j : Nat) (f : Bool) (q : Nat), j ≤ p + 1 ∧ t23 = .bool f ∧ t24 = .int .i64 (j : Int) ∧ (f = true ↔ ∃ i, i < j ∧ SL[i]? = some X) ∧ wr = w.drewN q

set_option maxRecDepth 3000 in
set_option maxHeartbeats 25600000 in
theorem rkept_walk (W : World) (size : Int) (_ : (Lit.int .i64 size).wf = true) (n : Int) (_ : (Lit.int .i64 n).wf = true) (v : Value) (hv : ∃ ds, GDos W v ds) :
    Calls Tryz.prog 4 #[.int .i64 size, .int .i64 n, v] W fun e w' => e = .returned (.bool true) ∧ Below W.heap.size W w' := by
  obtain ⟨ds, hds⟩ := hv
  obtain ⟨A0, c0, rfl, hx1, hx2⟩ := hds.1.form
  obtain ⟨L, hL⟩ : ∃ L, L = ds.length := ⟨_, rfl⟩
  have hLI : (L : Int) ≤ 9223372036854775807 := by unfold maxLen at hx2; omega
  rw [← hL] at hds ⊢
  have HDS := Lib.hid hds
  have HL := Lib.hid hL
  obtain ⟨M, hM⟩ : ∃ M, M = min L 35 := ⟨_, rfl⟩
  have HM := Lib.hid hM
  have HWI := Lib.hid (within_any size 10 40 W (by decide))
  clear hds hx1 hx2 hL hM
  go_enter Tryz.func4, Tryz.ntmps4
  go_wp2_with fail
  refine HWI.out.mono ?_
  rintro e W' ⟨y, rfl, hy1, hy2, -, rfl⟩
  obtain ⟨N, rfl⟩ := Int.eq_ofNat_of_zero_le (show 0 ≤ y by omega)
  have HNB := Lib.hid (show 10 ≤ N ∧ N ≤ 40 by omega)
  have hw1 : IntKind.i64.wrap ((N : Int) - 4) = (N : Int) - 4 := by rw [IntKind.wrap_i64]; omega
  have HWJ := Lib.hid (within_any n 2 ((N : Int) - 4) W (by omega))
  have hNI : (N : Int) ≤ 40 := by omega
  have hNI2 : (10 : Int) ≤ (N : Int) := by omega
  clear hy1 hy2
  go_wp2_with fail
  refine HWJ.out.mono ?_
  rintro e W' ⟨y, rfl, hy1, hy2, -, rfl⟩
  obtain ⟨m, rfl⟩ := Int.eq_ofNat_of_zero_le (show 0 ≤ y by omega)
  have HN := Lib.hid (show 2 ≤ m ∧ m + 3 ≤ N ∧ N ≤ 4096 by have := HNB.out; omega)
  have HMB := Lib.hid (show m + 4 ≤ N by omega)
  obtain ⟨H, hH⟩ : ∃ H, N - 2 - m = H := ⟨_, rfl⟩
  have HH := Lib.hid hH
  have HH1 := Lib.hid (show 2 ≤ H ∧ H ≤ 40 by have := HNB.out; omega)
  have HHI := Lib.hid (show ((N - 2 - m : Nat) : Int) = (H : Int) by rw [hH])
  have HNEW := Lib.hid (new_r N (by have := HNB.out; omega) (by have := HNB.out; omega) W)
  have HAN := Lib.hid (KI.new (n := m) (N := N) HN.out)
  clear hy1 hy2 hH hw1 hNI hNI2
  go_wp2_with fail
  refine HNEW.out.mono ?_
  rintro e w2 ⟨d, F, rfl, k2, a2⟩
  have HOP := Lib.hid (gopen_dk d N F (newS N) (m : Int) w2 k2 HAN.out.1.sb (by have := HNB.out; omega) (by omega) (by have := HN.out; omega))
  have HA2 := Lib.hid (a2.sub (G := Nul) (fun _ x => x.elim))
  have HF2 := Lib.hid (show ∀ j, F j → W.heap.size ≤ j from fun j hj => by
    rcases a2.into j hj with h | h
    · exact h.elim
    · exact h)
  clear k2 a2
  go_wp2_with fail
  refine HOP.out.mono ?_
  intro e w3 h3
  rcases h3 with ⟨hb, -⟩ | ⟨-, ht, -⟩ | ⟨-, -, l, b, rfl, rs3, nw3, a3⟩
  · exact absurd (by have := HN.out; omega) hb
  · rw [Int.toNat_natCast] at ht
    have := HAN.out.1.top
    omega
  rw [Int.toNat_natCast] at rs3
  obtain ⟨g0, hg0⟩ : ∃ g, g = openS (newS N) m N := ⟨_, rfl⟩
  rw [← hg0] at rs3 HAN
  have HS3 := Lib.hid rs3
  have HA3 := Lib.hid (HA2.out.trans a3)
  have HLOW := Lib.hid (show ∀ j, UF F l b j → W.heap.size ≤ j from fun j hj => by
    rcases hj with hj | hj | hj
    · exact HF2.out j hj
    · rw [hj]; exact Nat.le_trans HA2.out.size nw3.1
    · rw [hj]; exact Nat.le_trans HA2.out.size nw3.2)
  have HOM := Lib.hid (homes_p l b d m N H g0 F (newS N) (UF F l b) w3 rs3 HN.out HAN.out.2.aok rs3.bd HH.out)
  clear rs3 nw3 a3 hg0
  go_wp2_with fail
  refine HOM.out.mono ?_
  rintro e w4 ⟨A4, q4, rfl, r4, a4⟩
  obtain ⟨h0, hh0⟩ : ∃ h0, h0 = homesL (newS N) m g0 (N - 2 - m) := ⟨_, rfl⟩
  rw [← hh0] at r4 HAN
  have hl0 : h0.length = H := by rw [hh0, homesL_len]; exact HH.out
  have HM0 := Lib.hid (show KpM W d l b m N H [h0] (newS N) g0 F w4.heap.size (.slice (some ⟨w4.heap.size, 0, none⟩) (0 + 1) 1) (w4.alloc (.cells #[.slice A4 H q4] 50)) from
    ⟨(HS3.out.over a4).over (F' := Nul) ((Adv.refl Nul _).alloc _), StR.one r4 hl0 (HS3.out.over a4).bd, (HA3.out.trans a4).trans ((Adv.refl Nul _).alloc _), HLOW.out, Nat.le_trans HA3.out.size a4.size⟩)
  have HKI0 := Lib.hid HAN.out.2
  clear r4 a4 hh0 hl0 HNEW HOP HOM HLOW HA3 HS3 HA2 HF2 HAN
  go_wp2_with fail
  go_loopw [12, 11, 9] (KpL W d m N H M) (fun t _ _ _ => M - (intOf t).toNat)
  case atStart => exact ⟨0, newS N, g0, F, l, b, w4.heap.size, 0, 0, 1, [h0], ⟨Nat.zero_le _, Nat.le_refl _, rfl⟩, rfl, rfl, rfl, HKI0.out, HM0.out⟩
  case round =>
    clear HM0 HKI0
    obtain ⟨k, s, g, Fk, l, b, z, o, p, cap, SL, ⟨hk, hpk, hsl⟩, rfl, rfl, rfl, hki, hm⟩ := hrel
    have HKI := Lib.hid hki
    have HI := Lib.hid hm
    have HSL := Lib.hid hsl
    have HPK := Lib.hid hpk
    by_cases hlt : k < M
    · have hkl : k < ds.length := by have := HM.out; have := HL.out; omega
      have hkiL : (k : Int) < (L : Int) := by have := HL.out; omega
      have hk35 : (k : Int) < 35 := by have := HM.out; omega
      have HK := Lib.hid (show k < 35 by omega)
      have hbe := hm.adv.toBelow
      obtain ⟨b0, o0, rfl, hb0, d0, d1, d2, d4, hfit⟩ := HDS.out.at_ hbe hkl
      obtain ⟨D, hD⟩ : ∃ D, D = ds[k] := ⟨_, rfl⟩
      rw [← hD] at d0 d1 d2 d4 hfit
      obtain ⟨xk, xn, pv, pds, od1, kv, ks⟩ := D
      have hp := hfit.p
      have hfk := hfit.k
      have hfo := hfit.kold
      have hnn := hfit.nn
      simp only at hp hfk hfo hnn d0 d1 d2 d4
      obtain ⟨Ap, cp, rfl, -, -⟩ := hp.1.form
      obtain ⟨np, hnp⟩ : ∃ y, y = pds.length := ⟨_, rfl⟩
      rw [← hnp] at hp d2
      obtain ⟨ak, ck, rfl, _, _⟩ := hfk.form
      obtain ⟨mk, hmk⟩ : ∃ mk, mk = ks.length := ⟨_, rfl⟩
      rw [← hmk] at hfk hfo d4
      -- the cells of this step, in every world behind
      have HDC := Lib.hid (show ∀ w', Below W.heap.size W w' → w'.cell? ⟨b0, o0 + k * 5, none⟩ = some (.int .i64 xk) ∧ w'.cell? ⟨b0, o0 + k * 5 + 1, none⟩ = some (.int .i64 xn) ∧ w'.cell? ⟨b0, o0 + k * 5 + 4, none⟩ = some (.slice ak mk ck) from fun w' hb' => by
        have e : w'.heap[b0]? = wr.heap[b0]? := (hb'.block b0 hb0).trans (hbe.block b0 hb0).symm
        exact ⟨(World.cell?_of_block e).trans d0, (World.cell?_of_block e).trans d1, (World.cell?_of_block e).trans d4⟩)
      have HKS := Lib.hid hfk
      have HKO := Lib.hid hfo
      have HNN := Lib.hid hnn
      have HFEW := Lib.hid (few6_any W wr _ pds 6 false hp hbe (by decide))
      have H8 := Lib.hid (few_b8 (n := 6) (odd := false) hp.2)
      have H6 := Lib.hid (few_len pds 6 false)
      obtain ⟨ps, hps⟩ : ∃ ps, ps = fewP pds 6 false := ⟨_, rfl⟩
      rw [← hps] at HFEW H8 H6
      have HLT := Lib.hid hlt
      clear hkl hbe hb0 hfit hD hp hnp hps hlt hk hki hm hfk hfo hnn hmk d0 d1 d4 hsl hpk
      rename_i x1 x2
      clear x1 x2
      go_wp2_with fail
      refine HFEW.out.mono ?_
      rintro e w5 ⟨A5, q5, rfl, hq5, a5⟩
      obtain ⟨P, hP⟩ : ∃ P, P = ps.length := ⟨_, rfl⟩
      rw [← hP] at hq5 ⊢
      have HI5 := Lib.hid (HI.out.step a5)
      have HQ5 := Lib.hid (show QRd w5 (UZ Fk l b z) (.slice A5 P q5) ps from hq5 _ HI.out.bdz)
      have HLV := Lib.hid (live_dk d N Fk s w5 HI5.out.rs.dk)
      have d0 := (HDC.out w5 HI5.out.adv.toBelow).1
      obtain ⟨lv, hlv⟩ : ∃ lv, lv = !s.dead := ⟨_, rfl⟩
      rw [← hlv] at HLV
      have HLIV := Lib.hid hlv
      clear hq5 a5 hP d2 hlv
      go_wp2_with fail
      refine HLV.out.mono ?_
      rintro e w6 ⟨rfl, rfl⟩
      go_upto_region 13 with (fail)
      go_cut [73] (fun t73 wr' => t73 = .int .i64 xk ∧ w5 = wr')
      case first =>
        go_wp2_with fail
        go_meet
        exact ⟨rfl, rfl⟩
      case rest =>
      obtain ⟨rfl, rfl⟩ := hcut
      rename_i Kx hKx
      refine hKx _ _ ?_
      clear hKx Kx
      by_cases h0 : xk = 0
      · subst h0
        as_aux_lemma =>
          have hpI : (p : Int) ≤ 35 := by have := HPK.out; have := HK.out; omega
          obtain ⟨An, qn, cN, rN⟩ := HI5.out.st.row (i := p) (by have := HSL.out; omega)
          obtain ⟨x, hx⟩ : ∃ x, x = SL[p]'(by have := HSL.out; omega) := ⟨_, rfl⟩
          have HGL := Lib.hid (show SL.getLast? = some x by
            rw [List.getLast?_eq_getElem?, HSL.out, Nat.add_sub_cancel, List.getElem?_eq_getElem (by have := HSL.out; omega), hx])
          have HXL := Lib.hid (show x.length = H from HI5.out.st.len x (by rw [hx]; exact List.getElem_mem _))
          rw [← hx] at rN
          have HRN := Lib.hid (show RwR w5 (UZ Fk l b z) (.slice An H qn) x from rN)
          have HWR := Lib.hid (gwrite_lg l b d m N g Fk s A5 P q5 ps w5 HI5.out.rs (HKI.out.gok HN.out (by have := HK.out; omega)) (HQ5.out.adv (Adv.refl Nul w5) (fun _ x => x.elim) (fun _ x => .inl (.inl x))) H8.out)
          have HHW := Lib.hid (HKI.out.write HN.out (by have := HK.out; omega) H8.out)
          have HTX := Lib.hid (fun (hd : s.dead = false) (e : (writeG s m N g ps).2 = 7) => HKI.out.tx hd e)
          obtain ⟨r, hr⟩ : ∃ r, r = writeG s m N g ps := ⟨_, rfl⟩
          rw [← hr] at HWR HHW HTX
          obtain ⟨⟨s1, g1⟩, e1⟩ := r
          have HI5M := Lib.hid (show ∀ F7 w7, Rs w7 F7 d l b m N s1 g1 → Adv (UF Fk l b) w5 (UF F7 l b) w7 → KpM W d l b m N H SL s1 g1 F7 z (.slice (some ⟨z, o, none⟩) (p + 1) cap) w7 ∧ RwR w7 (UZ F7 l b z) (.slice An H qn) x ∧ QRd w7 (UZ F7 l b z) (.slice A5 P q5) ps from fun F7 w7 r a =>
            ⟨HI5.out.call r a, HRN.out.adv a (fun _ y => .inl y) (fun j hj => by
              rcases hj with hj | hj
              · rcases a.into j hj with h | h
                · exact .inl (.inl h)
                · exact .inr h
              · exact .inl (.inr hj)), HQ5.out.adv a (fun _ y => .inl y) (fun j hj => by
              rcases hj with hj | hj
              · rcases a.into j hj with h | h
                · exact .inl (.inl h)
                · exact .inr h
              · exact .inl (.inr hj))⟩)
          clear hx rN hr
          rcases HHW.out with ⟨e0, ki⟩ | ⟨e7, hd, ki⟩ | ⟨er, ki, hor⟩
          · -- it went well
            simp only at e0
            subst e0
            have HKN := Lib.hid (show KI s1 g1 m N (k + 1) (SL ++ [homesL s1 m g1 (N - 2 - m)]) from ki)
            clear ki HHW HTX
            go_wp2_with fail
            refine HWR.out.mono ?_
            rintro e w7 ⟨rfl, F7, r7, a7⟩
            have HI7 := Lib.hid (HI5M.out F7 w7 r7 a7).1
            have HOM7 := Lib.hid (homes_p l b d m N H g1 F7 s1 (UZ F7 l b z) w7 HI7.out.rs HN.out HKN.out.aok HI7.out.bdz HH.out)
            clear r7 a7 cN
            go_wp2_with fail
            refine HOM7.out.mono ?_
            rintro e w8 ⟨A8, q8, rfl, r8, a8⟩
            have HI8 := Lib.hid ((HI7.out.step a8).step (F' := Nul) ((Adv.refl Nul _).alloc (.cells #[.slice A8 H q8] 50)))
            have HR8 := Lib.hid (show RwR (w8.alloc (.cells #[.slice A8 H q8] 50)) (UZ F7 l b z) (.slice A8 H q8) (homesL s1 m g1 (N - 2 - m)) from r8.step (F' := Nul) ((Adv.refl Nul _).alloc _))
            have HY8 := Lib.hid (show (w8.alloc (.cells #[.slice A8 H q8] 50)).cell? ⟨w8.heap.size, 0, none⟩ = some (.slice A8 H q8) from (Blk.new w8 50 #[.slice A8 H q8]).cell 0)
            have HHL := Lib.hid (show (homesL s1 m g1 (N - 2 - m)).length = H from (homesL_len _ _ _ _).trans HH.out)
            have HNL := Lib.hid (show (SL ++ [homesL s1 m g1 (N - 2 - m)]).length = p + 1 + 1 by rw [List.length_append, HSL.out]; rfl)
            clear r8 a8
            go_wp2_with (first
              | (at_builtin; refine op_append_st rfl (.tmp 154) (.tmp 157) rfl HI8.out.st HI8.out.rs.bd rfl rfl HY8.out HR8.out HHL.out (by have := HSL.out; have := HPK.out; have := HK.out; omega) ?_; intro v9 w9 z9 hst9 ha9; have HI9 := Lib.hid (HI8.out.push hst9 ha9); obtain ⟨o9, c9, hv9, -, -⟩ := hst9.form; rw [HNL.out] at hv9; subst hv9; clear hst9 ha9)
              | fail)
            have hlt := HLT.out
            have hpk := HPK.out
            exact ⟨⟨k + 1, s1, g1, F7, l, b, z9, o9, p + 1, c9, _, ⟨by omega, by omega, HNL.out⟩, by go_num, rfl, rfl, HKN.out, HI9.out⟩, by simp [intOf] <;> omega⟩
          · -- the power went off in it
            simp only at e7
            subst e7
            obtain rfl : lv = true := by rw [HLIV.out, hd]; rfl
            have HT := Lib.hid (HTX.out hd rfl)
            have HKN := Lib.hid (show KI s1 g1 m N (k + 1) (SL ++ [overL x ps]) from ki _)
            clear ki HHW HTX hd
            go_wp2_with fail
            refine HWR.out.mono ?_
            rintro e w7 ⟨rfl, F7, r7, a7⟩
            obtain ⟨i7, n7, p7⟩ := HI5M.out F7 w7 r7 a7
            have HI7 := Lib.hid i7
            have HOV := Lib.hid (over_p (.slice An H qn) (.slice A5 P q5) (UZ F7 l b z) x H ps w7 n7 p7 i7.bdz HXL.out (by have := HH1.out; omega) (by have := HH1.out; omega) (by rw [← HHI.out]; exact HT.out))
            clear r7 a7 i7 n7 p7 cN
            go_wp2_with fail
            refine HOV.out.mono ?_
            rintro e w8 ⟨A8, q8, rfl, r8, a8⟩
            have HI8 := Lib.hid ((HI7.out.step a8).step (F' := Nul) ((Adv.refl Nul _).alloc (.cells #[.slice A8 H q8] 50)))
            have HR8 := Lib.hid (show RwR (w8.alloc (.cells #[.slice A8 H q8] 50)) (UZ F7 l b z) (.slice A8 H q8) (overL x ps) from r8.step (F' := Nul) ((Adv.refl Nul _).alloc _))
            have HY8 := Lib.hid (show (w8.alloc (.cells #[.slice A8 H q8] 50)).cell? ⟨w8.heap.size, 0, none⟩ = some (.slice A8 H q8) from (Blk.new w8 50 #[.slice A8 H q8]).cell 0)
            have HHL := Lib.hid (show (overL x ps).length = H from (over_len _ _).trans HXL.out)
            have HNL := Lib.hid (show (SL ++ [overL x ps]).length = p + 1 + 1 by rw [List.length_append, HSL.out]; rfl)
            clear r8 a8
            go_wp2_with (first
              | (at_builtin; refine op_append_st rfl (.tmp 164) (.tmp 168) rfl HI8.out.st HI8.out.rs.bd rfl rfl HY8.out HR8.out HHL.out (by have := HSL.out; have := HPK.out; have := HK.out; omega) ?_; intro v9 w9 z9 hst9 ha9; have HI9 := Lib.hid (HI8.out.push hst9 ha9); obtain ⟨o9, c9, hv9, -, -⟩ := hst9.form; rw [HNL.out] at hv9; subst hv9; clear hst9 ha9)
              | fail)
            have hlt := HLT.out
            have hpk := HPK.out
            exact ⟨⟨k + 1, s1, g1, F7, l, b, z9, o9, p + 1, c9, _, ⟨by omega, by omega, HNL.out⟩, by go_num, rfl, rfl, HKN.out, HI9.out⟩, by simp [intOf] <;> omega⟩
          · -- refused
            obtain ⟨rfl, rfl⟩ := Prod.mk.inj er
            have HKN := Lib.hid ki
            clear ki HHW HTX er
            rcases hor with ⟨e7, hd⟩ | ⟨e28, hd, hgl⟩
            · simp only at e7
              subst e7
              obtain rfl : lv = false := by rw [HLIV.out, hd]; rfl
              have HD := Lib.hid hd
              clear hd
              go_wp2_with fail
              refine HWR.out.mono ?_
              rintro e w7 ⟨rfl, F7, r7, a7⟩
              obtain ⟨i7, n7, p7⟩ := HI5M.out F7 w7 r7 a7
              have HI7 := Lib.hid i7
              have HN7 := Lib.hid n7
              have HOM7 := Lib.hid (homes_p l b d m N H g1 F7 s1 (UZ F7 l b z) w7 HI7.out.rs HN.out HKN.out.aok HI7.out.bdz HH.out)
              clear r7 a7 i7 n7 p7 cN
              go_wp2_with fail
              refine HOM7.out.mono ?_
              rintro e w8 ⟨A8, q8, rfl, r8, a8⟩
              have HI8 := Lib.hid (HI7.out.step a8)
              have HSM := Lib.hid (same_dec (.slice A8 H q8) (.slice An H qn) _ _ _ _ w8 r8 (HN7.out.step a8) (by rw [homesL_len, HXL.out]; exact HH.out.symm) (by rw [homesL_len]; have := HNB.out; omega))
              obtain ⟨bb, hbb⟩ : ∃ bb, bb = decide (homesL s1 m g1 (N - 2 - m) = x) := ⟨_, rfl⟩
              rw [← hbb] at HSM
              clear r8 a8 hbb
              cases bb
              all_goals
                go_wp2_with (first
                  | (go_at_call 33; refine HSM.out.mono ?_; rintro e w9 ⟨rfl, j9, hw9⟩; have HI9 := Lib.hid (show KpM W d l b m N H SL s1 g1 F7 z (.slice (some ⟨z, o, none⟩) (p + 1) cap) w9 by rw [hw9]; exact HI8.out.step ((Adv.refl Nul w8).drewN j9)); clear hw9)
                  | (go_at_call 31; refine (live_dk d N F7 s1 w9 HI9.out.rs.dk).mono ?_; rintro e w10 ⟨rfl, rfl⟩; rw [HD.out]; simp only [Bool.not_true])
                  | fail)
                have hlt := HLT.out
                have hpk := HPK.out
                exact ⟨⟨k + 1, s1, g1, F7, l, b, z, o, p, cap, SL, ⟨by omega, by omega, HSL.out⟩, by go_num, rfl, rfl, HKN.out, HI9.out⟩, by simp [intOf] <;> omega⟩
            · obtain rfl : lv = true := by rw [HLIV.out, hd]; rfl
              have hhx : homesL s1 m g1 (N - 2 - m) = x := Option.some.inj (hgl.symm.trans HGL.out)
              have HHX := Lib.hid hhx
              clear hd hgl hhx
              simp only at e28
              rcases e28 with rfl | rfl
              all_goals
                go_wp2_with fail
                refine HWR.out.mono ?_
                rintro e w7 ⟨rfl, F7, r7, a7⟩
                obtain ⟨i7, n7, p7⟩ := HI5M.out F7 w7 r7 a7
                have HI7 := Lib.hid i7
                have HN7 := Lib.hid n7
                have HOM7 := Lib.hid (homes_p l b d m N H g1 F7 s1 (UZ F7 l b z) w7 HI7.out.rs HN.out HKN.out.aok HI7.out.bdz HH.out)
                clear r7 a7 i7 n7 p7 cN
                go_wp2_with fail
                refine HOM7.out.mono ?_
                rintro e w8 ⟨A8, q8, rfl, r8, a8⟩
                have HI8 := Lib.hid (HI7.out.step a8)
                have HSM := Lib.hid (same_dec (.slice A8 H q8) (.slice An H qn) _ _ _ _ w8 r8 (HN7.out.step a8) (by rw [homesL_len, HXL.out]; exact HH.out.symm) (by rw [homesL_len]; have := HNB.out; omega))
                rw [decide_eq_true HHX.out] at HSM
                clear r8 a8
                go_wp2_with fail
                refine HSM.out.mono ?_
                rintro e w9 ⟨rfl, j9, hw9⟩
                have HI9 := Lib.hid (show KpM W d l b m N H SL s1 g1 F7 z (.slice (some ⟨z, o, none⟩) (p + 1) cap) w9 by rw [hw9]; exact HI8.out.step ((Adv.refl Nul w8).drewN j9))
                clear hw9
                go_wp2_with fail
                have hlt := HLT.out
                have hpk := HPK.out
                exact ⟨⟨k + 1, s1, g1, F7, l, b, z, o, p, cap, SL, ⟨by omega, by omega, HSL.out⟩, by go_num, rfl, rfl, HKN.out, HI9.out⟩, by simp [intOf] <;> omega⟩
      · have h0' : (xk == 0) = false := beq_eq_false_iff_ne.2 h0
        by_cases h1 : xk = 1
        · subst h1
          as_aux_lemma =>
            have hpI : (p : Int) ≤ 35 := by have := HPK.out; have := HK.out; omega
            have HGS := Lib.hid (gsync_lg l b d m N g Fk s w5 HI5.out.rs)
            have HHW := Lib.hid (HKI.out.sync HN.out (by have := HK.out; omega))
            obtain ⟨r, hr⟩ : ∃ r, r = syncG s g := ⟨_, rfl⟩
            rw [← hr] at HGS HHW
            obtain ⟨⟨s1, g1⟩, e1⟩ := r
            clear hr
            rcases HHW.out with ⟨e0, x, hgl, hhx, ki⟩ | ⟨e7, ki⟩
            · simp only at e0
              subst e0
              have HKN := Lib.hid (show KI s1 g1 m N (k + 1) [x] from ki)
              have HHX := Lib.hid (show homesL s1 m g1 (N - 2 - m) = x from hhx)
              have HXL := Lib.hid (show x.length = H by rw [← HHX.out, homesL_len]; exact HH.out)
              have HGL := Lib.hid hgl
              clear ki hhx hgl HHW
              go_wp2_with fail
              refine HGS.out.mono ?_
              rintro e w7 ⟨rfl, F7, r7, a7⟩
              have HI7 := Lib.hid (HI5.out.call (show Rs w7 F7 d l b m N s1 g1 from r7) a7)
              obtain ⟨st1, hc1, hc2⟩ := HI7.out.st.last HSL.out HGL.out
              obtain ⟨An, qn, cN, rN⟩ := st1.row (i := 0) (by simp)
              have HI7D := Lib.hid (show KpM W d l b m N H [x] s1 g1 F7 z (.slice (some ⟨z, o + p, none⟩) 1 (cap - p)) w7.drew from (KpM.step ⟨HI7.out.rs, st1, HI7.out.adv, HI7.out.low, HI7.out.zlow⟩ (Adv.refl Nul w7).drew))
              have HRND := Lib.hid (show RwR w7.drew (UZ F7 l b z) (.slice An H qn) x from RwR.step rN (Adv.refl Nul w7).drew)
              have K7 := Lib.hid (show w7.drew.cell? ⟨z, o + p, none⟩ = some (.slice An H qn) from cN)
              have HZLT := Lib.hid (show z < w7.drew.heap.size from HI7D.out.st.lt)
              have HOM7 := Lib.hid (fun (w' : World) (hm : KpM W d l b m N H [x] s1 g1 F7 z (.slice (some ⟨z, o + p, none⟩) 1 (cap - p)) w') => homes_p l b d m N H g1 F7 s1 (UZ F7 l b z) w' hm.rs HN.out HKN.out.aok hm.bdz HH.out)
              have hcapI : (cap : Int) ≤ 9223372036854775807 := by unfold maxLen at hc2; omega
              clear r7 a7 st1 cN rN hc2
              go_upto_region 45 with (fail)
              refine wp_region_held_drew (S := (fun w' => w'.cell? ⟨z, o + p, none⟩ = some (.slice An H qn))) (by kernel_rfl) (by first | with_reducible exact K9.out | with_reducible exact K8.out | with_reducible exact K7.out) (fun hHeld => ?_)
              clear hHeld
              refine wpAnyH_take (i := 0) (oi := ⟨some 199, .move (.tmp 9), 31, "law.go:140", #[], none⟩) (v := ?_) rfl (by kernel_rfl) (by kernel_rfl) (by kernel_rfl) (fun _ _ _ h => h) (Or.inl ⟨by rfl, ?_⟩) (by first | with_reducible exact K9.out | with_reducible exact K8.out | with_reducible exact K7.out) ?_
              rotate_left
              · (intro w hSw; obtain z0 := hSw; go_simp <;> with_reducible rfl)
              simp only [Act.put, List.setIfInBounds_toArray, List.set_cons_zero, List.set_cons_succ]
              refine wpAnyH_take (i := 2) (oi := ⟨some 201, .move (.tmp 11), 61, "law.go:140", #[], none⟩) (v := ?_) rfl (by kernel_rfl) (by kernel_rfl) (by kernel_rfl) (fun _ _ _ h => h) (Or.inl ⟨by rfl, ?_⟩) (by first | with_reducible exact K9.out | with_reducible exact K8.out | with_reducible exact K7.out) ?_
              rotate_left
              · (intro w hSw; obtain z0 := hSw; go_simp <;> with_reducible rfl)
              simp only [Act.put, List.setIfInBounds_toArray, List.set_cons_zero, List.set_cons_succ]
              refine wpAnyH_take (i := 3) (oi := ⟨some 202, .indexAddr 61 (.tmp 201) (.const (Go.Value.int Go.IntKind.i64 0)), 0, "law.go:140", #[⟨2, .data⟩], none⟩) (v := ?_) rfl (by kernel_rfl) (by kernel_rfl) (by kernel_rfl) (fun _ _ _ h => h) (Or.inl ⟨by rfl, ?_⟩) (by first | with_reducible exact K9.out | with_reducible exact K8.out | with_reducible exact K7.out) ?_
              rotate_left
              · (intro w hSw; obtain z0 := hSw; go_simp <;> with_reducible rfl)
              simp only [Act.put, List.setIfInBounds_toArray, List.set_cons_zero, List.set_cons_succ]
              refine wpAnyH_take (i := 4) (oi := ⟨some 203, .load 50 (.tmp 202), 50, "law.go:140", #[⟨3, .data⟩], none⟩) (v := ?_) rfl (by kernel_rfl) (by kernel_rfl) (by kernel_rfl) (fun _ _ _ h => h) (Or.inl ⟨by rfl, ?_⟩) (by first | with_reducible exact K9.out | with_reducible exact K8.out | with_reducible exact K7.out) ?_
              rotate_left
              · (intro w hSw; obtain z0 := hSw; go_simp <;> with_reducible rfl)
              simp only [Act.put, List.setIfInBounds_toArray, List.set_cons_zero, List.set_cons_succ]
              refine wpAnyH_ready (rs := [1]) (by kernel_rfl) (by simp) ?_
              refine AllReadyH.cons (o := ⟨some 200, .call { callee := Go.Callee.value (.func 30), args := #[Go.Operand.tmp 199], argTypes := #[31] }, 50, "law.go:140", #[⟨0, .data⟩], none⟩) rfl (fun K hK => ?_) AllReadyH.nil
              go_simp
              refine (HOM7.out _ HI7D.out).mono ?_
              rintro e w8 ⟨A8, q8, rfl, r8, a8⟩
              have HI8 := Lib.hid (HI7D.out.step a8)
              have HRN8 := Lib.hid (HRND.out.step a8)
              have K8 := Lib.hid (cell_over a8 HZLT.out K7.out)
              have HSM := Lib.hid (same_dec (.slice A8 H q8) (.slice An H qn) _ _ _ _ w8 r8 HRN8.out (by rw [homesL_len, HXL.out]; exact HH.out.symm) (by rw [homesL_len]; have := HNB.out; omega))
              rw [decide_eq_true HHX.out] at HSM
              clear r8 a8
              go_wp2_with fail
              refine hK.out _ _ (by first | with_reducible exact K9.out | with_reducible exact K8.out | with_reducible exact K7.out) (fun hHeld => ?_)
              clear hK K hHeld
              try simp only [Act.put, List.setIfInBounds_toArray, List.set_cons_zero, List.set_cons_succ]
              refine wpAnyH_ready (rs := [5]) (by kernel_rfl) (by simp) ?_
              refine AllReadyH.cons (o := ⟨some 204, .call { callee := Go.Callee.value (.func 33), args := #[Go.Operand.tmp 200, Go.Operand.tmp 203], argTypes := #[50, 50] }, 4, "law.go:140", #[⟨1, .data⟩, ⟨4, .data⟩, ⟨1, .chain⟩], none⟩) rfl (fun K hK => ?_) AllReadyH.nil
              go_simp
              refine HSM.out.mono ?_
              rintro e w9 ⟨rfl, j9, hw9⟩
              have HI9 := Lib.hid (show KpM W d l b m N H [x] s1 g1 F7 z (.slice (some ⟨z, o + p, none⟩) 1 (cap - p)) w9 by rw [hw9]; exact HI8.out.step ((Adv.refl Nul w8).drewN j9))
              have K9 := Lib.hid (show w9.cell? ⟨z, o + p, none⟩ = some (.slice An H qn) by rw [hw9]; exact K8.out)
              clear hw9
              go_wp2_with fail
              refine hK.out _ _ (by first | with_reducible exact K9.out | with_reducible exact K8.out | with_reducible exact K7.out) (fun hHeld => ?_)
              clear hK K hHeld
              try simp only [Act.put, List.setIfInBounds_toArray, List.set_cons_zero, List.set_cons_succ]
              refine wpAnyH_take (i := 6) (oi := ⟨some 205, .unOp Go.UnOp.not 4 (.tmp 204), 4, "law.go:140", #[⟨5, .data⟩], none⟩) (v := ?_) rfl (by kernel_rfl) (by kernel_rfl) (by kernel_rfl) (fun _ _ _ h => h) (Or.inl ⟨by rfl, ?_⟩) (by first | with_reducible exact K9.out | with_reducible exact K8.out | with_reducible exact K7.out) ?_
              rotate_left
              · (intro w hSw; obtain z0 := hSw; go_simp <;> with_reducible rfl)
              simp only [Act.put, List.setIfInBounds_toArray, List.set_cons_zero, List.set_cons_succ]
              refine wpAnyH_done (by kernel_rfl) ?_ _
              go_wp2_with fail
              have hlt := HLT.out
              have hpk := HPK.out
              exact ⟨⟨k + 1, s1, g1, F7, l, b, z, o + p, 0, cap - p, [x], ⟨by omega, by omega, rfl⟩, by go_num, rfl, rfl, HKN.out, HI9.out⟩, by simp [intOf] <;> omega⟩
            · simp only at e7
              subst e7
              have HKN := Lib.hid (show KI s1 g1 m N (k + 1) SL from ki)
              clear ki HHW
              go_wp2_with fail
              refine HGS.out.mono ?_
              rintro e w7 ⟨rfl, F7, r7, a7⟩
              have HI7 := Lib.hid (HI5.out.call (show Rs w7 F7 d l b m N s1 g1 from r7) a7)
              clear r7 a7
              go_wp2_with fail
              have hlt := HLT.out
              have hpk := HPK.out
              exact ⟨⟨k + 1, s1, g1, F7, l, b, z, o, p, cap, SL, ⟨by omega, by omega, HSL.out⟩, by go_num, rfl, rfl, HKN.out, HI7.out⟩, by simp [intOf] <;> omega⟩
        · have h1' : (xk == 1) = false := beq_eq_false_iff_ne.2 h1
          by_cases h2 : xk = 2
          · subst h2
            as_aux_lemma =>
              have hpI : (p : Int) ≤ 35 := by have := HPK.out; have := HK.out; omega
              have HGS := Lib.hid (gcheck_lg l b d m N g Fk s w5 HI5.out.rs HN.out HKI.out.aok (by have := HKI.out.q; have := HK.out; omega) (by have := HKI.out.gen; have := HK.out; omega) (by have := HKI.out.nx; have := HK.out; omega) (by have := HKI.out.ep; have := HK.out; omega))
              have HHW := Lib.hid (HKI.out.check HN.out (by have := HK.out; omega))
              obtain ⟨r, hr⟩ : ∃ r, r = checkG s m N g := ⟨_, rfl⟩
              rw [← hr] at HGS HHW
              obtain ⟨⟨s1, g1⟩, e1⟩ := r
              clear hr
              rcases HHW.out with ⟨e0, x, hgl, hhx, ki⟩ | ⟨e7, ki⟩
              · simp only at e0
                subst e0
                have HKN := Lib.hid (show KI s1 g1 m N (k + 1) [x] from ki)
                have HHX := Lib.hid (show homesL s1 m g1 (N - 2 - m) = x from hhx)
                have HXL := Lib.hid (show x.length = H by rw [← HHX.out, homesL_len]; exact HH.out)
                have HGL := Lib.hid hgl
                clear ki hhx hgl HHW
                go_wp2_with fail
                refine HGS.out.mono ?_
                rintro e w7 ⟨rfl, F7, r7, a7⟩
                have HI7 := Lib.hid (HI5.out.call (show Rs w7 F7 d l b m N s1 g1 from r7) a7)
                obtain ⟨st1, hc1, hc2⟩ := HI7.out.st.last HSL.out HGL.out
                obtain ⟨An, qn, cN, rN⟩ := st1.row (i := 0) (by simp)
                have HI7D := Lib.hid (show KpM W d l b m N H [x] s1 g1 F7 z (.slice (some ⟨z, o + p, none⟩) 1 (cap - p)) w7.drew from (KpM.step ⟨HI7.out.rs, st1, HI7.out.adv, HI7.out.low, HI7.out.zlow⟩ (Adv.refl Nul w7).drew))
                have HRND := Lib.hid (show RwR w7.drew (UZ F7 l b z) (.slice An H qn) x from RwR.step rN (Adv.refl Nul w7).drew)
                have K7 := Lib.hid (show w7.drew.cell? ⟨z, o + p, none⟩ = some (.slice An H qn) from cN)
                have HZLT := Lib.hid (show z < w7.drew.heap.size from HI7D.out.st.lt)
                have HOM7 := Lib.hid (fun (w' : World) (hm : KpM W d l b m N H [x] s1 g1 F7 z (.slice (some ⟨z, o + p, none⟩) 1 (cap - p)) w') => homes_p l b d m N H g1 F7 s1 (UZ F7 l b z) w' hm.rs HN.out HKN.out.aok hm.bdz HH.out)
                have hcapI : (cap : Int) ≤ 9223372036854775807 := by unfold maxLen at hc2; omega
                clear r7 a7 st1 cN rN hc2
                go_upto_region 45 with (fail)
                refine wp_region_held_drew (S := (fun w' => w'.cell? ⟨z, o + p, none⟩ = some (.slice An H qn))) (by kernel_rfl) (by first | with_reducible exact K9.out | with_reducible exact K8.out | with_reducible exact K7.out) (fun hHeld => ?_)
                clear hHeld
                refine wpAnyH_take (i := 0) (oi := ⟨some 199, .move (.tmp 9), 31, "law.go:140", #[], none⟩) (v := ?_) rfl (by kernel_rfl) (by kernel_rfl) (by kernel_rfl) (fun _ _ _ h => h) (Or.inl ⟨by rfl, ?_⟩) (by first | with_reducible exact K9.out | with_reducible exact K8.out | with_reducible exact K7.out) ?_
                rotate_left
                · (intro w hSw; obtain z0 := hSw; go_simp <;> with_reducible rfl)
                simp only [Act.put, List.setIfInBounds_toArray, List.set_cons_zero, List.set_cons_succ]
                refine wpAnyH_take (i := 2) (oi := ⟨some 201, .move (.tmp 11), 61, "law.go:140", #[], none⟩) (v := ?_) rfl (by kernel_rfl) (by kernel_rfl) (by kernel_rfl) (fun _ _ _ h => h) (Or.inl ⟨by rfl, ?_⟩) (by first | with_reducible exact K9.out | with_reducible exact K8.out | with_reducible exact K7.out) ?_
                rotate_left
                · (intro w hSw; obtain z0 := hSw; go_simp <;> with_reducible rfl)
                simp only [Act.put, List.setIfInBounds_toArray, List.set_cons_zero, List.set_cons_succ]
                refine wpAnyH_take (i := 3) (oi := ⟨some 202, .indexAddr 61 (.tmp 201) (.const (Go.Value.int Go.IntKind.i64 0)), 0, "law.go:140", #[⟨2, .data⟩], none⟩) (v := ?_) rfl (by kernel_rfl) (by kernel_rfl) (by kernel_rfl) (fun _ _ _ h => h) (Or.inl ⟨by rfl, ?_⟩) (by first | with_reducible exact K9.out | with_reducible exact K8.out | with_reducible exact K7.out) ?_
                rotate_left
                · (intro w hSw; obtain z0 := hSw; go_simp <;> with_reducible rfl)
                simp only [Act.put, List.setIfInBounds_toArray, List.set_cons_zero, List.set_cons_succ]
                refine wpAnyH_take (i := 4) (oi := ⟨some 203, .load 50 (.tmp 202), 50, "law.go:140", #[⟨3, .data⟩], none⟩) (v := ?_) rfl (by kernel_rfl) (by kernel_rfl) (by kernel_rfl) (fun _ _ _ h => h) (Or.inl ⟨by rfl, ?_⟩) (by first | with_reducible exact K9.out | with_reducible exact K8.out | with_reducible exact K7.out) ?_
                rotate_left
                · (intro w hSw; obtain z0 := hSw; go_simp <;> with_reducible rfl)
                simp only [Act.put, List.setIfInBounds_toArray, List.set_cons_zero, List.set_cons_succ]
                refine wpAnyH_ready (rs := [1]) (by kernel_rfl) (by simp) ?_
                refine AllReadyH.cons (o := ⟨some 200, .call { callee := Go.Callee.value (.func 30), args := #[Go.Operand.tmp 199], argTypes := #[31] }, 50, "law.go:140", #[⟨0, .data⟩], none⟩) rfl (fun K hK => ?_) AllReadyH.nil
                go_simp
                refine (HOM7.out _ HI7D.out).mono ?_
                rintro e w8 ⟨A8, q8, rfl, r8, a8⟩
                have HI8 := Lib.hid (HI7D.out.step a8)
                have HRN8 := Lib.hid (HRND.out.step a8)
                have K8 := Lib.hid (cell_over a8 HZLT.out K7.out)
                have HSM := Lib.hid (same_dec (.slice A8 H q8) (.slice An H qn) _ _ _ _ w8 r8 HRN8.out (by rw [homesL_len, HXL.out]; exact HH.out.symm) (by rw [homesL_len]; have := HNB.out; omega))
                rw [decide_eq_true HHX.out] at HSM
                clear r8 a8
                go_wp2_with fail
                refine hK.out _ _ (by first | with_reducible exact K9.out | with_reducible exact K8.out | with_reducible exact K7.out) (fun hHeld => ?_)
                clear hK K hHeld
                try simp only [Act.put, List.setIfInBounds_toArray, List.set_cons_zero, List.set_cons_succ]
                refine wpAnyH_ready (rs := [5]) (by kernel_rfl) (by simp) ?_
                refine AllReadyH.cons (o := ⟨some 204, .call { callee := Go.Callee.value (.func 33), args := #[Go.Operand.tmp 200, Go.Operand.tmp 203], argTypes := #[50, 50] }, 4, "law.go:140", #[⟨1, .data⟩, ⟨4, .data⟩, ⟨1, .chain⟩], none⟩) rfl (fun K hK => ?_) AllReadyH.nil
                go_simp
                refine HSM.out.mono ?_
                rintro e w9 ⟨rfl, j9, hw9⟩
                have HI9 := Lib.hid (show KpM W d l b m N H [x] s1 g1 F7 z (.slice (some ⟨z, o + p, none⟩) 1 (cap - p)) w9 by rw [hw9]; exact HI8.out.step ((Adv.refl Nul w8).drewN j9))
                have K9 := Lib.hid (show w9.cell? ⟨z, o + p, none⟩ = some (.slice An H qn) by rw [hw9]; exact K8.out)
                clear hw9
                go_wp2_with fail
                refine hK.out _ _ (by first | with_reducible exact K9.out | with_reducible exact K8.out | with_reducible exact K7.out) (fun hHeld => ?_)
                clear hK K hHeld
                try simp only [Act.put, List.setIfInBounds_toArray, List.set_cons_zero, List.set_cons_succ]
                refine wpAnyH_take (i := 6) (oi := ⟨some 205, .unOp Go.UnOp.not 4 (.tmp 204), 4, "law.go:140", #[⟨5, .data⟩], none⟩) (v := ?_) rfl (by kernel_rfl) (by kernel_rfl) (by kernel_rfl) (fun _ _ _ h => h) (Or.inl ⟨by rfl, ?_⟩) (by first | with_reducible exact K9.out | with_reducible exact K8.out | with_reducible exact K7.out) ?_
                rotate_left
                · (intro w hSw; obtain z0 := hSw; go_simp <;> with_reducible rfl)
                simp only [Act.put, List.setIfInBounds_toArray, List.set_cons_zero, List.set_cons_succ]
                refine wpAnyH_done (by kernel_rfl) ?_ _
                go_wp2_with fail
                have hlt := HLT.out
                have hpk := HPK.out
                exact ⟨⟨k + 1, s1, g1, F7, l, b, z, o + p, 0, cap - p, [x], ⟨by omega, by omega, rfl⟩, by go_num, rfl, rfl, HKN.out, HI9.out⟩, by simp [intOf] <;> omega⟩
              · simp only at e7
                subst e7
                have HKN := Lib.hid (show KI s1 g1 m N (k + 1) SL from ki)
                clear ki HHW
                go_wp2_with fail
                refine HGS.out.mono ?_
                rintro e w7 ⟨rfl, F7, r7, a7⟩
                have HI7 := Lib.hid (HI5.out.call (show Rs w7 F7 d l b m N s1 g1 from r7) a7)
                clear r7 a7
                go_wp2_with fail
                have hlt := HLT.out
                have hpk := HPK.out
                exact ⟨⟨k + 1, s1, g1, F7, l, b, z, o, p, cap, SL, ⟨by omega, by omega, HSL.out⟩, by go_num, rfl, rfl, HKN.out, HI7.out⟩, by simp [intOf] <;> omega⟩
          · have h2' : (xk == 2) = false := beq_eq_false_iff_ne.2 h2
            by_cases h3 : xk = 3
            · subst h3
              as_aux_lemma =>
                have d1 := (HDC.out w5 HI5.out.adv.toBelow).2.1
                have HFU := Lib.hid (kp_fuse HI5.out xn HNN.out)
                have HKN := Lib.hid (HKI.out.fuse xn HNN.out)
                obtain ⟨s1, hs1⟩ : ∃ s1, s1 = (fuseS s xn).1 := ⟨_, rfl⟩
                rw [← hs1] at HFU HKN
                clear hs1
                go_wp2_with fail
                refine HFU.out.mono ?_
                rintro e w7 ⟨rfl, i7⟩
                have HI7 := Lib.hid i7
                clear i7
                go_wp2_with fail
                have hlt := HLT.out
                have hpk := HPK.out
                exact ⟨⟨k + 1, s1, g, Fk, l, b, z, o, p, cap, SL, ⟨by omega, by omega, HSL.out⟩, by go_num, rfl, rfl, HKN.out, HI7.out⟩, by simp [intOf] <;> omega⟩
            · have h3' : (xk == 3) = false := beq_eq_false_iff_ne.2 h3
              clear h0 h1 h2 h3
              as_aux_lemma =>
                have HI5D := Lib.hid (show KpM W d l b m N H SL s g Fk z (.slice (some ⟨z, o, none⟩) (p + 1) cap) w5.drew from HI5.out.step (Adv.refl Nul w5).drew)
                have HCR := Lib.hid (kp_crash HI5D.out xn HKS.out HKO.out)
                have K7 := Lib.hid (show w5.drew.cell? ⟨b0, o0 + k * 5 + 4, none⟩ = some (.slice ak mk ck) ∧ w5.drew.cell? ⟨b0, o0 + k * 5 + 1, none⟩ = some (.int .i64 xn) from ⟨(HDC.out w5.drew HI5D.out.adv.toBelow).2.2, (HDC.out w5.drew HI5D.out.adv.toBelow).2.1⟩)
                have HC := Lib.hid (HKI.out.crash HN.out (by have := HK.out; omega) ks xn)
                obtain ⟨s1, hs1⟩ : ∃ s1, s1 = crashS s ks xn := ⟨_, rfl⟩
                rw [← hs1] at HCR HC
                clear hs1 d0
                go_upto_region 14 with (fail)
                refine wp_region_held_drew (S := (fun w' => w'.cell? ⟨b0, o0 + k * 5 + 4, none⟩ = some (.slice ak mk ck) ∧ w'.cell? ⟨b0, o0 + k * 5 + 1, none⟩ = some (.int .i64 xn))) (by kernel_rfl) (by first | with_reducible exact K8.out | with_reducible exact K7.out) (fun hHeld => ?_)
                clear hHeld
                refine wpAnyH_take (i := 0) (oi := ⟨some 74, .move (.tmp 7), 24, "law.go:147", #[], none⟩) (v := ?_) rfl (by kernel_rfl) (by kernel_rfl) (by kernel_rfl) (fun _ _ _ h => h) (Or.inl ⟨by rfl, ?_⟩) (by first | with_reducible exact K8.out | with_reducible exact K7.out) ?_
                rotate_left
                · (intro w hSw; obtain ⟨z0, z1⟩ := hSw; go_simp <;> with_reducible rfl)
                simp only [Act.put, List.setIfInBounds_toArray, List.set_cons_zero, List.set_cons_succ]
                refine wpAnyH_take (i := 1) (oi := ⟨some 75, .move (.tmp 2), 22, "law.go:147", #[], none⟩) (v := ?_) rfl (by kernel_rfl) (by kernel_rfl) (by kernel_rfl) (fun _ _ _ h => h) (Or.inl ⟨by rfl, ?_⟩) (by first | with_reducible exact K8.out | with_reducible exact K7.out) ?_
                rotate_left
                · (intro w hSw; obtain ⟨z0, z1⟩ := hSw; go_simp <;> with_reducible rfl)
                simp only [Act.put, List.setIfInBounds_toArray, List.set_cons_zero, List.set_cons_succ]
                refine wpAnyH_take (i := 2) (oi := ⟨some 76, .move (.tmp 12), 3, "law.go:147", #[], none⟩) (v := ?_) rfl (by kernel_rfl) (by kernel_rfl) (by kernel_rfl) (fun _ _ _ h => h) (Or.inl ⟨by rfl, ?_⟩) (by first | with_reducible exact K8.out | with_reducible exact K7.out) ?_
                rotate_left
                · (intro w hSw; obtain ⟨z0, z1⟩ := hSw; go_simp <;> with_reducible rfl)
                simp only [Act.put, List.setIfInBounds_toArray, List.set_cons_zero, List.set_cons_succ]
                refine wpAnyH_take (i := 3) (oi := ⟨some 77, .indexAddr 22 (.tmp 75) (.tmp 76), 0, "law.go:147", #[⟨1, .data⟩, ⟨2, .data⟩], none⟩) (v := ?_) rfl (by kernel_rfl) (by kernel_rfl) (by kernel_rfl) (fun _ _ _ h => h) (Or.inl ⟨by rfl, ?_⟩) (by first | with_reducible exact K8.out | with_reducible exact K7.out) ?_
                rotate_left
                · (intro w hSw; obtain ⟨z0, z1⟩ := hSw; go_simp <;> with_reducible rfl)
                simp only [Act.put, List.setIfInBounds_toArray, List.set_cons_zero, List.set_cons_succ]
                refine wpAnyH_take (i := 4) (oi := ⟨some 78, .fieldAddr 41 (.tmp 77) 4, 0, "law.go:147", #[⟨3, .data⟩], none⟩) (v := ?_) rfl (by kernel_rfl) (by kernel_rfl) (by kernel_rfl) (fun _ _ _ h => h) (Or.inl ⟨by rfl, ?_⟩) (by first | with_reducible exact K8.out | with_reducible exact K7.out) ?_
                rotate_left
                · (intro w hSw; obtain ⟨z0, z1⟩ := hSw; go_simp <;> with_reducible rfl)
                simp only [Act.put, List.setIfInBounds_toArray, List.set_cons_zero, List.set_cons_succ]
                refine wpAnyH_take (i := 5) (oi := ⟨some 79, .load 39 (.tmp 78), 39, "law.go:147", #[⟨4, .data⟩], none⟩) (v := ?_) rfl (by kernel_rfl) (by kernel_rfl) (by kernel_rfl) (fun _ _ _ h => h) (Or.inl ⟨by rfl, ?_⟩) (by first | with_reducible exact K8.out | with_reducible exact K7.out) ?_
                rotate_left
                · (intro w hSw; obtain ⟨z0, z1⟩ := hSw; go_simp <;> with_reducible rfl)
                simp only [Act.put, List.setIfInBounds_toArray, List.set_cons_zero, List.set_cons_succ]
                refine wpAnyH_take (i := 6) (oi := ⟨some 80, .move (.tmp 2), 22, "law.go:147", #[], none⟩) (v := ?_) rfl (by kernel_rfl) (by kernel_rfl) (by kernel_rfl) (fun _ _ _ h => h) (Or.inl ⟨by rfl, ?_⟩) (by first | with_reducible exact K8.out | with_reducible exact K7.out) ?_
                rotate_left
                · (intro w hSw; obtain ⟨z0, z1⟩ := hSw; go_simp <;> with_reducible rfl)
                simp only [Act.put, List.setIfInBounds_toArray, List.set_cons_zero, List.set_cons_succ]
                refine wpAnyH_take (i := 7) (oi := ⟨some 81, .move (.tmp 12), 3, "law.go:147", #[], none⟩) (v := ?_) rfl (by kernel_rfl) (by kernel_rfl) (by kernel_rfl) (fun _ _ _ h => h) (Or.inl ⟨by rfl, ?_⟩) (by first | with_reducible exact K8.out | with_reducible exact K7.out) ?_
                rotate_left
                · (intro w hSw; obtain ⟨z0, z1⟩ := hSw; go_simp <;> with_reducible rfl)
                simp only [Act.put, List.setIfInBounds_toArray, List.set_cons_zero, List.set_cons_succ]
                refine wpAnyH_take (i := 8) (oi := ⟨some 82, .indexAddr 22 (.tmp 80) (.tmp 81), 0, "law.go:147", #[⟨6, .data⟩, ⟨7, .data⟩], none⟩) (v := ?_) rfl (by kernel_rfl) (by kernel_rfl) (by kernel_rfl) (fun _ _ _ h => h) (Or.inl ⟨by rfl, ?_⟩) (by first | with_reducible exact K8.out | with_reducible exact K7.out) ?_
                rotate_left
                · (intro w hSw; obtain ⟨z0, z1⟩ := hSw; go_simp <;> with_reducible rfl)
                simp only [Act.put, List.setIfInBounds_toArray, List.set_cons_zero, List.set_cons_succ]
                refine wpAnyH_take (i := 9) (oi := ⟨some 83, .fieldAddr 41 (.tmp 82) 1, 0, "law.go:147", #[⟨8, .data⟩], none⟩) (v := ?_) rfl (by kernel_rfl) (by kernel_rfl) (by kernel_rfl) (fun _ _ _ h => h) (Or.inl ⟨by rfl, ?_⟩) (by first | with_reducible exact K8.out | with_reducible exact K7.out) ?_
                rotate_left
                · (intro w hSw; obtain ⟨z0, z1⟩ := hSw; go_simp <;> with_reducible rfl)
                simp only [Act.put, List.setIfInBounds_toArray, List.set_cons_zero, List.set_cons_succ]
                refine wpAnyH_take (i := 10) (oi := ⟨some 84, .load 3 (.tmp 83), 3, "law.go:147", #[⟨9, .data⟩], none⟩) (v := ?_) rfl (by kernel_rfl) (by kernel_rfl) (by kernel_rfl) (fun _ _ _ h => h) (Or.inl ⟨by rfl, ?_⟩) (by first | with_reducible exact K8.out | with_reducible exact K7.out) ?_
                rotate_left
                · (intro w hSw; obtain ⟨z0, z1⟩ := hSw; go_simp <;> with_reducible rfl)
                simp only [Act.put, List.setIfInBounds_toArray, List.set_cons_zero, List.set_cons_succ]
                refine wpAnyH_ready (rs := [11]) (by kernel_rfl) (by simp) ?_
                refine AllReadyH.cons (o := ⟨some 85, .call { callee := Go.Callee.value (.func 19), args := #[Go.Operand.tmp 74, Go.Operand.tmp 79, Go.Operand.tmp 84], argTypes := #[24, 39, 3] }, 0, "law.go:147", #[⟨0, .data⟩, ⟨5, .data⟩, ⟨10, .data⟩], none⟩) rfl (fun K hK => ?_) AllReadyH.nil
                go_simp
                refine HCR.out.mono ?_
                rintro e w7 ⟨rfl, i7⟩
                have HI7 := Lib.hid i7
                have K8 := Lib.hid (show w7.cell? ⟨b0, o0 + k * 5 + 4, none⟩ = some (.slice ak mk ck) ∧ w7.cell? ⟨b0, o0 + k * 5 + 1, none⟩ = some (.int .i64 xn) from ⟨(HDC.out w7 HI7.out.adv.toBelow).2.2, (HDC.out w7 HI7.out.adv.toBelow).2.1⟩)
                clear i7
                go_wp2_with fail
                refine hK.out _ _ (by first | with_reducible exact K8.out | with_reducible exact K7.out) (fun hHeld => ?_)
                clear hK K hHeld
                try simp only [Act.put, List.setIfInBounds_toArray, List.set_cons_zero, List.set_cons_succ]
                refine wpAnyH_done (by kernel_rfl) ?_ _
                have HOP1 := Lib.hid (gopen_dk d N Fk s1 (m : Int) w7 HI7.out.rs.dk HC.out.sb (by have := HNB.out; omega) (by omega) (by have := HN.out; omega))
                go_wp2_with fail
                refine HOP1.out.mono ?_
                intro e w8 h8
                rcases h8 with ⟨hb, -⟩ | ⟨-, ht, -⟩ | ⟨-, -, l1, b1, rfl, r8, nw8, a8⟩
                · exact absurd (by have := HN.out; omega) hb
                · rw [Int.toNat_natCast] at ht
                  have := HC.out.top
                  omega
                rw [Int.toNat_natCast] at r8
                have ki := HC.out.ki
                have hmem := HC.out.mem
                obtain ⟨gO, hgO⟩ : ∃ x, x = openS s1 m N := ⟨_, rfl⟩
                rw [← hgO] at r8 ki hmem
                obtain ⟨X, hX⟩ : ∃ X, X = homesL s1 m gO (N - 2 - m) := ⟨_, rfl⟩
                rw [← hX] at ki hmem
                have HKN := Lib.hid ki
                have HMEM := Lib.hid hmem
                have HX := Lib.hid hX
                have HXL := Lib.hid (show X.length = H by rw [hX, homesL_len]; exact HH.out)
                have HR8 := Lib.hid r8
                have HA8 := Lib.hid a8
                have HOP2 := Lib.hid (gopen_dk d N Fk s1 (m : Int) w8 r8.dk HC.out.sb (by have := HNB.out; omega) (by omega) (by have := HN.out; omega))
                clear ki hmem hX r8 a8 nw8
                go_wp2_with fail
                refine HOP2.out.mono ?_
                intro e w9 h9
                rcases h9 with ⟨hb, -⟩ | ⟨-, ht, -⟩ | ⟨-, -, l2, b2, rfl, r9, nw9, a9⟩
                · exact absurd (by have := HN.out; omega) hb
                · rw [Int.toNat_natCast] at ht
                  have := HC.out.top
                  omega
                rw [Int.toNat_natCast, ← hgO] at r9
                have HM9 := Lib.hid (show KpM W d l2 b2 m N H SL s1 gO Fk z (.slice (some ⟨z, o, none⟩) (p + 1) cap) w9 from by
                  have hs78 := HA8.out.size
                  have hsW := HI7.out.adv.size
                  refine ⟨r9, HI7.out.st.adv (HA8.out.trans a9) (fun _ x => x.elim) (fun j hj => ?_), HI7.out.adv.trans (HA8.out.trans a9), fun j hj => ?_, HI7.out.zlow⟩
                  · rcases hj with hj | hj | hj
                    · exact .inl (.inl hj)
                    · exact .inr (by rw [hj]; exact Nat.le_trans hs78 nw9.1)
                    · exact .inr (by rw [hj]; exact Nat.le_trans hs78 nw9.2)
                  · rcases hj with hj | hj | hj
                    · exact HI7.out.low j (.inl hj)
                    · rw [hj]; exact Nat.le_trans hsW (Nat.le_trans hs78 nw9.1)
                    · rw [hj]; exact Nat.le_trans hsW (Nat.le_trans hs78 nw9.2))
                have HR9 := Lib.hid (HR8.out.over a9)
                as_aux_lemma =>
                  have HOMA := Lib.hid (homes_p l1 b1 d m N H gO Fk s1 (UZ Fk l2 b2 z) w9 HR9.out HN.out HKN.out.aok HM9.out.bdz HH.out)
                  rw [← HX.out] at HOMA
                  clear r9 a9 nw9 hgO HOP1 HOP2 HR8 HA8 HC HCR HI7 K7 K8 HI5D
                  go_wp2_with fail
                  refine HOMA.out.mono ?_
                  rintro e w10 ⟨Aa, qa, rfl, ra, aa⟩
                  have HM10 := Lib.hid (HM9.out.step aa)
                  have HR10 := Lib.hid (HR9.out.over aa)
                  have HRA := Lib.hid ra
                  have HOMB := Lib.hid (homes_p l2 b2 d m N H gO Fk s1 (UZ Fk l2 b2 z) w10 HM10.out.rs HN.out HKN.out.aok HM10.out.bdz HH.out)
                  rw [← HX.out] at HOMB
                  clear ra aa HM9 HR9 HOMA
                  go_wp2_with fail
                  refine HOMB.out.mono ?_
                  rintro e w11 ⟨Ab, qb, rfl, rb, ab⟩
                  have HM11 := Lib.hid (HM10.out.step ab)
                  have HR11 := Lib.hid (HR10.out.over ab)
                  have HSM := Lib.hid (same_rows (.slice Aa H qa) (.slice Ab H qb) _ _ _ w11 (HRA.out.step ab) rb (by rw [HXL.out]; have := HH1.out; omega))
                  clear rb ab HM10 HR10 HOMB HRA
                  go_wp2_with fail
                  refine HSM.out.mono ?_
                  rintro e w12 ⟨rfl, j12, hw12⟩
                  have HM12 := Lib.hid (show KpM W d l2 b2 m N H SL s1 gO Fk z (.slice (some ⟨z, o, none⟩) (p + 1) cap) w12 by rw [hw12]; exact HM11.out.step ((Adv.refl Nul w11).drewN j12))
                  have HR12 := Lib.hid (show Rs w12 Fk d l1 b1 m N s1 gO by rw [hw12]; exact HR11.out.over ((Adv.refl Nul w11).drewN j12))
                  have HFA := Lib.hid (gfree_lg HR12.out.lg (by have := HNB.out; have := HN.out; omega) HKN.out.tn (by have := HKN.out.fr; omega))
                  clear hw12 HM11 HR11 HSM
                  go_wp2_with fail
                  refine HFA.out.mono ?_
                  rintro e w13 ⟨rfl, j13, hw13⟩
                  have HM13 := Lib.hid (show KpM W d l2 b2 m N H SL s1 gO Fk z (.slice (some ⟨z, o, none⟩) (p + 1) cap) w13 by rw [hw13]; exact HM12.out.step ((Adv.refl Nul w12).drewN j13))
                  have HFB := Lib.hid (gfree_lg HM13.out.rs.lg (by have := HNB.out; have := HN.out; omega) HKN.out.tn (by have := HKN.out.fr; omega))
                  obtain ⟨fr, hfr⟩ : ∃ fr : Nat, fr = m - (gO.next - gO.h.t) := ⟨_, rfl⟩
                  rw [← hfr] at HFB ⊢
                  clear hw13 HM12 HR12 HFA hfr
                  go_wp2_with fail
                  refine HFB.out.mono ?_
                  rintro e w14 ⟨rfl, j14, hw14⟩
                  have HM14 := Lib.hid (show KpM W d l2 b2 m N H SL s1 gO Fk z (.slice (some ⟨z, o, none⟩) (p + 1) cap) w14 by rw [hw14]; exact HM13.out.step ((Adv.refl Nul w13).drewN j14))
                  have HOMC := Lib.hid (homes_p l2 b2 d m N H gO Fk s1 (UZ Fk l2 b2 z) w14 HM14.out.rs HN.out HKN.out.aok HM14.out.bdz HH.out)
                  rw [← HX.out] at HOMC
                  clear hw14 HM13 HFB
                  go_wp2_with fail
                  refine HOMC.out.mono ?_
                  rintro e w15 ⟨Ac, qc, rfl, rc, ac⟩
                  have HM15 := Lib.hid (HM14.out.step ac)
                  have HRC := Lib.hid rc
                  clear rc ac HM14 HOMC
                  go_wp2_with fail
                  as_aux_lemma =>
                    go_loopw [23, 24] (FndL w15 SL X p) (fun _ t _ => p + 1 - (intOf t).toNat)
                    case atStart => exact ⟨0, false, 0, Nat.zero_le _, rfl, rfl, ⟨fun h => (by cases h), fun ⟨i, hi, _⟩ => absurd hi (by omega)⟩, rfl⟩
                    case round =>
                      obtain ⟨j, f, qj, hj, rfl, rfl, hf, rfl⟩ := hrel
                      have HF := Lib.hid hf
                      have HJ := Lib.hid hj
                      have hj36 : (j : Int) ≤ 36 := by have := HPK.out; have := HK.out; omega
                      clear hf
                      by_cases hjp : j < p + 1
                      · have hjI : (j : Int) < (p : Int) + 1 := by omega
                        have hjs : j < SL.length := by rw [HSL.out]; exact hjp
                        have HJP := Lib.hid hjp
                        cases f
                        · obtain ⟨Aj, uj, cj, rj⟩ := HM15.out.st.row (i := j) hjs
                          have cj' : (w15.drewN qj).cell? ⟨z, o + j, none⟩ = some (.slice Aj H uj) := cj
                          have HSJ := Lib.hid (same_dec (.slice Aj H uj) (.slice Ac H qc) _ _ _ _ (w15.drewN qj) (rj.step ((Adv.refl Nul w15).drewN qj)) (HRC.out.step ((Adv.refl Nul w15).drewN qj)) (by rw [HXL.out]; exact (HM15.out.st.len _ (List.getElem_mem _)).symm) (by rw [HM15.out.st.len _ (List.getElem_mem _)]; have := HH1.out; omega))
                          have HBB := Lib.hid (show SL[j]? = some SL[j] from List.getElem?_eq_getElem hjs)
                          obtain ⟨Y, hY⟩ : ∃ Y, Y = SL[j] := ⟨_, rfl⟩
                          rw [← hY] at HSJ HBB
                          clear cj rj hY hjs hjp hj
                          by_cases hYX : Y = X
                          · rw [decide_eq_true hYX] at HSJ
                            have HY := Lib.hid hYX
                            clear hYX
                            go_wp2_with (first | fail | (go_at_call 33; refine HSJ.out.mono ?_; rintro e w16 ⟨rfl, j16, hw16⟩; have HW16 := Lib.hid (show w16 = w15.drewN (qj + j16) from hw16.trans (by simp [World.drewN, Nat.add_assoc])); clear hw16))
                            have hjp := HJP.out
                            exact ⟨⟨j + 1, true, qj + j16, by omega, rfl, by go_num, ⟨fun _ => ⟨j, by omega, by rw [HBB.out, HY.out]⟩, fun _ => rfl⟩, HW16.out⟩, by simp [intOf] <;> omega⟩
                          · rw [decide_eq_false hYX] at HSJ
                            have HY := Lib.hid hYX
                            clear hYX
                            go_wp2_with (first | fail | (go_at_call 33; refine HSJ.out.mono ?_; rintro e w16 ⟨rfl, j16, hw16⟩; have HW16 := Lib.hid (show w16 = w15.drewN (qj + j16) from hw16.trans (by simp [World.drewN, Nat.add_assoc])); clear hw16))
                            have hjp := HJP.out
                            exact ⟨⟨j + 1, false, qj + j16, by omega, rfl, by go_num, ⟨fun e => (by cases e), fun ⟨i, hi, e⟩ => by
                              by_cases c : i = j
                              · subst c
                                rw [HBB.out] at e
                                exact absurd (Option.some.inj e) HY.out
                              · exact HF.out.2 ⟨i, by omega, e⟩⟩, HW16.out⟩, by simp [intOf] <;> omega⟩
                        · clear hjs hjp hj
                          go_wp2_with fail
                          have hjp := HJP.out
                          exact ⟨⟨j + 1, true, qj, by omega, rfl, by go_num, ⟨fun _ => by
                            obtain ⟨i, hi, e⟩ := HF.out.1 rfl
                            exact ⟨i, by omega, e⟩, fun _ => rfl⟩, rfl⟩, by simp [intOf] <;> omega⟩
                      · have hj1 : j = p + 1 := by omega
                        obtain rfl : f = true := HF.out.2 (by
                          obtain ⟨i, hi, e⟩ := List.getElem_of_mem HMEM.out
                          exact ⟨i, by rw [HSL.out] at hi; omega, by rw [List.getElem?_eq_getElem hi, e]⟩)
                        have hjI : ¬ (j : Int) < (p : Int) + 1 := by omega
                        have HNEW := Lib.hid (show KpM W d l2 b2 m N H [X] s1 gO Fk (w15.drewN qj).heap.size (.slice (some ⟨(w15.drewN qj).heap.size, 0, none⟩) (0 + 1) 1) ((w15.drewN qj).alloc (.cells #[.slice Ac H qc] 50)) from
                          ⟨(HM15.out.rs.over (F' := Nul) ((Adv.refl Nul _).drewN qj)).over (F' := Nul) ((Adv.refl Nul _).alloc _),
                           StR.one ((HRC.out.step ((Adv.refl Nul w15).drewN qj)).adv (Adv.refl Nul _) (fun _ x => x.elim) (fun _ x => .inl (.inl x))) HXL.out (HM15.out.rs.over (F' := Nul) ((Adv.refl Nul _).drewN qj)).bd,
                           (HM15.out.adv.trans ((Adv.refl Nul _).drewN qj)).trans ((Adv.refl Nul _).alloc _), HM15.out.low, HM15.out.adv.size⟩)
                        clear hjp hj1 hj
                        go_wp2_with fail
                        have hlt := HLT.out
                        have hpk := HPK.out
                        exact ⟨⟨k + 1, s1, gO, Fk, l2, b2, _, 0, 0, 1, [X], ⟨by omega, by omega, rfl⟩, by go_num, rfl, rfl, HKN.out, HNEW.out⟩, by simp [intOf] <;> omega⟩
    · obtain rfl : k = M := by omega
      as_aux_lemma =>
        have hkL : ((k : Int) < (L : Int)) = False ∨ (((k : Int) < (L : Int)) = True ∧ ((k : Int) < 35) = False) := by
          have := HM.out
          by_cases c : k < L
          · exact .inr ⟨eq_true (by omega), eq_false (by omega)⟩
          · exact .inl (eq_false (by omega))
        have HLVS := Lib.hid (glives_any wr)
        clear hlt hk hki hm hsl hpk HWI HWJ
        rcases hkL with hkL | ⟨hkL, hk35⟩
        all_goals
          go_wp2_with fail
          refine HLVS.out.mono ?_
          rintro e w9 ⟨rfl, a9⟩
          have HFIN := Lib.hid (HI.out.adv.trans a9)
          clear a9
          go_wp2_with fail
          go_ret
          exact ⟨rfl, HFIN.out.toBelow⟩
end Go.Proofs.YtolcnbiaiolcoaaGreat
