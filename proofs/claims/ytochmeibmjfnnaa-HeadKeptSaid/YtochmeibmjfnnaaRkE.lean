/- The document's own disk: Crash. -/
import Derived.Test.YtochmeibmjfnnaaRkD
namespace Go.Proofs.Ytochmeibmjfnnaa
open Go.RowKit

def RcRel (w : World) (G : Nat → Prop) (c n gL cap : Nat) (vQ : Value) (ps : List (Nat × Value)) (s : DS) (L0 : List (List Nat)) (cK : Nat → Nat) (t : Value) (wr : World) : Prop :=
  ∃ k ls G', t = .int .i64 ((k : Nat) : Int) ∧ k ≤ s.Q.length ∧ RkI wr G' c n (.slice (some ⟨gL, 0, none⟩) n cap) vQ ls ps { s with L := laysBy cK s.Q L0 k } ∧ Adv G w G' wr

theorem RkI.ends {w : World} {G : Nat → Prop} {c n : Nat} {vL vQ : Value} {ls : List Value} {ps : List (Nat × Value)} {s : DS} (h : RkI w G c n vL vQ ls ps s) :
    RkI (((w.setCell ⟨c, 1, none⟩ (.slice none 0 0)).setCell ⟨c, 2, none⟩ (.int .i64 (-1))).setCell ⟨c, 3, none⟩ (.bool false)) G c n vL (.slice none 0 0) ls [] ⟨s.L, [], false, none⟩ ∧
    Adv G w G (((w.setCell ⟨c, 1, none⟩ (.slice none 0 0)).setCell ⟨c, 2, none⟩ (.int .i64 (-1))).setCell ⟨c, 3, none⟩ (.bool false)) := by
  obtain ⟨h1, a1⟩ := h.clear
  have hb3 := (h1.blk.set_ 2 (.int .i64 (-1))).set_ 3 (.bool false)
  have b2 := h1.blk.set_ 2 (.int .i64 (-1))
  have st : ∀ {e : TypeId} {size m : Nat} {v : Value} {xs : List Value}, Sl (w.setCell ⟨c, 1, none⟩ (.slice none 0 0)) G e size v m xs → 62 ≠ e → Sl (((w.setCell ⟨c, 1, none⟩ (.slice none 0 0)).setCell ⟨c, 2, none⟩ (.int .i64 (-1))).setCell ⟨c, 3, none⟩ (.bool false)) G e size v m xs := fun h hne => (h.setOther h1.blk hne 2).setOther b2 hne 3
  refine ⟨⟨⟨h.ok.len, h.ok.row, fun q hq => by simp at hq, fun hd => by simp at hd, fun f hf => by simp at hf⟩, hb3, st h1.l (by decide), h1.rows.mono (fun _ _ _ k => st k (by decide)), st h1.q (by decide), ⟨rfl, fun k hk => absurd hk (by simp)⟩, h.inG⟩, (a1.setCell (.inl h.inG) _).setCell (.inl h.inG) _⟩

theorem RkI.ne_L {w : World} {G : Nat → Prop} {c n gL cap gQ N cq : Nat} {ls : List Value} {ps : List (Nat × Value)} {s : DS} (h : RkI w G c n (.slice (some ⟨gL, 0, none⟩) n cap) (.slice (some ⟨gQ, 0, none⟩) N cq) ls ps s) : c ≠ gL ∧ gQ ≠ gL :=
  ⟨fun e => own_blk_ne h.l.own h.blk (by decide) (by rw [e]; rfl), fun e => own_ne h.q.own h.l.own (by decide) gQ rfl (by rw [e]; rfl)⟩
theorem crash_cells {w w9 : World} {G F9 : Nat → Prop} {c n gL cap gQ N cq k a : Nat} {ls : List Value} {ps : List (Nat × Value)} {s : DS} (h : RkI w G c n (.slice (some ⟨gL, 0, none⟩) n cap) (.slice (some ⟨gQ, 0, none⟩) N cq) ls ps s) (a9 : Adv Nul w F9 w9) (kA : w.cell? ⟨gQ, k * 2, none⟩ = some (.int .i64 (a : Int))) :
    w9.cell? ⟨c, 0, none⟩ = some (.slice (some ⟨gL, 0, none⟩) n cap) ∧ w9.cell? ⟨c, 1, none⟩ = some (.slice (some ⟨gQ, 0, none⟩) N cq) ∧ w9.cell? ⟨gQ, k * 2, none⟩ = some (.int .i64 (a : Int)) := by
  have h9 := h.far a9 (fun _ h _ => h)
  exact ⟨h9.c0, h9.c1, (World.cell?_of_block (a9.block gQ (h.bd gQ (h.q.inF gQ rfl)) (fun h => h))).trans kA⟩
theorem crash_fin {wr w9 w10 : World} {G F9 : Nat → Prop} {c n gL cap a mi : Nat} {vQ v9 v10 : Value} {ls : List Value} {ps : List (Nat × Value)} {s : DS} {q : Nat × List Nat} {r : List Nat} (h : RkI wr G c n (.slice (some ⟨gL, 0, none⟩) n cap) vQ ls ps s) (a9 : Adv Nul wr F9 w9) (h9 : Sl w9 F9 5 1 v9 mi ((q.2.take mi).map u8)) (ha : a < n) (hm : mi ≤ 128) (hq : q.2.length = 128) (hr : r.length = 128)
    (hown : w10.ownsRow 0 5 1 v10 (mi + (128 - mi)) ((q.2.take mi).map u8 ++ (r.drop mi).map u8)) (hg : w9.grownBy w10 v9.ownBlock) (hat : v10.ownBlock = v9.ownBlock ∨ v10.ownBlock = some w9.heap.size) :
    (∃ A k l, v10 = .slice A k l) ∧ (∀ j, G j → w10.heap[j]? = wr.heap[j]?) ∧ (∀ j, G j → j ≠ gL → (w10.setCell ⟨gL, a, none⟩ v10).heap[j]? = wr.heap[j]?) ∧ (∃ u, w10.cell? ⟨gL, a, none⟩ = some u) ∧ w10.frozen? ⟨gL, a, none⟩ = false ∧
    ∃ G', RkI (w10.setCell ⟨gL, a, none⟩ v10) G' c n (.slice (some ⟨gL, 0, none⟩) n cap) vQ (ls.set a v10) ps { s with L := s.L.set a (q.2.take mi ++ r.drop mi) } ∧ Adv G wr G' (w10.setCell ⟨gL, a, none⟩ v10) := by
  have e : mi + (128 - mi) = 128 := by omega
  rw [e, ← List.map_append] at hown
  exact h.crashAt a9 h9 ha hown (by simp [hq, hr]; omega) hg hat
theorem rc_next {w wr' : World} {G G' : Nat → Prop} {c n gL cap k a mi : Nat} {vQ : Value} {ls : List Value} {ps : List (Nat × Value)} {s : DS} {cK : Nat → Nat} {q : Nat × List Nat} {r : List Nat} (hk : k < s.Q.length) (hst : laysBy cK s.Q s.L (k + 1) = layN (laysBy cK s.Q s.L k) q (cK k)) (hk0 : cK k = mi) (hqa : a = q.1) (hre : r = (laysBy cK s.Q s.L k).getD a [])
    (h7 : RkI wr' G' c n (.slice (some ⟨gL, 0, none⟩) n cap) vQ ls ps { s with L := (laysBy cK s.Q s.L k).set a (q.2.take mi ++ r.drop mi) }) (h8 : Adv G w G' wr') : RcRel w G c n gL cap vQ ps s s.L cK (.int .i64 ((k : Int) + 1)) wr' := by
  subst hqa hre hk0
  refine ⟨k + 1, ls, G', by simp, hk, ?_, h8⟩
  rw [hst]
  exact h7
theorem rc_meas {k m : Nat} (h : k < m) : m - (intOf (.int .i64 ((k : Int) + 1))).toNat < m - (intOf (.int .i64 (k : Int))).toNat := by simp [intOf]; omega
theorem app_le {m : Nat} (h : m ≤ 128) : m + (128 - m) ≤ 1000000000 := by omega
theorem mi_facts {mi X : Int} {cd cr : Nat} (h : mi = X) (hX : 0 ≤ X ∧ X ≤ 128) (hcd : 128 ≤ cd) (hcr : 128 ≤ cr) : 0 ≤ mi ∧ mi ≤ 128 ∧ mi.toNat ≤ 128 ∧ mi ≤ (cd : Int) ∧ mi ≤ (cr : Int) := by
  subst h
  exact ⟨hX.1, hX.2, by omega, by omega, by omega⟩
theorem layN_set {L : List (List Nat)} {q : Nat × List Nat} {m : Nat} : layN L q m = L.set q.1 (q.2.take m ++ (L.getD q.1 []).drop m) := rfl

set_option maxRecDepth 2000 in
set_option maxHeartbeats 6400000 in
theorem rcrash_dk (c n m0 : Nat) (vk : Value) (G : Nat → Prop) (s : DS) (ks : List Int) (torn : Int) (w : World) (h : Rk w G c n s) (hn : 0 < n) (hk : Rd w 1 vk m0 (ks.map (Value.int .i64))) (hsep : ∀ k, vk.ownBlock = some k → 0 < m0 → ¬ G k) (hql : s.Q.length ≤ 1000000) :
    Calls Try.prog 17 #[.pointer (some ⟨c, 0, none⟩), vk, .int .i64 torn] w fun e w' => e = .returned (.tuple #[]) ∧ ∃ G', Rk w' G' c n (crashS s ks torn) ∧ Adv G w G' w' := by
  obtain ⟨vL, vQ, ls, ps, h⟩ := h
  obtain ⟨gL, cap, rfl, _, _⟩ := h.l.form hn
  obtain ⟨ak, ck, rfl, hkc, hkm⟩ := hk.form
  obtain ⟨aq, cq, rfl, hqc, hqm⟩ := h.q.form0
  unfold maxLen at hkm
  have hkl : ks.length = m0 := by obtain ⟨_, _, _, _, _, h, _⟩ := hk; simpa using h
  have H := Lib.hid h
  have HK := Lib.hid hk
  have HSEP := Lib.hid hsep
  have HKL := Lib.hid hkl
  have HQL := Lib.hid hql
  clear h hk hsep hkl hqc hqm hql hkc
  go_enter Try.func17, Try.ntmps17
  go_wp2_with fail
  go_loopw [6] (RcRel w G c n gL cap (.slice aq s.Q.length cq) ps s s.L (kept ks torn s.Q.length)) (fun t _ => s.Q.length - (intOf t).toNat)
  case atStart => exact ⟨0, ls, G, rfl, Nat.zero_le _, H.out, Adv.refl _ _⟩
  case round =>
    obtain ⟨k, ls', G', rfl, hkk, hr, ha⟩ := hrel
    have c1 := hr.c1
    by_cases hlt : k < s.Q.length
    · obtain ⟨gQ, cQ', v, e, kA, kD, sD, hq1, hq2⟩ := hr.qat hlt
      injection e with e1 e2 e3
      subst e1
      clear e2 e3
      have hstep : laysBy (kept ks torn s.Q.length) s.Q s.L (k + 1) = layN (laysBy (kept ks torn s.Q.length) s.Q s.L k) (s.Q.getD k (0, [])) (kept ks torn s.Q.length k) := rfl
      obtain ⟨q, hq⟩ : ∃ q, q = s.Q.getD k (0, []) := ⟨_, rfl⟩
      have kA' : wr.cell? ⟨gQ, k * 2, none⟩ = some (.int .i64 (q.1 : Int)) := by rw [hq]; exact kA
      have sD' := sD
      have hq1' : q.1 < n := by rw [hq]; exact hq1
      have hq2' : q.2.length = 128 := by rw [hq]; exact hq2
      rw [← hq] at hstep
      simp only [← hq] at sD'
      obtain ⟨gL2, cap2, u, e4, kL, sL, lL⟩ := hr.at_ hq1'
      injection e4 with e4 e5 e6
      injection e4 with e4
      injection e4 with e4
      subst e4 e6
      clear e5
      obtain ⟨a, hqa⟩ : ∃ a, a = q.1 := ⟨_, rfl⟩
      obtain ⟨r, hre⟩ : ∃ r, r = (laysBy (kept ks torn s.Q.length) s.Q s.L k).getD q.1 [] := ⟨_, rfl⟩
      have sL' := sL
      simp only [← hre] at sL' lL
      rw [← hqa] at kA' hq1' kL
      obtain ⟨gd, cd, rfl, _, hcd⟩ := sD'.form (by decide)
      obtain ⟨gr, cr, rfl, _, hcr⟩ := sL'.form (by decide)
      have hkA := HK.out.adv ha HSEP.out
      have han0 : (0 : Int) ≤ (a : Int) := by omega
      have hani : (a : Int) < (n : Int) := by omega
      have hkq : (k : Int) < (s.Q.length : Int) := by omega
      have hk2 : k + 1 ≤ 9223372036854775807 := by have := HQL.out; omega
      have hlw : IntKind.i64.wrap ((s.Q.length : Int) - 1) = (s.Q.length : Int) - 1 := by have := HQL.out; rw [IntKind.wrap_i64]; omega
      have c0 := hr.c0
      have HR := Lib.hid hr
      have HA := Lib.hid ha
      have SD := Lib.hid sD'
      have SL := Lib.hid sL'
      have HAN := Lib.hid hq1'
      have HQ2 := Lib.hid hq2'
      have LL := Lib.hid lL
      have HQA := Lib.hid hqa
      have HRE' := Lib.hid (show r = (laysBy (kept ks torn s.Q.length) s.Q s.L k).getD a [] by rw [hqa]; exact hre)
      have HST := Lib.hid hstep
      have HKA := Lib.hid hkA
      have HCD := Lib.hid hcd
      have HCR := Lib.hid hcr
      have HLT := Lib.hid hlt
      clear hr ha sD sD' sL sL' kA hq1 hq2 hq1' hq2' lL hqa hre hstep hkA hq hlt hkk hcd hcr
      by_cases hT : k + 1 = s.Q.length
      · have hTb : ((k : Int) == (s.Q.length : Int) - 1) = true := by rw [beq_iff_eq]; omega
        by_cases t0 : 1 ≤ torn
        · by_cases t1 : torn ≤ 127
          · have HK0 := Lib.hid (show kept ks torn s.Q.length k = torn.toNat by unfold kept; rw [if_pos (by omega)])
            clear hT
            by_cases hkm2 : k < m0
            · have hki : (k : Int) < (m0 : Int) := by omega
              obtain ⟨bk, ok, e, _, hcell⟩ := HKA.out.cells (by omega) (by decide)
              subst e
              have kc := hcell k _ (getD_at (by have := HKL.out; omega))
              obtain ⟨x, hx⟩ : ∃ x, x = ks.getD k 0 := ⟨_, rfl⟩
              rw [← hx] at kc
              clear hcell hx
              by_cases hx0 : x = 0
              · have hxb : (x != 0) = false := by simp [hx0]
                clear hx0
                go_wp2_with fail
                obtain ⟨hm0, hm1, hmn, hmcd, hmcr⟩ := mi_facts (rfl : torn = torn) ⟨by omega, by omega⟩ HCD.out HCR.out
                have HM := Lib.hid hmn
                have HMS := Lib.hid (rc_meas HLT.out)
                clear hmn
                refine wp_region_held_drew (S := (fun w' => w'.cell? ⟨c, 0, none⟩ = some (.slice (some ⟨gL, 0, none⟩) n cap) ∧ w'.cell? ⟨c, 1, none⟩ = some (.slice (some ⟨gQ, 0, none⟩) s.Q.length cq) ∧ w'.cell? ⟨gQ, k * 2, none⟩ = some (.int .i64 (a : Int)) ∧ w'.cell? ⟨gL, a, none⟩ = some (.slice (some ⟨gr, 0, none⟩) 128 cr))) (by kernel_rfl) (by first | exact ⟨c0, c1, kA', kL⟩) (fun hHeld => ?_)
                clear hHeld
                refine wpAnyH_take (i := 0) (oi := ⟨some 47, .move (.tmp 0), 27, "ref.go:116", #[], none⟩) (v := ?_) rfl (by kernel_rfl) (by kernel_rfl) (by kernel_rfl) (fun _ _ _ h => h) (Or.inl ⟨by rfl, ?_⟩) (by first | exact ⟨c0, c1, kA', kL⟩) ?_
                rotate_left
                · (intro w hSw; obtain ⟨s0, s1, s2, s3⟩ := hSw; go_simp <;> with_reducible rfl)
                simp only [Act.put, List.setIfInBounds_toArray, List.set_cons_zero, List.set_cons_succ]
                refine wpAnyH_take (i := 1) (oi := ⟨some 48, .nilCheck (.tmp 47), 0, "ref.go:116", #[⟨0, .data⟩], none⟩) (v := ?_) rfl (by kernel_rfl) (by kernel_rfl) (by kernel_rfl) (fun _ _ _ h => h) (Or.inl ⟨by rfl, ?_⟩) (by first | exact ⟨c0, c1, kA', kL⟩) ?_
                rotate_left
                · (intro w hSw; obtain ⟨s0, s1, s2, s3⟩ := hSw; go_simp <;> with_reducible rfl)
                simp only [Act.put, List.setIfInBounds_toArray, List.set_cons_zero, List.set_cons_succ]
                refine wpAnyH_take (i := 2) (oi := ⟨some 49, .fieldAddr 62 (.tmp 48) 0, 0, "ref.go:116", #[⟨1, .data⟩], none⟩) (v := ?_) rfl (by kernel_rfl) (by kernel_rfl) (by kernel_rfl) (fun _ _ _ h => h) (Or.inl ⟨by rfl, ?_⟩) (by first | exact ⟨c0, c1, kA', kL⟩) ?_
                rotate_left
                · (intro w hSw; obtain ⟨s0, s1, s2, s3⟩ := hSw; go_simp <;> with_reducible rfl)
                simp only [Act.put, List.setIfInBounds_toArray, List.set_cons_zero, List.set_cons_succ]
                refine wpAnyH_take (i := 3) (oi := ⟨some 50, .load 59 (.tmp 49), 59, "ref.go:116", #[⟨2, .data⟩], none⟩) (v := ?_) rfl (by kernel_rfl) (by kernel_rfl) (by kernel_rfl) (fun _ _ _ h => h) (Or.inl ⟨by rfl, ?_⟩) (by first | exact ⟨c0, c1, kA', kL⟩) ?_
                rotate_left
                · (intro w hSw; obtain ⟨s0, s1, s2, s3⟩ := hSw; go_simp <;> with_reducible rfl)
                simp only [Act.put, List.setIfInBounds_toArray, List.set_cons_zero, List.set_cons_succ]
                refine wpAnyH_take (i := 4) (oi := ⟨some 51, .move (.tmp 0), 27, "ref.go:116", #[], none⟩) (v := ?_) rfl (by kernel_rfl) (by kernel_rfl) (by kernel_rfl) (fun _ _ _ h => h) (Or.inl ⟨by rfl, ?_⟩) (by first | exact ⟨c0, c1, kA', kL⟩) ?_
                rotate_left
                · (intro w hSw; obtain ⟨s0, s1, s2, s3⟩ := hSw; go_simp <;> with_reducible rfl)
                simp only [Act.put, List.setIfInBounds_toArray, List.set_cons_zero, List.set_cons_succ]
                refine wpAnyH_take (i := 5) (oi := ⟨some 52, .nilCheck (.tmp 51), 0, "ref.go:116", #[⟨4, .data⟩], none⟩) (v := ?_) rfl (by kernel_rfl) (by kernel_rfl) (by kernel_rfl) (fun _ _ _ h => h) (Or.inl ⟨by rfl, ?_⟩) (by first | exact ⟨c0, c1, kA', kL⟩) ?_
                rotate_left
                · (intro w hSw; obtain ⟨s0, s1, s2, s3⟩ := hSw; go_simp <;> with_reducible rfl)
                simp only [Act.put, List.setIfInBounds_toArray, List.set_cons_zero, List.set_cons_succ]
                refine wpAnyH_take (i := 6) (oi := ⟨some 53, .fieldAddr 62 (.tmp 52) 1, 0, "ref.go:116", #[⟨5, .data⟩], none⟩) (v := ?_) rfl (by kernel_rfl) (by kernel_rfl) (by kernel_rfl) (fun _ _ _ h => h) (Or.inl ⟨by rfl, ?_⟩) (by first | exact ⟨c0, c1, kA', kL⟩) ?_
                rotate_left
                · (intro w hSw; obtain ⟨s0, s1, s2, s3⟩ := hSw; go_simp <;> with_reducible rfl)
                simp only [Act.put, List.setIfInBounds_toArray, List.set_cons_zero, List.set_cons_succ]
                refine wpAnyH_take (i := 7) (oi := ⟨some 54, .load 60 (.tmp 53), 60, "ref.go:116", #[⟨6, .data⟩], none⟩) (v := ?_) rfl (by kernel_rfl) (by kernel_rfl) (by kernel_rfl) (fun _ _ _ h => h) (Or.inl ⟨by rfl, ?_⟩) (by first | exact ⟨c0, c1, kA', kL⟩) ?_
                rotate_left
                · (intro w hSw; obtain ⟨s0, s1, s2, s3⟩ := hSw; go_simp <;> with_reducible rfl)
                simp only [Act.put, List.setIfInBounds_toArray, List.set_cons_zero, List.set_cons_succ]
                refine wpAnyH_take (i := 8) (oi := ⟨some 55, .move (.tmp 6), 3, "ref.go:116", #[], none⟩) (v := ?_) rfl (by kernel_rfl) (by kernel_rfl) (by kernel_rfl) (fun _ _ _ h => h) (Or.inl ⟨by rfl, ?_⟩) (by first | exact ⟨c0, c1, kA', kL⟩) ?_
                rotate_left
                · (intro w hSw; obtain ⟨s0, s1, s2, s3⟩ := hSw; go_simp <;> with_reducible rfl)
                simp only [Act.put, List.setIfInBounds_toArray, List.set_cons_zero, List.set_cons_succ]
                refine wpAnyH_take (i := 9) (oi := ⟨some 56, .indexAddr 60 (.tmp 54) (.tmp 55), 0, "ref.go:116", #[⟨7, .data⟩, ⟨8, .data⟩], none⟩) (v := ?_) rfl (by kernel_rfl) (by kernel_rfl) (by kernel_rfl) (fun _ _ _ h => h) (Or.inl ⟨by rfl, ?_⟩) (by first | exact ⟨c0, c1, kA', kL⟩) ?_
                rotate_left
                · (intro w hSw; obtain ⟨s0, s1, s2, s3⟩ := hSw; go_simp <;> with_reducible rfl)
                simp only [Act.put, List.setIfInBounds_toArray, List.set_cons_zero, List.set_cons_succ]
                refine wpAnyH_take (i := 10) (oi := ⟨some 57, .fieldAddr 76 (.tmp 56) 0, 0, "ref.go:116", #[⟨9, .data⟩], none⟩) (v := ?_) rfl (by kernel_rfl) (by kernel_rfl) (by kernel_rfl) (fun _ _ _ h => h) (Or.inl ⟨by rfl, ?_⟩) (by first | exact ⟨c0, c1, kA', kL⟩) ?_
                rotate_left
                · (intro w hSw; obtain ⟨s0, s1, s2, s3⟩ := hSw; go_simp <;> with_reducible rfl)
                simp only [Act.put, List.setIfInBounds_toArray, List.set_cons_zero, List.set_cons_succ]
                refine wpAnyH_take (i := 11) (oi := ⟨some 58, .load 3 (.tmp 57), 3, "ref.go:116", #[⟨10, .data⟩], none⟩) (v := ?_) rfl (by kernel_rfl) (by kernel_rfl) (by kernel_rfl) (fun _ _ _ h => h) (Or.inl ⟨by rfl, ?_⟩) (by first | exact ⟨c0, c1, kA', kL⟩) ?_
                rotate_left
                · (intro w hSw; obtain ⟨s0, s1, s2, s3⟩ := hSw; go_simp <;> with_reducible rfl)
                simp only [Act.put, List.setIfInBounds_toArray, List.set_cons_zero, List.set_cons_succ]
                refine wpAnyH_take (i := 12) (oi := ⟨some 59, .indexAddr 59 (.tmp 50) (.tmp 58), 0, "ref.go:116", #[⟨3, .data⟩, ⟨11, .data⟩], none⟩) (v := ?_) rfl (by kernel_rfl) (by kernel_rfl) (by kernel_rfl) (fun _ _ _ h => h) (Or.inl ⟨by rfl, ?_⟩) (by first | exact ⟨c0, c1, kA', kL⟩) ?_
                rotate_left
                · (intro w hSw; obtain ⟨s0, s1, s2, s3⟩ := hSw; go_simp <;> with_reducible rfl)
                simp only [Act.put, List.setIfInBounds_toArray, List.set_cons_zero, List.set_cons_succ]
                refine wpAnyH_take (i := 13) (oi := ⟨some 60, .load 33 (.tmp 59), 33, "ref.go:116", #[⟨12, .data⟩], none⟩) (v := ?_) rfl (by kernel_rfl) (by kernel_rfl) (by kernel_rfl) (fun _ _ _ h => h) (Or.inl ⟨by rfl, ?_⟩) (by first | exact ⟨c0, c1, kA', kL⟩) ?_
                rotate_left
                · (intro w hSw; obtain ⟨s0, s1, s2, s3⟩ := hSw; go_simp <;> with_reducible rfl)
                simp only [Act.put, List.setIfInBounds_toArray, List.set_cons_zero, List.set_cons_succ]
                refine wpAnyH_take (i := 14) (oi := ⟨some 8, .assign (.tmp 60), 33, "ref.go:116", #[⟨13, .data⟩, ⟨0, .phase⟩, ⟨1, .phase⟩, ⟨2, .phase⟩, ⟨3, .phase⟩, ⟨4, .phase⟩, ⟨5, .phase⟩, ⟨6, .phase⟩, ⟨7, .phase⟩, ⟨8, .phase⟩, ⟨9, .phase⟩, ⟨10, .phase⟩, ⟨11, .phase⟩, ⟨12, .phase⟩, ⟨13, .phase⟩], none⟩) (v := ?_) rfl (by kernel_rfl) (by kernel_rfl) (by kernel_rfl) (fun _ _ _ h => h) (Or.inl ⟨by rfl, ?_⟩) (by first | exact ⟨c0, c1, kA', kL⟩) ?_
                rotate_left
                · (intro w hSw; obtain ⟨s0, s1, s2, s3⟩ := hSw; go_simp <;> with_reducible rfl)
                simp only [Act.put, List.setIfInBounds_toArray, List.set_cons_zero, List.set_cons_succ]
                refine wpAnyH_done (by kernel_rfl) ?_ _
                have hrd := HR.out.far ((Adv.refl Nul wr).drew) (fun _ h _ => h)
                have HRD := Lib.hid hrd
                have HNE := Lib.hid hrd.ne_L
                have hfront := (SD.out.far ((Adv.refl Nul wr).drew) (fun _ h _ => h)).rd.front8 HM.out
                have HFRONT := Lib.hid hfront
                clear hrd hfront
                go_wp2_with (first
                  | (go_at_call 31; refine (copy_any _ torn.toNat (q.2.take torn.toNat) _ HFRONT.out (Nat.le_trans HM.out (by decide))).mono ?_; rintro e w9 ⟨v9, F9, rfl, h9, a9⟩; obtain ⟨av9, cv9, rfl, _, _⟩ := h9.form0; have H9 := Lib.hid (h9.far ((Adv.refl Nul w9).drew) (fun _ h _ => h)); have A9 := Lib.hid (a9.drew); obtain ⟨d0, d1, dA⟩ := crash_cells HRD.out A9.out (k := k) (a := a) kA'; have RST0 := Lib.hid ((SL.out.far ((Adv.refl Nul wr).drew) (fun _ h _ => h)).far A9.out (fun _ h _ => h)).rd; clear h9 a9)
                  | fail)
                refine wp_region_held_drew (S := (fun w' => w'.cell? ⟨c, 0, none⟩ = some (.slice (some ⟨gL, 0, none⟩) n cap) ∧ w'.cell? ⟨c, 1, none⟩ = some (.slice (some ⟨gQ, 0, none⟩) s.Q.length cq) ∧ w'.cell? ⟨gQ, k * 2, none⟩ = some (.int .i64 (a : Int)))) (by kernel_rfl) (by first | exact ⟨d0, d1, dA⟩ | exact ⟨E0.out, E1.out, EA.out⟩ | exact ⟨X0.out, X1.out, XA.out⟩) (fun hHeld => ?_)
                clear hHeld
                refine wpAnyH_take (i := 0) (oi := ⟨some 72, .move (.tmp 0), 27, "ref.go:118", #[], none⟩) (v := ?_) rfl (by kernel_rfl) (by kernel_rfl) (by kernel_rfl) (fun _ _ _ h => h) (Or.inl ⟨by rfl, ?_⟩) (by first | exact ⟨d0, d1, dA⟩ | exact ⟨E0.out, E1.out, EA.out⟩ | exact ⟨X0.out, X1.out, XA.out⟩) ?_
                rotate_left
                · (intro w hSw; obtain ⟨s0, s1, s2⟩ := hSw; go_simp <;> with_reducible rfl)
                simp only [Act.put, List.setIfInBounds_toArray, List.set_cons_zero, List.set_cons_succ]
                refine wpAnyH_take (i := 1) (oi := ⟨some 73, .nilCheck (.tmp 72), 0, "ref.go:118", #[⟨0, .data⟩], none⟩) (v := ?_) rfl (by kernel_rfl) (by kernel_rfl) (by kernel_rfl) (fun _ _ _ h => h) (Or.inl ⟨by rfl, ?_⟩) (by first | exact ⟨d0, d1, dA⟩ | exact ⟨E0.out, E1.out, EA.out⟩ | exact ⟨X0.out, X1.out, XA.out⟩) ?_
                rotate_left
                · (intro w hSw; obtain ⟨s0, s1, s2⟩ := hSw; go_simp <;> with_reducible rfl)
                simp only [Act.put, List.setIfInBounds_toArray, List.set_cons_zero, List.set_cons_succ]
                refine wpAnyH_take (i := 2) (oi := ⟨some 74, .fieldAddr 62 (.tmp 73) 0, 0, "ref.go:118", #[⟨1, .data⟩], none⟩) (v := ?_) rfl (by kernel_rfl) (by kernel_rfl) (by kernel_rfl) (fun _ _ _ h => h) (Or.inl ⟨by rfl, ?_⟩) (by first | exact ⟨d0, d1, dA⟩ | exact ⟨E0.out, E1.out, EA.out⟩ | exact ⟨X0.out, X1.out, XA.out⟩) ?_
                rotate_left
                · (intro w hSw; obtain ⟨s0, s1, s2⟩ := hSw; go_simp <;> with_reducible rfl)
                simp only [Act.put, List.setIfInBounds_toArray, List.set_cons_zero, List.set_cons_succ]
                refine wpAnyH_take (i := 3) (oi := ⟨some 75, .load 59 (.tmp 74), 59, "ref.go:118", #[⟨2, .data⟩], none⟩) (v := ?_) rfl (by kernel_rfl) (by kernel_rfl) (by kernel_rfl) (fun _ _ _ h => h) (Or.inl ⟨by rfl, ?_⟩) (by first | exact ⟨d0, d1, dA⟩ | exact ⟨E0.out, E1.out, EA.out⟩ | exact ⟨X0.out, X1.out, XA.out⟩) ?_
                rotate_left
                · (intro w hSw; obtain ⟨s0, s1, s2⟩ := hSw; go_simp <;> with_reducible rfl)
                simp only [Act.put, List.setIfInBounds_toArray, List.set_cons_zero, List.set_cons_succ]
                refine wpAnyH_take (i := 4) (oi := ⟨some 76, .move (.tmp 0), 27, "ref.go:118", #[], none⟩) (v := ?_) rfl (by kernel_rfl) (by kernel_rfl) (by kernel_rfl) (fun _ _ _ h => h) (Or.inl ⟨by rfl, ?_⟩) (by first | exact ⟨d0, d1, dA⟩ | exact ⟨E0.out, E1.out, EA.out⟩ | exact ⟨X0.out, X1.out, XA.out⟩) ?_
                rotate_left
                · (intro w hSw; obtain ⟨s0, s1, s2⟩ := hSw; go_simp <;> with_reducible rfl)
                simp only [Act.put, List.setIfInBounds_toArray, List.set_cons_zero, List.set_cons_succ]
                refine wpAnyH_take (i := 5) (oi := ⟨some 77, .nilCheck (.tmp 76), 0, "ref.go:118", #[⟨4, .data⟩], none⟩) (v := ?_) rfl (by kernel_rfl) (by kernel_rfl) (by kernel_rfl) (fun _ _ _ h => h) (Or.inl ⟨by rfl, ?_⟩) (by first | exact ⟨d0, d1, dA⟩ | exact ⟨E0.out, E1.out, EA.out⟩ | exact ⟨X0.out, X1.out, XA.out⟩) ?_
                rotate_left
                · (intro w hSw; obtain ⟨s0, s1, s2⟩ := hSw; go_simp <;> with_reducible rfl)
                simp only [Act.put, List.setIfInBounds_toArray, List.set_cons_zero, List.set_cons_succ]
                refine wpAnyH_take (i := 6) (oi := ⟨some 78, .fieldAddr 62 (.tmp 77) 1, 0, "ref.go:118", #[⟨5, .data⟩], none⟩) (v := ?_) rfl (by kernel_rfl) (by kernel_rfl) (by kernel_rfl) (fun _ _ _ h => h) (Or.inl ⟨by rfl, ?_⟩) (by first | exact ⟨d0, d1, dA⟩ | exact ⟨E0.out, E1.out, EA.out⟩ | exact ⟨X0.out, X1.out, XA.out⟩) ?_
                rotate_left
                · (intro w hSw; obtain ⟨s0, s1, s2⟩ := hSw; go_simp <;> with_reducible rfl)
                simp only [Act.put, List.setIfInBounds_toArray, List.set_cons_zero, List.set_cons_succ]
                refine wpAnyH_take (i := 7) (oi := ⟨some 79, .load 60 (.tmp 78), 60, "ref.go:118", #[⟨6, .data⟩], none⟩) (v := ?_) rfl (by kernel_rfl) (by kernel_rfl) (by kernel_rfl) (fun _ _ _ h => h) (Or.inl ⟨by rfl, ?_⟩) (by first | exact ⟨d0, d1, dA⟩ | exact ⟨E0.out, E1.out, EA.out⟩ | exact ⟨X0.out, X1.out, XA.out⟩) ?_
                rotate_left
                · (intro w hSw; obtain ⟨s0, s1, s2⟩ := hSw; go_simp <;> with_reducible rfl)
                simp only [Act.put, List.setIfInBounds_toArray, List.set_cons_zero, List.set_cons_succ]
                refine wpAnyH_take (i := 8) (oi := ⟨some 80, .move (.tmp 6), 3, "ref.go:118", #[], none⟩) (v := ?_) rfl (by kernel_rfl) (by kernel_rfl) (by kernel_rfl) (fun _ _ _ h => h) (Or.inl ⟨by rfl, ?_⟩) (by first | exact ⟨d0, d1, dA⟩ | exact ⟨E0.out, E1.out, EA.out⟩ | exact ⟨X0.out, X1.out, XA.out⟩) ?_
                rotate_left
                · (intro w hSw; obtain ⟨s0, s1, s2⟩ := hSw; go_simp <;> with_reducible rfl)
                simp only [Act.put, List.setIfInBounds_toArray, List.set_cons_zero, List.set_cons_succ]
                refine wpAnyH_take (i := 9) (oi := ⟨some 81, .indexAddr 60 (.tmp 79) (.tmp 80), 0, "ref.go:118", #[⟨7, .data⟩, ⟨8, .data⟩], none⟩) (v := ?_) rfl (by kernel_rfl) (by kernel_rfl) (by kernel_rfl) (fun _ _ _ h => h) (Or.inl ⟨by rfl, ?_⟩) (by first | exact ⟨d0, d1, dA⟩ | exact ⟨E0.out, E1.out, EA.out⟩ | exact ⟨X0.out, X1.out, XA.out⟩) ?_
                rotate_left
                · (intro w hSw; obtain ⟨s0, s1, s2⟩ := hSw; go_simp <;> with_reducible rfl)
                simp only [Act.put, List.setIfInBounds_toArray, List.set_cons_zero, List.set_cons_succ]
                refine wpAnyH_take (i := 10) (oi := ⟨some 82, .fieldAddr 76 (.tmp 81) 0, 0, "ref.go:118", #[⟨9, .data⟩], none⟩) (v := ?_) rfl (by kernel_rfl) (by kernel_rfl) (by kernel_rfl) (fun _ _ _ h => h) (Or.inl ⟨by rfl, ?_⟩) (by first | exact ⟨d0, d1, dA⟩ | exact ⟨E0.out, E1.out, EA.out⟩ | exact ⟨X0.out, X1.out, XA.out⟩) ?_
                rotate_left
                · (intro w hSw; obtain ⟨s0, s1, s2⟩ := hSw; go_simp <;> with_reducible rfl)
                simp only [Act.put, List.setIfInBounds_toArray, List.set_cons_zero, List.set_cons_succ]
                refine wpAnyH_take (i := 11) (oi := ⟨some 83, .load 3 (.tmp 82), 3, "ref.go:118", #[⟨10, .data⟩], none⟩) (v := ?_) rfl (by kernel_rfl) (by kernel_rfl) (by kernel_rfl) (fun _ _ _ h => h) (Or.inl ⟨by rfl, ?_⟩) (by first | exact ⟨d0, d1, dA⟩ | exact ⟨E0.out, E1.out, EA.out⟩ | exact ⟨X0.out, X1.out, XA.out⟩) ?_
                rotate_left
                · (intro w hSw; obtain ⟨s0, s1, s2⟩ := hSw; go_simp <;> with_reducible rfl)
                simp only [Act.put, List.setIfInBounds_toArray, List.set_cons_zero, List.set_cons_succ]
                refine wpAnyH_take (i := 12) (oi := ⟨some 84, .move (.tmp 9), 33, "ref.go:118", #[], none⟩) (v := ?_) rfl (by kernel_rfl) (by kernel_rfl) (by kernel_rfl) (fun _ _ _ h => h) (Or.inl ⟨by rfl, ?_⟩) (by first | exact ⟨d0, d1, dA⟩ | exact ⟨E0.out, E1.out, EA.out⟩ | exact ⟨X0.out, X1.out, XA.out⟩) ?_
                rotate_left
                · (intro w hSw; obtain ⟨s0, s1, s2⟩ := hSw; go_simp <;> with_reducible rfl)
                simp only [Act.put, List.setIfInBounds_toArray, List.set_cons_zero, List.set_cons_succ]
                refine wpAnyH_take (i := 13) (oi := ⟨some 85, .move (.tmp 8), 33, "ref.go:118", #[], none⟩) (v := ?_) rfl (by kernel_rfl) (by kernel_rfl) (by kernel_rfl) (fun _ _ _ h => h) (Or.inl ⟨by rfl, ?_⟩) (by first | exact ⟨d0, d1, dA⟩ | exact ⟨E0.out, E1.out, EA.out⟩ | exact ⟨X0.out, X1.out, XA.out⟩) ?_
                rotate_left
                · (intro w hSw; obtain ⟨s0, s1, s2⟩ := hSw; go_simp <;> with_reducible rfl)
                simp only [Act.put, List.setIfInBounds_toArray, List.set_cons_zero, List.set_cons_succ]
                refine wpAnyH_take (i := 14) (oi := ⟨some 86, .move (.tmp 7), 3, "ref.go:118", #[], none⟩) (v := ?_) rfl (by kernel_rfl) (by kernel_rfl) (by kernel_rfl) (fun _ _ _ h => h) (Or.inl ⟨by rfl, ?_⟩) (by first | exact ⟨d0, d1, dA⟩ | exact ⟨E0.out, E1.out, EA.out⟩ | exact ⟨X0.out, X1.out, XA.out⟩) ?_
                rotate_left
                · (intro w hSw; obtain ⟨s0, s1, s2⟩ := hSw; go_simp <;> with_reducible rfl)
                simp only [Act.put, List.setIfInBounds_toArray, List.set_cons_zero, List.set_cons_succ]
                refine wpAnyH_take (i := 15) (oi := ⟨some 87, .slice 33 (.tmp 85) (some (.tmp 86)) none none, 33, "ref.go:118", #[⟨13, .data⟩, ⟨14, .data⟩], none⟩) (v := ?_) rfl (by kernel_rfl) (by kernel_rfl) (by kernel_rfl) (fun _ _ _ h => h) (Or.inl ⟨by rfl, ?_⟩) (by first | exact ⟨d0, d1, dA⟩ | exact ⟨E0.out, E1.out, EA.out⟩ | exact ⟨X0.out, X1.out, XA.out⟩) ?_
                rotate_left
                · (intro w hSw; obtain ⟨s0, s1, s2⟩ := hSw; go_simp <;> with_reducible rfl)
                simp only [Act.put, List.setIfInBounds_toArray, List.set_cons_zero, List.set_cons_succ]
                refine wpAnyH_ready (rs := [16]) (by kernel_rfl) (by simp) ?_
                refine AllReadyH.cons (o := ⟨some 88, .call { callee := Go.Callee.builtin Go.Builtin.append, args := #[Go.Operand.tmp 84, Go.Operand.tmp 87], argTypes := #[33, 33] }, 33, "ref.go:118", #[⟨12, .data⟩, ⟨15, .data⟩], none⟩) rfl (fun K hK => ?_) AllReadyH.nil
                refine step_append_rd rfl (.tmp 84) (.tmp 87) rfl rfl rfl H9.out.own (by first | exact RST0.out.rest8 HM.out _ rfl | exact RST0.out.rest8 HM.out _ (by split <;> rfl)) (u8_one _) (app_le HM.out) ?_
                intro v10 w10 hown hg hat
                obtain ⟨⟨A6, n6, c6, rfl⟩, k1, k2, ⟨u6, k5⟩, k6, G2, k7, k8⟩ := crash_fin HRD.out A9.out H9.out HAN.out HM.out HQ2.out LL.out hown hg hat
                have E0 := Lib.hid ((World.cell?_of_block (k1 c HRD.out.inG)).trans HRD.out.c0)
                have E1 := Lib.hid ((World.cell?_of_block (k1 c HRD.out.inG)).trans HRD.out.c1)
                have EA := Lib.hid ((World.cell?_of_block (k1 gQ (HRD.out.q.inF gQ rfl))).trans kA')
                have X0 := Lib.hid ((World.cell?_of_block (k2 c HRD.out.inG HNE.out.1)).trans HRD.out.c0)
                have X1 := Lib.hid ((World.cell?_of_block (k2 c HRD.out.inG HNE.out.1)).trans HRD.out.c1)
                have XA := Lib.hid ((World.cell?_of_block (k2 gQ (HRD.out.q.inF gQ rfl) HNE.out.2)).trans kA')
                have HN := Lib.hid (rc_next HLT.out HST.out HK0.out HQA.out HRE'.out k7 (HA.out.trans (Adv.of_drew k8)))
                clear hown hg hat k1 k2 k7 k8
                refine hK.out _ _ (by first | exact ⟨d0, d1, dA⟩ | exact ⟨E0.out, E1.out, EA.out⟩ | exact ⟨X0.out, X1.out, XA.out⟩) (fun hHeld => ?_)
                clear hK K hHeld
                try simp only [Act.put, List.setIfInBounds_toArray, List.set_cons_zero, List.set_cons_succ]
                refine wpAnyH_take (i := 17) (oi := ⟨some 89, .indexAddr 59 (.tmp 75) (.tmp 83), 0, "ref.go:118", #[⟨3, .data⟩, ⟨11, .data⟩, ⟨0, .phase⟩, ⟨1, .phase⟩, ⟨2, .phase⟩, ⟨3, .phase⟩, ⟨4, .phase⟩, ⟨5, .phase⟩, ⟨6, .phase⟩, ⟨7, .phase⟩, ⟨8, .phase⟩, ⟨9, .phase⟩, ⟨10, .phase⟩, ⟨11, .phase⟩, ⟨12, .phase⟩, ⟨13, .phase⟩, ⟨14, .phase⟩, ⟨15, .phase⟩, ⟨16, .phase⟩], none⟩) (v := ?_) rfl (by kernel_rfl) (by kernel_rfl) (by kernel_rfl) (fun _ _ _ h => h) (Or.inl ⟨by rfl, ?_⟩) (by first | exact ⟨d0, d1, dA⟩ | exact ⟨E0.out, E1.out, EA.out⟩ | exact ⟨X0.out, X1.out, XA.out⟩) ?_
                rotate_left
                · (intro w hSw; obtain ⟨s0, s1, s2⟩ := hSw; go_simp <;> with_reducible rfl)
                simp only [Act.put, List.setIfInBounds_toArray, List.set_cons_zero, List.set_cons_succ]
                refine wpAnyH_ready (rs := [18]) (by kernel_rfl) (by simp) ?_
                refine AllReadyH.cons (o := ⟨none, .store 33 (.tmp 89) (.tmp 88), 0, "ref.go:118", #[⟨17, .data⟩, ⟨16, .data⟩, ⟨16, .chain⟩, ⟨0, .phase⟩, ⟨1, .phase⟩, ⟨2, .phase⟩, ⟨3, .phase⟩, ⟨4, .phase⟩, ⟨5, .phase⟩, ⟨6, .phase⟩, ⟨7, .phase⟩, ⟨8, .phase⟩, ⟨9, .phase⟩, ⟨10, .phase⟩, ⟨11, .phase⟩, ⟨12, .phase⟩, ⟨13, .phase⟩, ⟨14, .phase⟩, ⟨15, .phase⟩, ⟨16, .phase⟩], none⟩) rfl (fun K hK => ?_) AllReadyH.nil
                go_simp
                refine hK.out _ _ (by first | exact ⟨d0, d1, dA⟩ | exact ⟨E0.out, E1.out, EA.out⟩ | exact ⟨X0.out, X1.out, XA.out⟩) (fun hHeld => ?_)
                clear hK K hHeld
                try simp only [Act.put]
                refine wpAnyH_done (by kernel_rfl) ?_ _
                go_wp2_with fail
                exact ⟨HN.out, HMS.out⟩
              · have hxb : (x != 0) = true := by simp [hx0]
                clear hx0
                go_wp2_with fail
                obtain ⟨hm0, hm1, hmn, hmcd, hmcr⟩ := mi_facts (rfl : torn = torn) ⟨by omega, by omega⟩ HCD.out HCR.out
                have HM := Lib.hid hmn
                have HMS := Lib.hid (rc_meas HLT.out)
                clear hmn
                refine wp_region_held_drew (S := (fun w' => w'.cell? ⟨c, 0, none⟩ = some (.slice (some ⟨gL, 0, none⟩) n cap) ∧ w'.cell? ⟨c, 1, none⟩ = some (.slice (some ⟨gQ, 0, none⟩) s.Q.length cq) ∧ w'.cell? ⟨gQ, k * 2, none⟩ = some (.int .i64 (a : Int)) ∧ w'.cell? ⟨gL, a, none⟩ = some (.slice (some ⟨gr, 0, none⟩) 128 cr))) (by kernel_rfl) (by first | exact ⟨c0, c1, kA', kL⟩) (fun hHeld => ?_)
                clear hHeld
                refine wpAnyH_take (i := 0) (oi := ⟨some 47, .move (.tmp 0), 27, "ref.go:116", #[], none⟩) (v := ?_) rfl (by kernel_rfl) (by kernel_rfl) (by kernel_rfl) (fun _ _ _ h => h) (Or.inl ⟨by rfl, ?_⟩) (by first | exact ⟨c0, c1, kA', kL⟩) ?_
                rotate_left
                · (intro w hSw; obtain ⟨s0, s1, s2, s3⟩ := hSw; go_simp <;> with_reducible rfl)
                simp only [Act.put, List.setIfInBounds_toArray, List.set_cons_zero, List.set_cons_succ]
                refine wpAnyH_take (i := 1) (oi := ⟨some 48, .nilCheck (.tmp 47), 0, "ref.go:116", #[⟨0, .data⟩], none⟩) (v := ?_) rfl (by kernel_rfl) (by kernel_rfl) (by kernel_rfl) (fun _ _ _ h => h) (Or.inl ⟨by rfl, ?_⟩) (by first | exact ⟨c0, c1, kA', kL⟩) ?_
                rotate_left
                · (intro w hSw; obtain ⟨s0, s1, s2, s3⟩ := hSw; go_simp <;> with_reducible rfl)
                simp only [Act.put, List.setIfInBounds_toArray, List.set_cons_zero, List.set_cons_succ]
                refine wpAnyH_take (i := 2) (oi := ⟨some 49, .fieldAddr 62 (.tmp 48) 0, 0, "ref.go:116", #[⟨1, .data⟩], none⟩) (v := ?_) rfl (by kernel_rfl) (by kernel_rfl) (by kernel_rfl) (fun _ _ _ h => h) (Or.inl ⟨by rfl, ?_⟩) (by first | exact ⟨c0, c1, kA', kL⟩) ?_
                rotate_left
                · (intro w hSw; obtain ⟨s0, s1, s2, s3⟩ := hSw; go_simp <;> with_reducible rfl)
                simp only [Act.put, List.setIfInBounds_toArray, List.set_cons_zero, List.set_cons_succ]
                refine wpAnyH_take (i := 3) (oi := ⟨some 50, .load 59 (.tmp 49), 59, "ref.go:116", #[⟨2, .data⟩], none⟩) (v := ?_) rfl (by kernel_rfl) (by kernel_rfl) (by kernel_rfl) (fun _ _ _ h => h) (Or.inl ⟨by rfl, ?_⟩) (by first | exact ⟨c0, c1, kA', kL⟩) ?_
                rotate_left
                · (intro w hSw; obtain ⟨s0, s1, s2, s3⟩ := hSw; go_simp <;> with_reducible rfl)
                simp only [Act.put, List.setIfInBounds_toArray, List.set_cons_zero, List.set_cons_succ]
                refine wpAnyH_take (i := 4) (oi := ⟨some 51, .move (.tmp 0), 27, "ref.go:116", #[], none⟩) (v := ?_) rfl (by kernel_rfl) (by kernel_rfl) (by kernel_rfl) (fun _ _ _ h => h) (Or.inl ⟨by rfl, ?_⟩) (by first | exact ⟨c0, c1, kA', kL⟩) ?_
                rotate_left
                · (intro w hSw; obtain ⟨s0, s1, s2, s3⟩ := hSw; go_simp <;> with_reducible rfl)
                simp only [Act.put, List.setIfInBounds_toArray, List.set_cons_zero, List.set_cons_succ]
                refine wpAnyH_take (i := 5) (oi := ⟨some 52, .nilCheck (.tmp 51), 0, "ref.go:116", #[⟨4, .data⟩], none⟩) (v := ?_) rfl (by kernel_rfl) (by kernel_rfl) (by kernel_rfl) (fun _ _ _ h => h) (Or.inl ⟨by rfl, ?_⟩) (by first | exact ⟨c0, c1, kA', kL⟩) ?_
                rotate_left
                · (intro w hSw; obtain ⟨s0, s1, s2, s3⟩ := hSw; go_simp <;> with_reducible rfl)
                simp only [Act.put, List.setIfInBounds_toArray, List.set_cons_zero, List.set_cons_succ]
                refine wpAnyH_take (i := 6) (oi := ⟨some 53, .fieldAddr 62 (.tmp 52) 1, 0, "ref.go:116", #[⟨5, .data⟩], none⟩) (v := ?_) rfl (by kernel_rfl) (by kernel_rfl) (by kernel_rfl) (fun _ _ _ h => h) (Or.inl ⟨by rfl, ?_⟩) (by first | exact ⟨c0, c1, kA', kL⟩) ?_
                rotate_left
                · (intro w hSw; obtain ⟨s0, s1, s2, s3⟩ := hSw; go_simp <;> with_reducible rfl)
                simp only [Act.put, List.setIfInBounds_toArray, List.set_cons_zero, List.set_cons_succ]
                refine wpAnyH_take (i := 7) (oi := ⟨some 54, .load 60 (.tmp 53), 60, "ref.go:116", #[⟨6, .data⟩], none⟩) (v := ?_) rfl (by kernel_rfl) (by kernel_rfl) (by kernel_rfl) (fun _ _ _ h => h) (Or.inl ⟨by rfl, ?_⟩) (by first | exact ⟨c0, c1, kA', kL⟩) ?_
                rotate_left
                · (intro w hSw; obtain ⟨s0, s1, s2, s3⟩ := hSw; go_simp <;> with_reducible rfl)
                simp only [Act.put, List.setIfInBounds_toArray, List.set_cons_zero, List.set_cons_succ]
                refine wpAnyH_take (i := 8) (oi := ⟨some 55, .move (.tmp 6), 3, "ref.go:116", #[], none⟩) (v := ?_) rfl (by kernel_rfl) (by kernel_rfl) (by kernel_rfl) (fun _ _ _ h => h) (Or.inl ⟨by rfl, ?_⟩) (by first | exact ⟨c0, c1, kA', kL⟩) ?_
                rotate_left
                · (intro w hSw; obtain ⟨s0, s1, s2, s3⟩ := hSw; go_simp <;> with_reducible rfl)
                simp only [Act.put, List.setIfInBounds_toArray, List.set_cons_zero, List.set_cons_succ]
                refine wpAnyH_take (i := 9) (oi := ⟨some 56, .indexAddr 60 (.tmp 54) (.tmp 55), 0, "ref.go:116", #[⟨7, .data⟩, ⟨8, .data⟩], none⟩) (v := ?_) rfl (by kernel_rfl) (by kernel_rfl) (by kernel_rfl) (fun _ _ _ h => h) (Or.inl ⟨by rfl, ?_⟩) (by first | exact ⟨c0, c1, kA', kL⟩) ?_
                rotate_left
                · (intro w hSw; obtain ⟨s0, s1, s2, s3⟩ := hSw; go_simp <;> with_reducible rfl)
                simp only [Act.put, List.setIfInBounds_toArray, List.set_cons_zero, List.set_cons_succ]
                refine wpAnyH_take (i := 10) (oi := ⟨some 57, .fieldAddr 76 (.tmp 56) 0, 0, "ref.go:116", #[⟨9, .data⟩], none⟩) (v := ?_) rfl (by kernel_rfl) (by kernel_rfl) (by kernel_rfl) (fun _ _ _ h => h) (Or.inl ⟨by rfl, ?_⟩) (by first | exact ⟨c0, c1, kA', kL⟩) ?_
                rotate_left
                · (intro w hSw; obtain ⟨s0, s1, s2, s3⟩ := hSw; go_simp <;> with_reducible rfl)
                simp only [Act.put, List.setIfInBounds_toArray, List.set_cons_zero, List.set_cons_succ]
                refine wpAnyH_take (i := 11) (oi := ⟨some 58, .load 3 (.tmp 57), 3, "ref.go:116", #[⟨10, .data⟩], none⟩) (v := ?_) rfl (by kernel_rfl) (by kernel_rfl) (by kernel_rfl) (fun _ _ _ h => h) (Or.inl ⟨by rfl, ?_⟩) (by first | exact ⟨c0, c1, kA', kL⟩) ?_
                rotate_left
                · (intro w hSw; obtain ⟨s0, s1, s2, s3⟩ := hSw; go_simp <;> with_reducible rfl)
                simp only [Act.put, List.setIfInBounds_toArray, List.set_cons_zero, List.set_cons_succ]
                refine wpAnyH_take (i := 12) (oi := ⟨some 59, .indexAddr 59 (.tmp 50) (.tmp 58), 0, "ref.go:116", #[⟨3, .data⟩, ⟨11, .data⟩], none⟩) (v := ?_) rfl (by kernel_rfl) (by kernel_rfl) (by kernel_rfl) (fun _ _ _ h => h) (Or.inl ⟨by rfl, ?_⟩) (by first | exact ⟨c0, c1, kA', kL⟩) ?_
                rotate_left
                · (intro w hSw; obtain ⟨s0, s1, s2, s3⟩ := hSw; go_simp <;> with_reducible rfl)
                simp only [Act.put, List.setIfInBounds_toArray, List.set_cons_zero, List.set_cons_succ]
                refine wpAnyH_take (i := 13) (oi := ⟨some 60, .load 33 (.tmp 59), 33, "ref.go:116", #[⟨12, .data⟩], none⟩) (v := ?_) rfl (by kernel_rfl) (by kernel_rfl) (by kernel_rfl) (fun _ _ _ h => h) (Or.inl ⟨by rfl, ?_⟩) (by first | exact ⟨c0, c1, kA', kL⟩) ?_
                rotate_left
                · (intro w hSw; obtain ⟨s0, s1, s2, s3⟩ := hSw; go_simp <;> with_reducible rfl)
                simp only [Act.put, List.setIfInBounds_toArray, List.set_cons_zero, List.set_cons_succ]
                refine wpAnyH_take (i := 14) (oi := ⟨some 8, .assign (.tmp 60), 33, "ref.go:116", #[⟨13, .data⟩, ⟨0, .phase⟩, ⟨1, .phase⟩, ⟨2, .phase⟩, ⟨3, .phase⟩, ⟨4, .phase⟩, ⟨5, .phase⟩, ⟨6, .phase⟩, ⟨7, .phase⟩, ⟨8, .phase⟩, ⟨9, .phase⟩, ⟨10, .phase⟩, ⟨11, .phase⟩, ⟨12, .phase⟩, ⟨13, .phase⟩], none⟩) (v := ?_) rfl (by kernel_rfl) (by kernel_rfl) (by kernel_rfl) (fun _ _ _ h => h) (Or.inl ⟨by rfl, ?_⟩) (by first | exact ⟨c0, c1, kA', kL⟩) ?_
                rotate_left
                · (intro w hSw; obtain ⟨s0, s1, s2, s3⟩ := hSw; go_simp <;> with_reducible rfl)
                simp only [Act.put, List.setIfInBounds_toArray, List.set_cons_zero, List.set_cons_succ]
                refine wpAnyH_done (by kernel_rfl) ?_ _
                have hrd := HR.out.far ((Adv.refl Nul wr).drew) (fun _ h _ => h)
                have HRD := Lib.hid hrd
                have HNE := Lib.hid hrd.ne_L
                have hfront := (SD.out.far ((Adv.refl Nul wr).drew) (fun _ h _ => h)).rd.front8 HM.out
                have HFRONT := Lib.hid hfront
                clear hrd hfront
                go_wp2_with (first
                  | (go_at_call 31; refine (copy_any _ torn.toNat (q.2.take torn.toNat) _ HFRONT.out (Nat.le_trans HM.out (by decide))).mono ?_; rintro e w9 ⟨v9, F9, rfl, h9, a9⟩; obtain ⟨av9, cv9, rfl, _, _⟩ := h9.form0; have H9 := Lib.hid (h9.far ((Adv.refl Nul w9).drew) (fun _ h _ => h)); have A9 := Lib.hid (a9.drew); obtain ⟨d0, d1, dA⟩ := crash_cells HRD.out A9.out (k := k) (a := a) kA'; have RST0 := Lib.hid ((SL.out.far ((Adv.refl Nul wr).drew) (fun _ h _ => h)).far A9.out (fun _ h _ => h)).rd; clear h9 a9)
                  | fail)
                refine wp_region_held_drew (S := (fun w' => w'.cell? ⟨c, 0, none⟩ = some (.slice (some ⟨gL, 0, none⟩) n cap) ∧ w'.cell? ⟨c, 1, none⟩ = some (.slice (some ⟨gQ, 0, none⟩) s.Q.length cq) ∧ w'.cell? ⟨gQ, k * 2, none⟩ = some (.int .i64 (a : Int)))) (by kernel_rfl) (by first | exact ⟨d0, d1, dA⟩ | exact ⟨E0.out, E1.out, EA.out⟩ | exact ⟨X0.out, X1.out, XA.out⟩) (fun hHeld => ?_)
                clear hHeld
                refine wpAnyH_take (i := 0) (oi := ⟨some 72, .move (.tmp 0), 27, "ref.go:118", #[], none⟩) (v := ?_) rfl (by kernel_rfl) (by kernel_rfl) (by kernel_rfl) (fun _ _ _ h => h) (Or.inl ⟨by rfl, ?_⟩) (by first | exact ⟨d0, d1, dA⟩ | exact ⟨E0.out, E1.out, EA.out⟩ | exact ⟨X0.out, X1.out, XA.out⟩) ?_
                rotate_left
                · (intro w hSw; obtain ⟨s0, s1, s2⟩ := hSw; go_simp <;> with_reducible rfl)
                simp only [Act.put, List.setIfInBounds_toArray, List.set_cons_zero, List.set_cons_succ]
                refine wpAnyH_take (i := 1) (oi := ⟨some 73, .nilCheck (.tmp 72), 0, "ref.go:118", #[⟨0, .data⟩], none⟩) (v := ?_) rfl (by kernel_rfl) (by kernel_rfl) (by kernel_rfl) (fun _ _ _ h => h) (Or.inl ⟨by rfl, ?_⟩) (by first | exact ⟨d0, d1, dA⟩ | exact ⟨E0.out, E1.out, EA.out⟩ | exact ⟨X0.out, X1.out, XA.out⟩) ?_
                rotate_left
                · (intro w hSw; obtain ⟨s0, s1, s2⟩ := hSw; go_simp <;> with_reducible rfl)
                simp only [Act.put, List.setIfInBounds_toArray, List.set_cons_zero, List.set_cons_succ]
                refine wpAnyH_take (i := 2) (oi := ⟨some 74, .fieldAddr 62 (.tmp 73) 0, 0, "ref.go:118", #[⟨1, .data⟩], none⟩) (v := ?_) rfl (by kernel_rfl) (by kernel_rfl) (by kernel_rfl) (fun _ _ _ h => h) (Or.inl ⟨by rfl, ?_⟩) (by first | exact ⟨d0, d1, dA⟩ | exact ⟨E0.out, E1.out, EA.out⟩ | exact ⟨X0.out, X1.out, XA.out⟩) ?_
                rotate_left
                · (intro w hSw; obtain ⟨s0, s1, s2⟩ := hSw; go_simp <;> with_reducible rfl)
                simp only [Act.put, List.setIfInBounds_toArray, List.set_cons_zero, List.set_cons_succ]
                refine wpAnyH_take (i := 3) (oi := ⟨some 75, .load 59 (.tmp 74), 59, "ref.go:118", #[⟨2, .data⟩], none⟩) (v := ?_) rfl (by kernel_rfl) (by kernel_rfl) (by kernel_rfl) (fun _ _ _ h => h) (Or.inl ⟨by rfl, ?_⟩) (by first | exact ⟨d0, d1, dA⟩ | exact ⟨E0.out, E1.out, EA.out⟩ | exact ⟨X0.out, X1.out, XA.out⟩) ?_
                rotate_left
                · (intro w hSw; obtain ⟨s0, s1, s2⟩ := hSw; go_simp <;> with_reducible rfl)
                simp only [Act.put, List.setIfInBounds_toArray, List.set_cons_zero, List.set_cons_succ]
                refine wpAnyH_take (i := 4) (oi := ⟨some 76, .move (.tmp 0), 27, "ref.go:118", #[], none⟩) (v := ?_) rfl (by kernel_rfl) (by kernel_rfl) (by kernel_rfl) (fun _ _ _ h => h) (Or.inl ⟨by rfl, ?_⟩) (by first | exact ⟨d0, d1, dA⟩ | exact ⟨E0.out, E1.out, EA.out⟩ | exact ⟨X0.out, X1.out, XA.out⟩) ?_
                rotate_left
                · (intro w hSw; obtain ⟨s0, s1, s2⟩ := hSw; go_simp <;> with_reducible rfl)
                simp only [Act.put, List.setIfInBounds_toArray, List.set_cons_zero, List.set_cons_succ]
                refine wpAnyH_take (i := 5) (oi := ⟨some 77, .nilCheck (.tmp 76), 0, "ref.go:118", #[⟨4, .data⟩], none⟩) (v := ?_) rfl (by kernel_rfl) (by kernel_rfl) (by kernel_rfl) (fun _ _ _ h => h) (Or.inl ⟨by rfl, ?_⟩) (by first | exact ⟨d0, d1, dA⟩ | exact ⟨E0.out, E1.out, EA.out⟩ | exact ⟨X0.out, X1.out, XA.out⟩) ?_
                rotate_left
                · (intro w hSw; obtain ⟨s0, s1, s2⟩ := hSw; go_simp <;> with_reducible rfl)
                simp only [Act.put, List.setIfInBounds_toArray, List.set_cons_zero, List.set_cons_succ]
                refine wpAnyH_take (i := 6) (oi := ⟨some 78, .fieldAddr 62 (.tmp 77) 1, 0, "ref.go:118", #[⟨5, .data⟩], none⟩) (v := ?_) rfl (by kernel_rfl) (by kernel_rfl) (by kernel_rfl) (fun _ _ _ h => h) (Or.inl ⟨by rfl, ?_⟩) (by first | exact ⟨d0, d1, dA⟩ | exact ⟨E0.out, E1.out, EA.out⟩ | exact ⟨X0.out, X1.out, XA.out⟩) ?_
                rotate_left
                · (intro w hSw; obtain ⟨s0, s1, s2⟩ := hSw; go_simp <;> with_reducible rfl)
                simp only [Act.put, List.setIfInBounds_toArray, List.set_cons_zero, List.set_cons_succ]
                refine wpAnyH_take (i := 7) (oi := ⟨some 79, .load 60 (.tmp 78), 60, "ref.go:118", #[⟨6, .data⟩], none⟩) (v := ?_) rfl (by kernel_rfl) (by kernel_rfl) (by kernel_rfl) (fun _ _ _ h => h) (Or.inl ⟨by rfl, ?_⟩) (by first | exact ⟨d0, d1, dA⟩ | exact ⟨E0.out, E1.out, EA.out⟩ | exact ⟨X0.out, X1.out, XA.out⟩) ?_
                rotate_left
                · (intro w hSw; obtain ⟨s0, s1, s2⟩ := hSw; go_simp <;> with_reducible rfl)
                simp only [Act.put, List.setIfInBounds_toArray, List.set_cons_zero, List.set_cons_succ]
                refine wpAnyH_take (i := 8) (oi := ⟨some 80, .move (.tmp 6), 3, "ref.go:118", #[], none⟩) (v := ?_) rfl (by kernel_rfl) (by kernel_rfl) (by kernel_rfl) (fun _ _ _ h => h) (Or.inl ⟨by rfl, ?_⟩) (by first | exact ⟨d0, d1, dA⟩ | exact ⟨E0.out, E1.out, EA.out⟩ | exact ⟨X0.out, X1.out, XA.out⟩) ?_
                rotate_left
                · (intro w hSw; obtain ⟨s0, s1, s2⟩ := hSw; go_simp <;> with_reducible rfl)
                simp only [Act.put, List.setIfInBounds_toArray, List.set_cons_zero, List.set_cons_succ]
                refine wpAnyH_take (i := 9) (oi := ⟨some 81, .indexAddr 60 (.tmp 79) (.tmp 80), 0, "ref.go:118", #[⟨7, .data⟩, ⟨8, .data⟩], none⟩) (v := ?_) rfl (by kernel_rfl) (by kernel_rfl) (by kernel_rfl) (fun _ _ _ h => h) (Or.inl ⟨by rfl, ?_⟩) (by first | exact ⟨d0, d1, dA⟩ | exact ⟨E0.out, E1.out, EA.out⟩ | exact ⟨X0.out, X1.out, XA.out⟩) ?_
                rotate_left
                · (intro w hSw; obtain ⟨s0, s1, s2⟩ := hSw; go_simp <;> with_reducible rfl)
                simp only [Act.put, List.setIfInBounds_toArray, List.set_cons_zero, List.set_cons_succ]
                refine wpAnyH_take (i := 10) (oi := ⟨some 82, .fieldAddr 76 (.tmp 81) 0, 0, "ref.go:118", #[⟨9, .data⟩], none⟩) (v := ?_) rfl (by kernel_rfl) (by kernel_rfl) (by kernel_rfl) (fun _ _ _ h => h) (Or.inl ⟨by rfl, ?_⟩) (by first | exact ⟨d0, d1, dA⟩ | exact ⟨E0.out, E1.out, EA.out⟩ | exact ⟨X0.out, X1.out, XA.out⟩) ?_
                rotate_left
                · (intro w hSw; obtain ⟨s0, s1, s2⟩ := hSw; go_simp <;> with_reducible rfl)
                simp only [Act.put, List.setIfInBounds_toArray, List.set_cons_zero, List.set_cons_succ]
                refine wpAnyH_take (i := 11) (oi := ⟨some 83, .load 3 (.tmp 82), 3, "ref.go:118", #[⟨10, .data⟩], none⟩) (v := ?_) rfl (by kernel_rfl) (by kernel_rfl) (by kernel_rfl) (fun _ _ _ h => h) (Or.inl ⟨by rfl, ?_⟩) (by first | exact ⟨d0, d1, dA⟩ | exact ⟨E0.out, E1.out, EA.out⟩ | exact ⟨X0.out, X1.out, XA.out⟩) ?_
                rotate_left
                · (intro w hSw; obtain ⟨s0, s1, s2⟩ := hSw; go_simp <;> with_reducible rfl)
                simp only [Act.put, List.setIfInBounds_toArray, List.set_cons_zero, List.set_cons_succ]
                refine wpAnyH_take (i := 12) (oi := ⟨some 84, .move (.tmp 9), 33, "ref.go:118", #[], none⟩) (v := ?_) rfl (by kernel_rfl) (by kernel_rfl) (by kernel_rfl) (fun _ _ _ h => h) (Or.inl ⟨by rfl, ?_⟩) (by first | exact ⟨d0, d1, dA⟩ | exact ⟨E0.out, E1.out, EA.out⟩ | exact ⟨X0.out, X1.out, XA.out⟩) ?_
                rotate_left
                · (intro w hSw; obtain ⟨s0, s1, s2⟩ := hSw; go_simp <;> with_reducible rfl)
                simp only [Act.put, List.setIfInBounds_toArray, List.set_cons_zero, List.set_cons_succ]
                refine wpAnyH_take (i := 13) (oi := ⟨some 85, .move (.tmp 8), 33, "ref.go:118", #[], none⟩) (v := ?_) rfl (by kernel_rfl) (by kernel_rfl) (by kernel_rfl) (fun _ _ _ h => h) (Or.inl ⟨by rfl, ?_⟩) (by first | exact ⟨d0, d1, dA⟩ | exact ⟨E0.out, E1.out, EA.out⟩ | exact ⟨X0.out, X1.out, XA.out⟩) ?_
                rotate_left
                · (intro w hSw; obtain ⟨s0, s1, s2⟩ := hSw; go_simp <;> with_reducible rfl)
                simp only [Act.put, List.setIfInBounds_toArray, List.set_cons_zero, List.set_cons_succ]
                refine wpAnyH_take (i := 14) (oi := ⟨some 86, .move (.tmp 7), 3, "ref.go:118", #[], none⟩) (v := ?_) rfl (by kernel_rfl) (by kernel_rfl) (by kernel_rfl) (fun _ _ _ h => h) (Or.inl ⟨by rfl, ?_⟩) (by first | exact ⟨d0, d1, dA⟩ | exact ⟨E0.out, E1.out, EA.out⟩ | exact ⟨X0.out, X1.out, XA.out⟩) ?_
                rotate_left
                · (intro w hSw; obtain ⟨s0, s1, s2⟩ := hSw; go_simp <;> with_reducible rfl)
                simp only [Act.put, List.setIfInBounds_toArray, List.set_cons_zero, List.set_cons_succ]
                refine wpAnyH_take (i := 15) (oi := ⟨some 87, .slice 33 (.tmp 85) (some (.tmp 86)) none none, 33, "ref.go:118", #[⟨13, .data⟩, ⟨14, .data⟩], none⟩) (v := ?_) rfl (by kernel_rfl) (by kernel_rfl) (by kernel_rfl) (fun _ _ _ h => h) (Or.inl ⟨by rfl, ?_⟩) (by first | exact ⟨d0, d1, dA⟩ | exact ⟨E0.out, E1.out, EA.out⟩ | exact ⟨X0.out, X1.out, XA.out⟩) ?_
                rotate_left
                · (intro w hSw; obtain ⟨s0, s1, s2⟩ := hSw; go_simp <;> with_reducible rfl)
                simp only [Act.put, List.setIfInBounds_toArray, List.set_cons_zero, List.set_cons_succ]
                refine wpAnyH_ready (rs := [16]) (by kernel_rfl) (by simp) ?_
                refine AllReadyH.cons (o := ⟨some 88, .call { callee := Go.Callee.builtin Go.Builtin.append, args := #[Go.Operand.tmp 84, Go.Operand.tmp 87], argTypes := #[33, 33] }, 33, "ref.go:118", #[⟨12, .data⟩, ⟨15, .data⟩], none⟩) rfl (fun K hK => ?_) AllReadyH.nil
                refine step_append_rd rfl (.tmp 84) (.tmp 87) rfl rfl rfl H9.out.own (by first | exact RST0.out.rest8 HM.out _ rfl | exact RST0.out.rest8 HM.out _ (by split <;> rfl)) (u8_one _) (app_le HM.out) ?_
                intro v10 w10 hown hg hat
                obtain ⟨⟨A6, n6, c6, rfl⟩, k1, k2, ⟨u6, k5⟩, k6, G2, k7, k8⟩ := crash_fin HRD.out A9.out H9.out HAN.out HM.out HQ2.out LL.out hown hg hat
                have E0 := Lib.hid ((World.cell?_of_block (k1 c HRD.out.inG)).trans HRD.out.c0)
                have E1 := Lib.hid ((World.cell?_of_block (k1 c HRD.out.inG)).trans HRD.out.c1)
                have EA := Lib.hid ((World.cell?_of_block (k1 gQ (HRD.out.q.inF gQ rfl))).trans kA')
                have X0 := Lib.hid ((World.cell?_of_block (k2 c HRD.out.inG HNE.out.1)).trans HRD.out.c0)
                have X1 := Lib.hid ((World.cell?_of_block (k2 c HRD.out.inG HNE.out.1)).trans HRD.out.c1)
                have XA := Lib.hid ((World.cell?_of_block (k2 gQ (HRD.out.q.inF gQ rfl) HNE.out.2)).trans kA')
                have HN := Lib.hid (rc_next HLT.out HST.out HK0.out HQA.out HRE'.out k7 (HA.out.trans (Adv.of_drew k8)))
                clear hown hg hat k1 k2 k7 k8
                refine hK.out _ _ (by first | exact ⟨d0, d1, dA⟩ | exact ⟨E0.out, E1.out, EA.out⟩ | exact ⟨X0.out, X1.out, XA.out⟩) (fun hHeld => ?_)
                clear hK K hHeld
                try simp only [Act.put, List.setIfInBounds_toArray, List.set_cons_zero, List.set_cons_succ]
                refine wpAnyH_take (i := 17) (oi := ⟨some 89, .indexAddr 59 (.tmp 75) (.tmp 83), 0, "ref.go:118", #[⟨3, .data⟩, ⟨11, .data⟩, ⟨0, .phase⟩, ⟨1, .phase⟩, ⟨2, .phase⟩, ⟨3, .phase⟩, ⟨4, .phase⟩, ⟨5, .phase⟩, ⟨6, .phase⟩, ⟨7, .phase⟩, ⟨8, .phase⟩, ⟨9, .phase⟩, ⟨10, .phase⟩, ⟨11, .phase⟩, ⟨12, .phase⟩, ⟨13, .phase⟩, ⟨14, .phase⟩, ⟨15, .phase⟩, ⟨16, .phase⟩], none⟩) (v := ?_) rfl (by kernel_rfl) (by kernel_rfl) (by kernel_rfl) (fun _ _ _ h => h) (Or.inl ⟨by rfl, ?_⟩) (by first | exact ⟨d0, d1, dA⟩ | exact ⟨E0.out, E1.out, EA.out⟩ | exact ⟨X0.out, X1.out, XA.out⟩) ?_
                rotate_left
                · (intro w hSw; obtain ⟨s0, s1, s2⟩ := hSw; go_simp <;> with_reducible rfl)
                simp only [Act.put, List.setIfInBounds_toArray, List.set_cons_zero, List.set_cons_succ]
                refine wpAnyH_ready (rs := [18]) (by kernel_rfl) (by simp) ?_
                refine AllReadyH.cons (o := ⟨none, .store 33 (.tmp 89) (.tmp 88), 0, "ref.go:118", #[⟨17, .data⟩, ⟨16, .data⟩, ⟨16, .chain⟩, ⟨0, .phase⟩, ⟨1, .phase⟩, ⟨2, .phase⟩, ⟨3, .phase⟩, ⟨4, .phase⟩, ⟨5, .phase⟩, ⟨6, .phase⟩, ⟨7, .phase⟩, ⟨8, .phase⟩, ⟨9, .phase⟩, ⟨10, .phase⟩, ⟨11, .phase⟩, ⟨12, .phase⟩, ⟨13, .phase⟩, ⟨14, .phase⟩, ⟨15, .phase⟩, ⟨16, .phase⟩], none⟩) rfl (fun K hK => ?_) AllReadyH.nil
                go_simp
                refine hK.out _ _ (by first | exact ⟨d0, d1, dA⟩ | exact ⟨E0.out, E1.out, EA.out⟩ | exact ⟨X0.out, X1.out, XA.out⟩) (fun hHeld => ?_)
                clear hK K hHeld
                try simp only [Act.put]
                refine wpAnyH_done (by kernel_rfl) ?_ _
                go_wp2_with fail
                exact ⟨HN.out, HMS.out⟩
            · have hki : (m0 : Int) ≤ (k : Int) := by omega
              go_wp2_with fail
              obtain ⟨hm0, hm1, hmn, hmcd, hmcr⟩ := mi_facts (rfl : torn = torn) ⟨by omega, by omega⟩ HCD.out HCR.out
              have HM := Lib.hid hmn
              have HMS := Lib.hid (rc_meas HLT.out)
              clear hmn
              refine wp_region_held_drew (S := (fun w' => w'.cell? ⟨c, 0, none⟩ = some (.slice (some ⟨gL, 0, none⟩) n cap) ∧ w'.cell? ⟨c, 1, none⟩ = some (.slice (some ⟨gQ, 0, none⟩) s.Q.length cq) ∧ w'.cell? ⟨gQ, k * 2, none⟩ = some (.int .i64 (a : Int)) ∧ w'.cell? ⟨gL, a, none⟩ = some (.slice (some ⟨gr, 0, none⟩) 128 cr))) (by kernel_rfl) (by first | exact ⟨c0, c1, kA', kL⟩) (fun hHeld => ?_)
              clear hHeld
              refine wpAnyH_take (i := 0) (oi := ⟨some 47, .move (.tmp 0), 27, "ref.go:116", #[], none⟩) (v := ?_) rfl (by kernel_rfl) (by kernel_rfl) (by kernel_rfl) (fun _ _ _ h => h) (Or.inl ⟨by rfl, ?_⟩) (by first | exact ⟨c0, c1, kA', kL⟩) ?_
              rotate_left
              · (intro w hSw; obtain ⟨s0, s1, s2, s3⟩ := hSw; go_simp <;> with_reducible rfl)
              simp only [Act.put, List.setIfInBounds_toArray, List.set_cons_zero, List.set_cons_succ]
              refine wpAnyH_take (i := 1) (oi := ⟨some 48, .nilCheck (.tmp 47), 0, "ref.go:116", #[⟨0, .data⟩], none⟩) (v := ?_) rfl (by kernel_rfl) (by kernel_rfl) (by kernel_rfl) (fun _ _ _ h => h) (Or.inl ⟨by rfl, ?_⟩) (by first | exact ⟨c0, c1, kA', kL⟩) ?_
              rotate_left
              · (intro w hSw; obtain ⟨s0, s1, s2, s3⟩ := hSw; go_simp <;> with_reducible rfl)
              simp only [Act.put, List.setIfInBounds_toArray, List.set_cons_zero, List.set_cons_succ]
              refine wpAnyH_take (i := 2) (oi := ⟨some 49, .fieldAddr 62 (.tmp 48) 0, 0, "ref.go:116", #[⟨1, .data⟩], none⟩) (v := ?_) rfl (by kernel_rfl) (by kernel_rfl) (by kernel_rfl) (fun _ _ _ h => h) (Or.inl ⟨by rfl, ?_⟩) (by first | exact ⟨c0, c1, kA', kL⟩) ?_
              rotate_left
              · (intro w hSw; obtain ⟨s0, s1, s2, s3⟩ := hSw; go_simp <;> with_reducible rfl)
              simp only [Act.put, List.setIfInBounds_toArray, List.set_cons_zero, List.set_cons_succ]
              refine wpAnyH_take (i := 3) (oi := ⟨some 50, .load 59 (.tmp 49), 59, "ref.go:116", #[⟨2, .data⟩], none⟩) (v := ?_) rfl (by kernel_rfl) (by kernel_rfl) (by kernel_rfl) (fun _ _ _ h => h) (Or.inl ⟨by rfl, ?_⟩) (by first | exact ⟨c0, c1, kA', kL⟩) ?_
              rotate_left
              · (intro w hSw; obtain ⟨s0, s1, s2, s3⟩ := hSw; go_simp <;> with_reducible rfl)
              simp only [Act.put, List.setIfInBounds_toArray, List.set_cons_zero, List.set_cons_succ]
              refine wpAnyH_take (i := 4) (oi := ⟨some 51, .move (.tmp 0), 27, "ref.go:116", #[], none⟩) (v := ?_) rfl (by kernel_rfl) (by kernel_rfl) (by kernel_rfl) (fun _ _ _ h => h) (Or.inl ⟨by rfl, ?_⟩) (by first | exact ⟨c0, c1, kA', kL⟩) ?_
              rotate_left
              · (intro w hSw; obtain ⟨s0, s1, s2, s3⟩ := hSw; go_simp <;> with_reducible rfl)
              simp only [Act.put, List.setIfInBounds_toArray, List.set_cons_zero, List.set_cons_succ]
              refine wpAnyH_take (i := 5) (oi := ⟨some 52, .nilCheck (.tmp 51), 0, "ref.go:116", #[⟨4, .data⟩], none⟩) (v := ?_) rfl (by kernel_rfl) (by kernel_rfl) (by kernel_rfl) (fun _ _ _ h => h) (Or.inl ⟨by rfl, ?_⟩) (by first | exact ⟨c0, c1, kA', kL⟩) ?_
              rotate_left
              · (intro w hSw; obtain ⟨s0, s1, s2, s3⟩ := hSw; go_simp <;> with_reducible rfl)
              simp only [Act.put, List.setIfInBounds_toArray, List.set_cons_zero, List.set_cons_succ]
              refine wpAnyH_take (i := 6) (oi := ⟨some 53, .fieldAddr 62 (.tmp 52) 1, 0, "ref.go:116", #[⟨5, .data⟩], none⟩) (v := ?_) rfl (by kernel_rfl) (by kernel_rfl) (by kernel_rfl) (fun _ _ _ h => h) (Or.inl ⟨by rfl, ?_⟩) (by first | exact ⟨c0, c1, kA', kL⟩) ?_
              rotate_left
              · (intro w hSw; obtain ⟨s0, s1, s2, s3⟩ := hSw; go_simp <;> with_reducible rfl)
              simp only [Act.put, List.setIfInBounds_toArray, List.set_cons_zero, List.set_cons_succ]
              refine wpAnyH_take (i := 7) (oi := ⟨some 54, .load 60 (.tmp 53), 60, "ref.go:116", #[⟨6, .data⟩], none⟩) (v := ?_) rfl (by kernel_rfl) (by kernel_rfl) (by kernel_rfl) (fun _ _ _ h => h) (Or.inl ⟨by rfl, ?_⟩) (by first | exact ⟨c0, c1, kA', kL⟩) ?_
              rotate_left
              · (intro w hSw; obtain ⟨s0, s1, s2, s3⟩ := hSw; go_simp <;> with_reducible rfl)
              simp only [Act.put, List.setIfInBounds_toArray, List.set_cons_zero, List.set_cons_succ]
              refine wpAnyH_take (i := 8) (oi := ⟨some 55, .move (.tmp 6), 3, "ref.go:116", #[], none⟩) (v := ?_) rfl (by kernel_rfl) (by kernel_rfl) (by kernel_rfl) (fun _ _ _ h => h) (Or.inl ⟨by rfl, ?_⟩) (by first | exact ⟨c0, c1, kA', kL⟩) ?_
              rotate_left
              · (intro w hSw; obtain ⟨s0, s1, s2, s3⟩ := hSw; go_simp <;> with_reducible rfl)
              simp only [Act.put, List.setIfInBounds_toArray, List.set_cons_zero, List.set_cons_succ]
              refine wpAnyH_take (i := 9) (oi := ⟨some 56, .indexAddr 60 (.tmp 54) (.tmp 55), 0, "ref.go:116", #[⟨7, .data⟩, ⟨8, .data⟩], none⟩) (v := ?_) rfl (by kernel_rfl) (by kernel_rfl) (by kernel_rfl) (fun _ _ _ h => h) (Or.inl ⟨by rfl, ?_⟩) (by first | exact ⟨c0, c1, kA', kL⟩) ?_
              rotate_left
              · (intro w hSw; obtain ⟨s0, s1, s2, s3⟩ := hSw; go_simp <;> with_reducible rfl)
              simp only [Act.put, List.setIfInBounds_toArray, List.set_cons_zero, List.set_cons_succ]
              refine wpAnyH_take (i := 10) (oi := ⟨some 57, .fieldAddr 76 (.tmp 56) 0, 0, "ref.go:116", #[⟨9, .data⟩], none⟩) (v := ?_) rfl (by kernel_rfl) (by kernel_rfl) (by kernel_rfl) (fun _ _ _ h => h) (Or.inl ⟨by rfl, ?_⟩) (by first | exact ⟨c0, c1, kA', kL⟩) ?_
              rotate_left
              · (intro w hSw; obtain ⟨s0, s1, s2, s3⟩ := hSw; go_simp <;> with_reducible rfl)
              simp only [Act.put, List.setIfInBounds_toArray, List.set_cons_zero, List.set_cons_succ]
              refine wpAnyH_take (i := 11) (oi := ⟨some 58, .load 3 (.tmp 57), 3, "ref.go:116", #[⟨10, .data⟩], none⟩) (v := ?_) rfl (by kernel_rfl) (by kernel_rfl) (by kernel_rfl) (fun _ _ _ h => h) (Or.inl ⟨by rfl, ?_⟩) (by first | exact ⟨c0, c1, kA', kL⟩) ?_
              rotate_left
              · (intro w hSw; obtain ⟨s0, s1, s2, s3⟩ := hSw; go_simp <;> with_reducible rfl)
              simp only [Act.put, List.setIfInBounds_toArray, List.set_cons_zero, List.set_cons_succ]
              refine wpAnyH_take (i := 12) (oi := ⟨some 59, .indexAddr 59 (.tmp 50) (.tmp 58), 0, "ref.go:116", #[⟨3, .data⟩, ⟨11, .data⟩], none⟩) (v := ?_) rfl (by kernel_rfl) (by kernel_rfl) (by kernel_rfl) (fun _ _ _ h => h) (Or.inl ⟨by rfl, ?_⟩) (by first | exact ⟨c0, c1, kA', kL⟩) ?_
              rotate_left
              · (intro w hSw; obtain ⟨s0, s1, s2, s3⟩ := hSw; go_simp <;> with_reducible rfl)
              simp only [Act.put, List.setIfInBounds_toArray, List.set_cons_zero, List.set_cons_succ]
              refine wpAnyH_take (i := 13) (oi := ⟨some 60, .load 33 (.tmp 59), 33, "ref.go:116", #[⟨12, .data⟩], none⟩) (v := ?_) rfl (by kernel_rfl) (by kernel_rfl) (by kernel_rfl) (fun _ _ _ h => h) (Or.inl ⟨by rfl, ?_⟩) (by first | exact ⟨c0, c1, kA', kL⟩) ?_
              rotate_left
              · (intro w hSw; obtain ⟨s0, s1, s2, s3⟩ := hSw; go_simp <;> with_reducible rfl)
              simp only [Act.put, List.setIfInBounds_toArray, List.set_cons_zero, List.set_cons_succ]
              refine wpAnyH_take (i := 14) (oi := ⟨some 8, .assign (.tmp 60), 33, "ref.go:116", #[⟨13, .data⟩, ⟨0, .phase⟩, ⟨1, .phase⟩, ⟨2, .phase⟩, ⟨3, .phase⟩, ⟨4, .phase⟩, ⟨5, .phase⟩, ⟨6, .phase⟩, ⟨7, .phase⟩, ⟨8, .phase⟩, ⟨9, .phase⟩, ⟨10, .phase⟩, ⟨11, .phase⟩, ⟨12, .phase⟩, ⟨13, .phase⟩], none⟩) (v := ?_) rfl (by kernel_rfl) (by kernel_rfl) (by kernel_rfl) (fun _ _ _ h => h) (Or.inl ⟨by rfl, ?_⟩) (by first | exact ⟨c0, c1, kA', kL⟩) ?_
              rotate_left
              · (intro w hSw; obtain ⟨s0, s1, s2, s3⟩ := hSw; go_simp <;> with_reducible rfl)
              simp only [Act.put, List.setIfInBounds_toArray, List.set_cons_zero, List.set_cons_succ]
              refine wpAnyH_done (by kernel_rfl) ?_ _
              have hrd := HR.out.far ((Adv.refl Nul wr).drew) (fun _ h _ => h)
              have HRD := Lib.hid hrd
              have HNE := Lib.hid hrd.ne_L
              have hfront := (SD.out.far ((Adv.refl Nul wr).drew) (fun _ h _ => h)).rd.front8 HM.out
              have HFRONT := Lib.hid hfront
              clear hrd hfront
              go_wp2_with (first
                | (go_at_call 31; refine (copy_any _ torn.toNat (q.2.take torn.toNat) _ HFRONT.out (Nat.le_trans HM.out (by decide))).mono ?_; rintro e w9 ⟨v9, F9, rfl, h9, a9⟩; obtain ⟨av9, cv9, rfl, _, _⟩ := h9.form0; have H9 := Lib.hid (h9.far ((Adv.refl Nul w9).drew) (fun _ h _ => h)); have A9 := Lib.hid (a9.drew); obtain ⟨d0, d1, dA⟩ := crash_cells HRD.out A9.out (k := k) (a := a) kA'; have RST0 := Lib.hid ((SL.out.far ((Adv.refl Nul wr).drew) (fun _ h _ => h)).far A9.out (fun _ h _ => h)).rd; clear h9 a9)
                | fail)
              refine wp_region_held_drew (S := (fun w' => w'.cell? ⟨c, 0, none⟩ = some (.slice (some ⟨gL, 0, none⟩) n cap) ∧ w'.cell? ⟨c, 1, none⟩ = some (.slice (some ⟨gQ, 0, none⟩) s.Q.length cq) ∧ w'.cell? ⟨gQ, k * 2, none⟩ = some (.int .i64 (a : Int)))) (by kernel_rfl) (by first | exact ⟨d0, d1, dA⟩ | exact ⟨E0.out, E1.out, EA.out⟩ | exact ⟨X0.out, X1.out, XA.out⟩) (fun hHeld => ?_)
              clear hHeld
              refine wpAnyH_take (i := 0) (oi := ⟨some 72, .move (.tmp 0), 27, "ref.go:118", #[], none⟩) (v := ?_) rfl (by kernel_rfl) (by kernel_rfl) (by kernel_rfl) (fun _ _ _ h => h) (Or.inl ⟨by rfl, ?_⟩) (by first | exact ⟨d0, d1, dA⟩ | exact ⟨E0.out, E1.out, EA.out⟩ | exact ⟨X0.out, X1.out, XA.out⟩) ?_
              rotate_left
              · (intro w hSw; obtain ⟨s0, s1, s2⟩ := hSw; go_simp <;> with_reducible rfl)
              simp only [Act.put, List.setIfInBounds_toArray, List.set_cons_zero, List.set_cons_succ]
              refine wpAnyH_take (i := 1) (oi := ⟨some 73, .nilCheck (.tmp 72), 0, "ref.go:118", #[⟨0, .data⟩], none⟩) (v := ?_) rfl (by kernel_rfl) (by kernel_rfl) (by kernel_rfl) (fun _ _ _ h => h) (Or.inl ⟨by rfl, ?_⟩) (by first | exact ⟨d0, d1, dA⟩ | exact ⟨E0.out, E1.out, EA.out⟩ | exact ⟨X0.out, X1.out, XA.out⟩) ?_
              rotate_left
              · (intro w hSw; obtain ⟨s0, s1, s2⟩ := hSw; go_simp <;> with_reducible rfl)
              simp only [Act.put, List.setIfInBounds_toArray, List.set_cons_zero, List.set_cons_succ]
              refine wpAnyH_take (i := 2) (oi := ⟨some 74, .fieldAddr 62 (.tmp 73) 0, 0, "ref.go:118", #[⟨1, .data⟩], none⟩) (v := ?_) rfl (by kernel_rfl) (by kernel_rfl) (by kernel_rfl) (fun _ _ _ h => h) (Or.inl ⟨by rfl, ?_⟩) (by first | exact ⟨d0, d1, dA⟩ | exact ⟨E0.out, E1.out, EA.out⟩ | exact ⟨X0.out, X1.out, XA.out⟩) ?_
              rotate_left
              · (intro w hSw; obtain ⟨s0, s1, s2⟩ := hSw; go_simp <;> with_reducible rfl)
              simp only [Act.put, List.setIfInBounds_toArray, List.set_cons_zero, List.set_cons_succ]
              refine wpAnyH_take (i := 3) (oi := ⟨some 75, .load 59 (.tmp 74), 59, "ref.go:118", #[⟨2, .data⟩], none⟩) (v := ?_) rfl (by kernel_rfl) (by kernel_rfl) (by kernel_rfl) (fun _ _ _ h => h) (Or.inl ⟨by rfl, ?_⟩) (by first | exact ⟨d0, d1, dA⟩ | exact ⟨E0.out, E1.out, EA.out⟩ | exact ⟨X0.out, X1.out, XA.out⟩) ?_
              rotate_left
              · (intro w hSw; obtain ⟨s0, s1, s2⟩ := hSw; go_simp <;> with_reducible rfl)
              simp only [Act.put, List.setIfInBounds_toArray, List.set_cons_zero, List.set_cons_succ]
              refine wpAnyH_take (i := 4) (oi := ⟨some 76, .move (.tmp 0), 27, "ref.go:118", #[], none⟩) (v := ?_) rfl (by kernel_rfl) (by kernel_rfl) (by kernel_rfl) (fun _ _ _ h => h) (Or.inl ⟨by rfl, ?_⟩) (by first | exact ⟨d0, d1, dA⟩ | exact ⟨E0.out, E1.out, EA.out⟩ | exact ⟨X0.out, X1.out, XA.out⟩) ?_
              rotate_left
              · (intro w hSw; obtain ⟨s0, s1, s2⟩ := hSw; go_simp <;> with_reducible rfl)
              simp only [Act.put, List.setIfInBounds_toArray, List.set_cons_zero, List.set_cons_succ]
              refine wpAnyH_take (i := 5) (oi := ⟨some 77, .nilCheck (.tmp 76), 0, "ref.go:118", #[⟨4, .data⟩], none⟩) (v := ?_) rfl (by kernel_rfl) (by kernel_rfl) (by kernel_rfl) (fun _ _ _ h => h) (Or.inl ⟨by rfl, ?_⟩) (by first | exact ⟨d0, d1, dA⟩ | exact ⟨E0.out, E1.out, EA.out⟩ | exact ⟨X0.out, X1.out, XA.out⟩) ?_
              rotate_left
              · (intro w hSw; obtain ⟨s0, s1, s2⟩ := hSw; go_simp <;> with_reducible rfl)
              simp only [Act.put, List.setIfInBounds_toArray, List.set_cons_zero, List.set_cons_succ]
              refine wpAnyH_take (i := 6) (oi := ⟨some 78, .fieldAddr 62 (.tmp 77) 1, 0, "ref.go:118", #[⟨5, .data⟩], none⟩) (v := ?_) rfl (by kernel_rfl) (by kernel_rfl) (by kernel_rfl) (fun _ _ _ h => h) (Or.inl ⟨by rfl, ?_⟩) (by first | exact ⟨d0, d1, dA⟩ | exact ⟨E0.out, E1.out, EA.out⟩ | exact ⟨X0.out, X1.out, XA.out⟩) ?_
              rotate_left
              · (intro w hSw; obtain ⟨s0, s1, s2⟩ := hSw; go_simp <;> with_reducible rfl)
              simp only [Act.put, List.setIfInBounds_toArray, List.set_cons_zero, List.set_cons_succ]
              refine wpAnyH_take (i := 7) (oi := ⟨some 79, .load 60 (.tmp 78), 60, "ref.go:118", #[⟨6, .data⟩], none⟩) (v := ?_) rfl (by kernel_rfl) (by kernel_rfl) (by kernel_rfl) (fun _ _ _ h => h) (Or.inl ⟨by rfl, ?_⟩) (by first | exact ⟨d0, d1, dA⟩ | exact ⟨E0.out, E1.out, EA.out⟩ | exact ⟨X0.out, X1.out, XA.out⟩) ?_
              rotate_left
              · (intro w hSw; obtain ⟨s0, s1, s2⟩ := hSw; go_simp <;> with_reducible rfl)
              simp only [Act.put, List.setIfInBounds_toArray, List.set_cons_zero, List.set_cons_succ]
              refine wpAnyH_take (i := 8) (oi := ⟨some 80, .move (.tmp 6), 3, "ref.go:118", #[], none⟩) (v := ?_) rfl (by kernel_rfl) (by kernel_rfl) (by kernel_rfl) (fun _ _ _ h => h) (Or.inl ⟨by rfl, ?_⟩) (by first | exact ⟨d0, d1, dA⟩ | exact ⟨E0.out, E1.out, EA.out⟩ | exact ⟨X0.out, X1.out, XA.out⟩) ?_
              rotate_left
              · (intro w hSw; obtain ⟨s0, s1, s2⟩ := hSw; go_simp <;> with_reducible rfl)
              simp only [Act.put, List.setIfInBounds_toArray, List.set_cons_zero, List.set_cons_succ]
              refine wpAnyH_take (i := 9) (oi := ⟨some 81, .indexAddr 60 (.tmp 79) (.tmp 80), 0, "ref.go:118", #[⟨7, .data⟩, ⟨8, .data⟩], none⟩) (v := ?_) rfl (by kernel_rfl) (by kernel_rfl) (by kernel_rfl) (fun _ _ _ h => h) (Or.inl ⟨by rfl, ?_⟩) (by first | exact ⟨d0, d1, dA⟩ | exact ⟨E0.out, E1.out, EA.out⟩ | exact ⟨X0.out, X1.out, XA.out⟩) ?_
              rotate_left
              · (intro w hSw; obtain ⟨s0, s1, s2⟩ := hSw; go_simp <;> with_reducible rfl)
              simp only [Act.put, List.setIfInBounds_toArray, List.set_cons_zero, List.set_cons_succ]
              refine wpAnyH_take (i := 10) (oi := ⟨some 82, .fieldAddr 76 (.tmp 81) 0, 0, "ref.go:118", #[⟨9, .data⟩], none⟩) (v := ?_) rfl (by kernel_rfl) (by kernel_rfl) (by kernel_rfl) (fun _ _ _ h => h) (Or.inl ⟨by rfl, ?_⟩) (by first | exact ⟨d0, d1, dA⟩ | exact ⟨E0.out, E1.out, EA.out⟩ | exact ⟨X0.out, X1.out, XA.out⟩) ?_
              rotate_left
              · (intro w hSw; obtain ⟨s0, s1, s2⟩ := hSw; go_simp <;> with_reducible rfl)
              simp only [Act.put, List.setIfInBounds_toArray, List.set_cons_zero, List.set_cons_succ]
              refine wpAnyH_take (i := 11) (oi := ⟨some 83, .load 3 (.tmp 82), 3, "ref.go:118", #[⟨10, .data⟩], none⟩) (v := ?_) rfl (by kernel_rfl) (by kernel_rfl) (by kernel_rfl) (fun _ _ _ h => h) (Or.inl ⟨by rfl, ?_⟩) (by first | exact ⟨d0, d1, dA⟩ | exact ⟨E0.out, E1.out, EA.out⟩ | exact ⟨X0.out, X1.out, XA.out⟩) ?_
              rotate_left
              · (intro w hSw; obtain ⟨s0, s1, s2⟩ := hSw; go_simp <;> with_reducible rfl)
              simp only [Act.put, List.setIfInBounds_toArray, List.set_cons_zero, List.set_cons_succ]
              refine wpAnyH_take (i := 12) (oi := ⟨some 84, .move (.tmp 9), 33, "ref.go:118", #[], none⟩) (v := ?_) rfl (by kernel_rfl) (by kernel_rfl) (by kernel_rfl) (fun _ _ _ h => h) (Or.inl ⟨by rfl, ?_⟩) (by first | exact ⟨d0, d1, dA⟩ | exact ⟨E0.out, E1.out, EA.out⟩ | exact ⟨X0.out, X1.out, XA.out⟩) ?_
              rotate_left
              · (intro w hSw; obtain ⟨s0, s1, s2⟩ := hSw; go_simp <;> with_reducible rfl)
              simp only [Act.put, List.setIfInBounds_toArray, List.set_cons_zero, List.set_cons_succ]
              refine wpAnyH_take (i := 13) (oi := ⟨some 85, .move (.tmp 8), 33, "ref.go:118", #[], none⟩) (v := ?_) rfl (by kernel_rfl) (by kernel_rfl) (by kernel_rfl) (fun _ _ _ h => h) (Or.inl ⟨by rfl, ?_⟩) (by first | exact ⟨d0, d1, dA⟩ | exact ⟨E0.out, E1.out, EA.out⟩ | exact ⟨X0.out, X1.out, XA.out⟩) ?_
              rotate_left
              · (intro w hSw; obtain ⟨s0, s1, s2⟩ := hSw; go_simp <;> with_reducible rfl)
              simp only [Act.put, List.setIfInBounds_toArray, List.set_cons_zero, List.set_cons_succ]
              refine wpAnyH_take (i := 14) (oi := ⟨some 86, .move (.tmp 7), 3, "ref.go:118", #[], none⟩) (v := ?_) rfl (by kernel_rfl) (by kernel_rfl) (by kernel_rfl) (fun _ _ _ h => h) (Or.inl ⟨by rfl, ?_⟩) (by first | exact ⟨d0, d1, dA⟩ | exact ⟨E0.out, E1.out, EA.out⟩ | exact ⟨X0.out, X1.out, XA.out⟩) ?_
              rotate_left
              · (intro w hSw; obtain ⟨s0, s1, s2⟩ := hSw; go_simp <;> with_reducible rfl)
              simp only [Act.put, List.setIfInBounds_toArray, List.set_cons_zero, List.set_cons_succ]
              refine wpAnyH_take (i := 15) (oi := ⟨some 87, .slice 33 (.tmp 85) (some (.tmp 86)) none none, 33, "ref.go:118", #[⟨13, .data⟩, ⟨14, .data⟩], none⟩) (v := ?_) rfl (by kernel_rfl) (by kernel_rfl) (by kernel_rfl) (fun _ _ _ h => h) (Or.inl ⟨by rfl, ?_⟩) (by first | exact ⟨d0, d1, dA⟩ | exact ⟨E0.out, E1.out, EA.out⟩ | exact ⟨X0.out, X1.out, XA.out⟩) ?_
              rotate_left
              · (intro w hSw; obtain ⟨s0, s1, s2⟩ := hSw; go_simp <;> with_reducible rfl)
              simp only [Act.put, List.setIfInBounds_toArray, List.set_cons_zero, List.set_cons_succ]
              refine wpAnyH_ready (rs := [16]) (by kernel_rfl) (by simp) ?_
              refine AllReadyH.cons (o := ⟨some 88, .call { callee := Go.Callee.builtin Go.Builtin.append, args := #[Go.Operand.tmp 84, Go.Operand.tmp 87], argTypes := #[33, 33] }, 33, "ref.go:118", #[⟨12, .data⟩, ⟨15, .data⟩], none⟩) rfl (fun K hK => ?_) AllReadyH.nil
              refine step_append_rd rfl (.tmp 84) (.tmp 87) rfl rfl rfl H9.out.own (by first | exact RST0.out.rest8 HM.out _ rfl | exact RST0.out.rest8 HM.out _ (by split <;> rfl)) (u8_one _) (app_le HM.out) ?_
              intro v10 w10 hown hg hat
              obtain ⟨⟨A6, n6, c6, rfl⟩, k1, k2, ⟨u6, k5⟩, k6, G2, k7, k8⟩ := crash_fin HRD.out A9.out H9.out HAN.out HM.out HQ2.out LL.out hown hg hat
              have E0 := Lib.hid ((World.cell?_of_block (k1 c HRD.out.inG)).trans HRD.out.c0)
              have E1 := Lib.hid ((World.cell?_of_block (k1 c HRD.out.inG)).trans HRD.out.c1)
              have EA := Lib.hid ((World.cell?_of_block (k1 gQ (HRD.out.q.inF gQ rfl))).trans kA')
              have X0 := Lib.hid ((World.cell?_of_block (k2 c HRD.out.inG HNE.out.1)).trans HRD.out.c0)
              have X1 := Lib.hid ((World.cell?_of_block (k2 c HRD.out.inG HNE.out.1)).trans HRD.out.c1)
              have XA := Lib.hid ((World.cell?_of_block (k2 gQ (HRD.out.q.inF gQ rfl) HNE.out.2)).trans kA')
              have HN := Lib.hid (rc_next HLT.out HST.out HK0.out HQA.out HRE'.out k7 (HA.out.trans (Adv.of_drew k8)))
              clear hown hg hat k1 k2 k7 k8
              refine hK.out _ _ (by first | exact ⟨d0, d1, dA⟩ | exact ⟨E0.out, E1.out, EA.out⟩ | exact ⟨X0.out, X1.out, XA.out⟩) (fun hHeld => ?_)
              clear hK K hHeld
              try simp only [Act.put, List.setIfInBounds_toArray, List.set_cons_zero, List.set_cons_succ]
              refine wpAnyH_take (i := 17) (oi := ⟨some 89, .indexAddr 59 (.tmp 75) (.tmp 83), 0, "ref.go:118", #[⟨3, .data⟩, ⟨11, .data⟩, ⟨0, .phase⟩, ⟨1, .phase⟩, ⟨2, .phase⟩, ⟨3, .phase⟩, ⟨4, .phase⟩, ⟨5, .phase⟩, ⟨6, .phase⟩, ⟨7, .phase⟩, ⟨8, .phase⟩, ⟨9, .phase⟩, ⟨10, .phase⟩, ⟨11, .phase⟩, ⟨12, .phase⟩, ⟨13, .phase⟩, ⟨14, .phase⟩, ⟨15, .phase⟩, ⟨16, .phase⟩], none⟩) (v := ?_) rfl (by kernel_rfl) (by kernel_rfl) (by kernel_rfl) (fun _ _ _ h => h) (Or.inl ⟨by rfl, ?_⟩) (by first | exact ⟨d0, d1, dA⟩ | exact ⟨E0.out, E1.out, EA.out⟩ | exact ⟨X0.out, X1.out, XA.out⟩) ?_
              rotate_left
              · (intro w hSw; obtain ⟨s0, s1, s2⟩ := hSw; go_simp <;> with_reducible rfl)
              simp only [Act.put, List.setIfInBounds_toArray, List.set_cons_zero, List.set_cons_succ]
              refine wpAnyH_ready (rs := [18]) (by kernel_rfl) (by simp) ?_
              refine AllReadyH.cons (o := ⟨none, .store 33 (.tmp 89) (.tmp 88), 0, "ref.go:118", #[⟨17, .data⟩, ⟨16, .data⟩, ⟨16, .chain⟩, ⟨0, .phase⟩, ⟨1, .phase⟩, ⟨2, .phase⟩, ⟨3, .phase⟩, ⟨4, .phase⟩, ⟨5, .phase⟩, ⟨6, .phase⟩, ⟨7, .phase⟩, ⟨8, .phase⟩, ⟨9, .phase⟩, ⟨10, .phase⟩, ⟨11, .phase⟩, ⟨12, .phase⟩, ⟨13, .phase⟩, ⟨14, .phase⟩, ⟨15, .phase⟩, ⟨16, .phase⟩], none⟩) rfl (fun K hK => ?_) AllReadyH.nil
              go_simp
              refine hK.out _ _ (by first | exact ⟨d0, d1, dA⟩ | exact ⟨E0.out, E1.out, EA.out⟩ | exact ⟨X0.out, X1.out, XA.out⟩) (fun hHeld => ?_)
              clear hK K hHeld
              try simp only [Act.put]
              refine wpAnyH_done (by kernel_rfl) ?_ _
              go_wp2_with fail
              exact ⟨HN.out, HMS.out⟩
          · have t1' : 127 < torn := by omega
            clear t1
            have hkept0 : kept ks torn s.Q.length k = if ks.getD k 0 ≠ 0 then 128 else 0 := by unfold kept; rw [if_neg (by omega)]
            by_cases hkm2 : k < m0
            · have hki : (k : Int) < (m0 : Int) := by omega
              obtain ⟨bk, ok, e, _, hcell⟩ := HKA.out.cells (by omega) (by decide)
              subst e
              have kc := hcell k _ (getD_at (by have := HKL.out; omega))
              obtain ⟨x, hx⟩ : ∃ x, x = ks.getD k 0 := ⟨_, rfl⟩
              rw [← hx] at kc hkept0
              clear hcell hx
              by_cases hx0 : x = 0
              · have hxb : (x != 0) = false := by simp [hx0]
                have HK0 := Lib.hid (show kept ks torn s.Q.length k = (0 : Int).toNat by rw [hkept0, if_neg (by simp [hx0])]; rfl)
                clear hkept0 hx0
                go_wp2_with fail
                obtain ⟨mi, hmi⟩ : ∃ mi : Int, mi = 0 := ⟨_, rfl⟩
                rw [← hmi]
                obtain ⟨hm0, hm1, hmn, hmcd, hmcr⟩ := mi_facts hmi (by decide) HCD.out HCR.out
                replace HK0 := Lib.hid (HK0.out.trans (congrArg Int.toNat hmi).symm)
                have HM := Lib.hid hmn
                have HMS := Lib.hid (rc_meas HLT.out)
                clear hmi hmn
                refine wp_region_held_drew (S := (fun w' => w'.cell? ⟨c, 0, none⟩ = some (.slice (some ⟨gL, 0, none⟩) n cap) ∧ w'.cell? ⟨c, 1, none⟩ = some (.slice (some ⟨gQ, 0, none⟩) s.Q.length cq) ∧ w'.cell? ⟨gQ, k * 2, none⟩ = some (.int .i64 (a : Int)) ∧ w'.cell? ⟨gL, a, none⟩ = some (.slice (some ⟨gr, 0, none⟩) 128 cr))) (by kernel_rfl) (by first | exact ⟨c0, c1, kA', kL⟩) (fun hHeld => ?_)
                clear hHeld
                refine wpAnyH_take (i := 0) (oi := ⟨some 47, .move (.tmp 0), 27, "ref.go:116", #[], none⟩) (v := ?_) rfl (by kernel_rfl) (by kernel_rfl) (by kernel_rfl) (fun _ _ _ h => h) (Or.inl ⟨by rfl, ?_⟩) (by first | exact ⟨c0, c1, kA', kL⟩) ?_
                rotate_left
                · (intro w hSw; obtain ⟨s0, s1, s2, s3⟩ := hSw; go_simp <;> with_reducible rfl)
                simp only [Act.put, List.setIfInBounds_toArray, List.set_cons_zero, List.set_cons_succ]
                refine wpAnyH_take (i := 1) (oi := ⟨some 48, .nilCheck (.tmp 47), 0, "ref.go:116", #[⟨0, .data⟩], none⟩) (v := ?_) rfl (by kernel_rfl) (by kernel_rfl) (by kernel_rfl) (fun _ _ _ h => h) (Or.inl ⟨by rfl, ?_⟩) (by first | exact ⟨c0, c1, kA', kL⟩) ?_
                rotate_left
                · (intro w hSw; obtain ⟨s0, s1, s2, s3⟩ := hSw; go_simp <;> with_reducible rfl)
                simp only [Act.put, List.setIfInBounds_toArray, List.set_cons_zero, List.set_cons_succ]
                refine wpAnyH_take (i := 2) (oi := ⟨some 49, .fieldAddr 62 (.tmp 48) 0, 0, "ref.go:116", #[⟨1, .data⟩], none⟩) (v := ?_) rfl (by kernel_rfl) (by kernel_rfl) (by kernel_rfl) (fun _ _ _ h => h) (Or.inl ⟨by rfl, ?_⟩) (by first | exact ⟨c0, c1, kA', kL⟩) ?_
                rotate_left
                · (intro w hSw; obtain ⟨s0, s1, s2, s3⟩ := hSw; go_simp <;> with_reducible rfl)
                simp only [Act.put, List.setIfInBounds_toArray, List.set_cons_zero, List.set_cons_succ]
                refine wpAnyH_take (i := 3) (oi := ⟨some 50, .load 59 (.tmp 49), 59, "ref.go:116", #[⟨2, .data⟩], none⟩) (v := ?_) rfl (by kernel_rfl) (by kernel_rfl) (by kernel_rfl) (fun _ _ _ h => h) (Or.inl ⟨by rfl, ?_⟩) (by first | exact ⟨c0, c1, kA', kL⟩) ?_
                rotate_left
                · (intro w hSw; obtain ⟨s0, s1, s2, s3⟩ := hSw; go_simp <;> with_reducible rfl)
                simp only [Act.put, List.setIfInBounds_toArray, List.set_cons_zero, List.set_cons_succ]
                refine wpAnyH_take (i := 4) (oi := ⟨some 51, .move (.tmp 0), 27, "ref.go:116", #[], none⟩) (v := ?_) rfl (by kernel_rfl) (by kernel_rfl) (by kernel_rfl) (fun _ _ _ h => h) (Or.inl ⟨by rfl, ?_⟩) (by first | exact ⟨c0, c1, kA', kL⟩) ?_
                rotate_left
                · (intro w hSw; obtain ⟨s0, s1, s2, s3⟩ := hSw; go_simp <;> with_reducible rfl)
                simp only [Act.put, List.setIfInBounds_toArray, List.set_cons_zero, List.set_cons_succ]
                refine wpAnyH_take (i := 5) (oi := ⟨some 52, .nilCheck (.tmp 51), 0, "ref.go:116", #[⟨4, .data⟩], none⟩) (v := ?_) rfl (by kernel_rfl) (by kernel_rfl) (by kernel_rfl) (fun _ _ _ h => h) (Or.inl ⟨by rfl, ?_⟩) (by first | exact ⟨c0, c1, kA', kL⟩) ?_
                rotate_left
                · (intro w hSw; obtain ⟨s0, s1, s2, s3⟩ := hSw; go_simp <;> with_reducible rfl)
                simp only [Act.put, List.setIfInBounds_toArray, List.set_cons_zero, List.set_cons_succ]
                refine wpAnyH_take (i := 6) (oi := ⟨some 53, .fieldAddr 62 (.tmp 52) 1, 0, "ref.go:116", #[⟨5, .data⟩], none⟩) (v := ?_) rfl (by kernel_rfl) (by kernel_rfl) (by kernel_rfl) (fun _ _ _ h => h) (Or.inl ⟨by rfl, ?_⟩) (by first | exact ⟨c0, c1, kA', kL⟩) ?_
                rotate_left
                · (intro w hSw; obtain ⟨s0, s1, s2, s3⟩ := hSw; go_simp <;> with_reducible rfl)
                simp only [Act.put, List.setIfInBounds_toArray, List.set_cons_zero, List.set_cons_succ]
                refine wpAnyH_take (i := 7) (oi := ⟨some 54, .load 60 (.tmp 53), 60, "ref.go:116", #[⟨6, .data⟩], none⟩) (v := ?_) rfl (by kernel_rfl) (by kernel_rfl) (by kernel_rfl) (fun _ _ _ h => h) (Or.inl ⟨by rfl, ?_⟩) (by first | exact ⟨c0, c1, kA', kL⟩) ?_
                rotate_left
                · (intro w hSw; obtain ⟨s0, s1, s2, s3⟩ := hSw; go_simp <;> with_reducible rfl)
                simp only [Act.put, List.setIfInBounds_toArray, List.set_cons_zero, List.set_cons_succ]
                refine wpAnyH_take (i := 8) (oi := ⟨some 55, .move (.tmp 6), 3, "ref.go:116", #[], none⟩) (v := ?_) rfl (by kernel_rfl) (by kernel_rfl) (by kernel_rfl) (fun _ _ _ h => h) (Or.inl ⟨by rfl, ?_⟩) (by first | exact ⟨c0, c1, kA', kL⟩) ?_
                rotate_left
                · (intro w hSw; obtain ⟨s0, s1, s2, s3⟩ := hSw; go_simp <;> with_reducible rfl)
                simp only [Act.put, List.setIfInBounds_toArray, List.set_cons_zero, List.set_cons_succ]
                refine wpAnyH_take (i := 9) (oi := ⟨some 56, .indexAddr 60 (.tmp 54) (.tmp 55), 0, "ref.go:116", #[⟨7, .data⟩, ⟨8, .data⟩], none⟩) (v := ?_) rfl (by kernel_rfl) (by kernel_rfl) (by kernel_rfl) (fun _ _ _ h => h) (Or.inl ⟨by rfl, ?_⟩) (by first | exact ⟨c0, c1, kA', kL⟩) ?_
                rotate_left
                · (intro w hSw; obtain ⟨s0, s1, s2, s3⟩ := hSw; go_simp <;> with_reducible rfl)
                simp only [Act.put, List.setIfInBounds_toArray, List.set_cons_zero, List.set_cons_succ]
                refine wpAnyH_take (i := 10) (oi := ⟨some 57, .fieldAddr 76 (.tmp 56) 0, 0, "ref.go:116", #[⟨9, .data⟩], none⟩) (v := ?_) rfl (by kernel_rfl) (by kernel_rfl) (by kernel_rfl) (fun _ _ _ h => h) (Or.inl ⟨by rfl, ?_⟩) (by first | exact ⟨c0, c1, kA', kL⟩) ?_
                rotate_left
                · (intro w hSw; obtain ⟨s0, s1, s2, s3⟩ := hSw; go_simp <;> with_reducible rfl)
                simp only [Act.put, List.setIfInBounds_toArray, List.set_cons_zero, List.set_cons_succ]
                refine wpAnyH_take (i := 11) (oi := ⟨some 58, .load 3 (.tmp 57), 3, "ref.go:116", #[⟨10, .data⟩], none⟩) (v := ?_) rfl (by kernel_rfl) (by kernel_rfl) (by kernel_rfl) (fun _ _ _ h => h) (Or.inl ⟨by rfl, ?_⟩) (by first | exact ⟨c0, c1, kA', kL⟩) ?_
                rotate_left
                · (intro w hSw; obtain ⟨s0, s1, s2, s3⟩ := hSw; go_simp <;> with_reducible rfl)
                simp only [Act.put, List.setIfInBounds_toArray, List.set_cons_zero, List.set_cons_succ]
                refine wpAnyH_take (i := 12) (oi := ⟨some 59, .indexAddr 59 (.tmp 50) (.tmp 58), 0, "ref.go:116", #[⟨3, .data⟩, ⟨11, .data⟩], none⟩) (v := ?_) rfl (by kernel_rfl) (by kernel_rfl) (by kernel_rfl) (fun _ _ _ h => h) (Or.inl ⟨by rfl, ?_⟩) (by first | exact ⟨c0, c1, kA', kL⟩) ?_
                rotate_left
                · (intro w hSw; obtain ⟨s0, s1, s2, s3⟩ := hSw; go_simp <;> with_reducible rfl)
                simp only [Act.put, List.setIfInBounds_toArray, List.set_cons_zero, List.set_cons_succ]
                refine wpAnyH_take (i := 13) (oi := ⟨some 60, .load 33 (.tmp 59), 33, "ref.go:116", #[⟨12, .data⟩], none⟩) (v := ?_) rfl (by kernel_rfl) (by kernel_rfl) (by kernel_rfl) (fun _ _ _ h => h) (Or.inl ⟨by rfl, ?_⟩) (by first | exact ⟨c0, c1, kA', kL⟩) ?_
                rotate_left
                · (intro w hSw; obtain ⟨s0, s1, s2, s3⟩ := hSw; go_simp <;> with_reducible rfl)
                simp only [Act.put, List.setIfInBounds_toArray, List.set_cons_zero, List.set_cons_succ]
                refine wpAnyH_take (i := 14) (oi := ⟨some 8, .assign (.tmp 60), 33, "ref.go:116", #[⟨13, .data⟩, ⟨0, .phase⟩, ⟨1, .phase⟩, ⟨2, .phase⟩, ⟨3, .phase⟩, ⟨4, .phase⟩, ⟨5, .phase⟩, ⟨6, .phase⟩, ⟨7, .phase⟩, ⟨8, .phase⟩, ⟨9, .phase⟩, ⟨10, .phase⟩, ⟨11, .phase⟩, ⟨12, .phase⟩, ⟨13, .phase⟩], none⟩) (v := ?_) rfl (by kernel_rfl) (by kernel_rfl) (by kernel_rfl) (fun _ _ _ h => h) (Or.inl ⟨by rfl, ?_⟩) (by first | exact ⟨c0, c1, kA', kL⟩) ?_
                rotate_left
                · (intro w hSw; obtain ⟨s0, s1, s2, s3⟩ := hSw; go_simp <;> with_reducible rfl)
                simp only [Act.put, List.setIfInBounds_toArray, List.set_cons_zero, List.set_cons_succ]
                refine wpAnyH_done (by kernel_rfl) ?_ _
                have hrd := HR.out.far ((Adv.refl Nul wr).drew) (fun _ h _ => h)
                have HRD := Lib.hid hrd
                have HNE := Lib.hid hrd.ne_L
                have hfront := (SD.out.far ((Adv.refl Nul wr).drew) (fun _ h _ => h)).rd.front8 HM.out
                have HFRONT := Lib.hid hfront
                clear hrd hfront
                go_wp2_with (first
                  | (go_at_call 31; refine (copy_any _ mi.toNat (q.2.take mi.toNat) _ HFRONT.out (Nat.le_trans HM.out (by decide))).mono ?_; rintro e w9 ⟨v9, F9, rfl, h9, a9⟩; obtain ⟨av9, cv9, rfl, _, _⟩ := h9.form0; have H9 := Lib.hid (h9.far ((Adv.refl Nul w9).drew) (fun _ h _ => h)); have A9 := Lib.hid (a9.drew); obtain ⟨d0, d1, dA⟩ := crash_cells HRD.out A9.out (k := k) (a := a) kA'; have RST0 := Lib.hid ((SL.out.far ((Adv.refl Nul wr).drew) (fun _ h _ => h)).far A9.out (fun _ h _ => h)).rd; clear h9 a9)
                  | fail)
                refine wp_region_held_drew (S := (fun w' => w'.cell? ⟨c, 0, none⟩ = some (.slice (some ⟨gL, 0, none⟩) n cap) ∧ w'.cell? ⟨c, 1, none⟩ = some (.slice (some ⟨gQ, 0, none⟩) s.Q.length cq) ∧ w'.cell? ⟨gQ, k * 2, none⟩ = some (.int .i64 (a : Int)))) (by kernel_rfl) (by first | exact ⟨d0, d1, dA⟩ | exact ⟨E0.out, E1.out, EA.out⟩ | exact ⟨X0.out, X1.out, XA.out⟩) (fun hHeld => ?_)
                clear hHeld
                refine wpAnyH_take (i := 0) (oi := ⟨some 72, .move (.tmp 0), 27, "ref.go:118", #[], none⟩) (v := ?_) rfl (by kernel_rfl) (by kernel_rfl) (by kernel_rfl) (fun _ _ _ h => h) (Or.inl ⟨by rfl, ?_⟩) (by first | exact ⟨d0, d1, dA⟩ | exact ⟨E0.out, E1.out, EA.out⟩ | exact ⟨X0.out, X1.out, XA.out⟩) ?_
                rotate_left
                · (intro w hSw; obtain ⟨s0, s1, s2⟩ := hSw; go_simp <;> with_reducible rfl)
                simp only [Act.put, List.setIfInBounds_toArray, List.set_cons_zero, List.set_cons_succ]
                refine wpAnyH_take (i := 1) (oi := ⟨some 73, .nilCheck (.tmp 72), 0, "ref.go:118", #[⟨0, .data⟩], none⟩) (v := ?_) rfl (by kernel_rfl) (by kernel_rfl) (by kernel_rfl) (fun _ _ _ h => h) (Or.inl ⟨by rfl, ?_⟩) (by first | exact ⟨d0, d1, dA⟩ | exact ⟨E0.out, E1.out, EA.out⟩ | exact ⟨X0.out, X1.out, XA.out⟩) ?_
                rotate_left
                · (intro w hSw; obtain ⟨s0, s1, s2⟩ := hSw; go_simp <;> with_reducible rfl)
                simp only [Act.put, List.setIfInBounds_toArray, List.set_cons_zero, List.set_cons_succ]
                refine wpAnyH_take (i := 2) (oi := ⟨some 74, .fieldAddr 62 (.tmp 73) 0, 0, "ref.go:118", #[⟨1, .data⟩], none⟩) (v := ?_) rfl (by kernel_rfl) (by kernel_rfl) (by kernel_rfl) (fun _ _ _ h => h) (Or.inl ⟨by rfl, ?_⟩) (by first | exact ⟨d0, d1, dA⟩ | exact ⟨E0.out, E1.out, EA.out⟩ | exact ⟨X0.out, X1.out, XA.out⟩) ?_
                rotate_left
                · (intro w hSw; obtain ⟨s0, s1, s2⟩ := hSw; go_simp <;> with_reducible rfl)
                simp only [Act.put, List.setIfInBounds_toArray, List.set_cons_zero, List.set_cons_succ]
                refine wpAnyH_take (i := 3) (oi := ⟨some 75, .load 59 (.tmp 74), 59, "ref.go:118", #[⟨2, .data⟩], none⟩) (v := ?_) rfl (by kernel_rfl) (by kernel_rfl) (by kernel_rfl) (fun _ _ _ h => h) (Or.inl ⟨by rfl, ?_⟩) (by first | exact ⟨d0, d1, dA⟩ | exact ⟨E0.out, E1.out, EA.out⟩ | exact ⟨X0.out, X1.out, XA.out⟩) ?_
                rotate_left
                · (intro w hSw; obtain ⟨s0, s1, s2⟩ := hSw; go_simp <;> with_reducible rfl)
                simp only [Act.put, List.setIfInBounds_toArray, List.set_cons_zero, List.set_cons_succ]
                refine wpAnyH_take (i := 4) (oi := ⟨some 76, .move (.tmp 0), 27, "ref.go:118", #[], none⟩) (v := ?_) rfl (by kernel_rfl) (by kernel_rfl) (by kernel_rfl) (fun _ _ _ h => h) (Or.inl ⟨by rfl, ?_⟩) (by first | exact ⟨d0, d1, dA⟩ | exact ⟨E0.out, E1.out, EA.out⟩ | exact ⟨X0.out, X1.out, XA.out⟩) ?_
                rotate_left
                · (intro w hSw; obtain ⟨s0, s1, s2⟩ := hSw; go_simp <;> with_reducible rfl)
                simp only [Act.put, List.setIfInBounds_toArray, List.set_cons_zero, List.set_cons_succ]
                refine wpAnyH_take (i := 5) (oi := ⟨some 77, .nilCheck (.tmp 76), 0, "ref.go:118", #[⟨4, .data⟩], none⟩) (v := ?_) rfl (by kernel_rfl) (by kernel_rfl) (by kernel_rfl) (fun _ _ _ h => h) (Or.inl ⟨by rfl, ?_⟩) (by first | exact ⟨d0, d1, dA⟩ | exact ⟨E0.out, E1.out, EA.out⟩ | exact ⟨X0.out, X1.out, XA.out⟩) ?_
                rotate_left
                · (intro w hSw; obtain ⟨s0, s1, s2⟩ := hSw; go_simp <;> with_reducible rfl)
                simp only [Act.put, List.setIfInBounds_toArray, List.set_cons_zero, List.set_cons_succ]
                refine wpAnyH_take (i := 6) (oi := ⟨some 78, .fieldAddr 62 (.tmp 77) 1, 0, "ref.go:118", #[⟨5, .data⟩], none⟩) (v := ?_) rfl (by kernel_rfl) (by kernel_rfl) (by kernel_rfl) (fun _ _ _ h => h) (Or.inl ⟨by rfl, ?_⟩) (by first | exact ⟨d0, d1, dA⟩ | exact ⟨E0.out, E1.out, EA.out⟩ | exact ⟨X0.out, X1.out, XA.out⟩) ?_
                rotate_left
                · (intro w hSw; obtain ⟨s0, s1, s2⟩ := hSw; go_simp <;> with_reducible rfl)
                simp only [Act.put, List.setIfInBounds_toArray, List.set_cons_zero, List.set_cons_succ]
                refine wpAnyH_take (i := 7) (oi := ⟨some 79, .load 60 (.tmp 78), 60, "ref.go:118", #[⟨6, .data⟩], none⟩) (v := ?_) rfl (by kernel_rfl) (by kernel_rfl) (by kernel_rfl) (fun _ _ _ h => h) (Or.inl ⟨by rfl, ?_⟩) (by first | exact ⟨d0, d1, dA⟩ | exact ⟨E0.out, E1.out, EA.out⟩ | exact ⟨X0.out, X1.out, XA.out⟩) ?_
                rotate_left
                · (intro w hSw; obtain ⟨s0, s1, s2⟩ := hSw; go_simp <;> with_reducible rfl)
                simp only [Act.put, List.setIfInBounds_toArray, List.set_cons_zero, List.set_cons_succ]
                refine wpAnyH_take (i := 8) (oi := ⟨some 80, .move (.tmp 6), 3, "ref.go:118", #[], none⟩) (v := ?_) rfl (by kernel_rfl) (by kernel_rfl) (by kernel_rfl) (fun _ _ _ h => h) (Or.inl ⟨by rfl, ?_⟩) (by first | exact ⟨d0, d1, dA⟩ | exact ⟨E0.out, E1.out, EA.out⟩ | exact ⟨X0.out, X1.out, XA.out⟩) ?_
                rotate_left
                · (intro w hSw; obtain ⟨s0, s1, s2⟩ := hSw; go_simp <;> with_reducible rfl)
                simp only [Act.put, List.setIfInBounds_toArray, List.set_cons_zero, List.set_cons_succ]
                refine wpAnyH_take (i := 9) (oi := ⟨some 81, .indexAddr 60 (.tmp 79) (.tmp 80), 0, "ref.go:118", #[⟨7, .data⟩, ⟨8, .data⟩], none⟩) (v := ?_) rfl (by kernel_rfl) (by kernel_rfl) (by kernel_rfl) (fun _ _ _ h => h) (Or.inl ⟨by rfl, ?_⟩) (by first | exact ⟨d0, d1, dA⟩ | exact ⟨E0.out, E1.out, EA.out⟩ | exact ⟨X0.out, X1.out, XA.out⟩) ?_
                rotate_left
                · (intro w hSw; obtain ⟨s0, s1, s2⟩ := hSw; go_simp <;> with_reducible rfl)
                simp only [Act.put, List.setIfInBounds_toArray, List.set_cons_zero, List.set_cons_succ]
                refine wpAnyH_take (i := 10) (oi := ⟨some 82, .fieldAddr 76 (.tmp 81) 0, 0, "ref.go:118", #[⟨9, .data⟩], none⟩) (v := ?_) rfl (by kernel_rfl) (by kernel_rfl) (by kernel_rfl) (fun _ _ _ h => h) (Or.inl ⟨by rfl, ?_⟩) (by first | exact ⟨d0, d1, dA⟩ | exact ⟨E0.out, E1.out, EA.out⟩ | exact ⟨X0.out, X1.out, XA.out⟩) ?_
                rotate_left
                · (intro w hSw; obtain ⟨s0, s1, s2⟩ := hSw; go_simp <;> with_reducible rfl)
                simp only [Act.put, List.setIfInBounds_toArray, List.set_cons_zero, List.set_cons_succ]
                refine wpAnyH_take (i := 11) (oi := ⟨some 83, .load 3 (.tmp 82), 3, "ref.go:118", #[⟨10, .data⟩], none⟩) (v := ?_) rfl (by kernel_rfl) (by kernel_rfl) (by kernel_rfl) (fun _ _ _ h => h) (Or.inl ⟨by rfl, ?_⟩) (by first | exact ⟨d0, d1, dA⟩ | exact ⟨E0.out, E1.out, EA.out⟩ | exact ⟨X0.out, X1.out, XA.out⟩) ?_
                rotate_left
                · (intro w hSw; obtain ⟨s0, s1, s2⟩ := hSw; go_simp <;> with_reducible rfl)
                simp only [Act.put, List.setIfInBounds_toArray, List.set_cons_zero, List.set_cons_succ]
                refine wpAnyH_take (i := 12) (oi := ⟨some 84, .move (.tmp 9), 33, "ref.go:118", #[], none⟩) (v := ?_) rfl (by kernel_rfl) (by kernel_rfl) (by kernel_rfl) (fun _ _ _ h => h) (Or.inl ⟨by rfl, ?_⟩) (by first | exact ⟨d0, d1, dA⟩ | exact ⟨E0.out, E1.out, EA.out⟩ | exact ⟨X0.out, X1.out, XA.out⟩) ?_
                rotate_left
                · (intro w hSw; obtain ⟨s0, s1, s2⟩ := hSw; go_simp <;> with_reducible rfl)
                simp only [Act.put, List.setIfInBounds_toArray, List.set_cons_zero, List.set_cons_succ]
                refine wpAnyH_take (i := 13) (oi := ⟨some 85, .move (.tmp 8), 33, "ref.go:118", #[], none⟩) (v := ?_) rfl (by kernel_rfl) (by kernel_rfl) (by kernel_rfl) (fun _ _ _ h => h) (Or.inl ⟨by rfl, ?_⟩) (by first | exact ⟨d0, d1, dA⟩ | exact ⟨E0.out, E1.out, EA.out⟩ | exact ⟨X0.out, X1.out, XA.out⟩) ?_
                rotate_left
                · (intro w hSw; obtain ⟨s0, s1, s2⟩ := hSw; go_simp <;> with_reducible rfl)
                simp only [Act.put, List.setIfInBounds_toArray, List.set_cons_zero, List.set_cons_succ]
                refine wpAnyH_take (i := 14) (oi := ⟨some 86, .move (.tmp 7), 3, "ref.go:118", #[], none⟩) (v := ?_) rfl (by kernel_rfl) (by kernel_rfl) (by kernel_rfl) (fun _ _ _ h => h) (Or.inl ⟨by rfl, ?_⟩) (by first | exact ⟨d0, d1, dA⟩ | exact ⟨E0.out, E1.out, EA.out⟩ | exact ⟨X0.out, X1.out, XA.out⟩) ?_
                rotate_left
                · (intro w hSw; obtain ⟨s0, s1, s2⟩ := hSw; go_simp <;> with_reducible rfl)
                simp only [Act.put, List.setIfInBounds_toArray, List.set_cons_zero, List.set_cons_succ]
                refine wpAnyH_take (i := 15) (oi := ⟨some 87, .slice 33 (.tmp 85) (some (.tmp 86)) none none, 33, "ref.go:118", #[⟨13, .data⟩, ⟨14, .data⟩], none⟩) (v := ?_) rfl (by kernel_rfl) (by kernel_rfl) (by kernel_rfl) (fun _ _ _ h => h) (Or.inl ⟨by rfl, ?_⟩) (by first | exact ⟨d0, d1, dA⟩ | exact ⟨E0.out, E1.out, EA.out⟩ | exact ⟨X0.out, X1.out, XA.out⟩) ?_
                rotate_left
                · (intro w hSw; obtain ⟨s0, s1, s2⟩ := hSw; go_simp <;> with_reducible rfl)
                simp only [Act.put, List.setIfInBounds_toArray, List.set_cons_zero, List.set_cons_succ]
                refine wpAnyH_ready (rs := [16]) (by kernel_rfl) (by simp) ?_
                refine AllReadyH.cons (o := ⟨some 88, .call { callee := Go.Callee.builtin Go.Builtin.append, args := #[Go.Operand.tmp 84, Go.Operand.tmp 87], argTypes := #[33, 33] }, 33, "ref.go:118", #[⟨12, .data⟩, ⟨15, .data⟩], none⟩) rfl (fun K hK => ?_) AllReadyH.nil
                refine step_append_rd rfl (.tmp 84) (.tmp 87) rfl rfl rfl H9.out.own (by first | exact RST0.out.rest8 HM.out _ rfl | exact RST0.out.rest8 HM.out _ (by split <;> rfl)) (u8_one _) (app_le HM.out) ?_
                intro v10 w10 hown hg hat
                obtain ⟨⟨A6, n6, c6, rfl⟩, k1, k2, ⟨u6, k5⟩, k6, G2, k7, k8⟩ := crash_fin HRD.out A9.out H9.out HAN.out HM.out HQ2.out LL.out hown hg hat
                have E0 := Lib.hid ((World.cell?_of_block (k1 c HRD.out.inG)).trans HRD.out.c0)
                have E1 := Lib.hid ((World.cell?_of_block (k1 c HRD.out.inG)).trans HRD.out.c1)
                have EA := Lib.hid ((World.cell?_of_block (k1 gQ (HRD.out.q.inF gQ rfl))).trans kA')
                have X0 := Lib.hid ((World.cell?_of_block (k2 c HRD.out.inG HNE.out.1)).trans HRD.out.c0)
                have X1 := Lib.hid ((World.cell?_of_block (k2 c HRD.out.inG HNE.out.1)).trans HRD.out.c1)
                have XA := Lib.hid ((World.cell?_of_block (k2 gQ (HRD.out.q.inF gQ rfl) HNE.out.2)).trans kA')
                have HN := Lib.hid (rc_next HLT.out HST.out HK0.out HQA.out HRE'.out k7 (HA.out.trans (Adv.of_drew k8)))
                clear hown hg hat k1 k2 k7 k8
                refine hK.out _ _ (by first | exact ⟨d0, d1, dA⟩ | exact ⟨E0.out, E1.out, EA.out⟩ | exact ⟨X0.out, X1.out, XA.out⟩) (fun hHeld => ?_)
                clear hK K hHeld
                try simp only [Act.put, List.setIfInBounds_toArray, List.set_cons_zero, List.set_cons_succ]
                refine wpAnyH_take (i := 17) (oi := ⟨some 89, .indexAddr 59 (.tmp 75) (.tmp 83), 0, "ref.go:118", #[⟨3, .data⟩, ⟨11, .data⟩, ⟨0, .phase⟩, ⟨1, .phase⟩, ⟨2, .phase⟩, ⟨3, .phase⟩, ⟨4, .phase⟩, ⟨5, .phase⟩, ⟨6, .phase⟩, ⟨7, .phase⟩, ⟨8, .phase⟩, ⟨9, .phase⟩, ⟨10, .phase⟩, ⟨11, .phase⟩, ⟨12, .phase⟩, ⟨13, .phase⟩, ⟨14, .phase⟩, ⟨15, .phase⟩, ⟨16, .phase⟩], none⟩) (v := ?_) rfl (by kernel_rfl) (by kernel_rfl) (by kernel_rfl) (fun _ _ _ h => h) (Or.inl ⟨by rfl, ?_⟩) (by first | exact ⟨d0, d1, dA⟩ | exact ⟨E0.out, E1.out, EA.out⟩ | exact ⟨X0.out, X1.out, XA.out⟩) ?_
                rotate_left
                · (intro w hSw; obtain ⟨s0, s1, s2⟩ := hSw; go_simp <;> with_reducible rfl)
                simp only [Act.put, List.setIfInBounds_toArray, List.set_cons_zero, List.set_cons_succ]
                refine wpAnyH_ready (rs := [18]) (by kernel_rfl) (by simp) ?_
                refine AllReadyH.cons (o := ⟨none, .store 33 (.tmp 89) (.tmp 88), 0, "ref.go:118", #[⟨17, .data⟩, ⟨16, .data⟩, ⟨16, .chain⟩, ⟨0, .phase⟩, ⟨1, .phase⟩, ⟨2, .phase⟩, ⟨3, .phase⟩, ⟨4, .phase⟩, ⟨5, .phase⟩, ⟨6, .phase⟩, ⟨7, .phase⟩, ⟨8, .phase⟩, ⟨9, .phase⟩, ⟨10, .phase⟩, ⟨11, .phase⟩, ⟨12, .phase⟩, ⟨13, .phase⟩, ⟨14, .phase⟩, ⟨15, .phase⟩, ⟨16, .phase⟩], none⟩) rfl (fun K hK => ?_) AllReadyH.nil
                go_simp
                refine hK.out _ _ (by first | exact ⟨d0, d1, dA⟩ | exact ⟨E0.out, E1.out, EA.out⟩ | exact ⟨X0.out, X1.out, XA.out⟩) (fun hHeld => ?_)
                clear hK K hHeld
                try simp only [Act.put]
                refine wpAnyH_done (by kernel_rfl) ?_ _
                go_wp2_with fail
                exact ⟨HN.out, HMS.out⟩
              · have hxb : (x != 0) = true := by simp [hx0]
                have HK0 := Lib.hid (show kept ks torn s.Q.length k = (128 : Int).toNat by rw [hkept0, if_pos hx0]; rfl)
                clear hkept0 hx0
                go_wp2_with fail
                obtain ⟨mi, hmi⟩ : ∃ mi : Int, mi = 128 := ⟨_, rfl⟩
                rw [← hmi]
                obtain ⟨hm0, hm1, hmn, hmcd, hmcr⟩ := mi_facts hmi (by decide) HCD.out HCR.out
                replace HK0 := Lib.hid (HK0.out.trans (congrArg Int.toNat hmi).symm)
                have HM := Lib.hid hmn
                have HMS := Lib.hid (rc_meas HLT.out)
                clear hmi hmn
                refine wp_region_held_drew (S := (fun w' => w'.cell? ⟨c, 0, none⟩ = some (.slice (some ⟨gL, 0, none⟩) n cap) ∧ w'.cell? ⟨c, 1, none⟩ = some (.slice (some ⟨gQ, 0, none⟩) s.Q.length cq) ∧ w'.cell? ⟨gQ, k * 2, none⟩ = some (.int .i64 (a : Int)) ∧ w'.cell? ⟨gL, a, none⟩ = some (.slice (some ⟨gr, 0, none⟩) 128 cr))) (by kernel_rfl) (by first | exact ⟨c0, c1, kA', kL⟩) (fun hHeld => ?_)
                clear hHeld
                refine wpAnyH_take (i := 0) (oi := ⟨some 47, .move (.tmp 0), 27, "ref.go:116", #[], none⟩) (v := ?_) rfl (by kernel_rfl) (by kernel_rfl) (by kernel_rfl) (fun _ _ _ h => h) (Or.inl ⟨by rfl, ?_⟩) (by first | exact ⟨c0, c1, kA', kL⟩) ?_
                rotate_left
                · (intro w hSw; obtain ⟨s0, s1, s2, s3⟩ := hSw; go_simp <;> with_reducible rfl)
                simp only [Act.put, List.setIfInBounds_toArray, List.set_cons_zero, List.set_cons_succ]
                refine wpAnyH_take (i := 1) (oi := ⟨some 48, .nilCheck (.tmp 47), 0, "ref.go:116", #[⟨0, .data⟩], none⟩) (v := ?_) rfl (by kernel_rfl) (by kernel_rfl) (by kernel_rfl) (fun _ _ _ h => h) (Or.inl ⟨by rfl, ?_⟩) (by first | exact ⟨c0, c1, kA', kL⟩) ?_
                rotate_left
                · (intro w hSw; obtain ⟨s0, s1, s2, s3⟩ := hSw; go_simp <;> with_reducible rfl)
                simp only [Act.put, List.setIfInBounds_toArray, List.set_cons_zero, List.set_cons_succ]
                refine wpAnyH_take (i := 2) (oi := ⟨some 49, .fieldAddr 62 (.tmp 48) 0, 0, "ref.go:116", #[⟨1, .data⟩], none⟩) (v := ?_) rfl (by kernel_rfl) (by kernel_rfl) (by kernel_rfl) (fun _ _ _ h => h) (Or.inl ⟨by rfl, ?_⟩) (by first | exact ⟨c0, c1, kA', kL⟩) ?_
                rotate_left
                · (intro w hSw; obtain ⟨s0, s1, s2, s3⟩ := hSw; go_simp <;> with_reducible rfl)
                simp only [Act.put, List.setIfInBounds_toArray, List.set_cons_zero, List.set_cons_succ]
                refine wpAnyH_take (i := 3) (oi := ⟨some 50, .load 59 (.tmp 49), 59, "ref.go:116", #[⟨2, .data⟩], none⟩) (v := ?_) rfl (by kernel_rfl) (by kernel_rfl) (by kernel_rfl) (fun _ _ _ h => h) (Or.inl ⟨by rfl, ?_⟩) (by first | exact ⟨c0, c1, kA', kL⟩) ?_
                rotate_left
                · (intro w hSw; obtain ⟨s0, s1, s2, s3⟩ := hSw; go_simp <;> with_reducible rfl)
                simp only [Act.put, List.setIfInBounds_toArray, List.set_cons_zero, List.set_cons_succ]
                refine wpAnyH_take (i := 4) (oi := ⟨some 51, .move (.tmp 0), 27, "ref.go:116", #[], none⟩) (v := ?_) rfl (by kernel_rfl) (by kernel_rfl) (by kernel_rfl) (fun _ _ _ h => h) (Or.inl ⟨by rfl, ?_⟩) (by first | exact ⟨c0, c1, kA', kL⟩) ?_
                rotate_left
                · (intro w hSw; obtain ⟨s0, s1, s2, s3⟩ := hSw; go_simp <;> with_reducible rfl)
                simp only [Act.put, List.setIfInBounds_toArray, List.set_cons_zero, List.set_cons_succ]
                refine wpAnyH_take (i := 5) (oi := ⟨some 52, .nilCheck (.tmp 51), 0, "ref.go:116", #[⟨4, .data⟩], none⟩) (v := ?_) rfl (by kernel_rfl) (by kernel_rfl) (by kernel_rfl) (fun _ _ _ h => h) (Or.inl ⟨by rfl, ?_⟩) (by first | exact ⟨c0, c1, kA', kL⟩) ?_
                rotate_left
                · (intro w hSw; obtain ⟨s0, s1, s2, s3⟩ := hSw; go_simp <;> with_reducible rfl)
                simp only [Act.put, List.setIfInBounds_toArray, List.set_cons_zero, List.set_cons_succ]
                refine wpAnyH_take (i := 6) (oi := ⟨some 53, .fieldAddr 62 (.tmp 52) 1, 0, "ref.go:116", #[⟨5, .data⟩], none⟩) (v := ?_) rfl (by kernel_rfl) (by kernel_rfl) (by kernel_rfl) (fun _ _ _ h => h) (Or.inl ⟨by rfl, ?_⟩) (by first | exact ⟨c0, c1, kA', kL⟩) ?_
                rotate_left
                · (intro w hSw; obtain ⟨s0, s1, s2, s3⟩ := hSw; go_simp <;> with_reducible rfl)
                simp only [Act.put, List.setIfInBounds_toArray, List.set_cons_zero, List.set_cons_succ]
                refine wpAnyH_take (i := 7) (oi := ⟨some 54, .load 60 (.tmp 53), 60, "ref.go:116", #[⟨6, .data⟩], none⟩) (v := ?_) rfl (by kernel_rfl) (by kernel_rfl) (by kernel_rfl) (fun _ _ _ h => h) (Or.inl ⟨by rfl, ?_⟩) (by first | exact ⟨c0, c1, kA', kL⟩) ?_
                rotate_left
                · (intro w hSw; obtain ⟨s0, s1, s2, s3⟩ := hSw; go_simp <;> with_reducible rfl)
                simp only [Act.put, List.setIfInBounds_toArray, List.set_cons_zero, List.set_cons_succ]
                refine wpAnyH_take (i := 8) (oi := ⟨some 55, .move (.tmp 6), 3, "ref.go:116", #[], none⟩) (v := ?_) rfl (by kernel_rfl) (by kernel_rfl) (by kernel_rfl) (fun _ _ _ h => h) (Or.inl ⟨by rfl, ?_⟩) (by first | exact ⟨c0, c1, kA', kL⟩) ?_
                rotate_left
                · (intro w hSw; obtain ⟨s0, s1, s2, s3⟩ := hSw; go_simp <;> with_reducible rfl)
                simp only [Act.put, List.setIfInBounds_toArray, List.set_cons_zero, List.set_cons_succ]
                refine wpAnyH_take (i := 9) (oi := ⟨some 56, .indexAddr 60 (.tmp 54) (.tmp 55), 0, "ref.go:116", #[⟨7, .data⟩, ⟨8, .data⟩], none⟩) (v := ?_) rfl (by kernel_rfl) (by kernel_rfl) (by kernel_rfl) (fun _ _ _ h => h) (Or.inl ⟨by rfl, ?_⟩) (by first | exact ⟨c0, c1, kA', kL⟩) ?_
                rotate_left
                · (intro w hSw; obtain ⟨s0, s1, s2, s3⟩ := hSw; go_simp <;> with_reducible rfl)
                simp only [Act.put, List.setIfInBounds_toArray, List.set_cons_zero, List.set_cons_succ]
                refine wpAnyH_take (i := 10) (oi := ⟨some 57, .fieldAddr 76 (.tmp 56) 0, 0, "ref.go:116", #[⟨9, .data⟩], none⟩) (v := ?_) rfl (by kernel_rfl) (by kernel_rfl) (by kernel_rfl) (fun _ _ _ h => h) (Or.inl ⟨by rfl, ?_⟩) (by first | exact ⟨c0, c1, kA', kL⟩) ?_
                rotate_left
                · (intro w hSw; obtain ⟨s0, s1, s2, s3⟩ := hSw; go_simp <;> with_reducible rfl)
                simp only [Act.put, List.setIfInBounds_toArray, List.set_cons_zero, List.set_cons_succ]
                refine wpAnyH_take (i := 11) (oi := ⟨some 58, .load 3 (.tmp 57), 3, "ref.go:116", #[⟨10, .data⟩], none⟩) (v := ?_) rfl (by kernel_rfl) (by kernel_rfl) (by kernel_rfl) (fun _ _ _ h => h) (Or.inl ⟨by rfl, ?_⟩) (by first | exact ⟨c0, c1, kA', kL⟩) ?_
                rotate_left
                · (intro w hSw; obtain ⟨s0, s1, s2, s3⟩ := hSw; go_simp <;> with_reducible rfl)
                simp only [Act.put, List.setIfInBounds_toArray, List.set_cons_zero, List.set_cons_succ]
                refine wpAnyH_take (i := 12) (oi := ⟨some 59, .indexAddr 59 (.tmp 50) (.tmp 58), 0, "ref.go:116", #[⟨3, .data⟩, ⟨11, .data⟩], none⟩) (v := ?_) rfl (by kernel_rfl) (by kernel_rfl) (by kernel_rfl) (fun _ _ _ h => h) (Or.inl ⟨by rfl, ?_⟩) (by first | exact ⟨c0, c1, kA', kL⟩) ?_
                rotate_left
                · (intro w hSw; obtain ⟨s0, s1, s2, s3⟩ := hSw; go_simp <;> with_reducible rfl)
                simp only [Act.put, List.setIfInBounds_toArray, List.set_cons_zero, List.set_cons_succ]
                refine wpAnyH_take (i := 13) (oi := ⟨some 60, .load 33 (.tmp 59), 33, "ref.go:116", #[⟨12, .data⟩], none⟩) (v := ?_) rfl (by kernel_rfl) (by kernel_rfl) (by kernel_rfl) (fun _ _ _ h => h) (Or.inl ⟨by rfl, ?_⟩) (by first | exact ⟨c0, c1, kA', kL⟩) ?_
                rotate_left
                · (intro w hSw; obtain ⟨s0, s1, s2, s3⟩ := hSw; go_simp <;> with_reducible rfl)
                simp only [Act.put, List.setIfInBounds_toArray, List.set_cons_zero, List.set_cons_succ]
                refine wpAnyH_take (i := 14) (oi := ⟨some 8, .assign (.tmp 60), 33, "ref.go:116", #[⟨13, .data⟩, ⟨0, .phase⟩, ⟨1, .phase⟩, ⟨2, .phase⟩, ⟨3, .phase⟩, ⟨4, .phase⟩, ⟨5, .phase⟩, ⟨6, .phase⟩, ⟨7, .phase⟩, ⟨8, .phase⟩, ⟨9, .phase⟩, ⟨10, .phase⟩, ⟨11, .phase⟩, ⟨12, .phase⟩, ⟨13, .phase⟩], none⟩) (v := ?_) rfl (by kernel_rfl) (by kernel_rfl) (by kernel_rfl) (fun _ _ _ h => h) (Or.inl ⟨by rfl, ?_⟩) (by first | exact ⟨c0, c1, kA', kL⟩) ?_
                rotate_left
                · (intro w hSw; obtain ⟨s0, s1, s2, s3⟩ := hSw; go_simp <;> with_reducible rfl)
                simp only [Act.put, List.setIfInBounds_toArray, List.set_cons_zero, List.set_cons_succ]
                refine wpAnyH_done (by kernel_rfl) ?_ _
                have hrd := HR.out.far ((Adv.refl Nul wr).drew) (fun _ h _ => h)
                have HRD := Lib.hid hrd
                have HNE := Lib.hid hrd.ne_L
                have hfront := (SD.out.far ((Adv.refl Nul wr).drew) (fun _ h _ => h)).rd.front8 HM.out
                have HFRONT := Lib.hid hfront
                clear hrd hfront
                go_wp2_with (first
                  | (go_at_call 31; refine (copy_any _ mi.toNat (q.2.take mi.toNat) _ HFRONT.out (Nat.le_trans HM.out (by decide))).mono ?_; rintro e w9 ⟨v9, F9, rfl, h9, a9⟩; obtain ⟨av9, cv9, rfl, _, _⟩ := h9.form0; have H9 := Lib.hid (h9.far ((Adv.refl Nul w9).drew) (fun _ h _ => h)); have A9 := Lib.hid (a9.drew); obtain ⟨d0, d1, dA⟩ := crash_cells HRD.out A9.out (k := k) (a := a) kA'; have RST0 := Lib.hid ((SL.out.far ((Adv.refl Nul wr).drew) (fun _ h _ => h)).far A9.out (fun _ h _ => h)).rd; clear h9 a9)
                  | fail)
                refine wp_region_held_drew (S := (fun w' => w'.cell? ⟨c, 0, none⟩ = some (.slice (some ⟨gL, 0, none⟩) n cap) ∧ w'.cell? ⟨c, 1, none⟩ = some (.slice (some ⟨gQ, 0, none⟩) s.Q.length cq) ∧ w'.cell? ⟨gQ, k * 2, none⟩ = some (.int .i64 (a : Int)))) (by kernel_rfl) (by first | exact ⟨d0, d1, dA⟩ | exact ⟨E0.out, E1.out, EA.out⟩ | exact ⟨X0.out, X1.out, XA.out⟩) (fun hHeld => ?_)
                clear hHeld
                refine wpAnyH_take (i := 0) (oi := ⟨some 72, .move (.tmp 0), 27, "ref.go:118", #[], none⟩) (v := ?_) rfl (by kernel_rfl) (by kernel_rfl) (by kernel_rfl) (fun _ _ _ h => h) (Or.inl ⟨by rfl, ?_⟩) (by first | exact ⟨d0, d1, dA⟩ | exact ⟨E0.out, E1.out, EA.out⟩ | exact ⟨X0.out, X1.out, XA.out⟩) ?_
                rotate_left
                · (intro w hSw; obtain ⟨s0, s1, s2⟩ := hSw; go_simp <;> with_reducible rfl)
                simp only [Act.put, List.setIfInBounds_toArray, List.set_cons_zero, List.set_cons_succ]
                refine wpAnyH_take (i := 1) (oi := ⟨some 73, .nilCheck (.tmp 72), 0, "ref.go:118", #[⟨0, .data⟩], none⟩) (v := ?_) rfl (by kernel_rfl) (by kernel_rfl) (by kernel_rfl) (fun _ _ _ h => h) (Or.inl ⟨by rfl, ?_⟩) (by first | exact ⟨d0, d1, dA⟩ | exact ⟨E0.out, E1.out, EA.out⟩ | exact ⟨X0.out, X1.out, XA.out⟩) ?_
                rotate_left
                · (intro w hSw; obtain ⟨s0, s1, s2⟩ := hSw; go_simp <;> with_reducible rfl)
                simp only [Act.put, List.setIfInBounds_toArray, List.set_cons_zero, List.set_cons_succ]
                refine wpAnyH_take (i := 2) (oi := ⟨some 74, .fieldAddr 62 (.tmp 73) 0, 0, "ref.go:118", #[⟨1, .data⟩], none⟩) (v := ?_) rfl (by kernel_rfl) (by kernel_rfl) (by kernel_rfl) (fun _ _ _ h => h) (Or.inl ⟨by rfl, ?_⟩) (by first | exact ⟨d0, d1, dA⟩ | exact ⟨E0.out, E1.out, EA.out⟩ | exact ⟨X0.out, X1.out, XA.out⟩) ?_
                rotate_left
                · (intro w hSw; obtain ⟨s0, s1, s2⟩ := hSw; go_simp <;> with_reducible rfl)
                simp only [Act.put, List.setIfInBounds_toArray, List.set_cons_zero, List.set_cons_succ]
                refine wpAnyH_take (i := 3) (oi := ⟨some 75, .load 59 (.tmp 74), 59, "ref.go:118", #[⟨2, .data⟩], none⟩) (v := ?_) rfl (by kernel_rfl) (by kernel_rfl) (by kernel_rfl) (fun _ _ _ h => h) (Or.inl ⟨by rfl, ?_⟩) (by first | exact ⟨d0, d1, dA⟩ | exact ⟨E0.out, E1.out, EA.out⟩ | exact ⟨X0.out, X1.out, XA.out⟩) ?_
                rotate_left
                · (intro w hSw; obtain ⟨s0, s1, s2⟩ := hSw; go_simp <;> with_reducible rfl)
                simp only [Act.put, List.setIfInBounds_toArray, List.set_cons_zero, List.set_cons_succ]
                refine wpAnyH_take (i := 4) (oi := ⟨some 76, .move (.tmp 0), 27, "ref.go:118", #[], none⟩) (v := ?_) rfl (by kernel_rfl) (by kernel_rfl) (by kernel_rfl) (fun _ _ _ h => h) (Or.inl ⟨by rfl, ?_⟩) (by first | exact ⟨d0, d1, dA⟩ | exact ⟨E0.out, E1.out, EA.out⟩ | exact ⟨X0.out, X1.out, XA.out⟩) ?_
                rotate_left
                · (intro w hSw; obtain ⟨s0, s1, s2⟩ := hSw; go_simp <;> with_reducible rfl)
                simp only [Act.put, List.setIfInBounds_toArray, List.set_cons_zero, List.set_cons_succ]
                refine wpAnyH_take (i := 5) (oi := ⟨some 77, .nilCheck (.tmp 76), 0, "ref.go:118", #[⟨4, .data⟩], none⟩) (v := ?_) rfl (by kernel_rfl) (by kernel_rfl) (by kernel_rfl) (fun _ _ _ h => h) (Or.inl ⟨by rfl, ?_⟩) (by first | exact ⟨d0, d1, dA⟩ | exact ⟨E0.out, E1.out, EA.out⟩ | exact ⟨X0.out, X1.out, XA.out⟩) ?_
                rotate_left
                · (intro w hSw; obtain ⟨s0, s1, s2⟩ := hSw; go_simp <;> with_reducible rfl)
                simp only [Act.put, List.setIfInBounds_toArray, List.set_cons_zero, List.set_cons_succ]
                refine wpAnyH_take (i := 6) (oi := ⟨some 78, .fieldAddr 62 (.tmp 77) 1, 0, "ref.go:118", #[⟨5, .data⟩], none⟩) (v := ?_) rfl (by kernel_rfl) (by kernel_rfl) (by kernel_rfl) (fun _ _ _ h => h) (Or.inl ⟨by rfl, ?_⟩) (by first | exact ⟨d0, d1, dA⟩ | exact ⟨E0.out, E1.out, EA.out⟩ | exact ⟨X0.out, X1.out, XA.out⟩) ?_
                rotate_left
                · (intro w hSw; obtain ⟨s0, s1, s2⟩ := hSw; go_simp <;> with_reducible rfl)
                simp only [Act.put, List.setIfInBounds_toArray, List.set_cons_zero, List.set_cons_succ]
                refine wpAnyH_take (i := 7) (oi := ⟨some 79, .load 60 (.tmp 78), 60, "ref.go:118", #[⟨6, .data⟩], none⟩) (v := ?_) rfl (by kernel_rfl) (by kernel_rfl) (by kernel_rfl) (fun _ _ _ h => h) (Or.inl ⟨by rfl, ?_⟩) (by first | exact ⟨d0, d1, dA⟩ | exact ⟨E0.out, E1.out, EA.out⟩ | exact ⟨X0.out, X1.out, XA.out⟩) ?_
                rotate_left
                · (intro w hSw; obtain ⟨s0, s1, s2⟩ := hSw; go_simp <;> with_reducible rfl)
                simp only [Act.put, List.setIfInBounds_toArray, List.set_cons_zero, List.set_cons_succ]
                refine wpAnyH_take (i := 8) (oi := ⟨some 80, .move (.tmp 6), 3, "ref.go:118", #[], none⟩) (v := ?_) rfl (by kernel_rfl) (by kernel_rfl) (by kernel_rfl) (fun _ _ _ h => h) (Or.inl ⟨by rfl, ?_⟩) (by first | exact ⟨d0, d1, dA⟩ | exact ⟨E0.out, E1.out, EA.out⟩ | exact ⟨X0.out, X1.out, XA.out⟩) ?_
                rotate_left
                · (intro w hSw; obtain ⟨s0, s1, s2⟩ := hSw; go_simp <;> with_reducible rfl)
                simp only [Act.put, List.setIfInBounds_toArray, List.set_cons_zero, List.set_cons_succ]
                refine wpAnyH_take (i := 9) (oi := ⟨some 81, .indexAddr 60 (.tmp 79) (.tmp 80), 0, "ref.go:118", #[⟨7, .data⟩, ⟨8, .data⟩], none⟩) (v := ?_) rfl (by kernel_rfl) (by kernel_rfl) (by kernel_rfl) (fun _ _ _ h => h) (Or.inl ⟨by rfl, ?_⟩) (by first | exact ⟨d0, d1, dA⟩ | exact ⟨E0.out, E1.out, EA.out⟩ | exact ⟨X0.out, X1.out, XA.out⟩) ?_
                rotate_left
                · (intro w hSw; obtain ⟨s0, s1, s2⟩ := hSw; go_simp <;> with_reducible rfl)
                simp only [Act.put, List.setIfInBounds_toArray, List.set_cons_zero, List.set_cons_succ]
                refine wpAnyH_take (i := 10) (oi := ⟨some 82, .fieldAddr 76 (.tmp 81) 0, 0, "ref.go:118", #[⟨9, .data⟩], none⟩) (v := ?_) rfl (by kernel_rfl) (by kernel_rfl) (by kernel_rfl) (fun _ _ _ h => h) (Or.inl ⟨by rfl, ?_⟩) (by first | exact ⟨d0, d1, dA⟩ | exact ⟨E0.out, E1.out, EA.out⟩ | exact ⟨X0.out, X1.out, XA.out⟩) ?_
                rotate_left
                · (intro w hSw; obtain ⟨s0, s1, s2⟩ := hSw; go_simp <;> with_reducible rfl)
                simp only [Act.put, List.setIfInBounds_toArray, List.set_cons_zero, List.set_cons_succ]
                refine wpAnyH_take (i := 11) (oi := ⟨some 83, .load 3 (.tmp 82), 3, "ref.go:118", #[⟨10, .data⟩], none⟩) (v := ?_) rfl (by kernel_rfl) (by kernel_rfl) (by kernel_rfl) (fun _ _ _ h => h) (Or.inl ⟨by rfl, ?_⟩) (by first | exact ⟨d0, d1, dA⟩ | exact ⟨E0.out, E1.out, EA.out⟩ | exact ⟨X0.out, X1.out, XA.out⟩) ?_
                rotate_left
                · (intro w hSw; obtain ⟨s0, s1, s2⟩ := hSw; go_simp <;> with_reducible rfl)
                simp only [Act.put, List.setIfInBounds_toArray, List.set_cons_zero, List.set_cons_succ]
                refine wpAnyH_take (i := 12) (oi := ⟨some 84, .move (.tmp 9), 33, "ref.go:118", #[], none⟩) (v := ?_) rfl (by kernel_rfl) (by kernel_rfl) (by kernel_rfl) (fun _ _ _ h => h) (Or.inl ⟨by rfl, ?_⟩) (by first | exact ⟨d0, d1, dA⟩ | exact ⟨E0.out, E1.out, EA.out⟩ | exact ⟨X0.out, X1.out, XA.out⟩) ?_
                rotate_left
                · (intro w hSw; obtain ⟨s0, s1, s2⟩ := hSw; go_simp <;> with_reducible rfl)
                simp only [Act.put, List.setIfInBounds_toArray, List.set_cons_zero, List.set_cons_succ]
                refine wpAnyH_take (i := 13) (oi := ⟨some 85, .move (.tmp 8), 33, "ref.go:118", #[], none⟩) (v := ?_) rfl (by kernel_rfl) (by kernel_rfl) (by kernel_rfl) (fun _ _ _ h => h) (Or.inl ⟨by rfl, ?_⟩) (by first | exact ⟨d0, d1, dA⟩ | exact ⟨E0.out, E1.out, EA.out⟩ | exact ⟨X0.out, X1.out, XA.out⟩) ?_
                rotate_left
                · (intro w hSw; obtain ⟨s0, s1, s2⟩ := hSw; go_simp <;> with_reducible rfl)
                simp only [Act.put, List.setIfInBounds_toArray, List.set_cons_zero, List.set_cons_succ]
                refine wpAnyH_take (i := 14) (oi := ⟨some 86, .move (.tmp 7), 3, "ref.go:118", #[], none⟩) (v := ?_) rfl (by kernel_rfl) (by kernel_rfl) (by kernel_rfl) (fun _ _ _ h => h) (Or.inl ⟨by rfl, ?_⟩) (by first | exact ⟨d0, d1, dA⟩ | exact ⟨E0.out, E1.out, EA.out⟩ | exact ⟨X0.out, X1.out, XA.out⟩) ?_
                rotate_left
                · (intro w hSw; obtain ⟨s0, s1, s2⟩ := hSw; go_simp <;> with_reducible rfl)
                simp only [Act.put, List.setIfInBounds_toArray, List.set_cons_zero, List.set_cons_succ]
                refine wpAnyH_take (i := 15) (oi := ⟨some 87, .slice 33 (.tmp 85) (some (.tmp 86)) none none, 33, "ref.go:118", #[⟨13, .data⟩, ⟨14, .data⟩], none⟩) (v := ?_) rfl (by kernel_rfl) (by kernel_rfl) (by kernel_rfl) (fun _ _ _ h => h) (Or.inl ⟨by rfl, ?_⟩) (by first | exact ⟨d0, d1, dA⟩ | exact ⟨E0.out, E1.out, EA.out⟩ | exact ⟨X0.out, X1.out, XA.out⟩) ?_
                rotate_left
                · (intro w hSw; obtain ⟨s0, s1, s2⟩ := hSw; go_simp <;> with_reducible rfl)
                simp only [Act.put, List.setIfInBounds_toArray, List.set_cons_zero, List.set_cons_succ]
                refine wpAnyH_ready (rs := [16]) (by kernel_rfl) (by simp) ?_
                refine AllReadyH.cons (o := ⟨some 88, .call { callee := Go.Callee.builtin Go.Builtin.append, args := #[Go.Operand.tmp 84, Go.Operand.tmp 87], argTypes := #[33, 33] }, 33, "ref.go:118", #[⟨12, .data⟩, ⟨15, .data⟩], none⟩) rfl (fun K hK => ?_) AllReadyH.nil
                refine step_append_rd rfl (.tmp 84) (.tmp 87) rfl rfl rfl H9.out.own (by first | exact RST0.out.rest8 HM.out _ rfl | exact RST0.out.rest8 HM.out _ (by split <;> rfl)) (u8_one _) (app_le HM.out) ?_
                intro v10 w10 hown hg hat
                obtain ⟨⟨A6, n6, c6, rfl⟩, k1, k2, ⟨u6, k5⟩, k6, G2, k7, k8⟩ := crash_fin HRD.out A9.out H9.out HAN.out HM.out HQ2.out LL.out hown hg hat
                have E0 := Lib.hid ((World.cell?_of_block (k1 c HRD.out.inG)).trans HRD.out.c0)
                have E1 := Lib.hid ((World.cell?_of_block (k1 c HRD.out.inG)).trans HRD.out.c1)
                have EA := Lib.hid ((World.cell?_of_block (k1 gQ (HRD.out.q.inF gQ rfl))).trans kA')
                have X0 := Lib.hid ((World.cell?_of_block (k2 c HRD.out.inG HNE.out.1)).trans HRD.out.c0)
                have X1 := Lib.hid ((World.cell?_of_block (k2 c HRD.out.inG HNE.out.1)).trans HRD.out.c1)
                have XA := Lib.hid ((World.cell?_of_block (k2 gQ (HRD.out.q.inF gQ rfl) HNE.out.2)).trans kA')
                have HN := Lib.hid (rc_next HLT.out HST.out HK0.out HQA.out HRE'.out k7 (HA.out.trans (Adv.of_drew k8)))
                clear hown hg hat k1 k2 k7 k8
                refine hK.out _ _ (by first | exact ⟨d0, d1, dA⟩ | exact ⟨E0.out, E1.out, EA.out⟩ | exact ⟨X0.out, X1.out, XA.out⟩) (fun hHeld => ?_)
                clear hK K hHeld
                try simp only [Act.put, List.setIfInBounds_toArray, List.set_cons_zero, List.set_cons_succ]
                refine wpAnyH_take (i := 17) (oi := ⟨some 89, .indexAddr 59 (.tmp 75) (.tmp 83), 0, "ref.go:118", #[⟨3, .data⟩, ⟨11, .data⟩, ⟨0, .phase⟩, ⟨1, .phase⟩, ⟨2, .phase⟩, ⟨3, .phase⟩, ⟨4, .phase⟩, ⟨5, .phase⟩, ⟨6, .phase⟩, ⟨7, .phase⟩, ⟨8, .phase⟩, ⟨9, .phase⟩, ⟨10, .phase⟩, ⟨11, .phase⟩, ⟨12, .phase⟩, ⟨13, .phase⟩, ⟨14, .phase⟩, ⟨15, .phase⟩, ⟨16, .phase⟩], none⟩) (v := ?_) rfl (by kernel_rfl) (by kernel_rfl) (by kernel_rfl) (fun _ _ _ h => h) (Or.inl ⟨by rfl, ?_⟩) (by first | exact ⟨d0, d1, dA⟩ | exact ⟨E0.out, E1.out, EA.out⟩ | exact ⟨X0.out, X1.out, XA.out⟩) ?_
                rotate_left
                · (intro w hSw; obtain ⟨s0, s1, s2⟩ := hSw; go_simp <;> with_reducible rfl)
                simp only [Act.put, List.setIfInBounds_toArray, List.set_cons_zero, List.set_cons_succ]
                refine wpAnyH_ready (rs := [18]) (by kernel_rfl) (by simp) ?_
                refine AllReadyH.cons (o := ⟨none, .store 33 (.tmp 89) (.tmp 88), 0, "ref.go:118", #[⟨17, .data⟩, ⟨16, .data⟩, ⟨16, .chain⟩, ⟨0, .phase⟩, ⟨1, .phase⟩, ⟨2, .phase⟩, ⟨3, .phase⟩, ⟨4, .phase⟩, ⟨5, .phase⟩, ⟨6, .phase⟩, ⟨7, .phase⟩, ⟨8, .phase⟩, ⟨9, .phase⟩, ⟨10, .phase⟩, ⟨11, .phase⟩, ⟨12, .phase⟩, ⟨13, .phase⟩, ⟨14, .phase⟩, ⟨15, .phase⟩, ⟨16, .phase⟩], none⟩) rfl (fun K hK => ?_) AllReadyH.nil
                go_simp
                refine hK.out _ _ (by first | exact ⟨d0, d1, dA⟩ | exact ⟨E0.out, E1.out, EA.out⟩ | exact ⟨X0.out, X1.out, XA.out⟩) (fun hHeld => ?_)
                clear hK K hHeld
                try simp only [Act.put]
                refine wpAnyH_done (by kernel_rfl) ?_ _
                go_wp2_with fail
                exact ⟨HN.out, HMS.out⟩
            · have hki : (m0 : Int) ≤ (k : Int) := by omega
              have HK0 := Lib.hid (show kept ks torn s.Q.length k = (0 : Int).toNat by rw [hkept0, List.getD_eq_getElem?_getD, List.getElem?_eq_none (by have := HKL.out; omega)]; simp)
              clear hkept0
              go_wp2_with fail
              obtain ⟨mi, hmi⟩ : ∃ mi : Int, mi = 0 := ⟨_, rfl⟩
              rw [← hmi]
              obtain ⟨hm0, hm1, hmn, hmcd, hmcr⟩ := mi_facts hmi (by decide) HCD.out HCR.out
              replace HK0 := Lib.hid (HK0.out.trans (congrArg Int.toNat hmi).symm)
              have HM := Lib.hid hmn
              have HMS := Lib.hid (rc_meas HLT.out)
              clear hmi hmn
              refine wp_region_held_drew (S := (fun w' => w'.cell? ⟨c, 0, none⟩ = some (.slice (some ⟨gL, 0, none⟩) n cap) ∧ w'.cell? ⟨c, 1, none⟩ = some (.slice (some ⟨gQ, 0, none⟩) s.Q.length cq) ∧ w'.cell? ⟨gQ, k * 2, none⟩ = some (.int .i64 (a : Int)) ∧ w'.cell? ⟨gL, a, none⟩ = some (.slice (some ⟨gr, 0, none⟩) 128 cr))) (by kernel_rfl) (by first | exact ⟨c0, c1, kA', kL⟩) (fun hHeld => ?_)
              clear hHeld
              refine wpAnyH_take (i := 0) (oi := ⟨some 47, .move (.tmp 0), 27, "ref.go:116", #[], none⟩) (v := ?_) rfl (by kernel_rfl) (by kernel_rfl) (by kernel_rfl) (fun _ _ _ h => h) (Or.inl ⟨by rfl, ?_⟩) (by first | exact ⟨c0, c1, kA', kL⟩) ?_
              rotate_left
              · (intro w hSw; obtain ⟨s0, s1, s2, s3⟩ := hSw; go_simp <;> with_reducible rfl)
              simp only [Act.put, List.setIfInBounds_toArray, List.set_cons_zero, List.set_cons_succ]
              refine wpAnyH_take (i := 1) (oi := ⟨some 48, .nilCheck (.tmp 47), 0, "ref.go:116", #[⟨0, .data⟩], none⟩) (v := ?_) rfl (by kernel_rfl) (by kernel_rfl) (by kernel_rfl) (fun _ _ _ h => h) (Or.inl ⟨by rfl, ?_⟩) (by first | exact ⟨c0, c1, kA', kL⟩) ?_
              rotate_left
              · (intro w hSw; obtain ⟨s0, s1, s2, s3⟩ := hSw; go_simp <;> with_reducible rfl)
              simp only [Act.put, List.setIfInBounds_toArray, List.set_cons_zero, List.set_cons_succ]
              refine wpAnyH_take (i := 2) (oi := ⟨some 49, .fieldAddr 62 (.tmp 48) 0, 0, "ref.go:116", #[⟨1, .data⟩], none⟩) (v := ?_) rfl (by kernel_rfl) (by kernel_rfl) (by kernel_rfl) (fun _ _ _ h => h) (Or.inl ⟨by rfl, ?_⟩) (by first | exact ⟨c0, c1, kA', kL⟩) ?_
              rotate_left
              · (intro w hSw; obtain ⟨s0, s1, s2, s3⟩ := hSw; go_simp <;> with_reducible rfl)
              simp only [Act.put, List.setIfInBounds_toArray, List.set_cons_zero, List.set_cons_succ]
              refine wpAnyH_take (i := 3) (oi := ⟨some 50, .load 59 (.tmp 49), 59, "ref.go:116", #[⟨2, .data⟩], none⟩) (v := ?_) rfl (by kernel_rfl) (by kernel_rfl) (by kernel_rfl) (fun _ _ _ h => h) (Or.inl ⟨by rfl, ?_⟩) (by first | exact ⟨c0, c1, kA', kL⟩) ?_
              rotate_left
              · (intro w hSw; obtain ⟨s0, s1, s2, s3⟩ := hSw; go_simp <;> with_reducible rfl)
              simp only [Act.put, List.setIfInBounds_toArray, List.set_cons_zero, List.set_cons_succ]
              refine wpAnyH_take (i := 4) (oi := ⟨some 51, .move (.tmp 0), 27, "ref.go:116", #[], none⟩) (v := ?_) rfl (by kernel_rfl) (by kernel_rfl) (by kernel_rfl) (fun _ _ _ h => h) (Or.inl ⟨by rfl, ?_⟩) (by first | exact ⟨c0, c1, kA', kL⟩) ?_
              rotate_left
              · (intro w hSw; obtain ⟨s0, s1, s2, s3⟩ := hSw; go_simp <;> with_reducible rfl)
              simp only [Act.put, List.setIfInBounds_toArray, List.set_cons_zero, List.set_cons_succ]
              refine wpAnyH_take (i := 5) (oi := ⟨some 52, .nilCheck (.tmp 51), 0, "ref.go:116", #[⟨4, .data⟩], none⟩) (v := ?_) rfl (by kernel_rfl) (by kernel_rfl) (by kernel_rfl) (fun _ _ _ h => h) (Or.inl ⟨by rfl, ?_⟩) (by first | exact ⟨c0, c1, kA', kL⟩) ?_
              rotate_left
              · (intro w hSw; obtain ⟨s0, s1, s2, s3⟩ := hSw; go_simp <;> with_reducible rfl)
              simp only [Act.put, List.setIfInBounds_toArray, List.set_cons_zero, List.set_cons_succ]
              refine wpAnyH_take (i := 6) (oi := ⟨some 53, .fieldAddr 62 (.tmp 52) 1, 0, "ref.go:116", #[⟨5, .data⟩], none⟩) (v := ?_) rfl (by kernel_rfl) (by kernel_rfl) (by kernel_rfl) (fun _ _ _ h => h) (Or.inl ⟨by rfl, ?_⟩) (by first | exact ⟨c0, c1, kA', kL⟩) ?_
              rotate_left
              · (intro w hSw; obtain ⟨s0, s1, s2, s3⟩ := hSw; go_simp <;> with_reducible rfl)
              simp only [Act.put, List.setIfInBounds_toArray, List.set_cons_zero, List.set_cons_succ]
              refine wpAnyH_take (i := 7) (oi := ⟨some 54, .load 60 (.tmp 53), 60, "ref.go:116", #[⟨6, .data⟩], none⟩) (v := ?_) rfl (by kernel_rfl) (by kernel_rfl) (by kernel_rfl) (fun _ _ _ h => h) (Or.inl ⟨by rfl, ?_⟩) (by first | exact ⟨c0, c1, kA', kL⟩) ?_
              rotate_left
              · (intro w hSw; obtain ⟨s0, s1, s2, s3⟩ := hSw; go_simp <;> with_reducible rfl)
              simp only [Act.put, List.setIfInBounds_toArray, List.set_cons_zero, List.set_cons_succ]
              refine wpAnyH_take (i := 8) (oi := ⟨some 55, .move (.tmp 6), 3, "ref.go:116", #[], none⟩) (v := ?_) rfl (by kernel_rfl) (by kernel_rfl) (by kernel_rfl) (fun _ _ _ h => h) (Or.inl ⟨by rfl, ?_⟩) (by first | exact ⟨c0, c1, kA', kL⟩) ?_
              rotate_left
              · (intro w hSw; obtain ⟨s0, s1, s2, s3⟩ := hSw; go_simp <;> with_reducible rfl)
              simp only [Act.put, List.setIfInBounds_toArray, List.set_cons_zero, List.set_cons_succ]
              refine wpAnyH_take (i := 9) (oi := ⟨some 56, .indexAddr 60 (.tmp 54) (.tmp 55), 0, "ref.go:116", #[⟨7, .data⟩, ⟨8, .data⟩], none⟩) (v := ?_) rfl (by kernel_rfl) (by kernel_rfl) (by kernel_rfl) (fun _ _ _ h => h) (Or.inl ⟨by rfl, ?_⟩) (by first | exact ⟨c0, c1, kA', kL⟩) ?_
              rotate_left
              · (intro w hSw; obtain ⟨s0, s1, s2, s3⟩ := hSw; go_simp <;> with_reducible rfl)
              simp only [Act.put, List.setIfInBounds_toArray, List.set_cons_zero, List.set_cons_succ]
              refine wpAnyH_take (i := 10) (oi := ⟨some 57, .fieldAddr 76 (.tmp 56) 0, 0, "ref.go:116", #[⟨9, .data⟩], none⟩) (v := ?_) rfl (by kernel_rfl) (by kernel_rfl) (by kernel_rfl) (fun _ _ _ h => h) (Or.inl ⟨by rfl, ?_⟩) (by first | exact ⟨c0, c1, kA', kL⟩) ?_
              rotate_left
              · (intro w hSw; obtain ⟨s0, s1, s2, s3⟩ := hSw; go_simp <;> with_reducible rfl)
              simp only [Act.put, List.setIfInBounds_toArray, List.set_cons_zero, List.set_cons_succ]
              refine wpAnyH_take (i := 11) (oi := ⟨some 58, .load 3 (.tmp 57), 3, "ref.go:116", #[⟨10, .data⟩], none⟩) (v := ?_) rfl (by kernel_rfl) (by kernel_rfl) (by kernel_rfl) (fun _ _ _ h => h) (Or.inl ⟨by rfl, ?_⟩) (by first | exact ⟨c0, c1, kA', kL⟩) ?_
              rotate_left
              · (intro w hSw; obtain ⟨s0, s1, s2, s3⟩ := hSw; go_simp <;> with_reducible rfl)
              simp only [Act.put, List.setIfInBounds_toArray, List.set_cons_zero, List.set_cons_succ]
              refine wpAnyH_take (i := 12) (oi := ⟨some 59, .indexAddr 59 (.tmp 50) (.tmp 58), 0, "ref.go:116", #[⟨3, .data⟩, ⟨11, .data⟩], none⟩) (v := ?_) rfl (by kernel_rfl) (by kernel_rfl) (by kernel_rfl) (fun _ _ _ h => h) (Or.inl ⟨by rfl, ?_⟩) (by first | exact ⟨c0, c1, kA', kL⟩) ?_
              rotate_left
              · (intro w hSw; obtain ⟨s0, s1, s2, s3⟩ := hSw; go_simp <;> with_reducible rfl)
              simp only [Act.put, List.setIfInBounds_toArray, List.set_cons_zero, List.set_cons_succ]
              refine wpAnyH_take (i := 13) (oi := ⟨some 60, .load 33 (.tmp 59), 33, "ref.go:116", #[⟨12, .data⟩], none⟩) (v := ?_) rfl (by kernel_rfl) (by kernel_rfl) (by kernel_rfl) (fun _ _ _ h => h) (Or.inl ⟨by rfl, ?_⟩) (by first | exact ⟨c0, c1, kA', kL⟩) ?_
              rotate_left
              · (intro w hSw; obtain ⟨s0, s1, s2, s3⟩ := hSw; go_simp <;> with_reducible rfl)
              simp only [Act.put, List.setIfInBounds_toArray, List.set_cons_zero, List.set_cons_succ]
              refine wpAnyH_take (i := 14) (oi := ⟨some 8, .assign (.tmp 60), 33, "ref.go:116", #[⟨13, .data⟩, ⟨0, .phase⟩, ⟨1, .phase⟩, ⟨2, .phase⟩, ⟨3, .phase⟩, ⟨4, .phase⟩, ⟨5, .phase⟩, ⟨6, .phase⟩, ⟨7, .phase⟩, ⟨8, .phase⟩, ⟨9, .phase⟩, ⟨10, .phase⟩, ⟨11, .phase⟩, ⟨12, .phase⟩, ⟨13, .phase⟩], none⟩) (v := ?_) rfl (by kernel_rfl) (by kernel_rfl) (by kernel_rfl) (fun _ _ _ h => h) (Or.inl ⟨by rfl, ?_⟩) (by first | exact ⟨c0, c1, kA', kL⟩) ?_
              rotate_left
              · (intro w hSw; obtain ⟨s0, s1, s2, s3⟩ := hSw; go_simp <;> with_reducible rfl)
              simp only [Act.put, List.setIfInBounds_toArray, List.set_cons_zero, List.set_cons_succ]
              refine wpAnyH_done (by kernel_rfl) ?_ _
              have hrd := HR.out.far ((Adv.refl Nul wr).drew) (fun _ h _ => h)
              have HRD := Lib.hid hrd
              have HNE := Lib.hid hrd.ne_L
              have hfront := (SD.out.far ((Adv.refl Nul wr).drew) (fun _ h _ => h)).rd.front8 HM.out
              have HFRONT := Lib.hid hfront
              clear hrd hfront
              go_wp2_with (first
                | (go_at_call 31; refine (copy_any _ mi.toNat (q.2.take mi.toNat) _ HFRONT.out (Nat.le_trans HM.out (by decide))).mono ?_; rintro e w9 ⟨v9, F9, rfl, h9, a9⟩; obtain ⟨av9, cv9, rfl, _, _⟩ := h9.form0; have H9 := Lib.hid (h9.far ((Adv.refl Nul w9).drew) (fun _ h _ => h)); have A9 := Lib.hid (a9.drew); obtain ⟨d0, d1, dA⟩ := crash_cells HRD.out A9.out (k := k) (a := a) kA'; have RST0 := Lib.hid ((SL.out.far ((Adv.refl Nul wr).drew) (fun _ h _ => h)).far A9.out (fun _ h _ => h)).rd; clear h9 a9)
                | fail)
              refine wp_region_held_drew (S := (fun w' => w'.cell? ⟨c, 0, none⟩ = some (.slice (some ⟨gL, 0, none⟩) n cap) ∧ w'.cell? ⟨c, 1, none⟩ = some (.slice (some ⟨gQ, 0, none⟩) s.Q.length cq) ∧ w'.cell? ⟨gQ, k * 2, none⟩ = some (.int .i64 (a : Int)))) (by kernel_rfl) (by first | exact ⟨d0, d1, dA⟩ | exact ⟨E0.out, E1.out, EA.out⟩ | exact ⟨X0.out, X1.out, XA.out⟩) (fun hHeld => ?_)
              clear hHeld
              refine wpAnyH_take (i := 0) (oi := ⟨some 72, .move (.tmp 0), 27, "ref.go:118", #[], none⟩) (v := ?_) rfl (by kernel_rfl) (by kernel_rfl) (by kernel_rfl) (fun _ _ _ h => h) (Or.inl ⟨by rfl, ?_⟩) (by first | exact ⟨d0, d1, dA⟩ | exact ⟨E0.out, E1.out, EA.out⟩ | exact ⟨X0.out, X1.out, XA.out⟩) ?_
              rotate_left
              · (intro w hSw; obtain ⟨s0, s1, s2⟩ := hSw; go_simp <;> with_reducible rfl)
              simp only [Act.put, List.setIfInBounds_toArray, List.set_cons_zero, List.set_cons_succ]
              refine wpAnyH_take (i := 1) (oi := ⟨some 73, .nilCheck (.tmp 72), 0, "ref.go:118", #[⟨0, .data⟩], none⟩) (v := ?_) rfl (by kernel_rfl) (by kernel_rfl) (by kernel_rfl) (fun _ _ _ h => h) (Or.inl ⟨by rfl, ?_⟩) (by first | exact ⟨d0, d1, dA⟩ | exact ⟨E0.out, E1.out, EA.out⟩ | exact ⟨X0.out, X1.out, XA.out⟩) ?_
              rotate_left
              · (intro w hSw; obtain ⟨s0, s1, s2⟩ := hSw; go_simp <;> with_reducible rfl)
              simp only [Act.put, List.setIfInBounds_toArray, List.set_cons_zero, List.set_cons_succ]
              refine wpAnyH_take (i := 2) (oi := ⟨some 74, .fieldAddr 62 (.tmp 73) 0, 0, "ref.go:118", #[⟨1, .data⟩], none⟩) (v := ?_) rfl (by kernel_rfl) (by kernel_rfl) (by kernel_rfl) (fun _ _ _ h => h) (Or.inl ⟨by rfl, ?_⟩) (by first | exact ⟨d0, d1, dA⟩ | exact ⟨E0.out, E1.out, EA.out⟩ | exact ⟨X0.out, X1.out, XA.out⟩) ?_
              rotate_left
              · (intro w hSw; obtain ⟨s0, s1, s2⟩ := hSw; go_simp <;> with_reducible rfl)
              simp only [Act.put, List.setIfInBounds_toArray, List.set_cons_zero, List.set_cons_succ]
              refine wpAnyH_take (i := 3) (oi := ⟨some 75, .load 59 (.tmp 74), 59, "ref.go:118", #[⟨2, .data⟩], none⟩) (v := ?_) rfl (by kernel_rfl) (by kernel_rfl) (by kernel_rfl) (fun _ _ _ h => h) (Or.inl ⟨by rfl, ?_⟩) (by first | exact ⟨d0, d1, dA⟩ | exact ⟨E0.out, E1.out, EA.out⟩ | exact ⟨X0.out, X1.out, XA.out⟩) ?_
              rotate_left
              · (intro w hSw; obtain ⟨s0, s1, s2⟩ := hSw; go_simp <;> with_reducible rfl)
              simp only [Act.put, List.setIfInBounds_toArray, List.set_cons_zero, List.set_cons_succ]
              refine wpAnyH_take (i := 4) (oi := ⟨some 76, .move (.tmp 0), 27, "ref.go:118", #[], none⟩) (v := ?_) rfl (by kernel_rfl) (by kernel_rfl) (by kernel_rfl) (fun _ _ _ h => h) (Or.inl ⟨by rfl, ?_⟩) (by first | exact ⟨d0, d1, dA⟩ | exact ⟨E0.out, E1.out, EA.out⟩ | exact ⟨X0.out, X1.out, XA.out⟩) ?_
              rotate_left
              · (intro w hSw; obtain ⟨s0, s1, s2⟩ := hSw; go_simp <;> with_reducible rfl)
              simp only [Act.put, List.setIfInBounds_toArray, List.set_cons_zero, List.set_cons_succ]
              refine wpAnyH_take (i := 5) (oi := ⟨some 77, .nilCheck (.tmp 76), 0, "ref.go:118", #[⟨4, .data⟩], none⟩) (v := ?_) rfl (by kernel_rfl) (by kernel_rfl) (by kernel_rfl) (fun _ _ _ h => h) (Or.inl ⟨by rfl, ?_⟩) (by first | exact ⟨d0, d1, dA⟩ | exact ⟨E0.out, E1.out, EA.out⟩ | exact ⟨X0.out, X1.out, XA.out⟩) ?_
              rotate_left
              · (intro w hSw; obtain ⟨s0, s1, s2⟩ := hSw; go_simp <;> with_reducible rfl)
              simp only [Act.put, List.setIfInBounds_toArray, List.set_cons_zero, List.set_cons_succ]
              refine wpAnyH_take (i := 6) (oi := ⟨some 78, .fieldAddr 62 (.tmp 77) 1, 0, "ref.go:118", #[⟨5, .data⟩], none⟩) (v := ?_) rfl (by kernel_rfl) (by kernel_rfl) (by kernel_rfl) (fun _ _ _ h => h) (Or.inl ⟨by rfl, ?_⟩) (by first | exact ⟨d0, d1, dA⟩ | exact ⟨E0.out, E1.out, EA.out⟩ | exact ⟨X0.out, X1.out, XA.out⟩) ?_
              rotate_left
              · (intro w hSw; obtain ⟨s0, s1, s2⟩ := hSw; go_simp <;> with_reducible rfl)
              simp only [Act.put, List.setIfInBounds_toArray, List.set_cons_zero, List.set_cons_succ]
              refine wpAnyH_take (i := 7) (oi := ⟨some 79, .load 60 (.tmp 78), 60, "ref.go:118", #[⟨6, .data⟩], none⟩) (v := ?_) rfl (by kernel_rfl) (by kernel_rfl) (by kernel_rfl) (fun _ _ _ h => h) (Or.inl ⟨by rfl, ?_⟩) (by first | exact ⟨d0, d1, dA⟩ | exact ⟨E0.out, E1.out, EA.out⟩ | exact ⟨X0.out, X1.out, XA.out⟩) ?_
              rotate_left
              · (intro w hSw; obtain ⟨s0, s1, s2⟩ := hSw; go_simp <;> with_reducible rfl)
              simp only [Act.put, List.setIfInBounds_toArray, List.set_cons_zero, List.set_cons_succ]
              refine wpAnyH_take (i := 8) (oi := ⟨some 80, .move (.tmp 6), 3, "ref.go:118", #[], none⟩) (v := ?_) rfl (by kernel_rfl) (by kernel_rfl) (by kernel_rfl) (fun _ _ _ h => h) (Or.inl ⟨by rfl, ?_⟩) (by first | exact ⟨d0, d1, dA⟩ | exact ⟨E0.out, E1.out, EA.out⟩ | exact ⟨X0.out, X1.out, XA.out⟩) ?_
              rotate_left
              · (intro w hSw; obtain ⟨s0, s1, s2⟩ := hSw; go_simp <;> with_reducible rfl)
              simp only [Act.put, List.setIfInBounds_toArray, List.set_cons_zero, List.set_cons_succ]
              refine wpAnyH_take (i := 9) (oi := ⟨some 81, .indexAddr 60 (.tmp 79) (.tmp 80), 0, "ref.go:118", #[⟨7, .data⟩, ⟨8, .data⟩], none⟩) (v := ?_) rfl (by kernel_rfl) (by kernel_rfl) (by kernel_rfl) (fun _ _ _ h => h) (Or.inl ⟨by rfl, ?_⟩) (by first | exact ⟨d0, d1, dA⟩ | exact ⟨E0.out, E1.out, EA.out⟩ | exact ⟨X0.out, X1.out, XA.out⟩) ?_
              rotate_left
              · (intro w hSw; obtain ⟨s0, s1, s2⟩ := hSw; go_simp <;> with_reducible rfl)
              simp only [Act.put, List.setIfInBounds_toArray, List.set_cons_zero, List.set_cons_succ]
              refine wpAnyH_take (i := 10) (oi := ⟨some 82, .fieldAddr 76 (.tmp 81) 0, 0, "ref.go:118", #[⟨9, .data⟩], none⟩) (v := ?_) rfl (by kernel_rfl) (by kernel_rfl) (by kernel_rfl) (fun _ _ _ h => h) (Or.inl ⟨by rfl, ?_⟩) (by first | exact ⟨d0, d1, dA⟩ | exact ⟨E0.out, E1.out, EA.out⟩ | exact ⟨X0.out, X1.out, XA.out⟩) ?_
              rotate_left
              · (intro w hSw; obtain ⟨s0, s1, s2⟩ := hSw; go_simp <;> with_reducible rfl)
              simp only [Act.put, List.setIfInBounds_toArray, List.set_cons_zero, List.set_cons_succ]
              refine wpAnyH_take (i := 11) (oi := ⟨some 83, .load 3 (.tmp 82), 3, "ref.go:118", #[⟨10, .data⟩], none⟩) (v := ?_) rfl (by kernel_rfl) (by kernel_rfl) (by kernel_rfl) (fun _ _ _ h => h) (Or.inl ⟨by rfl, ?_⟩) (by first | exact ⟨d0, d1, dA⟩ | exact ⟨E0.out, E1.out, EA.out⟩ | exact ⟨X0.out, X1.out, XA.out⟩) ?_
              rotate_left
              · (intro w hSw; obtain ⟨s0, s1, s2⟩ := hSw; go_simp <;> with_reducible rfl)
              simp only [Act.put, List.setIfInBounds_toArray, List.set_cons_zero, List.set_cons_succ]
              refine wpAnyH_take (i := 12) (oi := ⟨some 84, .move (.tmp 9), 33, "ref.go:118", #[], none⟩) (v := ?_) rfl (by kernel_rfl) (by kernel_rfl) (by kernel_rfl) (fun _ _ _ h => h) (Or.inl ⟨by rfl, ?_⟩) (by first | exact ⟨d0, d1, dA⟩ | exact ⟨E0.out, E1.out, EA.out⟩ | exact ⟨X0.out, X1.out, XA.out⟩) ?_
              rotate_left
              · (intro w hSw; obtain ⟨s0, s1, s2⟩ := hSw; go_simp <;> with_reducible rfl)
              simp only [Act.put, List.setIfInBounds_toArray, List.set_cons_zero, List.set_cons_succ]
              refine wpAnyH_take (i := 13) (oi := ⟨some 85, .move (.tmp 8), 33, "ref.go:118", #[], none⟩) (v := ?_) rfl (by kernel_rfl) (by kernel_rfl) (by kernel_rfl) (fun _ _ _ h => h) (Or.inl ⟨by rfl, ?_⟩) (by first | exact ⟨d0, d1, dA⟩ | exact ⟨E0.out, E1.out, EA.out⟩ | exact ⟨X0.out, X1.out, XA.out⟩) ?_
              rotate_left
              · (intro w hSw; obtain ⟨s0, s1, s2⟩ := hSw; go_simp <;> with_reducible rfl)
              simp only [Act.put, List.setIfInBounds_toArray, List.set_cons_zero, List.set_cons_succ]
              refine wpAnyH_take (i := 14) (oi := ⟨some 86, .move (.tmp 7), 3, "ref.go:118", #[], none⟩) (v := ?_) rfl (by kernel_rfl) (by kernel_rfl) (by kernel_rfl) (fun _ _ _ h => h) (Or.inl ⟨by rfl, ?_⟩) (by first | exact ⟨d0, d1, dA⟩ | exact ⟨E0.out, E1.out, EA.out⟩ | exact ⟨X0.out, X1.out, XA.out⟩) ?_
              rotate_left
              · (intro w hSw; obtain ⟨s0, s1, s2⟩ := hSw; go_simp <;> with_reducible rfl)
              simp only [Act.put, List.setIfInBounds_toArray, List.set_cons_zero, List.set_cons_succ]
              refine wpAnyH_take (i := 15) (oi := ⟨some 87, .slice 33 (.tmp 85) (some (.tmp 86)) none none, 33, "ref.go:118", #[⟨13, .data⟩, ⟨14, .data⟩], none⟩) (v := ?_) rfl (by kernel_rfl) (by kernel_rfl) (by kernel_rfl) (fun _ _ _ h => h) (Or.inl ⟨by rfl, ?_⟩) (by first | exact ⟨d0, d1, dA⟩ | exact ⟨E0.out, E1.out, EA.out⟩ | exact ⟨X0.out, X1.out, XA.out⟩) ?_
              rotate_left
              · (intro w hSw; obtain ⟨s0, s1, s2⟩ := hSw; go_simp <;> with_reducible rfl)
              simp only [Act.put, List.setIfInBounds_toArray, List.set_cons_zero, List.set_cons_succ]
              refine wpAnyH_ready (rs := [16]) (by kernel_rfl) (by simp) ?_
              refine AllReadyH.cons (o := ⟨some 88, .call { callee := Go.Callee.builtin Go.Builtin.append, args := #[Go.Operand.tmp 84, Go.Operand.tmp 87], argTypes := #[33, 33] }, 33, "ref.go:118", #[⟨12, .data⟩, ⟨15, .data⟩], none⟩) rfl (fun K hK => ?_) AllReadyH.nil
              refine step_append_rd rfl (.tmp 84) (.tmp 87) rfl rfl rfl H9.out.own (by first | exact RST0.out.rest8 HM.out _ rfl | exact RST0.out.rest8 HM.out _ (by split <;> rfl)) (u8_one _) (app_le HM.out) ?_
              intro v10 w10 hown hg hat
              obtain ⟨⟨A6, n6, c6, rfl⟩, k1, k2, ⟨u6, k5⟩, k6, G2, k7, k8⟩ := crash_fin HRD.out A9.out H9.out HAN.out HM.out HQ2.out LL.out hown hg hat
              have E0 := Lib.hid ((World.cell?_of_block (k1 c HRD.out.inG)).trans HRD.out.c0)
              have E1 := Lib.hid ((World.cell?_of_block (k1 c HRD.out.inG)).trans HRD.out.c1)
              have EA := Lib.hid ((World.cell?_of_block (k1 gQ (HRD.out.q.inF gQ rfl))).trans kA')
              have X0 := Lib.hid ((World.cell?_of_block (k2 c HRD.out.inG HNE.out.1)).trans HRD.out.c0)
              have X1 := Lib.hid ((World.cell?_of_block (k2 c HRD.out.inG HNE.out.1)).trans HRD.out.c1)
              have XA := Lib.hid ((World.cell?_of_block (k2 gQ (HRD.out.q.inF gQ rfl) HNE.out.2)).trans kA')
              have HN := Lib.hid (rc_next HLT.out HST.out HK0.out HQA.out HRE'.out k7 (HA.out.trans (Adv.of_drew k8)))
              clear hown hg hat k1 k2 k7 k8
              refine hK.out _ _ (by first | exact ⟨d0, d1, dA⟩ | exact ⟨E0.out, E1.out, EA.out⟩ | exact ⟨X0.out, X1.out, XA.out⟩) (fun hHeld => ?_)
              clear hK K hHeld
              try simp only [Act.put, List.setIfInBounds_toArray, List.set_cons_zero, List.set_cons_succ]
              refine wpAnyH_take (i := 17) (oi := ⟨some 89, .indexAddr 59 (.tmp 75) (.tmp 83), 0, "ref.go:118", #[⟨3, .data⟩, ⟨11, .data⟩, ⟨0, .phase⟩, ⟨1, .phase⟩, ⟨2, .phase⟩, ⟨3, .phase⟩, ⟨4, .phase⟩, ⟨5, .phase⟩, ⟨6, .phase⟩, ⟨7, .phase⟩, ⟨8, .phase⟩, ⟨9, .phase⟩, ⟨10, .phase⟩, ⟨11, .phase⟩, ⟨12, .phase⟩, ⟨13, .phase⟩, ⟨14, .phase⟩, ⟨15, .phase⟩, ⟨16, .phase⟩], none⟩) (v := ?_) rfl (by kernel_rfl) (by kernel_rfl) (by kernel_rfl) (fun _ _ _ h => h) (Or.inl ⟨by rfl, ?_⟩) (by first | exact ⟨d0, d1, dA⟩ | exact ⟨E0.out, E1.out, EA.out⟩ | exact ⟨X0.out, X1.out, XA.out⟩) ?_
              rotate_left
              · (intro w hSw; obtain ⟨s0, s1, s2⟩ := hSw; go_simp <;> with_reducible rfl)
              simp only [Act.put, List.setIfInBounds_toArray, List.set_cons_zero, List.set_cons_succ]
              refine wpAnyH_ready (rs := [18]) (by kernel_rfl) (by simp) ?_
              refine AllReadyH.cons (o := ⟨none, .store 33 (.tmp 89) (.tmp 88), 0, "ref.go:118", #[⟨17, .data⟩, ⟨16, .data⟩, ⟨16, .chain⟩, ⟨0, .phase⟩, ⟨1, .phase⟩, ⟨2, .phase⟩, ⟨3, .phase⟩, ⟨4, .phase⟩, ⟨5, .phase⟩, ⟨6, .phase⟩, ⟨7, .phase⟩, ⟨8, .phase⟩, ⟨9, .phase⟩, ⟨10, .phase⟩, ⟨11, .phase⟩, ⟨12, .phase⟩, ⟨13, .phase⟩, ⟨14, .phase⟩, ⟨15, .phase⟩, ⟨16, .phase⟩], none⟩) rfl (fun K hK => ?_) AllReadyH.nil
              go_simp
              refine hK.out _ _ (by first | exact ⟨d0, d1, dA⟩ | exact ⟨E0.out, E1.out, EA.out⟩ | exact ⟨X0.out, X1.out, XA.out⟩) (fun hHeld => ?_)
              clear hK K hHeld
              try simp only [Act.put]
              refine wpAnyH_done (by kernel_rfl) ?_ _
              go_wp2_with fail
              exact ⟨HN.out, HMS.out⟩
        · have t0' : torn < 1 := by omega
          clear t0
          have hkept0 : kept ks torn s.Q.length k = if ks.getD k 0 ≠ 0 then 128 else 0 := by unfold kept; rw [if_neg (by omega)]
          by_cases hkm2 : k < m0
          · have hki : (k : Int) < (m0 : Int) := by omega
            obtain ⟨bk, ok, e, _, hcell⟩ := HKA.out.cells (by omega) (by decide)
            subst e
            have kc := hcell k _ (getD_at (by have := HKL.out; omega))
            obtain ⟨x, hx⟩ : ∃ x, x = ks.getD k 0 := ⟨_, rfl⟩
            rw [← hx] at kc hkept0
            clear hcell hx
            by_cases hx0 : x = 0
            · have hxb : (x != 0) = false := by simp [hx0]
              have HK0 := Lib.hid (show kept ks torn s.Q.length k = (0 : Int).toNat by rw [hkept0, if_neg (by simp [hx0])]; rfl)
              clear hkept0 hx0
              go_wp2_with fail
              obtain ⟨mi, hmi⟩ : ∃ mi : Int, mi = 0 := ⟨_, rfl⟩
              rw [← hmi]
              obtain ⟨hm0, hm1, hmn, hmcd, hmcr⟩ := mi_facts hmi (by decide) HCD.out HCR.out
              replace HK0 := Lib.hid (HK0.out.trans (congrArg Int.toNat hmi).symm)
              have HM := Lib.hid hmn
              have HMS := Lib.hid (rc_meas HLT.out)
              clear hmi hmn
              refine wp_region_held_drew (S := (fun w' => w'.cell? ⟨c, 0, none⟩ = some (.slice (some ⟨gL, 0, none⟩) n cap) ∧ w'.cell? ⟨c, 1, none⟩ = some (.slice (some ⟨gQ, 0, none⟩) s.Q.length cq) ∧ w'.cell? ⟨gQ, k * 2, none⟩ = some (.int .i64 (a : Int)) ∧ w'.cell? ⟨gL, a, none⟩ = some (.slice (some ⟨gr, 0, none⟩) 128 cr))) (by kernel_rfl) (by first | exact ⟨c0, c1, kA', kL⟩) (fun hHeld => ?_)
              clear hHeld
              refine wpAnyH_take (i := 0) (oi := ⟨some 47, .move (.tmp 0), 27, "ref.go:116", #[], none⟩) (v := ?_) rfl (by kernel_rfl) (by kernel_rfl) (by kernel_rfl) (fun _ _ _ h => h) (Or.inl ⟨by rfl, ?_⟩) (by first | exact ⟨c0, c1, kA', kL⟩) ?_
              rotate_left
              · (intro w hSw; obtain ⟨s0, s1, s2, s3⟩ := hSw; go_simp <;> with_reducible rfl)
              simp only [Act.put, List.setIfInBounds_toArray, List.set_cons_zero, List.set_cons_succ]
              refine wpAnyH_take (i := 1) (oi := ⟨some 48, .nilCheck (.tmp 47), 0, "ref.go:116", #[⟨0, .data⟩], none⟩) (v := ?_) rfl (by kernel_rfl) (by kernel_rfl) (by kernel_rfl) (fun _ _ _ h => h) (Or.inl ⟨by rfl, ?_⟩) (by first | exact ⟨c0, c1, kA', kL⟩) ?_
              rotate_left
              · (intro w hSw; obtain ⟨s0, s1, s2, s3⟩ := hSw; go_simp <;> with_reducible rfl)
              simp only [Act.put, List.setIfInBounds_toArray, List.set_cons_zero, List.set_cons_succ]
              refine wpAnyH_take (i := 2) (oi := ⟨some 49, .fieldAddr 62 (.tmp 48) 0, 0, "ref.go:116", #[⟨1, .data⟩], none⟩) (v := ?_) rfl (by kernel_rfl) (by kernel_rfl) (by kernel_rfl) (fun _ _ _ h => h) (Or.inl ⟨by rfl, ?_⟩) (by first | exact ⟨c0, c1, kA', kL⟩) ?_
              rotate_left
              · (intro w hSw; obtain ⟨s0, s1, s2, s3⟩ := hSw; go_simp <;> with_reducible rfl)
              simp only [Act.put, List.setIfInBounds_toArray, List.set_cons_zero, List.set_cons_succ]
              refine wpAnyH_take (i := 3) (oi := ⟨some 50, .load 59 (.tmp 49), 59, "ref.go:116", #[⟨2, .data⟩], none⟩) (v := ?_) rfl (by kernel_rfl) (by kernel_rfl) (by kernel_rfl) (fun _ _ _ h => h) (Or.inl ⟨by rfl, ?_⟩) (by first | exact ⟨c0, c1, kA', kL⟩) ?_
              rotate_left
              · (intro w hSw; obtain ⟨s0, s1, s2, s3⟩ := hSw; go_simp <;> with_reducible rfl)
              simp only [Act.put, List.setIfInBounds_toArray, List.set_cons_zero, List.set_cons_succ]
              refine wpAnyH_take (i := 4) (oi := ⟨some 51, .move (.tmp 0), 27, "ref.go:116", #[], none⟩) (v := ?_) rfl (by kernel_rfl) (by kernel_rfl) (by kernel_rfl) (fun _ _ _ h => h) (Or.inl ⟨by rfl, ?_⟩) (by first | exact ⟨c0, c1, kA', kL⟩) ?_
              rotate_left
              · (intro w hSw; obtain ⟨s0, s1, s2, s3⟩ := hSw; go_simp <;> with_reducible rfl)
              simp only [Act.put, List.setIfInBounds_toArray, List.set_cons_zero, List.set_cons_succ]
              refine wpAnyH_take (i := 5) (oi := ⟨some 52, .nilCheck (.tmp 51), 0, "ref.go:116", #[⟨4, .data⟩], none⟩) (v := ?_) rfl (by kernel_rfl) (by kernel_rfl) (by kernel_rfl) (fun _ _ _ h => h) (Or.inl ⟨by rfl, ?_⟩) (by first | exact ⟨c0, c1, kA', kL⟩) ?_
              rotate_left
              · (intro w hSw; obtain ⟨s0, s1, s2, s3⟩ := hSw; go_simp <;> with_reducible rfl)
              simp only [Act.put, List.setIfInBounds_toArray, List.set_cons_zero, List.set_cons_succ]
              refine wpAnyH_take (i := 6) (oi := ⟨some 53, .fieldAddr 62 (.tmp 52) 1, 0, "ref.go:116", #[⟨5, .data⟩], none⟩) (v := ?_) rfl (by kernel_rfl) (by kernel_rfl) (by kernel_rfl) (fun _ _ _ h => h) (Or.inl ⟨by rfl, ?_⟩) (by first | exact ⟨c0, c1, kA', kL⟩) ?_
              rotate_left
              · (intro w hSw; obtain ⟨s0, s1, s2, s3⟩ := hSw; go_simp <;> with_reducible rfl)
              simp only [Act.put, List.setIfInBounds_toArray, List.set_cons_zero, List.set_cons_succ]
              refine wpAnyH_take (i := 7) (oi := ⟨some 54, .load 60 (.tmp 53), 60, "ref.go:116", #[⟨6, .data⟩], none⟩) (v := ?_) rfl (by kernel_rfl) (by kernel_rfl) (by kernel_rfl) (fun _ _ _ h => h) (Or.inl ⟨by rfl, ?_⟩) (by first | exact ⟨c0, c1, kA', kL⟩) ?_
              rotate_left
              · (intro w hSw; obtain ⟨s0, s1, s2, s3⟩ := hSw; go_simp <;> with_reducible rfl)
              simp only [Act.put, List.setIfInBounds_toArray, List.set_cons_zero, List.set_cons_succ]
              refine wpAnyH_take (i := 8) (oi := ⟨some 55, .move (.tmp 6), 3, "ref.go:116", #[], none⟩) (v := ?_) rfl (by kernel_rfl) (by kernel_rfl) (by kernel_rfl) (fun _ _ _ h => h) (Or.inl ⟨by rfl, ?_⟩) (by first | exact ⟨c0, c1, kA', kL⟩) ?_
              rotate_left
              · (intro w hSw; obtain ⟨s0, s1, s2, s3⟩ := hSw; go_simp <;> with_reducible rfl)
              simp only [Act.put, List.setIfInBounds_toArray, List.set_cons_zero, List.set_cons_succ]
              refine wpAnyH_take (i := 9) (oi := ⟨some 56, .indexAddr 60 (.tmp 54) (.tmp 55), 0, "ref.go:116", #[⟨7, .data⟩, ⟨8, .data⟩], none⟩) (v := ?_) rfl (by kernel_rfl) (by kernel_rfl) (by kernel_rfl) (fun _ _ _ h => h) (Or.inl ⟨by rfl, ?_⟩) (by first | exact ⟨c0, c1, kA', kL⟩) ?_
              rotate_left
              · (intro w hSw; obtain ⟨s0, s1, s2, s3⟩ := hSw; go_simp <;> with_reducible rfl)
              simp only [Act.put, List.setIfInBounds_toArray, List.set_cons_zero, List.set_cons_succ]
              refine wpAnyH_take (i := 10) (oi := ⟨some 57, .fieldAddr 76 (.tmp 56) 0, 0, "ref.go:116", #[⟨9, .data⟩], none⟩) (v := ?_) rfl (by kernel_rfl) (by kernel_rfl) (by kernel_rfl) (fun _ _ _ h => h) (Or.inl ⟨by rfl, ?_⟩) (by first | exact ⟨c0, c1, kA', kL⟩) ?_
              rotate_left
              · (intro w hSw; obtain ⟨s0, s1, s2, s3⟩ := hSw; go_simp <;> with_reducible rfl)
              simp only [Act.put, List.setIfInBounds_toArray, List.set_cons_zero, List.set_cons_succ]
              refine wpAnyH_take (i := 11) (oi := ⟨some 58, .load 3 (.tmp 57), 3, "ref.go:116", #[⟨10, .data⟩], none⟩) (v := ?_) rfl (by kernel_rfl) (by kernel_rfl) (by kernel_rfl) (fun _ _ _ h => h) (Or.inl ⟨by rfl, ?_⟩) (by first | exact ⟨c0, c1, kA', kL⟩) ?_
              rotate_left
              · (intro w hSw; obtain ⟨s0, s1, s2, s3⟩ := hSw; go_simp <;> with_reducible rfl)
              simp only [Act.put, List.setIfInBounds_toArray, List.set_cons_zero, List.set_cons_succ]
              refine wpAnyH_take (i := 12) (oi := ⟨some 59, .indexAddr 59 (.tmp 50) (.tmp 58), 0, "ref.go:116", #[⟨3, .data⟩, ⟨11, .data⟩], none⟩) (v := ?_) rfl (by kernel_rfl) (by kernel_rfl) (by kernel_rfl) (fun _ _ _ h => h) (Or.inl ⟨by rfl, ?_⟩) (by first | exact ⟨c0, c1, kA', kL⟩) ?_
              rotate_left
              · (intro w hSw; obtain ⟨s0, s1, s2, s3⟩ := hSw; go_simp <;> with_reducible rfl)
              simp only [Act.put, List.setIfInBounds_toArray, List.set_cons_zero, List.set_cons_succ]
              refine wpAnyH_take (i := 13) (oi := ⟨some 60, .load 33 (.tmp 59), 33, "ref.go:116", #[⟨12, .data⟩], none⟩) (v := ?_) rfl (by kernel_rfl) (by kernel_rfl) (by kernel_rfl) (fun _ _ _ h => h) (Or.inl ⟨by rfl, ?_⟩) (by first | exact ⟨c0, c1, kA', kL⟩) ?_
              rotate_left
              · (intro w hSw; obtain ⟨s0, s1, s2, s3⟩ := hSw; go_simp <;> with_reducible rfl)
              simp only [Act.put, List.setIfInBounds_toArray, List.set_cons_zero, List.set_cons_succ]
              refine wpAnyH_take (i := 14) (oi := ⟨some 8, .assign (.tmp 60), 33, "ref.go:116", #[⟨13, .data⟩, ⟨0, .phase⟩, ⟨1, .phase⟩, ⟨2, .phase⟩, ⟨3, .phase⟩, ⟨4, .phase⟩, ⟨5, .phase⟩, ⟨6, .phase⟩, ⟨7, .phase⟩, ⟨8, .phase⟩, ⟨9, .phase⟩, ⟨10, .phase⟩, ⟨11, .phase⟩, ⟨12, .phase⟩, ⟨13, .phase⟩], none⟩) (v := ?_) rfl (by kernel_rfl) (by kernel_rfl) (by kernel_rfl) (fun _ _ _ h => h) (Or.inl ⟨by rfl, ?_⟩) (by first | exact ⟨c0, c1, kA', kL⟩) ?_
              rotate_left
              · (intro w hSw; obtain ⟨s0, s1, s2, s3⟩ := hSw; go_simp <;> with_reducible rfl)
              simp only [Act.put, List.setIfInBounds_toArray, List.set_cons_zero, List.set_cons_succ]
              refine wpAnyH_done (by kernel_rfl) ?_ _
              have hrd := HR.out.far ((Adv.refl Nul wr).drew) (fun _ h _ => h)
              have HRD := Lib.hid hrd
              have HNE := Lib.hid hrd.ne_L
              have hfront := (SD.out.far ((Adv.refl Nul wr).drew) (fun _ h _ => h)).rd.front8 HM.out
              have HFRONT := Lib.hid hfront
              clear hrd hfront
              go_wp2_with (first
                | (go_at_call 31; refine (copy_any _ mi.toNat (q.2.take mi.toNat) _ HFRONT.out (Nat.le_trans HM.out (by decide))).mono ?_; rintro e w9 ⟨v9, F9, rfl, h9, a9⟩; obtain ⟨av9, cv9, rfl, _, _⟩ := h9.form0; have H9 := Lib.hid (h9.far ((Adv.refl Nul w9).drew) (fun _ h _ => h)); have A9 := Lib.hid (a9.drew); obtain ⟨d0, d1, dA⟩ := crash_cells HRD.out A9.out (k := k) (a := a) kA'; have RST0 := Lib.hid ((SL.out.far ((Adv.refl Nul wr).drew) (fun _ h _ => h)).far A9.out (fun _ h _ => h)).rd; clear h9 a9)
                | fail)
              refine wp_region_held_drew (S := (fun w' => w'.cell? ⟨c, 0, none⟩ = some (.slice (some ⟨gL, 0, none⟩) n cap) ∧ w'.cell? ⟨c, 1, none⟩ = some (.slice (some ⟨gQ, 0, none⟩) s.Q.length cq) ∧ w'.cell? ⟨gQ, k * 2, none⟩ = some (.int .i64 (a : Int)))) (by kernel_rfl) (by first | exact ⟨d0, d1, dA⟩ | exact ⟨E0.out, E1.out, EA.out⟩ | exact ⟨X0.out, X1.out, XA.out⟩) (fun hHeld => ?_)
              clear hHeld
              refine wpAnyH_take (i := 0) (oi := ⟨some 72, .move (.tmp 0), 27, "ref.go:118", #[], none⟩) (v := ?_) rfl (by kernel_rfl) (by kernel_rfl) (by kernel_rfl) (fun _ _ _ h => h) (Or.inl ⟨by rfl, ?_⟩) (by first | exact ⟨d0, d1, dA⟩ | exact ⟨E0.out, E1.out, EA.out⟩ | exact ⟨X0.out, X1.out, XA.out⟩) ?_
              rotate_left
              · (intro w hSw; obtain ⟨s0, s1, s2⟩ := hSw; go_simp <;> with_reducible rfl)
              simp only [Act.put, List.setIfInBounds_toArray, List.set_cons_zero, List.set_cons_succ]
              refine wpAnyH_take (i := 1) (oi := ⟨some 73, .nilCheck (.tmp 72), 0, "ref.go:118", #[⟨0, .data⟩], none⟩) (v := ?_) rfl (by kernel_rfl) (by kernel_rfl) (by kernel_rfl) (fun _ _ _ h => h) (Or.inl ⟨by rfl, ?_⟩) (by first | exact ⟨d0, d1, dA⟩ | exact ⟨E0.out, E1.out, EA.out⟩ | exact ⟨X0.out, X1.out, XA.out⟩) ?_
              rotate_left
              · (intro w hSw; obtain ⟨s0, s1, s2⟩ := hSw; go_simp <;> with_reducible rfl)
              simp only [Act.put, List.setIfInBounds_toArray, List.set_cons_zero, List.set_cons_succ]
              refine wpAnyH_take (i := 2) (oi := ⟨some 74, .fieldAddr 62 (.tmp 73) 0, 0, "ref.go:118", #[⟨1, .data⟩], none⟩) (v := ?_) rfl (by kernel_rfl) (by kernel_rfl) (by kernel_rfl) (fun _ _ _ h => h) (Or.inl ⟨by rfl, ?_⟩) (by first | exact ⟨d0, d1, dA⟩ | exact ⟨E0.out, E1.out, EA.out⟩ | exact ⟨X0.out, X1.out, XA.out⟩) ?_
              rotate_left
              · (intro w hSw; obtain ⟨s0, s1, s2⟩ := hSw; go_simp <;> with_reducible rfl)
              simp only [Act.put, List.setIfInBounds_toArray, List.set_cons_zero, List.set_cons_succ]
              refine wpAnyH_take (i := 3) (oi := ⟨some 75, .load 59 (.tmp 74), 59, "ref.go:118", #[⟨2, .data⟩], none⟩) (v := ?_) rfl (by kernel_rfl) (by kernel_rfl) (by kernel_rfl) (fun _ _ _ h => h) (Or.inl ⟨by rfl, ?_⟩) (by first | exact ⟨d0, d1, dA⟩ | exact ⟨E0.out, E1.out, EA.out⟩ | exact ⟨X0.out, X1.out, XA.out⟩) ?_
              rotate_left
              · (intro w hSw; obtain ⟨s0, s1, s2⟩ := hSw; go_simp <;> with_reducible rfl)
              simp only [Act.put, List.setIfInBounds_toArray, List.set_cons_zero, List.set_cons_succ]
              refine wpAnyH_take (i := 4) (oi := ⟨some 76, .move (.tmp 0), 27, "ref.go:118", #[], none⟩) (v := ?_) rfl (by kernel_rfl) (by kernel_rfl) (by kernel_rfl) (fun _ _ _ h => h) (Or.inl ⟨by rfl, ?_⟩) (by first | exact ⟨d0, d1, dA⟩ | exact ⟨E0.out, E1.out, EA.out⟩ | exact ⟨X0.out, X1.out, XA.out⟩) ?_
              rotate_left
              · (intro w hSw; obtain ⟨s0, s1, s2⟩ := hSw; go_simp <;> with_reducible rfl)
              simp only [Act.put, List.setIfInBounds_toArray, List.set_cons_zero, List.set_cons_succ]
              refine wpAnyH_take (i := 5) (oi := ⟨some 77, .nilCheck (.tmp 76), 0, "ref.go:118", #[⟨4, .data⟩], none⟩) (v := ?_) rfl (by kernel_rfl) (by kernel_rfl) (by kernel_rfl) (fun _ _ _ h => h) (Or.inl ⟨by rfl, ?_⟩) (by first | exact ⟨d0, d1, dA⟩ | exact ⟨E0.out, E1.out, EA.out⟩ | exact ⟨X0.out, X1.out, XA.out⟩) ?_
              rotate_left
              · (intro w hSw; obtain ⟨s0, s1, s2⟩ := hSw; go_simp <;> with_reducible rfl)
              simp only [Act.put, List.setIfInBounds_toArray, List.set_cons_zero, List.set_cons_succ]
              refine wpAnyH_take (i := 6) (oi := ⟨some 78, .fieldAddr 62 (.tmp 77) 1, 0, "ref.go:118", #[⟨5, .data⟩], none⟩) (v := ?_) rfl (by kernel_rfl) (by kernel_rfl) (by kernel_rfl) (fun _ _ _ h => h) (Or.inl ⟨by rfl, ?_⟩) (by first | exact ⟨d0, d1, dA⟩ | exact ⟨E0.out, E1.out, EA.out⟩ | exact ⟨X0.out, X1.out, XA.out⟩) ?_
              rotate_left
              · (intro w hSw; obtain ⟨s0, s1, s2⟩ := hSw; go_simp <;> with_reducible rfl)
              simp only [Act.put, List.setIfInBounds_toArray, List.set_cons_zero, List.set_cons_succ]
              refine wpAnyH_take (i := 7) (oi := ⟨some 79, .load 60 (.tmp 78), 60, "ref.go:118", #[⟨6, .data⟩], none⟩) (v := ?_) rfl (by kernel_rfl) (by kernel_rfl) (by kernel_rfl) (fun _ _ _ h => h) (Or.inl ⟨by rfl, ?_⟩) (by first | exact ⟨d0, d1, dA⟩ | exact ⟨E0.out, E1.out, EA.out⟩ | exact ⟨X0.out, X1.out, XA.out⟩) ?_
              rotate_left
              · (intro w hSw; obtain ⟨s0, s1, s2⟩ := hSw; go_simp <;> with_reducible rfl)
              simp only [Act.put, List.setIfInBounds_toArray, List.set_cons_zero, List.set_cons_succ]
              refine wpAnyH_take (i := 8) (oi := ⟨some 80, .move (.tmp 6), 3, "ref.go:118", #[], none⟩) (v := ?_) rfl (by kernel_rfl) (by kernel_rfl) (by kernel_rfl) (fun _ _ _ h => h) (Or.inl ⟨by rfl, ?_⟩) (by first | exact ⟨d0, d1, dA⟩ | exact ⟨E0.out, E1.out, EA.out⟩ | exact ⟨X0.out, X1.out, XA.out⟩) ?_
              rotate_left
              · (intro w hSw; obtain ⟨s0, s1, s2⟩ := hSw; go_simp <;> with_reducible rfl)
              simp only [Act.put, List.setIfInBounds_toArray, List.set_cons_zero, List.set_cons_succ]
              refine wpAnyH_take (i := 9) (oi := ⟨some 81, .indexAddr 60 (.tmp 79) (.tmp 80), 0, "ref.go:118", #[⟨7, .data⟩, ⟨8, .data⟩], none⟩) (v := ?_) rfl (by kernel_rfl) (by kernel_rfl) (by kernel_rfl) (fun _ _ _ h => h) (Or.inl ⟨by rfl, ?_⟩) (by first | exact ⟨d0, d1, dA⟩ | exact ⟨E0.out, E1.out, EA.out⟩ | exact ⟨X0.out, X1.out, XA.out⟩) ?_
              rotate_left
              · (intro w hSw; obtain ⟨s0, s1, s2⟩ := hSw; go_simp <;> with_reducible rfl)
              simp only [Act.put, List.setIfInBounds_toArray, List.set_cons_zero, List.set_cons_succ]
              refine wpAnyH_take (i := 10) (oi := ⟨some 82, .fieldAddr 76 (.tmp 81) 0, 0, "ref.go:118", #[⟨9, .data⟩], none⟩) (v := ?_) rfl (by kernel_rfl) (by kernel_rfl) (by kernel_rfl) (fun _ _ _ h => h) (Or.inl ⟨by rfl, ?_⟩) (by first | exact ⟨d0, d1, dA⟩ | exact ⟨E0.out, E1.out, EA.out⟩ | exact ⟨X0.out, X1.out, XA.out⟩) ?_
              rotate_left
              · (intro w hSw; obtain ⟨s0, s1, s2⟩ := hSw; go_simp <;> with_reducible rfl)
              simp only [Act.put, List.setIfInBounds_toArray, List.set_cons_zero, List.set_cons_succ]
              refine wpAnyH_take (i := 11) (oi := ⟨some 83, .load 3 (.tmp 82), 3, "ref.go:118", #[⟨10, .data⟩], none⟩) (v := ?_) rfl (by kernel_rfl) (by kernel_rfl) (by kernel_rfl) (fun _ _ _ h => h) (Or.inl ⟨by rfl, ?_⟩) (by first | exact ⟨d0, d1, dA⟩ | exact ⟨E0.out, E1.out, EA.out⟩ | exact ⟨X0.out, X1.out, XA.out⟩) ?_
              rotate_left
              · (intro w hSw; obtain ⟨s0, s1, s2⟩ := hSw; go_simp <;> with_reducible rfl)
              simp only [Act.put, List.setIfInBounds_toArray, List.set_cons_zero, List.set_cons_succ]
              refine wpAnyH_take (i := 12) (oi := ⟨some 84, .move (.tmp 9), 33, "ref.go:118", #[], none⟩) (v := ?_) rfl (by kernel_rfl) (by kernel_rfl) (by kernel_rfl) (fun _ _ _ h => h) (Or.inl ⟨by rfl, ?_⟩) (by first | exact ⟨d0, d1, dA⟩ | exact ⟨E0.out, E1.out, EA.out⟩ | exact ⟨X0.out, X1.out, XA.out⟩) ?_
              rotate_left
              · (intro w hSw; obtain ⟨s0, s1, s2⟩ := hSw; go_simp <;> with_reducible rfl)
              simp only [Act.put, List.setIfInBounds_toArray, List.set_cons_zero, List.set_cons_succ]
              refine wpAnyH_take (i := 13) (oi := ⟨some 85, .move (.tmp 8), 33, "ref.go:118", #[], none⟩) (v := ?_) rfl (by kernel_rfl) (by kernel_rfl) (by kernel_rfl) (fun _ _ _ h => h) (Or.inl ⟨by rfl, ?_⟩) (by first | exact ⟨d0, d1, dA⟩ | exact ⟨E0.out, E1.out, EA.out⟩ | exact ⟨X0.out, X1.out, XA.out⟩) ?_
              rotate_left
              · (intro w hSw; obtain ⟨s0, s1, s2⟩ := hSw; go_simp <;> with_reducible rfl)
              simp only [Act.put, List.setIfInBounds_toArray, List.set_cons_zero, List.set_cons_succ]
              refine wpAnyH_take (i := 14) (oi := ⟨some 86, .move (.tmp 7), 3, "ref.go:118", #[], none⟩) (v := ?_) rfl (by kernel_rfl) (by kernel_rfl) (by kernel_rfl) (fun _ _ _ h => h) (Or.inl ⟨by rfl, ?_⟩) (by first | exact ⟨d0, d1, dA⟩ | exact ⟨E0.out, E1.out, EA.out⟩ | exact ⟨X0.out, X1.out, XA.out⟩) ?_
              rotate_left
              · (intro w hSw; obtain ⟨s0, s1, s2⟩ := hSw; go_simp <;> with_reducible rfl)
              simp only [Act.put, List.setIfInBounds_toArray, List.set_cons_zero, List.set_cons_succ]
              refine wpAnyH_take (i := 15) (oi := ⟨some 87, .slice 33 (.tmp 85) (some (.tmp 86)) none none, 33, "ref.go:118", #[⟨13, .data⟩, ⟨14, .data⟩], none⟩) (v := ?_) rfl (by kernel_rfl) (by kernel_rfl) (by kernel_rfl) (fun _ _ _ h => h) (Or.inl ⟨by rfl, ?_⟩) (by first | exact ⟨d0, d1, dA⟩ | exact ⟨E0.out, E1.out, EA.out⟩ | exact ⟨X0.out, X1.out, XA.out⟩) ?_
              rotate_left
              · (intro w hSw; obtain ⟨s0, s1, s2⟩ := hSw; go_simp <;> with_reducible rfl)
              simp only [Act.put, List.setIfInBounds_toArray, List.set_cons_zero, List.set_cons_succ]
              refine wpAnyH_ready (rs := [16]) (by kernel_rfl) (by simp) ?_
              refine AllReadyH.cons (o := ⟨some 88, .call { callee := Go.Callee.builtin Go.Builtin.append, args := #[Go.Operand.tmp 84, Go.Operand.tmp 87], argTypes := #[33, 33] }, 33, "ref.go:118", #[⟨12, .data⟩, ⟨15, .data⟩], none⟩) rfl (fun K hK => ?_) AllReadyH.nil
              refine step_append_rd rfl (.tmp 84) (.tmp 87) rfl rfl rfl H9.out.own (by first | exact RST0.out.rest8 HM.out _ rfl | exact RST0.out.rest8 HM.out _ (by split <;> rfl)) (u8_one _) (app_le HM.out) ?_
              intro v10 w10 hown hg hat
              obtain ⟨⟨A6, n6, c6, rfl⟩, k1, k2, ⟨u6, k5⟩, k6, G2, k7, k8⟩ := crash_fin HRD.out A9.out H9.out HAN.out HM.out HQ2.out LL.out hown hg hat
              have E0 := Lib.hid ((World.cell?_of_block (k1 c HRD.out.inG)).trans HRD.out.c0)
              have E1 := Lib.hid ((World.cell?_of_block (k1 c HRD.out.inG)).trans HRD.out.c1)
              have EA := Lib.hid ((World.cell?_of_block (k1 gQ (HRD.out.q.inF gQ rfl))).trans kA')
              have X0 := Lib.hid ((World.cell?_of_block (k2 c HRD.out.inG HNE.out.1)).trans HRD.out.c0)
              have X1 := Lib.hid ((World.cell?_of_block (k2 c HRD.out.inG HNE.out.1)).trans HRD.out.c1)
              have XA := Lib.hid ((World.cell?_of_block (k2 gQ (HRD.out.q.inF gQ rfl) HNE.out.2)).trans kA')
              have HN := Lib.hid (rc_next HLT.out HST.out HK0.out HQA.out HRE'.out k7 (HA.out.trans (Adv.of_drew k8)))
              clear hown hg hat k1 k2 k7 k8
              refine hK.out _ _ (by first | exact ⟨d0, d1, dA⟩ | exact ⟨E0.out, E1.out, EA.out⟩ | exact ⟨X0.out, X1.out, XA.out⟩) (fun hHeld => ?_)
              clear hK K hHeld
              try simp only [Act.put, List.setIfInBounds_toArray, List.set_cons_zero, List.set_cons_succ]
              refine wpAnyH_take (i := 17) (oi := ⟨some 89, .indexAddr 59 (.tmp 75) (.tmp 83), 0, "ref.go:118", #[⟨3, .data⟩, ⟨11, .data⟩, ⟨0, .phase⟩, ⟨1, .phase⟩, ⟨2, .phase⟩, ⟨3, .phase⟩, ⟨4, .phase⟩, ⟨5, .phase⟩, ⟨6, .phase⟩, ⟨7, .phase⟩, ⟨8, .phase⟩, ⟨9, .phase⟩, ⟨10, .phase⟩, ⟨11, .phase⟩, ⟨12, .phase⟩, ⟨13, .phase⟩, ⟨14, .phase⟩, ⟨15, .phase⟩, ⟨16, .phase⟩], none⟩) (v := ?_) rfl (by kernel_rfl) (by kernel_rfl) (by kernel_rfl) (fun _ _ _ h => h) (Or.inl ⟨by rfl, ?_⟩) (by first | exact ⟨d0, d1, dA⟩ | exact ⟨E0.out, E1.out, EA.out⟩ | exact ⟨X0.out, X1.out, XA.out⟩) ?_
              rotate_left
              · (intro w hSw; obtain ⟨s0, s1, s2⟩ := hSw; go_simp <;> with_reducible rfl)
              simp only [Act.put, List.setIfInBounds_toArray, List.set_cons_zero, List.set_cons_succ]
              refine wpAnyH_ready (rs := [18]) (by kernel_rfl) (by simp) ?_
              refine AllReadyH.cons (o := ⟨none, .store 33 (.tmp 89) (.tmp 88), 0, "ref.go:118", #[⟨17, .data⟩, ⟨16, .data⟩, ⟨16, .chain⟩, ⟨0, .phase⟩, ⟨1, .phase⟩, ⟨2, .phase⟩, ⟨3, .phase⟩, ⟨4, .phase⟩, ⟨5, .phase⟩, ⟨6, .phase⟩, ⟨7, .phase⟩, ⟨8, .phase⟩, ⟨9, .phase⟩, ⟨10, .phase⟩, ⟨11, .phase⟩, ⟨12, .phase⟩, ⟨13, .phase⟩, ⟨14, .phase⟩, ⟨15, .phase⟩, ⟨16, .phase⟩], none⟩) rfl (fun K hK => ?_) AllReadyH.nil
              go_simp
              refine hK.out _ _ (by first | exact ⟨d0, d1, dA⟩ | exact ⟨E0.out, E1.out, EA.out⟩ | exact ⟨X0.out, X1.out, XA.out⟩) (fun hHeld => ?_)
              clear hK K hHeld
              try simp only [Act.put]
              refine wpAnyH_done (by kernel_rfl) ?_ _
              go_wp2_with fail
              exact ⟨HN.out, HMS.out⟩
            · have hxb : (x != 0) = true := by simp [hx0]
              have HK0 := Lib.hid (show kept ks torn s.Q.length k = (128 : Int).toNat by rw [hkept0, if_pos hx0]; rfl)
              clear hkept0 hx0
              go_wp2_with fail
              obtain ⟨mi, hmi⟩ : ∃ mi : Int, mi = 128 := ⟨_, rfl⟩
              rw [← hmi]
              obtain ⟨hm0, hm1, hmn, hmcd, hmcr⟩ := mi_facts hmi (by decide) HCD.out HCR.out
              replace HK0 := Lib.hid (HK0.out.trans (congrArg Int.toNat hmi).symm)
              have HM := Lib.hid hmn
              have HMS := Lib.hid (rc_meas HLT.out)
              clear hmi hmn
              refine wp_region_held_drew (S := (fun w' => w'.cell? ⟨c, 0, none⟩ = some (.slice (some ⟨gL, 0, none⟩) n cap) ∧ w'.cell? ⟨c, 1, none⟩ = some (.slice (some ⟨gQ, 0, none⟩) s.Q.length cq) ∧ w'.cell? ⟨gQ, k * 2, none⟩ = some (.int .i64 (a : Int)) ∧ w'.cell? ⟨gL, a, none⟩ = some (.slice (some ⟨gr, 0, none⟩) 128 cr))) (by kernel_rfl) (by first | exact ⟨c0, c1, kA', kL⟩) (fun hHeld => ?_)
              clear hHeld
              refine wpAnyH_take (i := 0) (oi := ⟨some 47, .move (.tmp 0), 27, "ref.go:116", #[], none⟩) (v := ?_) rfl (by kernel_rfl) (by kernel_rfl) (by kernel_rfl) (fun _ _ _ h => h) (Or.inl ⟨by rfl, ?_⟩) (by first | exact ⟨c0, c1, kA', kL⟩) ?_
              rotate_left
              · (intro w hSw; obtain ⟨s0, s1, s2, s3⟩ := hSw; go_simp <;> with_reducible rfl)
              simp only [Act.put, List.setIfInBounds_toArray, List.set_cons_zero, List.set_cons_succ]
              refine wpAnyH_take (i := 1) (oi := ⟨some 48, .nilCheck (.tmp 47), 0, "ref.go:116", #[⟨0, .data⟩], none⟩) (v := ?_) rfl (by kernel_rfl) (by kernel_rfl) (by kernel_rfl) (fun _ _ _ h => h) (Or.inl ⟨by rfl, ?_⟩) (by first | exact ⟨c0, c1, kA', kL⟩) ?_
              rotate_left
              · (intro w hSw; obtain ⟨s0, s1, s2, s3⟩ := hSw; go_simp <;> with_reducible rfl)
              simp only [Act.put, List.setIfInBounds_toArray, List.set_cons_zero, List.set_cons_succ]
              refine wpAnyH_take (i := 2) (oi := ⟨some 49, .fieldAddr 62 (.tmp 48) 0, 0, "ref.go:116", #[⟨1, .data⟩], none⟩) (v := ?_) rfl (by kernel_rfl) (by kernel_rfl) (by kernel_rfl) (fun _ _ _ h => h) (Or.inl ⟨by rfl, ?_⟩) (by first | exact ⟨c0, c1, kA', kL⟩) ?_
              rotate_left
              · (intro w hSw; obtain ⟨s0, s1, s2, s3⟩ := hSw; go_simp <;> with_reducible rfl)
              simp only [Act.put, List.setIfInBounds_toArray, List.set_cons_zero, List.set_cons_succ]
              refine wpAnyH_take (i := 3) (oi := ⟨some 50, .load 59 (.tmp 49), 59, "ref.go:116", #[⟨2, .data⟩], none⟩) (v := ?_) rfl (by kernel_rfl) (by kernel_rfl) (by kernel_rfl) (fun _ _ _ h => h) (Or.inl ⟨by rfl, ?_⟩) (by first | exact ⟨c0, c1, kA', kL⟩) ?_
              rotate_left
              · (intro w hSw; obtain ⟨s0, s1, s2, s3⟩ := hSw; go_simp <;> with_reducible rfl)
              simp only [Act.put, List.setIfInBounds_toArray, List.set_cons_zero, List.set_cons_succ]
              refine wpAnyH_take (i := 4) (oi := ⟨some 51, .move (.tmp 0), 27, "ref.go:116", #[], none⟩) (v := ?_) rfl (by kernel_rfl) (by kernel_rfl) (by kernel_rfl) (fun _ _ _ h => h) (Or.inl ⟨by rfl, ?_⟩) (by first | exact ⟨c0, c1, kA', kL⟩) ?_
              rotate_left
              · (intro w hSw; obtain ⟨s0, s1, s2, s3⟩ := hSw; go_simp <;> with_reducible rfl)
              simp only [Act.put, List.setIfInBounds_toArray, List.set_cons_zero, List.set_cons_succ]
              refine wpAnyH_take (i := 5) (oi := ⟨some 52, .nilCheck (.tmp 51), 0, "ref.go:116", #[⟨4, .data⟩], none⟩) (v := ?_) rfl (by kernel_rfl) (by kernel_rfl) (by kernel_rfl) (fun _ _ _ h => h) (Or.inl ⟨by rfl, ?_⟩) (by first | exact ⟨c0, c1, kA', kL⟩) ?_
              rotate_left
              · (intro w hSw; obtain ⟨s0, s1, s2, s3⟩ := hSw; go_simp <;> with_reducible rfl)
              simp only [Act.put, List.setIfInBounds_toArray, List.set_cons_zero, List.set_cons_succ]
              refine wpAnyH_take (i := 6) (oi := ⟨some 53, .fieldAddr 62 (.tmp 52) 1, 0, "ref.go:116", #[⟨5, .data⟩], none⟩) (v := ?_) rfl (by kernel_rfl) (by kernel_rfl) (by kernel_rfl) (fun _ _ _ h => h) (Or.inl ⟨by rfl, ?_⟩) (by first | exact ⟨c0, c1, kA', kL⟩) ?_
              rotate_left
              · (intro w hSw; obtain ⟨s0, s1, s2, s3⟩ := hSw; go_simp <;> with_reducible rfl)
              simp only [Act.put, List.setIfInBounds_toArray, List.set_cons_zero, List.set_cons_succ]
              refine wpAnyH_take (i := 7) (oi := ⟨some 54, .load 60 (.tmp 53), 60, "ref.go:116", #[⟨6, .data⟩], none⟩) (v := ?_) rfl (by kernel_rfl) (by kernel_rfl) (by kernel_rfl) (fun _ _ _ h => h) (Or.inl ⟨by rfl, ?_⟩) (by first | exact ⟨c0, c1, kA', kL⟩) ?_
              rotate_left
              · (intro w hSw; obtain ⟨s0, s1, s2, s3⟩ := hSw; go_simp <;> with_reducible rfl)
              simp only [Act.put, List.setIfInBounds_toArray, List.set_cons_zero, List.set_cons_succ]
              refine wpAnyH_take (i := 8) (oi := ⟨some 55, .move (.tmp 6), 3, "ref.go:116", #[], none⟩) (v := ?_) rfl (by kernel_rfl) (by kernel_rfl) (by kernel_rfl) (fun _ _ _ h => h) (Or.inl ⟨by rfl, ?_⟩) (by first | exact ⟨c0, c1, kA', kL⟩) ?_
              rotate_left
              · (intro w hSw; obtain ⟨s0, s1, s2, s3⟩ := hSw; go_simp <;> with_reducible rfl)
              simp only [Act.put, List.setIfInBounds_toArray, List.set_cons_zero, List.set_cons_succ]
              refine wpAnyH_take (i := 9) (oi := ⟨some 56, .indexAddr 60 (.tmp 54) (.tmp 55), 0, "ref.go:116", #[⟨7, .data⟩, ⟨8, .data⟩], none⟩) (v := ?_) rfl (by kernel_rfl) (by kernel_rfl) (by kernel_rfl) (fun _ _ _ h => h) (Or.inl ⟨by rfl, ?_⟩) (by first | exact ⟨c0, c1, kA', kL⟩) ?_
              rotate_left
              · (intro w hSw; obtain ⟨s0, s1, s2, s3⟩ := hSw; go_simp <;> with_reducible rfl)
              simp only [Act.put, List.setIfInBounds_toArray, List.set_cons_zero, List.set_cons_succ]
              refine wpAnyH_take (i := 10) (oi := ⟨some 57, .fieldAddr 76 (.tmp 56) 0, 0, "ref.go:116", #[⟨9, .data⟩], none⟩) (v := ?_) rfl (by kernel_rfl) (by kernel_rfl) (by kernel_rfl) (fun _ _ _ h => h) (Or.inl ⟨by rfl, ?_⟩) (by first | exact ⟨c0, c1, kA', kL⟩) ?_
              rotate_left
              · (intro w hSw; obtain ⟨s0, s1, s2, s3⟩ := hSw; go_simp <;> with_reducible rfl)
              simp only [Act.put, List.setIfInBounds_toArray, List.set_cons_zero, List.set_cons_succ]
              refine wpAnyH_take (i := 11) (oi := ⟨some 58, .load 3 (.tmp 57), 3, "ref.go:116", #[⟨10, .data⟩], none⟩) (v := ?_) rfl (by kernel_rfl) (by kernel_rfl) (by kernel_rfl) (fun _ _ _ h => h) (Or.inl ⟨by rfl, ?_⟩) (by first | exact ⟨c0, c1, kA', kL⟩) ?_
              rotate_left
              · (intro w hSw; obtain ⟨s0, s1, s2, s3⟩ := hSw; go_simp <;> with_reducible rfl)
              simp only [Act.put, List.setIfInBounds_toArray, List.set_cons_zero, List.set_cons_succ]
              refine wpAnyH_take (i := 12) (oi := ⟨some 59, .indexAddr 59 (.tmp 50) (.tmp 58), 0, "ref.go:116", #[⟨3, .data⟩, ⟨11, .data⟩], none⟩) (v := ?_) rfl (by kernel_rfl) (by kernel_rfl) (by kernel_rfl) (fun _ _ _ h => h) (Or.inl ⟨by rfl, ?_⟩) (by first | exact ⟨c0, c1, kA', kL⟩) ?_
              rotate_left
              · (intro w hSw; obtain ⟨s0, s1, s2, s3⟩ := hSw; go_simp <;> with_reducible rfl)
              simp only [Act.put, List.setIfInBounds_toArray, List.set_cons_zero, List.set_cons_succ]
              refine wpAnyH_take (i := 13) (oi := ⟨some 60, .load 33 (.tmp 59), 33, "ref.go:116", #[⟨12, .data⟩], none⟩) (v := ?_) rfl (by kernel_rfl) (by kernel_rfl) (by kernel_rfl) (fun _ _ _ h => h) (Or.inl ⟨by rfl, ?_⟩) (by first | exact ⟨c0, c1, kA', kL⟩) ?_
              rotate_left
              · (intro w hSw; obtain ⟨s0, s1, s2, s3⟩ := hSw; go_simp <;> with_reducible rfl)
              simp only [Act.put, List.setIfInBounds_toArray, List.set_cons_zero, List.set_cons_succ]
              refine wpAnyH_take (i := 14) (oi := ⟨some 8, .assign (.tmp 60), 33, "ref.go:116", #[⟨13, .data⟩, ⟨0, .phase⟩, ⟨1, .phase⟩, ⟨2, .phase⟩, ⟨3, .phase⟩, ⟨4, .phase⟩, ⟨5, .phase⟩, ⟨6, .phase⟩, ⟨7, .phase⟩, ⟨8, .phase⟩, ⟨9, .phase⟩, ⟨10, .phase⟩, ⟨11, .phase⟩, ⟨12, .phase⟩, ⟨13, .phase⟩], none⟩) (v := ?_) rfl (by kernel_rfl) (by kernel_rfl) (by kernel_rfl) (fun _ _ _ h => h) (Or.inl ⟨by rfl, ?_⟩) (by first | exact ⟨c0, c1, kA', kL⟩) ?_
              rotate_left
              · (intro w hSw; obtain ⟨s0, s1, s2, s3⟩ := hSw; go_simp <;> with_reducible rfl)
              simp only [Act.put, List.setIfInBounds_toArray, List.set_cons_zero, List.set_cons_succ]
              refine wpAnyH_done (by kernel_rfl) ?_ _
              have hrd := HR.out.far ((Adv.refl Nul wr).drew) (fun _ h _ => h)
              have HRD := Lib.hid hrd
              have HNE := Lib.hid hrd.ne_L
              have hfront := (SD.out.far ((Adv.refl Nul wr).drew) (fun _ h _ => h)).rd.front8 HM.out
              have HFRONT := Lib.hid hfront
              clear hrd hfront
              go_wp2_with (first
                | (go_at_call 31; refine (copy_any _ mi.toNat (q.2.take mi.toNat) _ HFRONT.out (Nat.le_trans HM.out (by decide))).mono ?_; rintro e w9 ⟨v9, F9, rfl, h9, a9⟩; obtain ⟨av9, cv9, rfl, _, _⟩ := h9.form0; have H9 := Lib.hid (h9.far ((Adv.refl Nul w9).drew) (fun _ h _ => h)); have A9 := Lib.hid (a9.drew); obtain ⟨d0, d1, dA⟩ := crash_cells HRD.out A9.out (k := k) (a := a) kA'; have RST0 := Lib.hid ((SL.out.far ((Adv.refl Nul wr).drew) (fun _ h _ => h)).far A9.out (fun _ h _ => h)).rd; clear h9 a9)
                | fail)
              refine wp_region_held_drew (S := (fun w' => w'.cell? ⟨c, 0, none⟩ = some (.slice (some ⟨gL, 0, none⟩) n cap) ∧ w'.cell? ⟨c, 1, none⟩ = some (.slice (some ⟨gQ, 0, none⟩) s.Q.length cq) ∧ w'.cell? ⟨gQ, k * 2, none⟩ = some (.int .i64 (a : Int)))) (by kernel_rfl) (by first | exact ⟨d0, d1, dA⟩ | exact ⟨E0.out, E1.out, EA.out⟩ | exact ⟨X0.out, X1.out, XA.out⟩) (fun hHeld => ?_)
              clear hHeld
              refine wpAnyH_take (i := 0) (oi := ⟨some 72, .move (.tmp 0), 27, "ref.go:118", #[], none⟩) (v := ?_) rfl (by kernel_rfl) (by kernel_rfl) (by kernel_rfl) (fun _ _ _ h => h) (Or.inl ⟨by rfl, ?_⟩) (by first | exact ⟨d0, d1, dA⟩ | exact ⟨E0.out, E1.out, EA.out⟩ | exact ⟨X0.out, X1.out, XA.out⟩) ?_
              rotate_left
              · (intro w hSw; obtain ⟨s0, s1, s2⟩ := hSw; go_simp <;> with_reducible rfl)
              simp only [Act.put, List.setIfInBounds_toArray, List.set_cons_zero, List.set_cons_succ]
              refine wpAnyH_take (i := 1) (oi := ⟨some 73, .nilCheck (.tmp 72), 0, "ref.go:118", #[⟨0, .data⟩], none⟩) (v := ?_) rfl (by kernel_rfl) (by kernel_rfl) (by kernel_rfl) (fun _ _ _ h => h) (Or.inl ⟨by rfl, ?_⟩) (by first | exact ⟨d0, d1, dA⟩ | exact ⟨E0.out, E1.out, EA.out⟩ | exact ⟨X0.out, X1.out, XA.out⟩) ?_
              rotate_left
              · (intro w hSw; obtain ⟨s0, s1, s2⟩ := hSw; go_simp <;> with_reducible rfl)
              simp only [Act.put, List.setIfInBounds_toArray, List.set_cons_zero, List.set_cons_succ]
              refine wpAnyH_take (i := 2) (oi := ⟨some 74, .fieldAddr 62 (.tmp 73) 0, 0, "ref.go:118", #[⟨1, .data⟩], none⟩) (v := ?_) rfl (by kernel_rfl) (by kernel_rfl) (by kernel_rfl) (fun _ _ _ h => h) (Or.inl ⟨by rfl, ?_⟩) (by first | exact ⟨d0, d1, dA⟩ | exact ⟨E0.out, E1.out, EA.out⟩ | exact ⟨X0.out, X1.out, XA.out⟩) ?_
              rotate_left
              · (intro w hSw; obtain ⟨s0, s1, s2⟩ := hSw; go_simp <;> with_reducible rfl)
              simp only [Act.put, List.setIfInBounds_toArray, List.set_cons_zero, List.set_cons_succ]
              refine wpAnyH_take (i := 3) (oi := ⟨some 75, .load 59 (.tmp 74), 59, "ref.go:118", #[⟨2, .data⟩], none⟩) (v := ?_) rfl (by kernel_rfl) (by kernel_rfl) (by kernel_rfl) (fun _ _ _ h => h) (Or.inl ⟨by rfl, ?_⟩) (by first | exact ⟨d0, d1, dA⟩ | exact ⟨E0.out, E1.out, EA.out⟩ | exact ⟨X0.out, X1.out, XA.out⟩) ?_
              rotate_left
              · (intro w hSw; obtain ⟨s0, s1, s2⟩ := hSw; go_simp <;> with_reducible rfl)
              simp only [Act.put, List.setIfInBounds_toArray, List.set_cons_zero, List.set_cons_succ]
              refine wpAnyH_take (i := 4) (oi := ⟨some 76, .move (.tmp 0), 27, "ref.go:118", #[], none⟩) (v := ?_) rfl (by kernel_rfl) (by kernel_rfl) (by kernel_rfl) (fun _ _ _ h => h) (Or.inl ⟨by rfl, ?_⟩) (by first | exact ⟨d0, d1, dA⟩ | exact ⟨E0.out, E1.out, EA.out⟩ | exact ⟨X0.out, X1.out, XA.out⟩) ?_
              rotate_left
              · (intro w hSw; obtain ⟨s0, s1, s2⟩ := hSw; go_simp <;> with_reducible rfl)
              simp only [Act.put, List.setIfInBounds_toArray, List.set_cons_zero, List.set_cons_succ]
              refine wpAnyH_take (i := 5) (oi := ⟨some 77, .nilCheck (.tmp 76), 0, "ref.go:118", #[⟨4, .data⟩], none⟩) (v := ?_) rfl (by kernel_rfl) (by kernel_rfl) (by kernel_rfl) (fun _ _ _ h => h) (Or.inl ⟨by rfl, ?_⟩) (by first | exact ⟨d0, d1, dA⟩ | exact ⟨E0.out, E1.out, EA.out⟩ | exact ⟨X0.out, X1.out, XA.out⟩) ?_
              rotate_left
              · (intro w hSw; obtain ⟨s0, s1, s2⟩ := hSw; go_simp <;> with_reducible rfl)
              simp only [Act.put, List.setIfInBounds_toArray, List.set_cons_zero, List.set_cons_succ]
              refine wpAnyH_take (i := 6) (oi := ⟨some 78, .fieldAddr 62 (.tmp 77) 1, 0, "ref.go:118", #[⟨5, .data⟩], none⟩) (v := ?_) rfl (by kernel_rfl) (by kernel_rfl) (by kernel_rfl) (fun _ _ _ h => h) (Or.inl ⟨by rfl, ?_⟩) (by first | exact ⟨d0, d1, dA⟩ | exact ⟨E0.out, E1.out, EA.out⟩ | exact ⟨X0.out, X1.out, XA.out⟩) ?_
              rotate_left
              · (intro w hSw; obtain ⟨s0, s1, s2⟩ := hSw; go_simp <;> with_reducible rfl)
              simp only [Act.put, List.setIfInBounds_toArray, List.set_cons_zero, List.set_cons_succ]
              refine wpAnyH_take (i := 7) (oi := ⟨some 79, .load 60 (.tmp 78), 60, "ref.go:118", #[⟨6, .data⟩], none⟩) (v := ?_) rfl (by kernel_rfl) (by kernel_rfl) (by kernel_rfl) (fun _ _ _ h => h) (Or.inl ⟨by rfl, ?_⟩) (by first | exact ⟨d0, d1, dA⟩ | exact ⟨E0.out, E1.out, EA.out⟩ | exact ⟨X0.out, X1.out, XA.out⟩) ?_
              rotate_left
              · (intro w hSw; obtain ⟨s0, s1, s2⟩ := hSw; go_simp <;> with_reducible rfl)
              simp only [Act.put, List.setIfInBounds_toArray, List.set_cons_zero, List.set_cons_succ]
              refine wpAnyH_take (i := 8) (oi := ⟨some 80, .move (.tmp 6), 3, "ref.go:118", #[], none⟩) (v := ?_) rfl (by kernel_rfl) (by kernel_rfl) (by kernel_rfl) (fun _ _ _ h => h) (Or.inl ⟨by rfl, ?_⟩) (by first | exact ⟨d0, d1, dA⟩ | exact ⟨E0.out, E1.out, EA.out⟩ | exact ⟨X0.out, X1.out, XA.out⟩) ?_
              rotate_left
              · (intro w hSw; obtain ⟨s0, s1, s2⟩ := hSw; go_simp <;> with_reducible rfl)
              simp only [Act.put, List.setIfInBounds_toArray, List.set_cons_zero, List.set_cons_succ]
              refine wpAnyH_take (i := 9) (oi := ⟨some 81, .indexAddr 60 (.tmp 79) (.tmp 80), 0, "ref.go:118", #[⟨7, .data⟩, ⟨8, .data⟩], none⟩) (v := ?_) rfl (by kernel_rfl) (by kernel_rfl) (by kernel_rfl) (fun _ _ _ h => h) (Or.inl ⟨by rfl, ?_⟩) (by first | exact ⟨d0, d1, dA⟩ | exact ⟨E0.out, E1.out, EA.out⟩ | exact ⟨X0.out, X1.out, XA.out⟩) ?_
              rotate_left
              · (intro w hSw; obtain ⟨s0, s1, s2⟩ := hSw; go_simp <;> with_reducible rfl)
              simp only [Act.put, List.setIfInBounds_toArray, List.set_cons_zero, List.set_cons_succ]
              refine wpAnyH_take (i := 10) (oi := ⟨some 82, .fieldAddr 76 (.tmp 81) 0, 0, "ref.go:118", #[⟨9, .data⟩], none⟩) (v := ?_) rfl (by kernel_rfl) (by kernel_rfl) (by kernel_rfl) (fun _ _ _ h => h) (Or.inl ⟨by rfl, ?_⟩) (by first | exact ⟨d0, d1, dA⟩ | exact ⟨E0.out, E1.out, EA.out⟩ | exact ⟨X0.out, X1.out, XA.out⟩) ?_
              rotate_left
              · (intro w hSw; obtain ⟨s0, s1, s2⟩ := hSw; go_simp <;> with_reducible rfl)
              simp only [Act.put, List.setIfInBounds_toArray, List.set_cons_zero, List.set_cons_succ]
              refine wpAnyH_take (i := 11) (oi := ⟨some 83, .load 3 (.tmp 82), 3, "ref.go:118", #[⟨10, .data⟩], none⟩) (v := ?_) rfl (by kernel_rfl) (by kernel_rfl) (by kernel_rfl) (fun _ _ _ h => h) (Or.inl ⟨by rfl, ?_⟩) (by first | exact ⟨d0, d1, dA⟩ | exact ⟨E0.out, E1.out, EA.out⟩ | exact ⟨X0.out, X1.out, XA.out⟩) ?_
              rotate_left
              · (intro w hSw; obtain ⟨s0, s1, s2⟩ := hSw; go_simp <;> with_reducible rfl)
              simp only [Act.put, List.setIfInBounds_toArray, List.set_cons_zero, List.set_cons_succ]
              refine wpAnyH_take (i := 12) (oi := ⟨some 84, .move (.tmp 9), 33, "ref.go:118", #[], none⟩) (v := ?_) rfl (by kernel_rfl) (by kernel_rfl) (by kernel_rfl) (fun _ _ _ h => h) (Or.inl ⟨by rfl, ?_⟩) (by first | exact ⟨d0, d1, dA⟩ | exact ⟨E0.out, E1.out, EA.out⟩ | exact ⟨X0.out, X1.out, XA.out⟩) ?_
              rotate_left
              · (intro w hSw; obtain ⟨s0, s1, s2⟩ := hSw; go_simp <;> with_reducible rfl)
              simp only [Act.put, List.setIfInBounds_toArray, List.set_cons_zero, List.set_cons_succ]
              refine wpAnyH_take (i := 13) (oi := ⟨some 85, .move (.tmp 8), 33, "ref.go:118", #[], none⟩) (v := ?_) rfl (by kernel_rfl) (by kernel_rfl) (by kernel_rfl) (fun _ _ _ h => h) (Or.inl ⟨by rfl, ?_⟩) (by first | exact ⟨d0, d1, dA⟩ | exact ⟨E0.out, E1.out, EA.out⟩ | exact ⟨X0.out, X1.out, XA.out⟩) ?_
              rotate_left
              · (intro w hSw; obtain ⟨s0, s1, s2⟩ := hSw; go_simp <;> with_reducible rfl)
              simp only [Act.put, List.setIfInBounds_toArray, List.set_cons_zero, List.set_cons_succ]
              refine wpAnyH_take (i := 14) (oi := ⟨some 86, .move (.tmp 7), 3, "ref.go:118", #[], none⟩) (v := ?_) rfl (by kernel_rfl) (by kernel_rfl) (by kernel_rfl) (fun _ _ _ h => h) (Or.inl ⟨by rfl, ?_⟩) (by first | exact ⟨d0, d1, dA⟩ | exact ⟨E0.out, E1.out, EA.out⟩ | exact ⟨X0.out, X1.out, XA.out⟩) ?_
              rotate_left
              · (intro w hSw; obtain ⟨s0, s1, s2⟩ := hSw; go_simp <;> with_reducible rfl)
              simp only [Act.put, List.setIfInBounds_toArray, List.set_cons_zero, List.set_cons_succ]
              refine wpAnyH_take (i := 15) (oi := ⟨some 87, .slice 33 (.tmp 85) (some (.tmp 86)) none none, 33, "ref.go:118", #[⟨13, .data⟩, ⟨14, .data⟩], none⟩) (v := ?_) rfl (by kernel_rfl) (by kernel_rfl) (by kernel_rfl) (fun _ _ _ h => h) (Or.inl ⟨by rfl, ?_⟩) (by first | exact ⟨d0, d1, dA⟩ | exact ⟨E0.out, E1.out, EA.out⟩ | exact ⟨X0.out, X1.out, XA.out⟩) ?_
              rotate_left
              · (intro w hSw; obtain ⟨s0, s1, s2⟩ := hSw; go_simp <;> with_reducible rfl)
              simp only [Act.put, List.setIfInBounds_toArray, List.set_cons_zero, List.set_cons_succ]
              refine wpAnyH_ready (rs := [16]) (by kernel_rfl) (by simp) ?_
              refine AllReadyH.cons (o := ⟨some 88, .call { callee := Go.Callee.builtin Go.Builtin.append, args := #[Go.Operand.tmp 84, Go.Operand.tmp 87], argTypes := #[33, 33] }, 33, "ref.go:118", #[⟨12, .data⟩, ⟨15, .data⟩], none⟩) rfl (fun K hK => ?_) AllReadyH.nil
              refine step_append_rd rfl (.tmp 84) (.tmp 87) rfl rfl rfl H9.out.own (by first | exact RST0.out.rest8 HM.out _ rfl | exact RST0.out.rest8 HM.out _ (by split <;> rfl)) (u8_one _) (app_le HM.out) ?_
              intro v10 w10 hown hg hat
              obtain ⟨⟨A6, n6, c6, rfl⟩, k1, k2, ⟨u6, k5⟩, k6, G2, k7, k8⟩ := crash_fin HRD.out A9.out H9.out HAN.out HM.out HQ2.out LL.out hown hg hat
              have E0 := Lib.hid ((World.cell?_of_block (k1 c HRD.out.inG)).trans HRD.out.c0)
              have E1 := Lib.hid ((World.cell?_of_block (k1 c HRD.out.inG)).trans HRD.out.c1)
              have EA := Lib.hid ((World.cell?_of_block (k1 gQ (HRD.out.q.inF gQ rfl))).trans kA')
              have X0 := Lib.hid ((World.cell?_of_block (k2 c HRD.out.inG HNE.out.1)).trans HRD.out.c0)
              have X1 := Lib.hid ((World.cell?_of_block (k2 c HRD.out.inG HNE.out.1)).trans HRD.out.c1)
              have XA := Lib.hid ((World.cell?_of_block (k2 gQ (HRD.out.q.inF gQ rfl) HNE.out.2)).trans kA')
              have HN := Lib.hid (rc_next HLT.out HST.out HK0.out HQA.out HRE'.out k7 (HA.out.trans (Adv.of_drew k8)))
              clear hown hg hat k1 k2 k7 k8
              refine hK.out _ _ (by first | exact ⟨d0, d1, dA⟩ | exact ⟨E0.out, E1.out, EA.out⟩ | exact ⟨X0.out, X1.out, XA.out⟩) (fun hHeld => ?_)
              clear hK K hHeld
              try simp only [Act.put, List.setIfInBounds_toArray, List.set_cons_zero, List.set_cons_succ]
              refine wpAnyH_take (i := 17) (oi := ⟨some 89, .indexAddr 59 (.tmp 75) (.tmp 83), 0, "ref.go:118", #[⟨3, .data⟩, ⟨11, .data⟩, ⟨0, .phase⟩, ⟨1, .phase⟩, ⟨2, .phase⟩, ⟨3, .phase⟩, ⟨4, .phase⟩, ⟨5, .phase⟩, ⟨6, .phase⟩, ⟨7, .phase⟩, ⟨8, .phase⟩, ⟨9, .phase⟩, ⟨10, .phase⟩, ⟨11, .phase⟩, ⟨12, .phase⟩, ⟨13, .phase⟩, ⟨14, .phase⟩, ⟨15, .phase⟩, ⟨16, .phase⟩], none⟩) (v := ?_) rfl (by kernel_rfl) (by kernel_rfl) (by kernel_rfl) (fun _ _ _ h => h) (Or.inl ⟨by rfl, ?_⟩) (by first | exact ⟨d0, d1, dA⟩ | exact ⟨E0.out, E1.out, EA.out⟩ | exact ⟨X0.out, X1.out, XA.out⟩) ?_
              rotate_left
              · (intro w hSw; obtain ⟨s0, s1, s2⟩ := hSw; go_simp <;> with_reducible rfl)
              simp only [Act.put, List.setIfInBounds_toArray, List.set_cons_zero, List.set_cons_succ]
              refine wpAnyH_ready (rs := [18]) (by kernel_rfl) (by simp) ?_
              refine AllReadyH.cons (o := ⟨none, .store 33 (.tmp 89) (.tmp 88), 0, "ref.go:118", #[⟨17, .data⟩, ⟨16, .data⟩, ⟨16, .chain⟩, ⟨0, .phase⟩, ⟨1, .phase⟩, ⟨2, .phase⟩, ⟨3, .phase⟩, ⟨4, .phase⟩, ⟨5, .phase⟩, ⟨6, .phase⟩, ⟨7, .phase⟩, ⟨8, .phase⟩, ⟨9, .phase⟩, ⟨10, .phase⟩, ⟨11, .phase⟩, ⟨12, .phase⟩, ⟨13, .phase⟩, ⟨14, .phase⟩, ⟨15, .phase⟩, ⟨16, .phase⟩], none⟩) rfl (fun K hK => ?_) AllReadyH.nil
              go_simp
              refine hK.out _ _ (by first | exact ⟨d0, d1, dA⟩ | exact ⟨E0.out, E1.out, EA.out⟩ | exact ⟨X0.out, X1.out, XA.out⟩) (fun hHeld => ?_)
              clear hK K hHeld
              try simp only [Act.put]
              refine wpAnyH_done (by kernel_rfl) ?_ _
              go_wp2_with fail
              exact ⟨HN.out, HMS.out⟩
          · have hki : (m0 : Int) ≤ (k : Int) := by omega
            have HK0 := Lib.hid (show kept ks torn s.Q.length k = (0 : Int).toNat by rw [hkept0, List.getD_eq_getElem?_getD, List.getElem?_eq_none (by have := HKL.out; omega)]; simp)
            clear hkept0
            go_wp2_with fail
            obtain ⟨mi, hmi⟩ : ∃ mi : Int, mi = 0 := ⟨_, rfl⟩
            rw [← hmi]
            obtain ⟨hm0, hm1, hmn, hmcd, hmcr⟩ := mi_facts hmi (by decide) HCD.out HCR.out
            replace HK0 := Lib.hid (HK0.out.trans (congrArg Int.toNat hmi).symm)
            have HM := Lib.hid hmn
            have HMS := Lib.hid (rc_meas HLT.out)
            clear hmi hmn
            refine wp_region_held_drew (S := (fun w' => w'.cell? ⟨c, 0, none⟩ = some (.slice (some ⟨gL, 0, none⟩) n cap) ∧ w'.cell? ⟨c, 1, none⟩ = some (.slice (some ⟨gQ, 0, none⟩) s.Q.length cq) ∧ w'.cell? ⟨gQ, k * 2, none⟩ = some (.int .i64 (a : Int)) ∧ w'.cell? ⟨gL, a, none⟩ = some (.slice (some ⟨gr, 0, none⟩) 128 cr))) (by kernel_rfl) (by first | exact ⟨c0, c1, kA', kL⟩) (fun hHeld => ?_)
            clear hHeld
            refine wpAnyH_take (i := 0) (oi := ⟨some 47, .move (.tmp 0), 27, "ref.go:116", #[], none⟩) (v := ?_) rfl (by kernel_rfl) (by kernel_rfl) (by kernel_rfl) (fun _ _ _ h => h) (Or.inl ⟨by rfl, ?_⟩) (by first | exact ⟨c0, c1, kA', kL⟩) ?_
            rotate_left
            · (intro w hSw; obtain ⟨s0, s1, s2, s3⟩ := hSw; go_simp <;> with_reducible rfl)
            simp only [Act.put, List.setIfInBounds_toArray, List.set_cons_zero, List.set_cons_succ]
            refine wpAnyH_take (i := 1) (oi := ⟨some 48, .nilCheck (.tmp 47), 0, "ref.go:116", #[⟨0, .data⟩], none⟩) (v := ?_) rfl (by kernel_rfl) (by kernel_rfl) (by kernel_rfl) (fun _ _ _ h => h) (Or.inl ⟨by rfl, ?_⟩) (by first | exact ⟨c0, c1, kA', kL⟩) ?_
            rotate_left
            · (intro w hSw; obtain ⟨s0, s1, s2, s3⟩ := hSw; go_simp <;> with_reducible rfl)
            simp only [Act.put, List.setIfInBounds_toArray, List.set_cons_zero, List.set_cons_succ]
            refine wpAnyH_take (i := 2) (oi := ⟨some 49, .fieldAddr 62 (.tmp 48) 0, 0, "ref.go:116", #[⟨1, .data⟩], none⟩) (v := ?_) rfl (by kernel_rfl) (by kernel_rfl) (by kernel_rfl) (fun _ _ _ h => h) (Or.inl ⟨by rfl, ?_⟩) (by first | exact ⟨c0, c1, kA', kL⟩) ?_
            rotate_left
            · (intro w hSw; obtain ⟨s0, s1, s2, s3⟩ := hSw; go_simp <;> with_reducible rfl)
            simp only [Act.put, List.setIfInBounds_toArray, List.set_cons_zero, List.set_cons_succ]
            refine wpAnyH_take (i := 3) (oi := ⟨some 50, .load 59 (.tmp 49), 59, "ref.go:116", #[⟨2, .data⟩], none⟩) (v := ?_) rfl (by kernel_rfl) (by kernel_rfl) (by kernel_rfl) (fun _ _ _ h => h) (Or.inl ⟨by rfl, ?_⟩) (by first | exact ⟨c0, c1, kA', kL⟩) ?_
            rotate_left
            · (intro w hSw; obtain ⟨s0, s1, s2, s3⟩ := hSw; go_simp <;> with_reducible rfl)
            simp only [Act.put, List.setIfInBounds_toArray, List.set_cons_zero, List.set_cons_succ]
            refine wpAnyH_take (i := 4) (oi := ⟨some 51, .move (.tmp 0), 27, "ref.go:116", #[], none⟩) (v := ?_) rfl (by kernel_rfl) (by kernel_rfl) (by kernel_rfl) (fun _ _ _ h => h) (Or.inl ⟨by rfl, ?_⟩) (by first | exact ⟨c0, c1, kA', kL⟩) ?_
            rotate_left
            · (intro w hSw; obtain ⟨s0, s1, s2, s3⟩ := hSw; go_simp <;> with_reducible rfl)
            simp only [Act.put, List.setIfInBounds_toArray, List.set_cons_zero, List.set_cons_succ]
            refine wpAnyH_take (i := 5) (oi := ⟨some 52, .nilCheck (.tmp 51), 0, "ref.go:116", #[⟨4, .data⟩], none⟩) (v := ?_) rfl (by kernel_rfl) (by kernel_rfl) (by kernel_rfl) (fun _ _ _ h => h) (Or.inl ⟨by rfl, ?_⟩) (by first | exact ⟨c0, c1, kA', kL⟩) ?_
            rotate_left
            · (intro w hSw; obtain ⟨s0, s1, s2, s3⟩ := hSw; go_simp <;> with_reducible rfl)
            simp only [Act.put, List.setIfInBounds_toArray, List.set_cons_zero, List.set_cons_succ]
            refine wpAnyH_take (i := 6) (oi := ⟨some 53, .fieldAddr 62 (.tmp 52) 1, 0, "ref.go:116", #[⟨5, .data⟩], none⟩) (v := ?_) rfl (by kernel_rfl) (by kernel_rfl) (by kernel_rfl) (fun _ _ _ h => h) (Or.inl ⟨by rfl, ?_⟩) (by first | exact ⟨c0, c1, kA', kL⟩) ?_
            rotate_left
            · (intro w hSw; obtain ⟨s0, s1, s2, s3⟩ := hSw; go_simp <;> with_reducible rfl)
            simp only [Act.put, List.setIfInBounds_toArray, List.set_cons_zero, List.set_cons_succ]
            refine wpAnyH_take (i := 7) (oi := ⟨some 54, .load 60 (.tmp 53), 60, "ref.go:116", #[⟨6, .data⟩], none⟩) (v := ?_) rfl (by kernel_rfl) (by kernel_rfl) (by kernel_rfl) (fun _ _ _ h => h) (Or.inl ⟨by rfl, ?_⟩) (by first | exact ⟨c0, c1, kA', kL⟩) ?_
            rotate_left
            · (intro w hSw; obtain ⟨s0, s1, s2, s3⟩ := hSw; go_simp <;> with_reducible rfl)
            simp only [Act.put, List.setIfInBounds_toArray, List.set_cons_zero, List.set_cons_succ]
            refine wpAnyH_take (i := 8) (oi := ⟨some 55, .move (.tmp 6), 3, "ref.go:116", #[], none⟩) (v := ?_) rfl (by kernel_rfl) (by kernel_rfl) (by kernel_rfl) (fun _ _ _ h => h) (Or.inl ⟨by rfl, ?_⟩) (by first | exact ⟨c0, c1, kA', kL⟩) ?_
            rotate_left
            · (intro w hSw; obtain ⟨s0, s1, s2, s3⟩ := hSw; go_simp <;> with_reducible rfl)
            simp only [Act.put, List.setIfInBounds_toArray, List.set_cons_zero, List.set_cons_succ]
            refine wpAnyH_take (i := 9) (oi := ⟨some 56, .indexAddr 60 (.tmp 54) (.tmp 55), 0, "ref.go:116", #[⟨7, .data⟩, ⟨8, .data⟩], none⟩) (v := ?_) rfl (by kernel_rfl) (by kernel_rfl) (by kernel_rfl) (fun _ _ _ h => h) (Or.inl ⟨by rfl, ?_⟩) (by first | exact ⟨c0, c1, kA', kL⟩) ?_
            rotate_left
            · (intro w hSw; obtain ⟨s0, s1, s2, s3⟩ := hSw; go_simp <;> with_reducible rfl)
            simp only [Act.put, List.setIfInBounds_toArray, List.set_cons_zero, List.set_cons_succ]
            refine wpAnyH_take (i := 10) (oi := ⟨some 57, .fieldAddr 76 (.tmp 56) 0, 0, "ref.go:116", #[⟨9, .data⟩], none⟩) (v := ?_) rfl (by kernel_rfl) (by kernel_rfl) (by kernel_rfl) (fun _ _ _ h => h) (Or.inl ⟨by rfl, ?_⟩) (by first | exact ⟨c0, c1, kA', kL⟩) ?_
            rotate_left
            · (intro w hSw; obtain ⟨s0, s1, s2, s3⟩ := hSw; go_simp <;> with_reducible rfl)
            simp only [Act.put, List.setIfInBounds_toArray, List.set_cons_zero, List.set_cons_succ]
            refine wpAnyH_take (i := 11) (oi := ⟨some 58, .load 3 (.tmp 57), 3, "ref.go:116", #[⟨10, .data⟩], none⟩) (v := ?_) rfl (by kernel_rfl) (by kernel_rfl) (by kernel_rfl) (fun _ _ _ h => h) (Or.inl ⟨by rfl, ?_⟩) (by first | exact ⟨c0, c1, kA', kL⟩) ?_
            rotate_left
            · (intro w hSw; obtain ⟨s0, s1, s2, s3⟩ := hSw; go_simp <;> with_reducible rfl)
            simp only [Act.put, List.setIfInBounds_toArray, List.set_cons_zero, List.set_cons_succ]
            refine wpAnyH_take (i := 12) (oi := ⟨some 59, .indexAddr 59 (.tmp 50) (.tmp 58), 0, "ref.go:116", #[⟨3, .data⟩, ⟨11, .data⟩], none⟩) (v := ?_) rfl (by kernel_rfl) (by kernel_rfl) (by kernel_rfl) (fun _ _ _ h => h) (Or.inl ⟨by rfl, ?_⟩) (by first | exact ⟨c0, c1, kA', kL⟩) ?_
            rotate_left
            · (intro w hSw; obtain ⟨s0, s1, s2, s3⟩ := hSw; go_simp <;> with_reducible rfl)
            simp only [Act.put, List.setIfInBounds_toArray, List.set_cons_zero, List.set_cons_succ]
            refine wpAnyH_take (i := 13) (oi := ⟨some 60, .load 33 (.tmp 59), 33, "ref.go:116", #[⟨12, .data⟩], none⟩) (v := ?_) rfl (by kernel_rfl) (by kernel_rfl) (by kernel_rfl) (fun _ _ _ h => h) (Or.inl ⟨by rfl, ?_⟩) (by first | exact ⟨c0, c1, kA', kL⟩) ?_
            rotate_left
            · (intro w hSw; obtain ⟨s0, s1, s2, s3⟩ := hSw; go_simp <;> with_reducible rfl)
            simp only [Act.put, List.setIfInBounds_toArray, List.set_cons_zero, List.set_cons_succ]
            refine wpAnyH_take (i := 14) (oi := ⟨some 8, .assign (.tmp 60), 33, "ref.go:116", #[⟨13, .data⟩, ⟨0, .phase⟩, ⟨1, .phase⟩, ⟨2, .phase⟩, ⟨3, .phase⟩, ⟨4, .phase⟩, ⟨5, .phase⟩, ⟨6, .phase⟩, ⟨7, .phase⟩, ⟨8, .phase⟩, ⟨9, .phase⟩, ⟨10, .phase⟩, ⟨11, .phase⟩, ⟨12, .phase⟩, ⟨13, .phase⟩], none⟩) (v := ?_) rfl (by kernel_rfl) (by kernel_rfl) (by kernel_rfl) (fun _ _ _ h => h) (Or.inl ⟨by rfl, ?_⟩) (by first | exact ⟨c0, c1, kA', kL⟩) ?_
            rotate_left
            · (intro w hSw; obtain ⟨s0, s1, s2, s3⟩ := hSw; go_simp <;> with_reducible rfl)
            simp only [Act.put, List.setIfInBounds_toArray, List.set_cons_zero, List.set_cons_succ]
            refine wpAnyH_done (by kernel_rfl) ?_ _
            have hrd := HR.out.far ((Adv.refl Nul wr).drew) (fun _ h _ => h)
            have HRD := Lib.hid hrd
            have HNE := Lib.hid hrd.ne_L
            have hfront := (SD.out.far ((Adv.refl Nul wr).drew) (fun _ h _ => h)).rd.front8 HM.out
            have HFRONT := Lib.hid hfront
            clear hrd hfront
            go_wp2_with (first
              | (go_at_call 31; refine (copy_any _ mi.toNat (q.2.take mi.toNat) _ HFRONT.out (Nat.le_trans HM.out (by decide))).mono ?_; rintro e w9 ⟨v9, F9, rfl, h9, a9⟩; obtain ⟨av9, cv9, rfl, _, _⟩ := h9.form0; have H9 := Lib.hid (h9.far ((Adv.refl Nul w9).drew) (fun _ h _ => h)); have A9 := Lib.hid (a9.drew); obtain ⟨d0, d1, dA⟩ := crash_cells HRD.out A9.out (k := k) (a := a) kA'; have RST0 := Lib.hid ((SL.out.far ((Adv.refl Nul wr).drew) (fun _ h _ => h)).far A9.out (fun _ h _ => h)).rd; clear h9 a9)
              | fail)
            refine wp_region_held_drew (S := (fun w' => w'.cell? ⟨c, 0, none⟩ = some (.slice (some ⟨gL, 0, none⟩) n cap) ∧ w'.cell? ⟨c, 1, none⟩ = some (.slice (some ⟨gQ, 0, none⟩) s.Q.length cq) ∧ w'.cell? ⟨gQ, k * 2, none⟩ = some (.int .i64 (a : Int)))) (by kernel_rfl) (by first | exact ⟨d0, d1, dA⟩ | exact ⟨E0.out, E1.out, EA.out⟩ | exact ⟨X0.out, X1.out, XA.out⟩) (fun hHeld => ?_)
            clear hHeld
            refine wpAnyH_take (i := 0) (oi := ⟨some 72, .move (.tmp 0), 27, "ref.go:118", #[], none⟩) (v := ?_) rfl (by kernel_rfl) (by kernel_rfl) (by kernel_rfl) (fun _ _ _ h => h) (Or.inl ⟨by rfl, ?_⟩) (by first | exact ⟨d0, d1, dA⟩ | exact ⟨E0.out, E1.out, EA.out⟩ | exact ⟨X0.out, X1.out, XA.out⟩) ?_
            rotate_left
            · (intro w hSw; obtain ⟨s0, s1, s2⟩ := hSw; go_simp <;> with_reducible rfl)
            simp only [Act.put, List.setIfInBounds_toArray, List.set_cons_zero, List.set_cons_succ]
            refine wpAnyH_take (i := 1) (oi := ⟨some 73, .nilCheck (.tmp 72), 0, "ref.go:118", #[⟨0, .data⟩], none⟩) (v := ?_) rfl (by kernel_rfl) (by kernel_rfl) (by kernel_rfl) (fun _ _ _ h => h) (Or.inl ⟨by rfl, ?_⟩) (by first | exact ⟨d0, d1, dA⟩ | exact ⟨E0.out, E1.out, EA.out⟩ | exact ⟨X0.out, X1.out, XA.out⟩) ?_
            rotate_left
            · (intro w hSw; obtain ⟨s0, s1, s2⟩ := hSw; go_simp <;> with_reducible rfl)
            simp only [Act.put, List.setIfInBounds_toArray, List.set_cons_zero, List.set_cons_succ]
            refine wpAnyH_take (i := 2) (oi := ⟨some 74, .fieldAddr 62 (.tmp 73) 0, 0, "ref.go:118", #[⟨1, .data⟩], none⟩) (v := ?_) rfl (by kernel_rfl) (by kernel_rfl) (by kernel_rfl) (fun _ _ _ h => h) (Or.inl ⟨by rfl, ?_⟩) (by first | exact ⟨d0, d1, dA⟩ | exact ⟨E0.out, E1.out, EA.out⟩ | exact ⟨X0.out, X1.out, XA.out⟩) ?_
            rotate_left
            · (intro w hSw; obtain ⟨s0, s1, s2⟩ := hSw; go_simp <;> with_reducible rfl)
            simp only [Act.put, List.setIfInBounds_toArray, List.set_cons_zero, List.set_cons_succ]
            refine wpAnyH_take (i := 3) (oi := ⟨some 75, .load 59 (.tmp 74), 59, "ref.go:118", #[⟨2, .data⟩], none⟩) (v := ?_) rfl (by kernel_rfl) (by kernel_rfl) (by kernel_rfl) (fun _ _ _ h => h) (Or.inl ⟨by rfl, ?_⟩) (by first | exact ⟨d0, d1, dA⟩ | exact ⟨E0.out, E1.out, EA.out⟩ | exact ⟨X0.out, X1.out, XA.out⟩) ?_
            rotate_left
            · (intro w hSw; obtain ⟨s0, s1, s2⟩ := hSw; go_simp <;> with_reducible rfl)
            simp only [Act.put, List.setIfInBounds_toArray, List.set_cons_zero, List.set_cons_succ]
            refine wpAnyH_take (i := 4) (oi := ⟨some 76, .move (.tmp 0), 27, "ref.go:118", #[], none⟩) (v := ?_) rfl (by kernel_rfl) (by kernel_rfl) (by kernel_rfl) (fun _ _ _ h => h) (Or.inl ⟨by rfl, ?_⟩) (by first | exact ⟨d0, d1, dA⟩ | exact ⟨E0.out, E1.out, EA.out⟩ | exact ⟨X0.out, X1.out, XA.out⟩) ?_
            rotate_left
            · (intro w hSw; obtain ⟨s0, s1, s2⟩ := hSw; go_simp <;> with_reducible rfl)
            simp only [Act.put, List.setIfInBounds_toArray, List.set_cons_zero, List.set_cons_succ]
            refine wpAnyH_take (i := 5) (oi := ⟨some 77, .nilCheck (.tmp 76), 0, "ref.go:118", #[⟨4, .data⟩], none⟩) (v := ?_) rfl (by kernel_rfl) (by kernel_rfl) (by kernel_rfl) (fun _ _ _ h => h) (Or.inl ⟨by rfl, ?_⟩) (by first | exact ⟨d0, d1, dA⟩ | exact ⟨E0.out, E1.out, EA.out⟩ | exact ⟨X0.out, X1.out, XA.out⟩) ?_
            rotate_left
            · (intro w hSw; obtain ⟨s0, s1, s2⟩ := hSw; go_simp <;> with_reducible rfl)
            simp only [Act.put, List.setIfInBounds_toArray, List.set_cons_zero, List.set_cons_succ]
            refine wpAnyH_take (i := 6) (oi := ⟨some 78, .fieldAddr 62 (.tmp 77) 1, 0, "ref.go:118", #[⟨5, .data⟩], none⟩) (v := ?_) rfl (by kernel_rfl) (by kernel_rfl) (by kernel_rfl) (fun _ _ _ h => h) (Or.inl ⟨by rfl, ?_⟩) (by first | exact ⟨d0, d1, dA⟩ | exact ⟨E0.out, E1.out, EA.out⟩ | exact ⟨X0.out, X1.out, XA.out⟩) ?_
            rotate_left
            · (intro w hSw; obtain ⟨s0, s1, s2⟩ := hSw; go_simp <;> with_reducible rfl)
            simp only [Act.put, List.setIfInBounds_toArray, List.set_cons_zero, List.set_cons_succ]
            refine wpAnyH_take (i := 7) (oi := ⟨some 79, .load 60 (.tmp 78), 60, "ref.go:118", #[⟨6, .data⟩], none⟩) (v := ?_) rfl (by kernel_rfl) (by kernel_rfl) (by kernel_rfl) (fun _ _ _ h => h) (Or.inl ⟨by rfl, ?_⟩) (by first | exact ⟨d0, d1, dA⟩ | exact ⟨E0.out, E1.out, EA.out⟩ | exact ⟨X0.out, X1.out, XA.out⟩) ?_
            rotate_left
            · (intro w hSw; obtain ⟨s0, s1, s2⟩ := hSw; go_simp <;> with_reducible rfl)
            simp only [Act.put, List.setIfInBounds_toArray, List.set_cons_zero, List.set_cons_succ]
            refine wpAnyH_take (i := 8) (oi := ⟨some 80, .move (.tmp 6), 3, "ref.go:118", #[], none⟩) (v := ?_) rfl (by kernel_rfl) (by kernel_rfl) (by kernel_rfl) (fun _ _ _ h => h) (Or.inl ⟨by rfl, ?_⟩) (by first | exact ⟨d0, d1, dA⟩ | exact ⟨E0.out, E1.out, EA.out⟩ | exact ⟨X0.out, X1.out, XA.out⟩) ?_
            rotate_left
            · (intro w hSw; obtain ⟨s0, s1, s2⟩ := hSw; go_simp <;> with_reducible rfl)
            simp only [Act.put, List.setIfInBounds_toArray, List.set_cons_zero, List.set_cons_succ]
            refine wpAnyH_take (i := 9) (oi := ⟨some 81, .indexAddr 60 (.tmp 79) (.tmp 80), 0, "ref.go:118", #[⟨7, .data⟩, ⟨8, .data⟩], none⟩) (v := ?_) rfl (by kernel_rfl) (by kernel_rfl) (by kernel_rfl) (fun _ _ _ h => h) (Or.inl ⟨by rfl, ?_⟩) (by first | exact ⟨d0, d1, dA⟩ | exact ⟨E0.out, E1.out, EA.out⟩ | exact ⟨X0.out, X1.out, XA.out⟩) ?_
            rotate_left
            · (intro w hSw; obtain ⟨s0, s1, s2⟩ := hSw; go_simp <;> with_reducible rfl)
            simp only [Act.put, List.setIfInBounds_toArray, List.set_cons_zero, List.set_cons_succ]
            refine wpAnyH_take (i := 10) (oi := ⟨some 82, .fieldAddr 76 (.tmp 81) 0, 0, "ref.go:118", #[⟨9, .data⟩], none⟩) (v := ?_) rfl (by kernel_rfl) (by kernel_rfl) (by kernel_rfl) (fun _ _ _ h => h) (Or.inl ⟨by rfl, ?_⟩) (by first | exact ⟨d0, d1, dA⟩ | exact ⟨E0.out, E1.out, EA.out⟩ | exact ⟨X0.out, X1.out, XA.out⟩) ?_
            rotate_left
            · (intro w hSw; obtain ⟨s0, s1, s2⟩ := hSw; go_simp <;> with_reducible rfl)
            simp only [Act.put, List.setIfInBounds_toArray, List.set_cons_zero, List.set_cons_succ]
            refine wpAnyH_take (i := 11) (oi := ⟨some 83, .load 3 (.tmp 82), 3, "ref.go:118", #[⟨10, .data⟩], none⟩) (v := ?_) rfl (by kernel_rfl) (by kernel_rfl) (by kernel_rfl) (fun _ _ _ h => h) (Or.inl ⟨by rfl, ?_⟩) (by first | exact ⟨d0, d1, dA⟩ | exact ⟨E0.out, E1.out, EA.out⟩ | exact ⟨X0.out, X1.out, XA.out⟩) ?_
            rotate_left
            · (intro w hSw; obtain ⟨s0, s1, s2⟩ := hSw; go_simp <;> with_reducible rfl)
            simp only [Act.put, List.setIfInBounds_toArray, List.set_cons_zero, List.set_cons_succ]
            refine wpAnyH_take (i := 12) (oi := ⟨some 84, .move (.tmp 9), 33, "ref.go:118", #[], none⟩) (v := ?_) rfl (by kernel_rfl) (by kernel_rfl) (by kernel_rfl) (fun _ _ _ h => h) (Or.inl ⟨by rfl, ?_⟩) (by first | exact ⟨d0, d1, dA⟩ | exact ⟨E0.out, E1.out, EA.out⟩ | exact ⟨X0.out, X1.out, XA.out⟩) ?_
            rotate_left
            · (intro w hSw; obtain ⟨s0, s1, s2⟩ := hSw; go_simp <;> with_reducible rfl)
            simp only [Act.put, List.setIfInBounds_toArray, List.set_cons_zero, List.set_cons_succ]
            refine wpAnyH_take (i := 13) (oi := ⟨some 85, .move (.tmp 8), 33, "ref.go:118", #[], none⟩) (v := ?_) rfl (by kernel_rfl) (by kernel_rfl) (by kernel_rfl) (fun _ _ _ h => h) (Or.inl ⟨by rfl, ?_⟩) (by first | exact ⟨d0, d1, dA⟩ | exact ⟨E0.out, E1.out, EA.out⟩ | exact ⟨X0.out, X1.out, XA.out⟩) ?_
            rotate_left
            · (intro w hSw; obtain ⟨s0, s1, s2⟩ := hSw; go_simp <;> with_reducible rfl)
            simp only [Act.put, List.setIfInBounds_toArray, List.set_cons_zero, List.set_cons_succ]
            refine wpAnyH_take (i := 14) (oi := ⟨some 86, .move (.tmp 7), 3, "ref.go:118", #[], none⟩) (v := ?_) rfl (by kernel_rfl) (by kernel_rfl) (by kernel_rfl) (fun _ _ _ h => h) (Or.inl ⟨by rfl, ?_⟩) (by first | exact ⟨d0, d1, dA⟩ | exact ⟨E0.out, E1.out, EA.out⟩ | exact ⟨X0.out, X1.out, XA.out⟩) ?_
            rotate_left
            · (intro w hSw; obtain ⟨s0, s1, s2⟩ := hSw; go_simp <;> with_reducible rfl)
            simp only [Act.put, List.setIfInBounds_toArray, List.set_cons_zero, List.set_cons_succ]
            refine wpAnyH_take (i := 15) (oi := ⟨some 87, .slice 33 (.tmp 85) (some (.tmp 86)) none none, 33, "ref.go:118", #[⟨13, .data⟩, ⟨14, .data⟩], none⟩) (v := ?_) rfl (by kernel_rfl) (by kernel_rfl) (by kernel_rfl) (fun _ _ _ h => h) (Or.inl ⟨by rfl, ?_⟩) (by first | exact ⟨d0, d1, dA⟩ | exact ⟨E0.out, E1.out, EA.out⟩ | exact ⟨X0.out, X1.out, XA.out⟩) ?_
            rotate_left
            · (intro w hSw; obtain ⟨s0, s1, s2⟩ := hSw; go_simp <;> with_reducible rfl)
            simp only [Act.put, List.setIfInBounds_toArray, List.set_cons_zero, List.set_cons_succ]
            refine wpAnyH_ready (rs := [16]) (by kernel_rfl) (by simp) ?_
            refine AllReadyH.cons (o := ⟨some 88, .call { callee := Go.Callee.builtin Go.Builtin.append, args := #[Go.Operand.tmp 84, Go.Operand.tmp 87], argTypes := #[33, 33] }, 33, "ref.go:118", #[⟨12, .data⟩, ⟨15, .data⟩], none⟩) rfl (fun K hK => ?_) AllReadyH.nil
            refine step_append_rd rfl (.tmp 84) (.tmp 87) rfl rfl rfl H9.out.own (by first | exact RST0.out.rest8 HM.out _ rfl | exact RST0.out.rest8 HM.out _ (by split <;> rfl)) (u8_one _) (app_le HM.out) ?_
            intro v10 w10 hown hg hat
            obtain ⟨⟨A6, n6, c6, rfl⟩, k1, k2, ⟨u6, k5⟩, k6, G2, k7, k8⟩ := crash_fin HRD.out A9.out H9.out HAN.out HM.out HQ2.out LL.out hown hg hat
            have E0 := Lib.hid ((World.cell?_of_block (k1 c HRD.out.inG)).trans HRD.out.c0)
            have E1 := Lib.hid ((World.cell?_of_block (k1 c HRD.out.inG)).trans HRD.out.c1)
            have EA := Lib.hid ((World.cell?_of_block (k1 gQ (HRD.out.q.inF gQ rfl))).trans kA')
            have X0 := Lib.hid ((World.cell?_of_block (k2 c HRD.out.inG HNE.out.1)).trans HRD.out.c0)
            have X1 := Lib.hid ((World.cell?_of_block (k2 c HRD.out.inG HNE.out.1)).trans HRD.out.c1)
            have XA := Lib.hid ((World.cell?_of_block (k2 gQ (HRD.out.q.inF gQ rfl) HNE.out.2)).trans kA')
            have HN := Lib.hid (rc_next HLT.out HST.out HK0.out HQA.out HRE'.out k7 (HA.out.trans (Adv.of_drew k8)))
            clear hown hg hat k1 k2 k7 k8
            refine hK.out _ _ (by first | exact ⟨d0, d1, dA⟩ | exact ⟨E0.out, E1.out, EA.out⟩ | exact ⟨X0.out, X1.out, XA.out⟩) (fun hHeld => ?_)
            clear hK K hHeld
            try simp only [Act.put, List.setIfInBounds_toArray, List.set_cons_zero, List.set_cons_succ]
            refine wpAnyH_take (i := 17) (oi := ⟨some 89, .indexAddr 59 (.tmp 75) (.tmp 83), 0, "ref.go:118", #[⟨3, .data⟩, ⟨11, .data⟩, ⟨0, .phase⟩, ⟨1, .phase⟩, ⟨2, .phase⟩, ⟨3, .phase⟩, ⟨4, .phase⟩, ⟨5, .phase⟩, ⟨6, .phase⟩, ⟨7, .phase⟩, ⟨8, .phase⟩, ⟨9, .phase⟩, ⟨10, .phase⟩, ⟨11, .phase⟩, ⟨12, .phase⟩, ⟨13, .phase⟩, ⟨14, .phase⟩, ⟨15, .phase⟩, ⟨16, .phase⟩], none⟩) (v := ?_) rfl (by kernel_rfl) (by kernel_rfl) (by kernel_rfl) (fun _ _ _ h => h) (Or.inl ⟨by rfl, ?_⟩) (by first | exact ⟨d0, d1, dA⟩ | exact ⟨E0.out, E1.out, EA.out⟩ | exact ⟨X0.out, X1.out, XA.out⟩) ?_
            rotate_left
            · (intro w hSw; obtain ⟨s0, s1, s2⟩ := hSw; go_simp <;> with_reducible rfl)
            simp only [Act.put, List.setIfInBounds_toArray, List.set_cons_zero, List.set_cons_succ]
            refine wpAnyH_ready (rs := [18]) (by kernel_rfl) (by simp) ?_
            refine AllReadyH.cons (o := ⟨none, .store 33 (.tmp 89) (.tmp 88), 0, "ref.go:118", #[⟨17, .data⟩, ⟨16, .data⟩, ⟨16, .chain⟩, ⟨0, .phase⟩, ⟨1, .phase⟩, ⟨2, .phase⟩, ⟨3, .phase⟩, ⟨4, .phase⟩, ⟨5, .phase⟩, ⟨6, .phase⟩, ⟨7, .phase⟩, ⟨8, .phase⟩, ⟨9, .phase⟩, ⟨10, .phase⟩, ⟨11, .phase⟩, ⟨12, .phase⟩, ⟨13, .phase⟩, ⟨14, .phase⟩, ⟨15, .phase⟩, ⟨16, .phase⟩], none⟩) rfl (fun K hK => ?_) AllReadyH.nil
            go_simp
            refine hK.out _ _ (by first | exact ⟨d0, d1, dA⟩ | exact ⟨E0.out, E1.out, EA.out⟩ | exact ⟨X0.out, X1.out, XA.out⟩) (fun hHeld => ?_)
            clear hK K hHeld
            try simp only [Act.put]
            refine wpAnyH_done (by kernel_rfl) ?_ _
            go_wp2_with fail
            exact ⟨HN.out, HMS.out⟩
      · have hTb : ((k : Int) == (s.Q.length : Int) - 1) = false := by rw [beq_eq_false_iff_ne]; omega
        have hkept0 : kept ks torn s.Q.length k = if ks.getD k 0 ≠ 0 then 128 else 0 := by unfold kept; rw [if_neg (by omega)]
        by_cases hkm2 : k < m0
        · have hki : (k : Int) < (m0 : Int) := by omega
          obtain ⟨bk, ok, e, _, hcell⟩ := HKA.out.cells (by omega) (by decide)
          subst e
          have kc := hcell k _ (getD_at (by have := HKL.out; omega))
          obtain ⟨x, hx⟩ : ∃ x, x = ks.getD k 0 := ⟨_, rfl⟩
          rw [← hx] at kc hkept0
          clear hcell hx
          by_cases hx0 : x = 0
          · have hxb : (x != 0) = false := by simp [hx0]
            have HK0 := Lib.hid (show kept ks torn s.Q.length k = (0 : Int).toNat by rw [hkept0, if_neg (by simp [hx0])]; rfl)
            clear hkept0 hx0
            go_wp2_with fail
            obtain ⟨mi, hmi⟩ : ∃ mi : Int, mi = 0 := ⟨_, rfl⟩
            rw [← hmi]
            obtain ⟨hm0, hm1, hmn, hmcd, hmcr⟩ := mi_facts hmi (by decide) HCD.out HCR.out
            replace HK0 := Lib.hid (HK0.out.trans (congrArg Int.toNat hmi).symm)
            have HM := Lib.hid hmn
            have HMS := Lib.hid (rc_meas HLT.out)
            clear hmi hmn
            refine wp_region_held_drew (S := (fun w' => w'.cell? ⟨c, 0, none⟩ = some (.slice (some ⟨gL, 0, none⟩) n cap) ∧ w'.cell? ⟨c, 1, none⟩ = some (.slice (some ⟨gQ, 0, none⟩) s.Q.length cq) ∧ w'.cell? ⟨gQ, k * 2, none⟩ = some (.int .i64 (a : Int)) ∧ w'.cell? ⟨gL, a, none⟩ = some (.slice (some ⟨gr, 0, none⟩) 128 cr))) (by kernel_rfl) (by first | exact ⟨c0, c1, kA', kL⟩) (fun hHeld => ?_)
            clear hHeld
            refine wpAnyH_take (i := 0) (oi := ⟨some 47, .move (.tmp 0), 27, "ref.go:116", #[], none⟩) (v := ?_) rfl (by kernel_rfl) (by kernel_rfl) (by kernel_rfl) (fun _ _ _ h => h) (Or.inl ⟨by rfl, ?_⟩) (by first | exact ⟨c0, c1, kA', kL⟩) ?_
            rotate_left
            · (intro w hSw; obtain ⟨s0, s1, s2, s3⟩ := hSw; go_simp <;> with_reducible rfl)
            simp only [Act.put, List.setIfInBounds_toArray, List.set_cons_zero, List.set_cons_succ]
            refine wpAnyH_take (i := 1) (oi := ⟨some 48, .nilCheck (.tmp 47), 0, "ref.go:116", #[⟨0, .data⟩], none⟩) (v := ?_) rfl (by kernel_rfl) (by kernel_rfl) (by kernel_rfl) (fun _ _ _ h => h) (Or.inl ⟨by rfl, ?_⟩) (by first | exact ⟨c0, c1, kA', kL⟩) ?_
            rotate_left
            · (intro w hSw; obtain ⟨s0, s1, s2, s3⟩ := hSw; go_simp <;> with_reducible rfl)
            simp only [Act.put, List.setIfInBounds_toArray, List.set_cons_zero, List.set_cons_succ]
            refine wpAnyH_take (i := 2) (oi := ⟨some 49, .fieldAddr 62 (.tmp 48) 0, 0, "ref.go:116", #[⟨1, .data⟩], none⟩) (v := ?_) rfl (by kernel_rfl) (by kernel_rfl) (by kernel_rfl) (fun _ _ _ h => h) (Or.inl ⟨by rfl, ?_⟩) (by first | exact ⟨c0, c1, kA', kL⟩) ?_
            rotate_left
            · (intro w hSw; obtain ⟨s0, s1, s2, s3⟩ := hSw; go_simp <;> with_reducible rfl)
            simp only [Act.put, List.setIfInBounds_toArray, List.set_cons_zero, List.set_cons_succ]
            refine wpAnyH_take (i := 3) (oi := ⟨some 50, .load 59 (.tmp 49), 59, "ref.go:116", #[⟨2, .data⟩], none⟩) (v := ?_) rfl (by kernel_rfl) (by kernel_rfl) (by kernel_rfl) (fun _ _ _ h => h) (Or.inl ⟨by rfl, ?_⟩) (by first | exact ⟨c0, c1, kA', kL⟩) ?_
            rotate_left
            · (intro w hSw; obtain ⟨s0, s1, s2, s3⟩ := hSw; go_simp <;> with_reducible rfl)
            simp only [Act.put, List.setIfInBounds_toArray, List.set_cons_zero, List.set_cons_succ]
            refine wpAnyH_take (i := 4) (oi := ⟨some 51, .move (.tmp 0), 27, "ref.go:116", #[], none⟩) (v := ?_) rfl (by kernel_rfl) (by kernel_rfl) (by kernel_rfl) (fun _ _ _ h => h) (Or.inl ⟨by rfl, ?_⟩) (by first | exact ⟨c0, c1, kA', kL⟩) ?_
            rotate_left
            · (intro w hSw; obtain ⟨s0, s1, s2, s3⟩ := hSw; go_simp <;> with_reducible rfl)
            simp only [Act.put, List.setIfInBounds_toArray, List.set_cons_zero, List.set_cons_succ]
            refine wpAnyH_take (i := 5) (oi := ⟨some 52, .nilCheck (.tmp 51), 0, "ref.go:116", #[⟨4, .data⟩], none⟩) (v := ?_) rfl (by kernel_rfl) (by kernel_rfl) (by kernel_rfl) (fun _ _ _ h => h) (Or.inl ⟨by rfl, ?_⟩) (by first | exact ⟨c0, c1, kA', kL⟩) ?_
            rotate_left
            · (intro w hSw; obtain ⟨s0, s1, s2, s3⟩ := hSw; go_simp <;> with_reducible rfl)
            simp only [Act.put, List.setIfInBounds_toArray, List.set_cons_zero, List.set_cons_succ]
            refine wpAnyH_take (i := 6) (oi := ⟨some 53, .fieldAddr 62 (.tmp 52) 1, 0, "ref.go:116", #[⟨5, .data⟩], none⟩) (v := ?_) rfl (by kernel_rfl) (by kernel_rfl) (by kernel_rfl) (fun _ _ _ h => h) (Or.inl ⟨by rfl, ?_⟩) (by first | exact ⟨c0, c1, kA', kL⟩) ?_
            rotate_left
            · (intro w hSw; obtain ⟨s0, s1, s2, s3⟩ := hSw; go_simp <;> with_reducible rfl)
            simp only [Act.put, List.setIfInBounds_toArray, List.set_cons_zero, List.set_cons_succ]
            refine wpAnyH_take (i := 7) (oi := ⟨some 54, .load 60 (.tmp 53), 60, "ref.go:116", #[⟨6, .data⟩], none⟩) (v := ?_) rfl (by kernel_rfl) (by kernel_rfl) (by kernel_rfl) (fun _ _ _ h => h) (Or.inl ⟨by rfl, ?_⟩) (by first | exact ⟨c0, c1, kA', kL⟩) ?_
            rotate_left
            · (intro w hSw; obtain ⟨s0, s1, s2, s3⟩ := hSw; go_simp <;> with_reducible rfl)
            simp only [Act.put, List.setIfInBounds_toArray, List.set_cons_zero, List.set_cons_succ]
            refine wpAnyH_take (i := 8) (oi := ⟨some 55, .move (.tmp 6), 3, "ref.go:116", #[], none⟩) (v := ?_) rfl (by kernel_rfl) (by kernel_rfl) (by kernel_rfl) (fun _ _ _ h => h) (Or.inl ⟨by rfl, ?_⟩) (by first | exact ⟨c0, c1, kA', kL⟩) ?_
            rotate_left
            · (intro w hSw; obtain ⟨s0, s1, s2, s3⟩ := hSw; go_simp <;> with_reducible rfl)
            simp only [Act.put, List.setIfInBounds_toArray, List.set_cons_zero, List.set_cons_succ]
            refine wpAnyH_take (i := 9) (oi := ⟨some 56, .indexAddr 60 (.tmp 54) (.tmp 55), 0, "ref.go:116", #[⟨7, .data⟩, ⟨8, .data⟩], none⟩) (v := ?_) rfl (by kernel_rfl) (by kernel_rfl) (by kernel_rfl) (fun _ _ _ h => h) (Or.inl ⟨by rfl, ?_⟩) (by first | exact ⟨c0, c1, kA', kL⟩) ?_
            rotate_left
            · (intro w hSw; obtain ⟨s0, s1, s2, s3⟩ := hSw; go_simp <;> with_reducible rfl)
            simp only [Act.put, List.setIfInBounds_toArray, List.set_cons_zero, List.set_cons_succ]
            refine wpAnyH_take (i := 10) (oi := ⟨some 57, .fieldAddr 76 (.tmp 56) 0, 0, "ref.go:116", #[⟨9, .data⟩], none⟩) (v := ?_) rfl (by kernel_rfl) (by kernel_rfl) (by kernel_rfl) (fun _ _ _ h => h) (Or.inl ⟨by rfl, ?_⟩) (by first | exact ⟨c0, c1, kA', kL⟩) ?_
            rotate_left
            · (intro w hSw; obtain ⟨s0, s1, s2, s3⟩ := hSw; go_simp <;> with_reducible rfl)
            simp only [Act.put, List.setIfInBounds_toArray, List.set_cons_zero, List.set_cons_succ]
            refine wpAnyH_take (i := 11) (oi := ⟨some 58, .load 3 (.tmp 57), 3, "ref.go:116", #[⟨10, .data⟩], none⟩) (v := ?_) rfl (by kernel_rfl) (by kernel_rfl) (by kernel_rfl) (fun _ _ _ h => h) (Or.inl ⟨by rfl, ?_⟩) (by first | exact ⟨c0, c1, kA', kL⟩) ?_
            rotate_left
            · (intro w hSw; obtain ⟨s0, s1, s2, s3⟩ := hSw; go_simp <;> with_reducible rfl)
            simp only [Act.put, List.setIfInBounds_toArray, List.set_cons_zero, List.set_cons_succ]
            refine wpAnyH_take (i := 12) (oi := ⟨some 59, .indexAddr 59 (.tmp 50) (.tmp 58), 0, "ref.go:116", #[⟨3, .data⟩, ⟨11, .data⟩], none⟩) (v := ?_) rfl (by kernel_rfl) (by kernel_rfl) (by kernel_rfl) (fun _ _ _ h => h) (Or.inl ⟨by rfl, ?_⟩) (by first | exact ⟨c0, c1, kA', kL⟩) ?_
            rotate_left
            · (intro w hSw; obtain ⟨s0, s1, s2, s3⟩ := hSw; go_simp <;> with_reducible rfl)
            simp only [Act.put, List.setIfInBounds_toArray, List.set_cons_zero, List.set_cons_succ]
            refine wpAnyH_take (i := 13) (oi := ⟨some 60, .load 33 (.tmp 59), 33, "ref.go:116", #[⟨12, .data⟩], none⟩) (v := ?_) rfl (by kernel_rfl) (by kernel_rfl) (by kernel_rfl) (fun _ _ _ h => h) (Or.inl ⟨by rfl, ?_⟩) (by first | exact ⟨c0, c1, kA', kL⟩) ?_
            rotate_left
            · (intro w hSw; obtain ⟨s0, s1, s2, s3⟩ := hSw; go_simp <;> with_reducible rfl)
            simp only [Act.put, List.setIfInBounds_toArray, List.set_cons_zero, List.set_cons_succ]
            refine wpAnyH_take (i := 14) (oi := ⟨some 8, .assign (.tmp 60), 33, "ref.go:116", #[⟨13, .data⟩, ⟨0, .phase⟩, ⟨1, .phase⟩, ⟨2, .phase⟩, ⟨3, .phase⟩, ⟨4, .phase⟩, ⟨5, .phase⟩, ⟨6, .phase⟩, ⟨7, .phase⟩, ⟨8, .phase⟩, ⟨9, .phase⟩, ⟨10, .phase⟩, ⟨11, .phase⟩, ⟨12, .phase⟩, ⟨13, .phase⟩], none⟩) (v := ?_) rfl (by kernel_rfl) (by kernel_rfl) (by kernel_rfl) (fun _ _ _ h => h) (Or.inl ⟨by rfl, ?_⟩) (by first | exact ⟨c0, c1, kA', kL⟩) ?_
            rotate_left
            · (intro w hSw; obtain ⟨s0, s1, s2, s3⟩ := hSw; go_simp <;> with_reducible rfl)
            simp only [Act.put, List.setIfInBounds_toArray, List.set_cons_zero, List.set_cons_succ]
            refine wpAnyH_done (by kernel_rfl) ?_ _
            have hrd := HR.out.far ((Adv.refl Nul wr).drew) (fun _ h _ => h)
            have HRD := Lib.hid hrd
            have HNE := Lib.hid hrd.ne_L
            have hfront := (SD.out.far ((Adv.refl Nul wr).drew) (fun _ h _ => h)).rd.front8 HM.out
            have HFRONT := Lib.hid hfront
            clear hrd hfront
            go_wp2_with (first
              | (go_at_call 31; refine (copy_any _ mi.toNat (q.2.take mi.toNat) _ HFRONT.out (Nat.le_trans HM.out (by decide))).mono ?_; rintro e w9 ⟨v9, F9, rfl, h9, a9⟩; obtain ⟨av9, cv9, rfl, _, _⟩ := h9.form0; have H9 := Lib.hid (h9.far ((Adv.refl Nul w9).drew) (fun _ h _ => h)); have A9 := Lib.hid (a9.drew); obtain ⟨d0, d1, dA⟩ := crash_cells HRD.out A9.out (k := k) (a := a) kA'; have RST0 := Lib.hid ((SL.out.far ((Adv.refl Nul wr).drew) (fun _ h _ => h)).far A9.out (fun _ h _ => h)).rd; clear h9 a9)
              | fail)
            refine wp_region_held_drew (S := (fun w' => w'.cell? ⟨c, 0, none⟩ = some (.slice (some ⟨gL, 0, none⟩) n cap) ∧ w'.cell? ⟨c, 1, none⟩ = some (.slice (some ⟨gQ, 0, none⟩) s.Q.length cq) ∧ w'.cell? ⟨gQ, k * 2, none⟩ = some (.int .i64 (a : Int)))) (by kernel_rfl) (by first | exact ⟨d0, d1, dA⟩ | exact ⟨E0.out, E1.out, EA.out⟩ | exact ⟨X0.out, X1.out, XA.out⟩) (fun hHeld => ?_)
            clear hHeld
            refine wpAnyH_take (i := 0) (oi := ⟨some 72, .move (.tmp 0), 27, "ref.go:118", #[], none⟩) (v := ?_) rfl (by kernel_rfl) (by kernel_rfl) (by kernel_rfl) (fun _ _ _ h => h) (Or.inl ⟨by rfl, ?_⟩) (by first | exact ⟨d0, d1, dA⟩ | exact ⟨E0.out, E1.out, EA.out⟩ | exact ⟨X0.out, X1.out, XA.out⟩) ?_
            rotate_left
            · (intro w hSw; obtain ⟨s0, s1, s2⟩ := hSw; go_simp <;> with_reducible rfl)
            simp only [Act.put, List.setIfInBounds_toArray, List.set_cons_zero, List.set_cons_succ]
            refine wpAnyH_take (i := 1) (oi := ⟨some 73, .nilCheck (.tmp 72), 0, "ref.go:118", #[⟨0, .data⟩], none⟩) (v := ?_) rfl (by kernel_rfl) (by kernel_rfl) (by kernel_rfl) (fun _ _ _ h => h) (Or.inl ⟨by rfl, ?_⟩) (by first | exact ⟨d0, d1, dA⟩ | exact ⟨E0.out, E1.out, EA.out⟩ | exact ⟨X0.out, X1.out, XA.out⟩) ?_
            rotate_left
            · (intro w hSw; obtain ⟨s0, s1, s2⟩ := hSw; go_simp <;> with_reducible rfl)
            simp only [Act.put, List.setIfInBounds_toArray, List.set_cons_zero, List.set_cons_succ]
            refine wpAnyH_take (i := 2) (oi := ⟨some 74, .fieldAddr 62 (.tmp 73) 0, 0, "ref.go:118", #[⟨1, .data⟩], none⟩) (v := ?_) rfl (by kernel_rfl) (by kernel_rfl) (by kernel_rfl) (fun _ _ _ h => h) (Or.inl ⟨by rfl, ?_⟩) (by first | exact ⟨d0, d1, dA⟩ | exact ⟨E0.out, E1.out, EA.out⟩ | exact ⟨X0.out, X1.out, XA.out⟩) ?_
            rotate_left
            · (intro w hSw; obtain ⟨s0, s1, s2⟩ := hSw; go_simp <;> with_reducible rfl)
            simp only [Act.put, List.setIfInBounds_toArray, List.set_cons_zero, List.set_cons_succ]
            refine wpAnyH_take (i := 3) (oi := ⟨some 75, .load 59 (.tmp 74), 59, "ref.go:118", #[⟨2, .data⟩], none⟩) (v := ?_) rfl (by kernel_rfl) (by kernel_rfl) (by kernel_rfl) (fun _ _ _ h => h) (Or.inl ⟨by rfl, ?_⟩) (by first | exact ⟨d0, d1, dA⟩ | exact ⟨E0.out, E1.out, EA.out⟩ | exact ⟨X0.out, X1.out, XA.out⟩) ?_
            rotate_left
            · (intro w hSw; obtain ⟨s0, s1, s2⟩ := hSw; go_simp <;> with_reducible rfl)
            simp only [Act.put, List.setIfInBounds_toArray, List.set_cons_zero, List.set_cons_succ]
            refine wpAnyH_take (i := 4) (oi := ⟨some 76, .move (.tmp 0), 27, "ref.go:118", #[], none⟩) (v := ?_) rfl (by kernel_rfl) (by kernel_rfl) (by kernel_rfl) (fun _ _ _ h => h) (Or.inl ⟨by rfl, ?_⟩) (by first | exact ⟨d0, d1, dA⟩ | exact ⟨E0.out, E1.out, EA.out⟩ | exact ⟨X0.out, X1.out, XA.out⟩) ?_
            rotate_left
            · (intro w hSw; obtain ⟨s0, s1, s2⟩ := hSw; go_simp <;> with_reducible rfl)
            simp only [Act.put, List.setIfInBounds_toArray, List.set_cons_zero, List.set_cons_succ]
            refine wpAnyH_take (i := 5) (oi := ⟨some 77, .nilCheck (.tmp 76), 0, "ref.go:118", #[⟨4, .data⟩], none⟩) (v := ?_) rfl (by kernel_rfl) (by kernel_rfl) (by kernel_rfl) (fun _ _ _ h => h) (Or.inl ⟨by rfl, ?_⟩) (by first | exact ⟨d0, d1, dA⟩ | exact ⟨E0.out, E1.out, EA.out⟩ | exact ⟨X0.out, X1.out, XA.out⟩) ?_
            rotate_left
            · (intro w hSw; obtain ⟨s0, s1, s2⟩ := hSw; go_simp <;> with_reducible rfl)
            simp only [Act.put, List.setIfInBounds_toArray, List.set_cons_zero, List.set_cons_succ]
            refine wpAnyH_take (i := 6) (oi := ⟨some 78, .fieldAddr 62 (.tmp 77) 1, 0, "ref.go:118", #[⟨5, .data⟩], none⟩) (v := ?_) rfl (by kernel_rfl) (by kernel_rfl) (by kernel_rfl) (fun _ _ _ h => h) (Or.inl ⟨by rfl, ?_⟩) (by first | exact ⟨d0, d1, dA⟩ | exact ⟨E0.out, E1.out, EA.out⟩ | exact ⟨X0.out, X1.out, XA.out⟩) ?_
            rotate_left
            · (intro w hSw; obtain ⟨s0, s1, s2⟩ := hSw; go_simp <;> with_reducible rfl)
            simp only [Act.put, List.setIfInBounds_toArray, List.set_cons_zero, List.set_cons_succ]
            refine wpAnyH_take (i := 7) (oi := ⟨some 79, .load 60 (.tmp 78), 60, "ref.go:118", #[⟨6, .data⟩], none⟩) (v := ?_) rfl (by kernel_rfl) (by kernel_rfl) (by kernel_rfl) (fun _ _ _ h => h) (Or.inl ⟨by rfl, ?_⟩) (by first | exact ⟨d0, d1, dA⟩ | exact ⟨E0.out, E1.out, EA.out⟩ | exact ⟨X0.out, X1.out, XA.out⟩) ?_
            rotate_left
            · (intro w hSw; obtain ⟨s0, s1, s2⟩ := hSw; go_simp <;> with_reducible rfl)
            simp only [Act.put, List.setIfInBounds_toArray, List.set_cons_zero, List.set_cons_succ]
            refine wpAnyH_take (i := 8) (oi := ⟨some 80, .move (.tmp 6), 3, "ref.go:118", #[], none⟩) (v := ?_) rfl (by kernel_rfl) (by kernel_rfl) (by kernel_rfl) (fun _ _ _ h => h) (Or.inl ⟨by rfl, ?_⟩) (by first | exact ⟨d0, d1, dA⟩ | exact ⟨E0.out, E1.out, EA.out⟩ | exact ⟨X0.out, X1.out, XA.out⟩) ?_
            rotate_left
            · (intro w hSw; obtain ⟨s0, s1, s2⟩ := hSw; go_simp <;> with_reducible rfl)
            simp only [Act.put, List.setIfInBounds_toArray, List.set_cons_zero, List.set_cons_succ]
            refine wpAnyH_take (i := 9) (oi := ⟨some 81, .indexAddr 60 (.tmp 79) (.tmp 80), 0, "ref.go:118", #[⟨7, .data⟩, ⟨8, .data⟩], none⟩) (v := ?_) rfl (by kernel_rfl) (by kernel_rfl) (by kernel_rfl) (fun _ _ _ h => h) (Or.inl ⟨by rfl, ?_⟩) (by first | exact ⟨d0, d1, dA⟩ | exact ⟨E0.out, E1.out, EA.out⟩ | exact ⟨X0.out, X1.out, XA.out⟩) ?_
            rotate_left
            · (intro w hSw; obtain ⟨s0, s1, s2⟩ := hSw; go_simp <;> with_reducible rfl)
            simp only [Act.put, List.setIfInBounds_toArray, List.set_cons_zero, List.set_cons_succ]
            refine wpAnyH_take (i := 10) (oi := ⟨some 82, .fieldAddr 76 (.tmp 81) 0, 0, "ref.go:118", #[⟨9, .data⟩], none⟩) (v := ?_) rfl (by kernel_rfl) (by kernel_rfl) (by kernel_rfl) (fun _ _ _ h => h) (Or.inl ⟨by rfl, ?_⟩) (by first | exact ⟨d0, d1, dA⟩ | exact ⟨E0.out, E1.out, EA.out⟩ | exact ⟨X0.out, X1.out, XA.out⟩) ?_
            rotate_left
            · (intro w hSw; obtain ⟨s0, s1, s2⟩ := hSw; go_simp <;> with_reducible rfl)
            simp only [Act.put, List.setIfInBounds_toArray, List.set_cons_zero, List.set_cons_succ]
            refine wpAnyH_take (i := 11) (oi := ⟨some 83, .load 3 (.tmp 82), 3, "ref.go:118", #[⟨10, .data⟩], none⟩) (v := ?_) rfl (by kernel_rfl) (by kernel_rfl) (by kernel_rfl) (fun _ _ _ h => h) (Or.inl ⟨by rfl, ?_⟩) (by first | exact ⟨d0, d1, dA⟩ | exact ⟨E0.out, E1.out, EA.out⟩ | exact ⟨X0.out, X1.out, XA.out⟩) ?_
            rotate_left
            · (intro w hSw; obtain ⟨s0, s1, s2⟩ := hSw; go_simp <;> with_reducible rfl)
            simp only [Act.put, List.setIfInBounds_toArray, List.set_cons_zero, List.set_cons_succ]
            refine wpAnyH_take (i := 12) (oi := ⟨some 84, .move (.tmp 9), 33, "ref.go:118", #[], none⟩) (v := ?_) rfl (by kernel_rfl) (by kernel_rfl) (by kernel_rfl) (fun _ _ _ h => h) (Or.inl ⟨by rfl, ?_⟩) (by first | exact ⟨d0, d1, dA⟩ | exact ⟨E0.out, E1.out, EA.out⟩ | exact ⟨X0.out, X1.out, XA.out⟩) ?_
            rotate_left
            · (intro w hSw; obtain ⟨s0, s1, s2⟩ := hSw; go_simp <;> with_reducible rfl)
            simp only [Act.put, List.setIfInBounds_toArray, List.set_cons_zero, List.set_cons_succ]
            refine wpAnyH_take (i := 13) (oi := ⟨some 85, .move (.tmp 8), 33, "ref.go:118", #[], none⟩) (v := ?_) rfl (by kernel_rfl) (by kernel_rfl) (by kernel_rfl) (fun _ _ _ h => h) (Or.inl ⟨by rfl, ?_⟩) (by first | exact ⟨d0, d1, dA⟩ | exact ⟨E0.out, E1.out, EA.out⟩ | exact ⟨X0.out, X1.out, XA.out⟩) ?_
            rotate_left
            · (intro w hSw; obtain ⟨s0, s1, s2⟩ := hSw; go_simp <;> with_reducible rfl)
            simp only [Act.put, List.setIfInBounds_toArray, List.set_cons_zero, List.set_cons_succ]
            refine wpAnyH_take (i := 14) (oi := ⟨some 86, .move (.tmp 7), 3, "ref.go:118", #[], none⟩) (v := ?_) rfl (by kernel_rfl) (by kernel_rfl) (by kernel_rfl) (fun _ _ _ h => h) (Or.inl ⟨by rfl, ?_⟩) (by first | exact ⟨d0, d1, dA⟩ | exact ⟨E0.out, E1.out, EA.out⟩ | exact ⟨X0.out, X1.out, XA.out⟩) ?_
            rotate_left
            · (intro w hSw; obtain ⟨s0, s1, s2⟩ := hSw; go_simp <;> with_reducible rfl)
            simp only [Act.put, List.setIfInBounds_toArray, List.set_cons_zero, List.set_cons_succ]
            refine wpAnyH_take (i := 15) (oi := ⟨some 87, .slice 33 (.tmp 85) (some (.tmp 86)) none none, 33, "ref.go:118", #[⟨13, .data⟩, ⟨14, .data⟩], none⟩) (v := ?_) rfl (by kernel_rfl) (by kernel_rfl) (by kernel_rfl) (fun _ _ _ h => h) (Or.inl ⟨by rfl, ?_⟩) (by first | exact ⟨d0, d1, dA⟩ | exact ⟨E0.out, E1.out, EA.out⟩ | exact ⟨X0.out, X1.out, XA.out⟩) ?_
            rotate_left
            · (intro w hSw; obtain ⟨s0, s1, s2⟩ := hSw; go_simp <;> with_reducible rfl)
            simp only [Act.put, List.setIfInBounds_toArray, List.set_cons_zero, List.set_cons_succ]
            refine wpAnyH_ready (rs := [16]) (by kernel_rfl) (by simp) ?_
            refine AllReadyH.cons (o := ⟨some 88, .call { callee := Go.Callee.builtin Go.Builtin.append, args := #[Go.Operand.tmp 84, Go.Operand.tmp 87], argTypes := #[33, 33] }, 33, "ref.go:118", #[⟨12, .data⟩, ⟨15, .data⟩], none⟩) rfl (fun K hK => ?_) AllReadyH.nil
            refine step_append_rd rfl (.tmp 84) (.tmp 87) rfl rfl rfl H9.out.own (by first | exact RST0.out.rest8 HM.out _ rfl | exact RST0.out.rest8 HM.out _ (by split <;> rfl)) (u8_one _) (app_le HM.out) ?_
            intro v10 w10 hown hg hat
            obtain ⟨⟨A6, n6, c6, rfl⟩, k1, k2, ⟨u6, k5⟩, k6, G2, k7, k8⟩ := crash_fin HRD.out A9.out H9.out HAN.out HM.out HQ2.out LL.out hown hg hat
            have E0 := Lib.hid ((World.cell?_of_block (k1 c HRD.out.inG)).trans HRD.out.c0)
            have E1 := Lib.hid ((World.cell?_of_block (k1 c HRD.out.inG)).trans HRD.out.c1)
            have EA := Lib.hid ((World.cell?_of_block (k1 gQ (HRD.out.q.inF gQ rfl))).trans kA')
            have X0 := Lib.hid ((World.cell?_of_block (k2 c HRD.out.inG HNE.out.1)).trans HRD.out.c0)
            have X1 := Lib.hid ((World.cell?_of_block (k2 c HRD.out.inG HNE.out.1)).trans HRD.out.c1)
            have XA := Lib.hid ((World.cell?_of_block (k2 gQ (HRD.out.q.inF gQ rfl) HNE.out.2)).trans kA')
            have HN := Lib.hid (rc_next HLT.out HST.out HK0.out HQA.out HRE'.out k7 (HA.out.trans (Adv.of_drew k8)))
            clear hown hg hat k1 k2 k7 k8
            refine hK.out _ _ (by first | exact ⟨d0, d1, dA⟩ | exact ⟨E0.out, E1.out, EA.out⟩ | exact ⟨X0.out, X1.out, XA.out⟩) (fun hHeld => ?_)
            clear hK K hHeld
            try simp only [Act.put, List.setIfInBounds_toArray, List.set_cons_zero, List.set_cons_succ]
            refine wpAnyH_take (i := 17) (oi := ⟨some 89, .indexAddr 59 (.tmp 75) (.tmp 83), 0, "ref.go:118", #[⟨3, .data⟩, ⟨11, .data⟩, ⟨0, .phase⟩, ⟨1, .phase⟩, ⟨2, .phase⟩, ⟨3, .phase⟩, ⟨4, .phase⟩, ⟨5, .phase⟩, ⟨6, .phase⟩, ⟨7, .phase⟩, ⟨8, .phase⟩, ⟨9, .phase⟩, ⟨10, .phase⟩, ⟨11, .phase⟩, ⟨12, .phase⟩, ⟨13, .phase⟩, ⟨14, .phase⟩, ⟨15, .phase⟩, ⟨16, .phase⟩], none⟩) (v := ?_) rfl (by kernel_rfl) (by kernel_rfl) (by kernel_rfl) (fun _ _ _ h => h) (Or.inl ⟨by rfl, ?_⟩) (by first | exact ⟨d0, d1, dA⟩ | exact ⟨E0.out, E1.out, EA.out⟩ | exact ⟨X0.out, X1.out, XA.out⟩) ?_
            rotate_left
            · (intro w hSw; obtain ⟨s0, s1, s2⟩ := hSw; go_simp <;> with_reducible rfl)
            simp only [Act.put, List.setIfInBounds_toArray, List.set_cons_zero, List.set_cons_succ]
            refine wpAnyH_ready (rs := [18]) (by kernel_rfl) (by simp) ?_
            refine AllReadyH.cons (o := ⟨none, .store 33 (.tmp 89) (.tmp 88), 0, "ref.go:118", #[⟨17, .data⟩, ⟨16, .data⟩, ⟨16, .chain⟩, ⟨0, .phase⟩, ⟨1, .phase⟩, ⟨2, .phase⟩, ⟨3, .phase⟩, ⟨4, .phase⟩, ⟨5, .phase⟩, ⟨6, .phase⟩, ⟨7, .phase⟩, ⟨8, .phase⟩, ⟨9, .phase⟩, ⟨10, .phase⟩, ⟨11, .phase⟩, ⟨12, .phase⟩, ⟨13, .phase⟩, ⟨14, .phase⟩, ⟨15, .phase⟩, ⟨16, .phase⟩], none⟩) rfl (fun K hK => ?_) AllReadyH.nil
            go_simp
            refine hK.out _ _ (by first | exact ⟨d0, d1, dA⟩ | exact ⟨E0.out, E1.out, EA.out⟩ | exact ⟨X0.out, X1.out, XA.out⟩) (fun hHeld => ?_)
            clear hK K hHeld
            try simp only [Act.put]
            refine wpAnyH_done (by kernel_rfl) ?_ _
            go_wp2_with fail
            exact ⟨HN.out, HMS.out⟩
          · have hxb : (x != 0) = true := by simp [hx0]
            have HK0 := Lib.hid (show kept ks torn s.Q.length k = (128 : Int).toNat by rw [hkept0, if_pos hx0]; rfl)
            clear hkept0 hx0
            go_wp2_with fail
            obtain ⟨mi, hmi⟩ : ∃ mi : Int, mi = 128 := ⟨_, rfl⟩
            rw [← hmi]
            obtain ⟨hm0, hm1, hmn, hmcd, hmcr⟩ := mi_facts hmi (by decide) HCD.out HCR.out
            replace HK0 := Lib.hid (HK0.out.trans (congrArg Int.toNat hmi).symm)
            have HM := Lib.hid hmn
            have HMS := Lib.hid (rc_meas HLT.out)
            clear hmi hmn
            refine wp_region_held_drew (S := (fun w' => w'.cell? ⟨c, 0, none⟩ = some (.slice (some ⟨gL, 0, none⟩) n cap) ∧ w'.cell? ⟨c, 1, none⟩ = some (.slice (some ⟨gQ, 0, none⟩) s.Q.length cq) ∧ w'.cell? ⟨gQ, k * 2, none⟩ = some (.int .i64 (a : Int)) ∧ w'.cell? ⟨gL, a, none⟩ = some (.slice (some ⟨gr, 0, none⟩) 128 cr))) (by kernel_rfl) (by first | exact ⟨c0, c1, kA', kL⟩) (fun hHeld => ?_)
            clear hHeld
            refine wpAnyH_take (i := 0) (oi := ⟨some 47, .move (.tmp 0), 27, "ref.go:116", #[], none⟩) (v := ?_) rfl (by kernel_rfl) (by kernel_rfl) (by kernel_rfl) (fun _ _ _ h => h) (Or.inl ⟨by rfl, ?_⟩) (by first | exact ⟨c0, c1, kA', kL⟩) ?_
            rotate_left
            · (intro w hSw; obtain ⟨s0, s1, s2, s3⟩ := hSw; go_simp <;> with_reducible rfl)
            simp only [Act.put, List.setIfInBounds_toArray, List.set_cons_zero, List.set_cons_succ]
            refine wpAnyH_take (i := 1) (oi := ⟨some 48, .nilCheck (.tmp 47), 0, "ref.go:116", #[⟨0, .data⟩], none⟩) (v := ?_) rfl (by kernel_rfl) (by kernel_rfl) (by kernel_rfl) (fun _ _ _ h => h) (Or.inl ⟨by rfl, ?_⟩) (by first | exact ⟨c0, c1, kA', kL⟩) ?_
            rotate_left
            · (intro w hSw; obtain ⟨s0, s1, s2, s3⟩ := hSw; go_simp <;> with_reducible rfl)
            simp only [Act.put, List.setIfInBounds_toArray, List.set_cons_zero, List.set_cons_succ]
            refine wpAnyH_take (i := 2) (oi := ⟨some 49, .fieldAddr 62 (.tmp 48) 0, 0, "ref.go:116", #[⟨1, .data⟩], none⟩) (v := ?_) rfl (by kernel_rfl) (by kernel_rfl) (by kernel_rfl) (fun _ _ _ h => h) (Or.inl ⟨by rfl, ?_⟩) (by first | exact ⟨c0, c1, kA', kL⟩) ?_
            rotate_left
            · (intro w hSw; obtain ⟨s0, s1, s2, s3⟩ := hSw; go_simp <;> with_reducible rfl)
            simp only [Act.put, List.setIfInBounds_toArray, List.set_cons_zero, List.set_cons_succ]
            refine wpAnyH_take (i := 3) (oi := ⟨some 50, .load 59 (.tmp 49), 59, "ref.go:116", #[⟨2, .data⟩], none⟩) (v := ?_) rfl (by kernel_rfl) (by kernel_rfl) (by kernel_rfl) (fun _ _ _ h => h) (Or.inl ⟨by rfl, ?_⟩) (by first | exact ⟨c0, c1, kA', kL⟩) ?_
            rotate_left
            · (intro w hSw; obtain ⟨s0, s1, s2, s3⟩ := hSw; go_simp <;> with_reducible rfl)
            simp only [Act.put, List.setIfInBounds_toArray, List.set_cons_zero, List.set_cons_succ]
            refine wpAnyH_take (i := 4) (oi := ⟨some 51, .move (.tmp 0), 27, "ref.go:116", #[], none⟩) (v := ?_) rfl (by kernel_rfl) (by kernel_rfl) (by kernel_rfl) (fun _ _ _ h => h) (Or.inl ⟨by rfl, ?_⟩) (by first | exact ⟨c0, c1, kA', kL⟩) ?_
            rotate_left
            · (intro w hSw; obtain ⟨s0, s1, s2, s3⟩ := hSw; go_simp <;> with_reducible rfl)
            simp only [Act.put, List.setIfInBounds_toArray, List.set_cons_zero, List.set_cons_succ]
            refine wpAnyH_take (i := 5) (oi := ⟨some 52, .nilCheck (.tmp 51), 0, "ref.go:116", #[⟨4, .data⟩], none⟩) (v := ?_) rfl (by kernel_rfl) (by kernel_rfl) (by kernel_rfl) (fun _ _ _ h => h) (Or.inl ⟨by rfl, ?_⟩) (by first | exact ⟨c0, c1, kA', kL⟩) ?_
            rotate_left
            · (intro w hSw; obtain ⟨s0, s1, s2, s3⟩ := hSw; go_simp <;> with_reducible rfl)
            simp only [Act.put, List.setIfInBounds_toArray, List.set_cons_zero, List.set_cons_succ]
            refine wpAnyH_take (i := 6) (oi := ⟨some 53, .fieldAddr 62 (.tmp 52) 1, 0, "ref.go:116", #[⟨5, .data⟩], none⟩) (v := ?_) rfl (by kernel_rfl) (by kernel_rfl) (by kernel_rfl) (fun _ _ _ h => h) (Or.inl ⟨by rfl, ?_⟩) (by first | exact ⟨c0, c1, kA', kL⟩) ?_
            rotate_left
            · (intro w hSw; obtain ⟨s0, s1, s2, s3⟩ := hSw; go_simp <;> with_reducible rfl)
            simp only [Act.put, List.setIfInBounds_toArray, List.set_cons_zero, List.set_cons_succ]
            refine wpAnyH_take (i := 7) (oi := ⟨some 54, .load 60 (.tmp 53), 60, "ref.go:116", #[⟨6, .data⟩], none⟩) (v := ?_) rfl (by kernel_rfl) (by kernel_rfl) (by kernel_rfl) (fun _ _ _ h => h) (Or.inl ⟨by rfl, ?_⟩) (by first | exact ⟨c0, c1, kA', kL⟩) ?_
            rotate_left
            · (intro w hSw; obtain ⟨s0, s1, s2, s3⟩ := hSw; go_simp <;> with_reducible rfl)
            simp only [Act.put, List.setIfInBounds_toArray, List.set_cons_zero, List.set_cons_succ]
            refine wpAnyH_take (i := 8) (oi := ⟨some 55, .move (.tmp 6), 3, "ref.go:116", #[], none⟩) (v := ?_) rfl (by kernel_rfl) (by kernel_rfl) (by kernel_rfl) (fun _ _ _ h => h) (Or.inl ⟨by rfl, ?_⟩) (by first | exact ⟨c0, c1, kA', kL⟩) ?_
            rotate_left
            · (intro w hSw; obtain ⟨s0, s1, s2, s3⟩ := hSw; go_simp <;> with_reducible rfl)
            simp only [Act.put, List.setIfInBounds_toArray, List.set_cons_zero, List.set_cons_succ]
            refine wpAnyH_take (i := 9) (oi := ⟨some 56, .indexAddr 60 (.tmp 54) (.tmp 55), 0, "ref.go:116", #[⟨7, .data⟩, ⟨8, .data⟩], none⟩) (v := ?_) rfl (by kernel_rfl) (by kernel_rfl) (by kernel_rfl) (fun _ _ _ h => h) (Or.inl ⟨by rfl, ?_⟩) (by first | exact ⟨c0, c1, kA', kL⟩) ?_
            rotate_left
            · (intro w hSw; obtain ⟨s0, s1, s2, s3⟩ := hSw; go_simp <;> with_reducible rfl)
            simp only [Act.put, List.setIfInBounds_toArray, List.set_cons_zero, List.set_cons_succ]
            refine wpAnyH_take (i := 10) (oi := ⟨some 57, .fieldAddr 76 (.tmp 56) 0, 0, "ref.go:116", #[⟨9, .data⟩], none⟩) (v := ?_) rfl (by kernel_rfl) (by kernel_rfl) (by kernel_rfl) (fun _ _ _ h => h) (Or.inl ⟨by rfl, ?_⟩) (by first | exact ⟨c0, c1, kA', kL⟩) ?_
            rotate_left
            · (intro w hSw; obtain ⟨s0, s1, s2, s3⟩ := hSw; go_simp <;> with_reducible rfl)
            simp only [Act.put, List.setIfInBounds_toArray, List.set_cons_zero, List.set_cons_succ]
            refine wpAnyH_take (i := 11) (oi := ⟨some 58, .load 3 (.tmp 57), 3, "ref.go:116", #[⟨10, .data⟩], none⟩) (v := ?_) rfl (by kernel_rfl) (by kernel_rfl) (by kernel_rfl) (fun _ _ _ h => h) (Or.inl ⟨by rfl, ?_⟩) (by first | exact ⟨c0, c1, kA', kL⟩) ?_
            rotate_left
            · (intro w hSw; obtain ⟨s0, s1, s2, s3⟩ := hSw; go_simp <;> with_reducible rfl)
            simp only [Act.put, List.setIfInBounds_toArray, List.set_cons_zero, List.set_cons_succ]
            refine wpAnyH_take (i := 12) (oi := ⟨some 59, .indexAddr 59 (.tmp 50) (.tmp 58), 0, "ref.go:116", #[⟨3, .data⟩, ⟨11, .data⟩], none⟩) (v := ?_) rfl (by kernel_rfl) (by kernel_rfl) (by kernel_rfl) (fun _ _ _ h => h) (Or.inl ⟨by rfl, ?_⟩) (by first | exact ⟨c0, c1, kA', kL⟩) ?_
            rotate_left
            · (intro w hSw; obtain ⟨s0, s1, s2, s3⟩ := hSw; go_simp <;> with_reducible rfl)
            simp only [Act.put, List.setIfInBounds_toArray, List.set_cons_zero, List.set_cons_succ]
            refine wpAnyH_take (i := 13) (oi := ⟨some 60, .load 33 (.tmp 59), 33, "ref.go:116", #[⟨12, .data⟩], none⟩) (v := ?_) rfl (by kernel_rfl) (by kernel_rfl) (by kernel_rfl) (fun _ _ _ h => h) (Or.inl ⟨by rfl, ?_⟩) (by first | exact ⟨c0, c1, kA', kL⟩) ?_
            rotate_left
            · (intro w hSw; obtain ⟨s0, s1, s2, s3⟩ := hSw; go_simp <;> with_reducible rfl)
            simp only [Act.put, List.setIfInBounds_toArray, List.set_cons_zero, List.set_cons_succ]
            refine wpAnyH_take (i := 14) (oi := ⟨some 8, .assign (.tmp 60), 33, "ref.go:116", #[⟨13, .data⟩, ⟨0, .phase⟩, ⟨1, .phase⟩, ⟨2, .phase⟩, ⟨3, .phase⟩, ⟨4, .phase⟩, ⟨5, .phase⟩, ⟨6, .phase⟩, ⟨7, .phase⟩, ⟨8, .phase⟩, ⟨9, .phase⟩, ⟨10, .phase⟩, ⟨11, .phase⟩, ⟨12, .phase⟩, ⟨13, .phase⟩], none⟩) (v := ?_) rfl (by kernel_rfl) (by kernel_rfl) (by kernel_rfl) (fun _ _ _ h => h) (Or.inl ⟨by rfl, ?_⟩) (by first | exact ⟨c0, c1, kA', kL⟩) ?_
            rotate_left
            · (intro w hSw; obtain ⟨s0, s1, s2, s3⟩ := hSw; go_simp <;> with_reducible rfl)
            simp only [Act.put, List.setIfInBounds_toArray, List.set_cons_zero, List.set_cons_succ]
            refine wpAnyH_done (by kernel_rfl) ?_ _
            have hrd := HR.out.far ((Adv.refl Nul wr).drew) (fun _ h _ => h)
            have HRD := Lib.hid hrd
            have HNE := Lib.hid hrd.ne_L
            have hfront := (SD.out.far ((Adv.refl Nul wr).drew) (fun _ h _ => h)).rd.front8 HM.out
            have HFRONT := Lib.hid hfront
            clear hrd hfront
            go_wp2_with (first
              | (go_at_call 31; refine (copy_any _ mi.toNat (q.2.take mi.toNat) _ HFRONT.out (Nat.le_trans HM.out (by decide))).mono ?_; rintro e w9 ⟨v9, F9, rfl, h9, a9⟩; obtain ⟨av9, cv9, rfl, _, _⟩ := h9.form0; have H9 := Lib.hid (h9.far ((Adv.refl Nul w9).drew) (fun _ h _ => h)); have A9 := Lib.hid (a9.drew); obtain ⟨d0, d1, dA⟩ := crash_cells HRD.out A9.out (k := k) (a := a) kA'; have RST0 := Lib.hid ((SL.out.far ((Adv.refl Nul wr).drew) (fun _ h _ => h)).far A9.out (fun _ h _ => h)).rd; clear h9 a9)
              | fail)
            refine wp_region_held_drew (S := (fun w' => w'.cell? ⟨c, 0, none⟩ = some (.slice (some ⟨gL, 0, none⟩) n cap) ∧ w'.cell? ⟨c, 1, none⟩ = some (.slice (some ⟨gQ, 0, none⟩) s.Q.length cq) ∧ w'.cell? ⟨gQ, k * 2, none⟩ = some (.int .i64 (a : Int)))) (by kernel_rfl) (by first | exact ⟨d0, d1, dA⟩ | exact ⟨E0.out, E1.out, EA.out⟩ | exact ⟨X0.out, X1.out, XA.out⟩) (fun hHeld => ?_)
            clear hHeld
            refine wpAnyH_take (i := 0) (oi := ⟨some 72, .move (.tmp 0), 27, "ref.go:118", #[], none⟩) (v := ?_) rfl (by kernel_rfl) (by kernel_rfl) (by kernel_rfl) (fun _ _ _ h => h) (Or.inl ⟨by rfl, ?_⟩) (by first | exact ⟨d0, d1, dA⟩ | exact ⟨E0.out, E1.out, EA.out⟩ | exact ⟨X0.out, X1.out, XA.out⟩) ?_
            rotate_left
            · (intro w hSw; obtain ⟨s0, s1, s2⟩ := hSw; go_simp <;> with_reducible rfl)
            simp only [Act.put, List.setIfInBounds_toArray, List.set_cons_zero, List.set_cons_succ]
            refine wpAnyH_take (i := 1) (oi := ⟨some 73, .nilCheck (.tmp 72), 0, "ref.go:118", #[⟨0, .data⟩], none⟩) (v := ?_) rfl (by kernel_rfl) (by kernel_rfl) (by kernel_rfl) (fun _ _ _ h => h) (Or.inl ⟨by rfl, ?_⟩) (by first | exact ⟨d0, d1, dA⟩ | exact ⟨E0.out, E1.out, EA.out⟩ | exact ⟨X0.out, X1.out, XA.out⟩) ?_
            rotate_left
            · (intro w hSw; obtain ⟨s0, s1, s2⟩ := hSw; go_simp <;> with_reducible rfl)
            simp only [Act.put, List.setIfInBounds_toArray, List.set_cons_zero, List.set_cons_succ]
            refine wpAnyH_take (i := 2) (oi := ⟨some 74, .fieldAddr 62 (.tmp 73) 0, 0, "ref.go:118", #[⟨1, .data⟩], none⟩) (v := ?_) rfl (by kernel_rfl) (by kernel_rfl) (by kernel_rfl) (fun _ _ _ h => h) (Or.inl ⟨by rfl, ?_⟩) (by first | exact ⟨d0, d1, dA⟩ | exact ⟨E0.out, E1.out, EA.out⟩ | exact ⟨X0.out, X1.out, XA.out⟩) ?_
            rotate_left
            · (intro w hSw; obtain ⟨s0, s1, s2⟩ := hSw; go_simp <;> with_reducible rfl)
            simp only [Act.put, List.setIfInBounds_toArray, List.set_cons_zero, List.set_cons_succ]
            refine wpAnyH_take (i := 3) (oi := ⟨some 75, .load 59 (.tmp 74), 59, "ref.go:118", #[⟨2, .data⟩], none⟩) (v := ?_) rfl (by kernel_rfl) (by kernel_rfl) (by kernel_rfl) (fun _ _ _ h => h) (Or.inl ⟨by rfl, ?_⟩) (by first | exact ⟨d0, d1, dA⟩ | exact ⟨E0.out, E1.out, EA.out⟩ | exact ⟨X0.out, X1.out, XA.out⟩) ?_
            rotate_left
            · (intro w hSw; obtain ⟨s0, s1, s2⟩ := hSw; go_simp <;> with_reducible rfl)
            simp only [Act.put, List.setIfInBounds_toArray, List.set_cons_zero, List.set_cons_succ]
            refine wpAnyH_take (i := 4) (oi := ⟨some 76, .move (.tmp 0), 27, "ref.go:118", #[], none⟩) (v := ?_) rfl (by kernel_rfl) (by kernel_rfl) (by kernel_rfl) (fun _ _ _ h => h) (Or.inl ⟨by rfl, ?_⟩) (by first | exact ⟨d0, d1, dA⟩ | exact ⟨E0.out, E1.out, EA.out⟩ | exact ⟨X0.out, X1.out, XA.out⟩) ?_
            rotate_left
            · (intro w hSw; obtain ⟨s0, s1, s2⟩ := hSw; go_simp <;> with_reducible rfl)
            simp only [Act.put, List.setIfInBounds_toArray, List.set_cons_zero, List.set_cons_succ]
            refine wpAnyH_take (i := 5) (oi := ⟨some 77, .nilCheck (.tmp 76), 0, "ref.go:118", #[⟨4, .data⟩], none⟩) (v := ?_) rfl (by kernel_rfl) (by kernel_rfl) (by kernel_rfl) (fun _ _ _ h => h) (Or.inl ⟨by rfl, ?_⟩) (by first | exact ⟨d0, d1, dA⟩ | exact ⟨E0.out, E1.out, EA.out⟩ | exact ⟨X0.out, X1.out, XA.out⟩) ?_
            rotate_left
            · (intro w hSw; obtain ⟨s0, s1, s2⟩ := hSw; go_simp <;> with_reducible rfl)
            simp only [Act.put, List.setIfInBounds_toArray, List.set_cons_zero, List.set_cons_succ]
            refine wpAnyH_take (i := 6) (oi := ⟨some 78, .fieldAddr 62 (.tmp 77) 1, 0, "ref.go:118", #[⟨5, .data⟩], none⟩) (v := ?_) rfl (by kernel_rfl) (by kernel_rfl) (by kernel_rfl) (fun _ _ _ h => h) (Or.inl ⟨by rfl, ?_⟩) (by first | exact ⟨d0, d1, dA⟩ | exact ⟨E0.out, E1.out, EA.out⟩ | exact ⟨X0.out, X1.out, XA.out⟩) ?_
            rotate_left
            · (intro w hSw; obtain ⟨s0, s1, s2⟩ := hSw; go_simp <;> with_reducible rfl)
            simp only [Act.put, List.setIfInBounds_toArray, List.set_cons_zero, List.set_cons_succ]
            refine wpAnyH_take (i := 7) (oi := ⟨some 79, .load 60 (.tmp 78), 60, "ref.go:118", #[⟨6, .data⟩], none⟩) (v := ?_) rfl (by kernel_rfl) (by kernel_rfl) (by kernel_rfl) (fun _ _ _ h => h) (Or.inl ⟨by rfl, ?_⟩) (by first | exact ⟨d0, d1, dA⟩ | exact ⟨E0.out, E1.out, EA.out⟩ | exact ⟨X0.out, X1.out, XA.out⟩) ?_
            rotate_left
            · (intro w hSw; obtain ⟨s0, s1, s2⟩ := hSw; go_simp <;> with_reducible rfl)
            simp only [Act.put, List.setIfInBounds_toArray, List.set_cons_zero, List.set_cons_succ]
            refine wpAnyH_take (i := 8) (oi := ⟨some 80, .move (.tmp 6), 3, "ref.go:118", #[], none⟩) (v := ?_) rfl (by kernel_rfl) (by kernel_rfl) (by kernel_rfl) (fun _ _ _ h => h) (Or.inl ⟨by rfl, ?_⟩) (by first | exact ⟨d0, d1, dA⟩ | exact ⟨E0.out, E1.out, EA.out⟩ | exact ⟨X0.out, X1.out, XA.out⟩) ?_
            rotate_left
            · (intro w hSw; obtain ⟨s0, s1, s2⟩ := hSw; go_simp <;> with_reducible rfl)
            simp only [Act.put, List.setIfInBounds_toArray, List.set_cons_zero, List.set_cons_succ]
            refine wpAnyH_take (i := 9) (oi := ⟨some 81, .indexAddr 60 (.tmp 79) (.tmp 80), 0, "ref.go:118", #[⟨7, .data⟩, ⟨8, .data⟩], none⟩) (v := ?_) rfl (by kernel_rfl) (by kernel_rfl) (by kernel_rfl) (fun _ _ _ h => h) (Or.inl ⟨by rfl, ?_⟩) (by first | exact ⟨d0, d1, dA⟩ | exact ⟨E0.out, E1.out, EA.out⟩ | exact ⟨X0.out, X1.out, XA.out⟩) ?_
            rotate_left
            · (intro w hSw; obtain ⟨s0, s1, s2⟩ := hSw; go_simp <;> with_reducible rfl)
            simp only [Act.put, List.setIfInBounds_toArray, List.set_cons_zero, List.set_cons_succ]
            refine wpAnyH_take (i := 10) (oi := ⟨some 82, .fieldAddr 76 (.tmp 81) 0, 0, "ref.go:118", #[⟨9, .data⟩], none⟩) (v := ?_) rfl (by kernel_rfl) (by kernel_rfl) (by kernel_rfl) (fun _ _ _ h => h) (Or.inl ⟨by rfl, ?_⟩) (by first | exact ⟨d0, d1, dA⟩ | exact ⟨E0.out, E1.out, EA.out⟩ | exact ⟨X0.out, X1.out, XA.out⟩) ?_
            rotate_left
            · (intro w hSw; obtain ⟨s0, s1, s2⟩ := hSw; go_simp <;> with_reducible rfl)
            simp only [Act.put, List.setIfInBounds_toArray, List.set_cons_zero, List.set_cons_succ]
            refine wpAnyH_take (i := 11) (oi := ⟨some 83, .load 3 (.tmp 82), 3, "ref.go:118", #[⟨10, .data⟩], none⟩) (v := ?_) rfl (by kernel_rfl) (by kernel_rfl) (by kernel_rfl) (fun _ _ _ h => h) (Or.inl ⟨by rfl, ?_⟩) (by first | exact ⟨d0, d1, dA⟩ | exact ⟨E0.out, E1.out, EA.out⟩ | exact ⟨X0.out, X1.out, XA.out⟩) ?_
            rotate_left
            · (intro w hSw; obtain ⟨s0, s1, s2⟩ := hSw; go_simp <;> with_reducible rfl)
            simp only [Act.put, List.setIfInBounds_toArray, List.set_cons_zero, List.set_cons_succ]
            refine wpAnyH_take (i := 12) (oi := ⟨some 84, .move (.tmp 9), 33, "ref.go:118", #[], none⟩) (v := ?_) rfl (by kernel_rfl) (by kernel_rfl) (by kernel_rfl) (fun _ _ _ h => h) (Or.inl ⟨by rfl, ?_⟩) (by first | exact ⟨d0, d1, dA⟩ | exact ⟨E0.out, E1.out, EA.out⟩ | exact ⟨X0.out, X1.out, XA.out⟩) ?_
            rotate_left
            · (intro w hSw; obtain ⟨s0, s1, s2⟩ := hSw; go_simp <;> with_reducible rfl)
            simp only [Act.put, List.setIfInBounds_toArray, List.set_cons_zero, List.set_cons_succ]
            refine wpAnyH_take (i := 13) (oi := ⟨some 85, .move (.tmp 8), 33, "ref.go:118", #[], none⟩) (v := ?_) rfl (by kernel_rfl) (by kernel_rfl) (by kernel_rfl) (fun _ _ _ h => h) (Or.inl ⟨by rfl, ?_⟩) (by first | exact ⟨d0, d1, dA⟩ | exact ⟨E0.out, E1.out, EA.out⟩ | exact ⟨X0.out, X1.out, XA.out⟩) ?_
            rotate_left
            · (intro w hSw; obtain ⟨s0, s1, s2⟩ := hSw; go_simp <;> with_reducible rfl)
            simp only [Act.put, List.setIfInBounds_toArray, List.set_cons_zero, List.set_cons_succ]
            refine wpAnyH_take (i := 14) (oi := ⟨some 86, .move (.tmp 7), 3, "ref.go:118", #[], none⟩) (v := ?_) rfl (by kernel_rfl) (by kernel_rfl) (by kernel_rfl) (fun _ _ _ h => h) (Or.inl ⟨by rfl, ?_⟩) (by first | exact ⟨d0, d1, dA⟩ | exact ⟨E0.out, E1.out, EA.out⟩ | exact ⟨X0.out, X1.out, XA.out⟩) ?_
            rotate_left
            · (intro w hSw; obtain ⟨s0, s1, s2⟩ := hSw; go_simp <;> with_reducible rfl)
            simp only [Act.put, List.setIfInBounds_toArray, List.set_cons_zero, List.set_cons_succ]
            refine wpAnyH_take (i := 15) (oi := ⟨some 87, .slice 33 (.tmp 85) (some (.tmp 86)) none none, 33, "ref.go:118", #[⟨13, .data⟩, ⟨14, .data⟩], none⟩) (v := ?_) rfl (by kernel_rfl) (by kernel_rfl) (by kernel_rfl) (fun _ _ _ h => h) (Or.inl ⟨by rfl, ?_⟩) (by first | exact ⟨d0, d1, dA⟩ | exact ⟨E0.out, E1.out, EA.out⟩ | exact ⟨X0.out, X1.out, XA.out⟩) ?_
            rotate_left
            · (intro w hSw; obtain ⟨s0, s1, s2⟩ := hSw; go_simp <;> with_reducible rfl)
            simp only [Act.put, List.setIfInBounds_toArray, List.set_cons_zero, List.set_cons_succ]
            refine wpAnyH_ready (rs := [16]) (by kernel_rfl) (by simp) ?_
            refine AllReadyH.cons (o := ⟨some 88, .call { callee := Go.Callee.builtin Go.Builtin.append, args := #[Go.Operand.tmp 84, Go.Operand.tmp 87], argTypes := #[33, 33] }, 33, "ref.go:118", #[⟨12, .data⟩, ⟨15, .data⟩], none⟩) rfl (fun K hK => ?_) AllReadyH.nil
            refine step_append_rd rfl (.tmp 84) (.tmp 87) rfl rfl rfl H9.out.own (by first | exact RST0.out.rest8 HM.out _ rfl | exact RST0.out.rest8 HM.out _ (by split <;> rfl)) (u8_one _) (app_le HM.out) ?_
            intro v10 w10 hown hg hat
            obtain ⟨⟨A6, n6, c6, rfl⟩, k1, k2, ⟨u6, k5⟩, k6, G2, k7, k8⟩ := crash_fin HRD.out A9.out H9.out HAN.out HM.out HQ2.out LL.out hown hg hat
            have E0 := Lib.hid ((World.cell?_of_block (k1 c HRD.out.inG)).trans HRD.out.c0)
            have E1 := Lib.hid ((World.cell?_of_block (k1 c HRD.out.inG)).trans HRD.out.c1)
            have EA := Lib.hid ((World.cell?_of_block (k1 gQ (HRD.out.q.inF gQ rfl))).trans kA')
            have X0 := Lib.hid ((World.cell?_of_block (k2 c HRD.out.inG HNE.out.1)).trans HRD.out.c0)
            have X1 := Lib.hid ((World.cell?_of_block (k2 c HRD.out.inG HNE.out.1)).trans HRD.out.c1)
            have XA := Lib.hid ((World.cell?_of_block (k2 gQ (HRD.out.q.inF gQ rfl) HNE.out.2)).trans kA')
            have HN := Lib.hid (rc_next HLT.out HST.out HK0.out HQA.out HRE'.out k7 (HA.out.trans (Adv.of_drew k8)))
            clear hown hg hat k1 k2 k7 k8
            refine hK.out _ _ (by first | exact ⟨d0, d1, dA⟩ | exact ⟨E0.out, E1.out, EA.out⟩ | exact ⟨X0.out, X1.out, XA.out⟩) (fun hHeld => ?_)
            clear hK K hHeld
            try simp only [Act.put, List.setIfInBounds_toArray, List.set_cons_zero, List.set_cons_succ]
            refine wpAnyH_take (i := 17) (oi := ⟨some 89, .indexAddr 59 (.tmp 75) (.tmp 83), 0, "ref.go:118", #[⟨3, .data⟩, ⟨11, .data⟩, ⟨0, .phase⟩, ⟨1, .phase⟩, ⟨2, .phase⟩, ⟨3, .phase⟩, ⟨4, .phase⟩, ⟨5, .phase⟩, ⟨6, .phase⟩, ⟨7, .phase⟩, ⟨8, .phase⟩, ⟨9, .phase⟩, ⟨10, .phase⟩, ⟨11, .phase⟩, ⟨12, .phase⟩, ⟨13, .phase⟩, ⟨14, .phase⟩, ⟨15, .phase⟩, ⟨16, .phase⟩], none⟩) (v := ?_) rfl (by kernel_rfl) (by kernel_rfl) (by kernel_rfl) (fun _ _ _ h => h) (Or.inl ⟨by rfl, ?_⟩) (by first | exact ⟨d0, d1, dA⟩ | exact ⟨E0.out, E1.out, EA.out⟩ | exact ⟨X0.out, X1.out, XA.out⟩) ?_
            rotate_left
            · (intro w hSw; obtain ⟨s0, s1, s2⟩ := hSw; go_simp <;> with_reducible rfl)
            simp only [Act.put, List.setIfInBounds_toArray, List.set_cons_zero, List.set_cons_succ]
            refine wpAnyH_ready (rs := [18]) (by kernel_rfl) (by simp) ?_
            refine AllReadyH.cons (o := ⟨none, .store 33 (.tmp 89) (.tmp 88), 0, "ref.go:118", #[⟨17, .data⟩, ⟨16, .data⟩, ⟨16, .chain⟩, ⟨0, .phase⟩, ⟨1, .phase⟩, ⟨2, .phase⟩, ⟨3, .phase⟩, ⟨4, .phase⟩, ⟨5, .phase⟩, ⟨6, .phase⟩, ⟨7, .phase⟩, ⟨8, .phase⟩, ⟨9, .phase⟩, ⟨10, .phase⟩, ⟨11, .phase⟩, ⟨12, .phase⟩, ⟨13, .phase⟩, ⟨14, .phase⟩, ⟨15, .phase⟩, ⟨16, .phase⟩], none⟩) rfl (fun K hK => ?_) AllReadyH.nil
            go_simp
            refine hK.out _ _ (by first | exact ⟨d0, d1, dA⟩ | exact ⟨E0.out, E1.out, EA.out⟩ | exact ⟨X0.out, X1.out, XA.out⟩) (fun hHeld => ?_)
            clear hK K hHeld
            try simp only [Act.put]
            refine wpAnyH_done (by kernel_rfl) ?_ _
            go_wp2_with fail
            exact ⟨HN.out, HMS.out⟩
        · have hki : (m0 : Int) ≤ (k : Int) := by omega
          have HK0 := Lib.hid (show kept ks torn s.Q.length k = (0 : Int).toNat by rw [hkept0, List.getD_eq_getElem?_getD, List.getElem?_eq_none (by have := HKL.out; omega)]; simp)
          clear hkept0
          go_wp2_with fail
          obtain ⟨mi, hmi⟩ : ∃ mi : Int, mi = 0 := ⟨_, rfl⟩
          rw [← hmi]
          obtain ⟨hm0, hm1, hmn, hmcd, hmcr⟩ := mi_facts hmi (by decide) HCD.out HCR.out
          replace HK0 := Lib.hid (HK0.out.trans (congrArg Int.toNat hmi).symm)
          have HM := Lib.hid hmn
          have HMS := Lib.hid (rc_meas HLT.out)
          clear hmi hmn
          refine wp_region_held_drew (S := (fun w' => w'.cell? ⟨c, 0, none⟩ = some (.slice (some ⟨gL, 0, none⟩) n cap) ∧ w'.cell? ⟨c, 1, none⟩ = some (.slice (some ⟨gQ, 0, none⟩) s.Q.length cq) ∧ w'.cell? ⟨gQ, k * 2, none⟩ = some (.int .i64 (a : Int)) ∧ w'.cell? ⟨gL, a, none⟩ = some (.slice (some ⟨gr, 0, none⟩) 128 cr))) (by kernel_rfl) (by first | exact ⟨c0, c1, kA', kL⟩) (fun hHeld => ?_)
          clear hHeld
          refine wpAnyH_take (i := 0) (oi := ⟨some 47, .move (.tmp 0), 27, "ref.go:116", #[], none⟩) (v := ?_) rfl (by kernel_rfl) (by kernel_rfl) (by kernel_rfl) (fun _ _ _ h => h) (Or.inl ⟨by rfl, ?_⟩) (by first | exact ⟨c0, c1, kA', kL⟩) ?_
          rotate_left
          · (intro w hSw; obtain ⟨s0, s1, s2, s3⟩ := hSw; go_simp <;> with_reducible rfl)
          simp only [Act.put, List.setIfInBounds_toArray, List.set_cons_zero, List.set_cons_succ]
          refine wpAnyH_take (i := 1) (oi := ⟨some 48, .nilCheck (.tmp 47), 0, "ref.go:116", #[⟨0, .data⟩], none⟩) (v := ?_) rfl (by kernel_rfl) (by kernel_rfl) (by kernel_rfl) (fun _ _ _ h => h) (Or.inl ⟨by rfl, ?_⟩) (by first | exact ⟨c0, c1, kA', kL⟩) ?_
          rotate_left
          · (intro w hSw; obtain ⟨s0, s1, s2, s3⟩ := hSw; go_simp <;> with_reducible rfl)
          simp only [Act.put, List.setIfInBounds_toArray, List.set_cons_zero, List.set_cons_succ]
          refine wpAnyH_take (i := 2) (oi := ⟨some 49, .fieldAddr 62 (.tmp 48) 0, 0, "ref.go:116", #[⟨1, .data⟩], none⟩) (v := ?_) rfl (by kernel_rfl) (by kernel_rfl) (by kernel_rfl) (fun _ _ _ h => h) (Or.inl ⟨by rfl, ?_⟩) (by first | exact ⟨c0, c1, kA', kL⟩) ?_
          rotate_left
          · (intro w hSw; obtain ⟨s0, s1, s2, s3⟩ := hSw; go_simp <;> with_reducible rfl)
          simp only [Act.put, List.setIfInBounds_toArray, List.set_cons_zero, List.set_cons_succ]
          refine wpAnyH_take (i := 3) (oi := ⟨some 50, .load 59 (.tmp 49), 59, "ref.go:116", #[⟨2, .data⟩], none⟩) (v := ?_) rfl (by kernel_rfl) (by kernel_rfl) (by kernel_rfl) (fun _ _ _ h => h) (Or.inl ⟨by rfl, ?_⟩) (by first | exact ⟨c0, c1, kA', kL⟩) ?_
          rotate_left
          · (intro w hSw; obtain ⟨s0, s1, s2, s3⟩ := hSw; go_simp <;> with_reducible rfl)
          simp only [Act.put, List.setIfInBounds_toArray, List.set_cons_zero, List.set_cons_succ]
          refine wpAnyH_take (i := 4) (oi := ⟨some 51, .move (.tmp 0), 27, "ref.go:116", #[], none⟩) (v := ?_) rfl (by kernel_rfl) (by kernel_rfl) (by kernel_rfl) (fun _ _ _ h => h) (Or.inl ⟨by rfl, ?_⟩) (by first | exact ⟨c0, c1, kA', kL⟩) ?_
          rotate_left
          · (intro w hSw; obtain ⟨s0, s1, s2, s3⟩ := hSw; go_simp <;> with_reducible rfl)
          simp only [Act.put, List.setIfInBounds_toArray, List.set_cons_zero, List.set_cons_succ]
          refine wpAnyH_take (i := 5) (oi := ⟨some 52, .nilCheck (.tmp 51), 0, "ref.go:116", #[⟨4, .data⟩], none⟩) (v := ?_) rfl (by kernel_rfl) (by kernel_rfl) (by kernel_rfl) (fun _ _ _ h => h) (Or.inl ⟨by rfl, ?_⟩) (by first | exact ⟨c0, c1, kA', kL⟩) ?_
          rotate_left
          · (intro w hSw; obtain ⟨s0, s1, s2, s3⟩ := hSw; go_simp <;> with_reducible rfl)
          simp only [Act.put, List.setIfInBounds_toArray, List.set_cons_zero, List.set_cons_succ]
          refine wpAnyH_take (i := 6) (oi := ⟨some 53, .fieldAddr 62 (.tmp 52) 1, 0, "ref.go:116", #[⟨5, .data⟩], none⟩) (v := ?_) rfl (by kernel_rfl) (by kernel_rfl) (by kernel_rfl) (fun _ _ _ h => h) (Or.inl ⟨by rfl, ?_⟩) (by first | exact ⟨c0, c1, kA', kL⟩) ?_
          rotate_left
          · (intro w hSw; obtain ⟨s0, s1, s2, s3⟩ := hSw; go_simp <;> with_reducible rfl)
          simp only [Act.put, List.setIfInBounds_toArray, List.set_cons_zero, List.set_cons_succ]
          refine wpAnyH_take (i := 7) (oi := ⟨some 54, .load 60 (.tmp 53), 60, "ref.go:116", #[⟨6, .data⟩], none⟩) (v := ?_) rfl (by kernel_rfl) (by kernel_rfl) (by kernel_rfl) (fun _ _ _ h => h) (Or.inl ⟨by rfl, ?_⟩) (by first | exact ⟨c0, c1, kA', kL⟩) ?_
          rotate_left
          · (intro w hSw; obtain ⟨s0, s1, s2, s3⟩ := hSw; go_simp <;> with_reducible rfl)
          simp only [Act.put, List.setIfInBounds_toArray, List.set_cons_zero, List.set_cons_succ]
          refine wpAnyH_take (i := 8) (oi := ⟨some 55, .move (.tmp 6), 3, "ref.go:116", #[], none⟩) (v := ?_) rfl (by kernel_rfl) (by kernel_rfl) (by kernel_rfl) (fun _ _ _ h => h) (Or.inl ⟨by rfl, ?_⟩) (by first | exact ⟨c0, c1, kA', kL⟩) ?_
          rotate_left
          · (intro w hSw; obtain ⟨s0, s1, s2, s3⟩ := hSw; go_simp <;> with_reducible rfl)
          simp only [Act.put, List.setIfInBounds_toArray, List.set_cons_zero, List.set_cons_succ]
          refine wpAnyH_take (i := 9) (oi := ⟨some 56, .indexAddr 60 (.tmp 54) (.tmp 55), 0, "ref.go:116", #[⟨7, .data⟩, ⟨8, .data⟩], none⟩) (v := ?_) rfl (by kernel_rfl) (by kernel_rfl) (by kernel_rfl) (fun _ _ _ h => h) (Or.inl ⟨by rfl, ?_⟩) (by first | exact ⟨c0, c1, kA', kL⟩) ?_
          rotate_left
          · (intro w hSw; obtain ⟨s0, s1, s2, s3⟩ := hSw; go_simp <;> with_reducible rfl)
          simp only [Act.put, List.setIfInBounds_toArray, List.set_cons_zero, List.set_cons_succ]
          refine wpAnyH_take (i := 10) (oi := ⟨some 57, .fieldAddr 76 (.tmp 56) 0, 0, "ref.go:116", #[⟨9, .data⟩], none⟩) (v := ?_) rfl (by kernel_rfl) (by kernel_rfl) (by kernel_rfl) (fun _ _ _ h => h) (Or.inl ⟨by rfl, ?_⟩) (by first | exact ⟨c0, c1, kA', kL⟩) ?_
          rotate_left
          · (intro w hSw; obtain ⟨s0, s1, s2, s3⟩ := hSw; go_simp <;> with_reducible rfl)
          simp only [Act.put, List.setIfInBounds_toArray, List.set_cons_zero, List.set_cons_succ]
          refine wpAnyH_take (i := 11) (oi := ⟨some 58, .load 3 (.tmp 57), 3, "ref.go:116", #[⟨10, .data⟩], none⟩) (v := ?_) rfl (by kernel_rfl) (by kernel_rfl) (by kernel_rfl) (fun _ _ _ h => h) (Or.inl ⟨by rfl, ?_⟩) (by first | exact ⟨c0, c1, kA', kL⟩) ?_
          rotate_left
          · (intro w hSw; obtain ⟨s0, s1, s2, s3⟩ := hSw; go_simp <;> with_reducible rfl)
          simp only [Act.put, List.setIfInBounds_toArray, List.set_cons_zero, List.set_cons_succ]
          refine wpAnyH_take (i := 12) (oi := ⟨some 59, .indexAddr 59 (.tmp 50) (.tmp 58), 0, "ref.go:116", #[⟨3, .data⟩, ⟨11, .data⟩], none⟩) (v := ?_) rfl (by kernel_rfl) (by kernel_rfl) (by kernel_rfl) (fun _ _ _ h => h) (Or.inl ⟨by rfl, ?_⟩) (by first | exact ⟨c0, c1, kA', kL⟩) ?_
          rotate_left
          · (intro w hSw; obtain ⟨s0, s1, s2, s3⟩ := hSw; go_simp <;> with_reducible rfl)
          simp only [Act.put, List.setIfInBounds_toArray, List.set_cons_zero, List.set_cons_succ]
          refine wpAnyH_take (i := 13) (oi := ⟨some 60, .load 33 (.tmp 59), 33, "ref.go:116", #[⟨12, .data⟩], none⟩) (v := ?_) rfl (by kernel_rfl) (by kernel_rfl) (by kernel_rfl) (fun _ _ _ h => h) (Or.inl ⟨by rfl, ?_⟩) (by first | exact ⟨c0, c1, kA', kL⟩) ?_
          rotate_left
          · (intro w hSw; obtain ⟨s0, s1, s2, s3⟩ := hSw; go_simp <;> with_reducible rfl)
          simp only [Act.put, List.setIfInBounds_toArray, List.set_cons_zero, List.set_cons_succ]
          refine wpAnyH_take (i := 14) (oi := ⟨some 8, .assign (.tmp 60), 33, "ref.go:116", #[⟨13, .data⟩, ⟨0, .phase⟩, ⟨1, .phase⟩, ⟨2, .phase⟩, ⟨3, .phase⟩, ⟨4, .phase⟩, ⟨5, .phase⟩, ⟨6, .phase⟩, ⟨7, .phase⟩, ⟨8, .phase⟩, ⟨9, .phase⟩, ⟨10, .phase⟩, ⟨11, .phase⟩, ⟨12, .phase⟩, ⟨13, .phase⟩], none⟩) (v := ?_) rfl (by kernel_rfl) (by kernel_rfl) (by kernel_rfl) (fun _ _ _ h => h) (Or.inl ⟨by rfl, ?_⟩) (by first | exact ⟨c0, c1, kA', kL⟩) ?_
          rotate_left
          · (intro w hSw; obtain ⟨s0, s1, s2, s3⟩ := hSw; go_simp <;> with_reducible rfl)
          simp only [Act.put, List.setIfInBounds_toArray, List.set_cons_zero, List.set_cons_succ]
          refine wpAnyH_done (by kernel_rfl) ?_ _
          have hrd := HR.out.far ((Adv.refl Nul wr).drew) (fun _ h _ => h)
          have HRD := Lib.hid hrd
          have HNE := Lib.hid hrd.ne_L
          have hfront := (SD.out.far ((Adv.refl Nul wr).drew) (fun _ h _ => h)).rd.front8 HM.out
          have HFRONT := Lib.hid hfront
          clear hrd hfront
          go_wp2_with (first
            | (go_at_call 31; refine (copy_any _ mi.toNat (q.2.take mi.toNat) _ HFRONT.out (Nat.le_trans HM.out (by decide))).mono ?_; rintro e w9 ⟨v9, F9, rfl, h9, a9⟩; obtain ⟨av9, cv9, rfl, _, _⟩ := h9.form0; have H9 := Lib.hid (h9.far ((Adv.refl Nul w9).drew) (fun _ h _ => h)); have A9 := Lib.hid (a9.drew); obtain ⟨d0, d1, dA⟩ := crash_cells HRD.out A9.out (k := k) (a := a) kA'; have RST0 := Lib.hid ((SL.out.far ((Adv.refl Nul wr).drew) (fun _ h _ => h)).far A9.out (fun _ h _ => h)).rd; clear h9 a9)
            | fail)
          refine wp_region_held_drew (S := (fun w' => w'.cell? ⟨c, 0, none⟩ = some (.slice (some ⟨gL, 0, none⟩) n cap) ∧ w'.cell? ⟨c, 1, none⟩ = some (.slice (some ⟨gQ, 0, none⟩) s.Q.length cq) ∧ w'.cell? ⟨gQ, k * 2, none⟩ = some (.int .i64 (a : Int)))) (by kernel_rfl) (by first | exact ⟨d0, d1, dA⟩ | exact ⟨E0.out, E1.out, EA.out⟩ | exact ⟨X0.out, X1.out, XA.out⟩) (fun hHeld => ?_)
          clear hHeld
          refine wpAnyH_take (i := 0) (oi := ⟨some 72, .move (.tmp 0), 27, "ref.go:118", #[], none⟩) (v := ?_) rfl (by kernel_rfl) (by kernel_rfl) (by kernel_rfl) (fun _ _ _ h => h) (Or.inl ⟨by rfl, ?_⟩) (by first | exact ⟨d0, d1, dA⟩ | exact ⟨E0.out, E1.out, EA.out⟩ | exact ⟨X0.out, X1.out, XA.out⟩) ?_
          rotate_left
          · (intro w hSw; obtain ⟨s0, s1, s2⟩ := hSw; go_simp <;> with_reducible rfl)
          simp only [Act.put, List.setIfInBounds_toArray, List.set_cons_zero, List.set_cons_succ]
          refine wpAnyH_take (i := 1) (oi := ⟨some 73, .nilCheck (.tmp 72), 0, "ref.go:118", #[⟨0, .data⟩], none⟩) (v := ?_) rfl (by kernel_rfl) (by kernel_rfl) (by kernel_rfl) (fun _ _ _ h => h) (Or.inl ⟨by rfl, ?_⟩) (by first | exact ⟨d0, d1, dA⟩ | exact ⟨E0.out, E1.out, EA.out⟩ | exact ⟨X0.out, X1.out, XA.out⟩) ?_
          rotate_left
          · (intro w hSw; obtain ⟨s0, s1, s2⟩ := hSw; go_simp <;> with_reducible rfl)
          simp only [Act.put, List.setIfInBounds_toArray, List.set_cons_zero, List.set_cons_succ]
          refine wpAnyH_take (i := 2) (oi := ⟨some 74, .fieldAddr 62 (.tmp 73) 0, 0, "ref.go:118", #[⟨1, .data⟩], none⟩) (v := ?_) rfl (by kernel_rfl) (by kernel_rfl) (by kernel_rfl) (fun _ _ _ h => h) (Or.inl ⟨by rfl, ?_⟩) (by first | exact ⟨d0, d1, dA⟩ | exact ⟨E0.out, E1.out, EA.out⟩ | exact ⟨X0.out, X1.out, XA.out⟩) ?_
          rotate_left
          · (intro w hSw; obtain ⟨s0, s1, s2⟩ := hSw; go_simp <;> with_reducible rfl)
          simp only [Act.put, List.setIfInBounds_toArray, List.set_cons_zero, List.set_cons_succ]
          refine wpAnyH_take (i := 3) (oi := ⟨some 75, .load 59 (.tmp 74), 59, "ref.go:118", #[⟨2, .data⟩], none⟩) (v := ?_) rfl (by kernel_rfl) (by kernel_rfl) (by kernel_rfl) (fun _ _ _ h => h) (Or.inl ⟨by rfl, ?_⟩) (by first | exact ⟨d0, d1, dA⟩ | exact ⟨E0.out, E1.out, EA.out⟩ | exact ⟨X0.out, X1.out, XA.out⟩) ?_
          rotate_left
          · (intro w hSw; obtain ⟨s0, s1, s2⟩ := hSw; go_simp <;> with_reducible rfl)
          simp only [Act.put, List.setIfInBounds_toArray, List.set_cons_zero, List.set_cons_succ]
          refine wpAnyH_take (i := 4) (oi := ⟨some 76, .move (.tmp 0), 27, "ref.go:118", #[], none⟩) (v := ?_) rfl (by kernel_rfl) (by kernel_rfl) (by kernel_rfl) (fun _ _ _ h => h) (Or.inl ⟨by rfl, ?_⟩) (by first | exact ⟨d0, d1, dA⟩ | exact ⟨E0.out, E1.out, EA.out⟩ | exact ⟨X0.out, X1.out, XA.out⟩) ?_
          rotate_left
          · (intro w hSw; obtain ⟨s0, s1, s2⟩ := hSw; go_simp <;> with_reducible rfl)
          simp only [Act.put, List.setIfInBounds_toArray, List.set_cons_zero, List.set_cons_succ]
          refine wpAnyH_take (i := 5) (oi := ⟨some 77, .nilCheck (.tmp 76), 0, "ref.go:118", #[⟨4, .data⟩], none⟩) (v := ?_) rfl (by kernel_rfl) (by kernel_rfl) (by kernel_rfl) (fun _ _ _ h => h) (Or.inl ⟨by rfl, ?_⟩) (by first | exact ⟨d0, d1, dA⟩ | exact ⟨E0.out, E1.out, EA.out⟩ | exact ⟨X0.out, X1.out, XA.out⟩) ?_
          rotate_left
          · (intro w hSw; obtain ⟨s0, s1, s2⟩ := hSw; go_simp <;> with_reducible rfl)
          simp only [Act.put, List.setIfInBounds_toArray, List.set_cons_zero, List.set_cons_succ]
          refine wpAnyH_take (i := 6) (oi := ⟨some 78, .fieldAddr 62 (.tmp 77) 1, 0, "ref.go:118", #[⟨5, .data⟩], none⟩) (v := ?_) rfl (by kernel_rfl) (by kernel_rfl) (by kernel_rfl) (fun _ _ _ h => h) (Or.inl ⟨by rfl, ?_⟩) (by first | exact ⟨d0, d1, dA⟩ | exact ⟨E0.out, E1.out, EA.out⟩ | exact ⟨X0.out, X1.out, XA.out⟩) ?_
          rotate_left
          · (intro w hSw; obtain ⟨s0, s1, s2⟩ := hSw; go_simp <;> with_reducible rfl)
          simp only [Act.put, List.setIfInBounds_toArray, List.set_cons_zero, List.set_cons_succ]
          refine wpAnyH_take (i := 7) (oi := ⟨some 79, .load 60 (.tmp 78), 60, "ref.go:118", #[⟨6, .data⟩], none⟩) (v := ?_) rfl (by kernel_rfl) (by kernel_rfl) (by kernel_rfl) (fun _ _ _ h => h) (Or.inl ⟨by rfl, ?_⟩) (by first | exact ⟨d0, d1, dA⟩ | exact ⟨E0.out, E1.out, EA.out⟩ | exact ⟨X0.out, X1.out, XA.out⟩) ?_
          rotate_left
          · (intro w hSw; obtain ⟨s0, s1, s2⟩ := hSw; go_simp <;> with_reducible rfl)
          simp only [Act.put, List.setIfInBounds_toArray, List.set_cons_zero, List.set_cons_succ]
          refine wpAnyH_take (i := 8) (oi := ⟨some 80, .move (.tmp 6), 3, "ref.go:118", #[], none⟩) (v := ?_) rfl (by kernel_rfl) (by kernel_rfl) (by kernel_rfl) (fun _ _ _ h => h) (Or.inl ⟨by rfl, ?_⟩) (by first | exact ⟨d0, d1, dA⟩ | exact ⟨E0.out, E1.out, EA.out⟩ | exact ⟨X0.out, X1.out, XA.out⟩) ?_
          rotate_left
          · (intro w hSw; obtain ⟨s0, s1, s2⟩ := hSw; go_simp <;> with_reducible rfl)
          simp only [Act.put, List.setIfInBounds_toArray, List.set_cons_zero, List.set_cons_succ]
          refine wpAnyH_take (i := 9) (oi := ⟨some 81, .indexAddr 60 (.tmp 79) (.tmp 80), 0, "ref.go:118", #[⟨7, .data⟩, ⟨8, .data⟩], none⟩) (v := ?_) rfl (by kernel_rfl) (by kernel_rfl) (by kernel_rfl) (fun _ _ _ h => h) (Or.inl ⟨by rfl, ?_⟩) (by first | exact ⟨d0, d1, dA⟩ | exact ⟨E0.out, E1.out, EA.out⟩ | exact ⟨X0.out, X1.out, XA.out⟩) ?_
          rotate_left
          · (intro w hSw; obtain ⟨s0, s1, s2⟩ := hSw; go_simp <;> with_reducible rfl)
          simp only [Act.put, List.setIfInBounds_toArray, List.set_cons_zero, List.set_cons_succ]
          refine wpAnyH_take (i := 10) (oi := ⟨some 82, .fieldAddr 76 (.tmp 81) 0, 0, "ref.go:118", #[⟨9, .data⟩], none⟩) (v := ?_) rfl (by kernel_rfl) (by kernel_rfl) (by kernel_rfl) (fun _ _ _ h => h) (Or.inl ⟨by rfl, ?_⟩) (by first | exact ⟨d0, d1, dA⟩ | exact ⟨E0.out, E1.out, EA.out⟩ | exact ⟨X0.out, X1.out, XA.out⟩) ?_
          rotate_left
          · (intro w hSw; obtain ⟨s0, s1, s2⟩ := hSw; go_simp <;> with_reducible rfl)
          simp only [Act.put, List.setIfInBounds_toArray, List.set_cons_zero, List.set_cons_succ]
          refine wpAnyH_take (i := 11) (oi := ⟨some 83, .load 3 (.tmp 82), 3, "ref.go:118", #[⟨10, .data⟩], none⟩) (v := ?_) rfl (by kernel_rfl) (by kernel_rfl) (by kernel_rfl) (fun _ _ _ h => h) (Or.inl ⟨by rfl, ?_⟩) (by first | exact ⟨d0, d1, dA⟩ | exact ⟨E0.out, E1.out, EA.out⟩ | exact ⟨X0.out, X1.out, XA.out⟩) ?_
          rotate_left
          · (intro w hSw; obtain ⟨s0, s1, s2⟩ := hSw; go_simp <;> with_reducible rfl)
          simp only [Act.put, List.setIfInBounds_toArray, List.set_cons_zero, List.set_cons_succ]
          refine wpAnyH_take (i := 12) (oi := ⟨some 84, .move (.tmp 9), 33, "ref.go:118", #[], none⟩) (v := ?_) rfl (by kernel_rfl) (by kernel_rfl) (by kernel_rfl) (fun _ _ _ h => h) (Or.inl ⟨by rfl, ?_⟩) (by first | exact ⟨d0, d1, dA⟩ | exact ⟨E0.out, E1.out, EA.out⟩ | exact ⟨X0.out, X1.out, XA.out⟩) ?_
          rotate_left
          · (intro w hSw; obtain ⟨s0, s1, s2⟩ := hSw; go_simp <;> with_reducible rfl)
          simp only [Act.put, List.setIfInBounds_toArray, List.set_cons_zero, List.set_cons_succ]
          refine wpAnyH_take (i := 13) (oi := ⟨some 85, .move (.tmp 8), 33, "ref.go:118", #[], none⟩) (v := ?_) rfl (by kernel_rfl) (by kernel_rfl) (by kernel_rfl) (fun _ _ _ h => h) (Or.inl ⟨by rfl, ?_⟩) (by first | exact ⟨d0, d1, dA⟩ | exact ⟨E0.out, E1.out, EA.out⟩ | exact ⟨X0.out, X1.out, XA.out⟩) ?_
          rotate_left
          · (intro w hSw; obtain ⟨s0, s1, s2⟩ := hSw; go_simp <;> with_reducible rfl)
          simp only [Act.put, List.setIfInBounds_toArray, List.set_cons_zero, List.set_cons_succ]
          refine wpAnyH_take (i := 14) (oi := ⟨some 86, .move (.tmp 7), 3, "ref.go:118", #[], none⟩) (v := ?_) rfl (by kernel_rfl) (by kernel_rfl) (by kernel_rfl) (fun _ _ _ h => h) (Or.inl ⟨by rfl, ?_⟩) (by first | exact ⟨d0, d1, dA⟩ | exact ⟨E0.out, E1.out, EA.out⟩ | exact ⟨X0.out, X1.out, XA.out⟩) ?_
          rotate_left
          · (intro w hSw; obtain ⟨s0, s1, s2⟩ := hSw; go_simp <;> with_reducible rfl)
          simp only [Act.put, List.setIfInBounds_toArray, List.set_cons_zero, List.set_cons_succ]
          refine wpAnyH_take (i := 15) (oi := ⟨some 87, .slice 33 (.tmp 85) (some (.tmp 86)) none none, 33, "ref.go:118", #[⟨13, .data⟩, ⟨14, .data⟩], none⟩) (v := ?_) rfl (by kernel_rfl) (by kernel_rfl) (by kernel_rfl) (fun _ _ _ h => h) (Or.inl ⟨by rfl, ?_⟩) (by first | exact ⟨d0, d1, dA⟩ | exact ⟨E0.out, E1.out, EA.out⟩ | exact ⟨X0.out, X1.out, XA.out⟩) ?_
          rotate_left
          · (intro w hSw; obtain ⟨s0, s1, s2⟩ := hSw; go_simp <;> with_reducible rfl)
          simp only [Act.put, List.setIfInBounds_toArray, List.set_cons_zero, List.set_cons_succ]
          refine wpAnyH_ready (rs := [16]) (by kernel_rfl) (by simp) ?_
          refine AllReadyH.cons (o := ⟨some 88, .call { callee := Go.Callee.builtin Go.Builtin.append, args := #[Go.Operand.tmp 84, Go.Operand.tmp 87], argTypes := #[33, 33] }, 33, "ref.go:118", #[⟨12, .data⟩, ⟨15, .data⟩], none⟩) rfl (fun K hK => ?_) AllReadyH.nil
          refine step_append_rd rfl (.tmp 84) (.tmp 87) rfl rfl rfl H9.out.own (by first | exact RST0.out.rest8 HM.out _ rfl | exact RST0.out.rest8 HM.out _ (by split <;> rfl)) (u8_one _) (app_le HM.out) ?_
          intro v10 w10 hown hg hat
          obtain ⟨⟨A6, n6, c6, rfl⟩, k1, k2, ⟨u6, k5⟩, k6, G2, k7, k8⟩ := crash_fin HRD.out A9.out H9.out HAN.out HM.out HQ2.out LL.out hown hg hat
          have E0 := Lib.hid ((World.cell?_of_block (k1 c HRD.out.inG)).trans HRD.out.c0)
          have E1 := Lib.hid ((World.cell?_of_block (k1 c HRD.out.inG)).trans HRD.out.c1)
          have EA := Lib.hid ((World.cell?_of_block (k1 gQ (HRD.out.q.inF gQ rfl))).trans kA')
          have X0 := Lib.hid ((World.cell?_of_block (k2 c HRD.out.inG HNE.out.1)).trans HRD.out.c0)
          have X1 := Lib.hid ((World.cell?_of_block (k2 c HRD.out.inG HNE.out.1)).trans HRD.out.c1)
          have XA := Lib.hid ((World.cell?_of_block (k2 gQ (HRD.out.q.inF gQ rfl) HNE.out.2)).trans kA')
          have HN := Lib.hid (rc_next HLT.out HST.out HK0.out HQA.out HRE'.out k7 (HA.out.trans (Adv.of_drew k8)))
          clear hown hg hat k1 k2 k7 k8
          refine hK.out _ _ (by first | exact ⟨d0, d1, dA⟩ | exact ⟨E0.out, E1.out, EA.out⟩ | exact ⟨X0.out, X1.out, XA.out⟩) (fun hHeld => ?_)
          clear hK K hHeld
          try simp only [Act.put, List.setIfInBounds_toArray, List.set_cons_zero, List.set_cons_succ]
          refine wpAnyH_take (i := 17) (oi := ⟨some 89, .indexAddr 59 (.tmp 75) (.tmp 83), 0, "ref.go:118", #[⟨3, .data⟩, ⟨11, .data⟩, ⟨0, .phase⟩, ⟨1, .phase⟩, ⟨2, .phase⟩, ⟨3, .phase⟩, ⟨4, .phase⟩, ⟨5, .phase⟩, ⟨6, .phase⟩, ⟨7, .phase⟩, ⟨8, .phase⟩, ⟨9, .phase⟩, ⟨10, .phase⟩, ⟨11, .phase⟩, ⟨12, .phase⟩, ⟨13, .phase⟩, ⟨14, .phase⟩, ⟨15, .phase⟩, ⟨16, .phase⟩], none⟩) (v := ?_) rfl (by kernel_rfl) (by kernel_rfl) (by kernel_rfl) (fun _ _ _ h => h) (Or.inl ⟨by rfl, ?_⟩) (by first | exact ⟨d0, d1, dA⟩ | exact ⟨E0.out, E1.out, EA.out⟩ | exact ⟨X0.out, X1.out, XA.out⟩) ?_
          rotate_left
          · (intro w hSw; obtain ⟨s0, s1, s2⟩ := hSw; go_simp <;> with_reducible rfl)
          simp only [Act.put, List.setIfInBounds_toArray, List.set_cons_zero, List.set_cons_succ]
          refine wpAnyH_ready (rs := [18]) (by kernel_rfl) (by simp) ?_
          refine AllReadyH.cons (o := ⟨none, .store 33 (.tmp 89) (.tmp 88), 0, "ref.go:118", #[⟨17, .data⟩, ⟨16, .data⟩, ⟨16, .chain⟩, ⟨0, .phase⟩, ⟨1, .phase⟩, ⟨2, .phase⟩, ⟨3, .phase⟩, ⟨4, .phase⟩, ⟨5, .phase⟩, ⟨6, .phase⟩, ⟨7, .phase⟩, ⟨8, .phase⟩, ⟨9, .phase⟩, ⟨10, .phase⟩, ⟨11, .phase⟩, ⟨12, .phase⟩, ⟨13, .phase⟩, ⟨14, .phase⟩, ⟨15, .phase⟩, ⟨16, .phase⟩], none⟩) rfl (fun K hK => ?_) AllReadyH.nil
          go_simp
          refine hK.out _ _ (by first | exact ⟨d0, d1, dA⟩ | exact ⟨E0.out, E1.out, EA.out⟩ | exact ⟨X0.out, X1.out, XA.out⟩) (fun hHeld => ?_)
          clear hK K hHeld
          try simp only [Act.put]
          refine wpAnyH_done (by kernel_rfl) ?_ _
          go_wp2_with fail
          exact ⟨HN.out, HMS.out⟩
    · obtain rfl : k = s.Q.length := by omega
      have hb1 := hr.blk.frozen 1
      have hb2 := (hr.blk.set_ 1 (.slice none 0 0)).frozen 2
      have hb3 := ((hr.blk.set_ 1 (.slice none 0 0)).set_ 2 (.int .i64 (-1))).frozen 3
      have c2 := hr.c2
      have c3 := hr.c3
      obtain ⟨r1, r2⟩ := hr.ends
      have R1 := Lib.hid r1
      have R2 := Lib.hid (ha.trans r2)
      clear r1 r2 hr ha hlt hkk
      go_wp2_with fail
      go_end0
      exact ⟨rfl, G', ⟨_, _, _, _, R1.out⟩, R2.out⟩
end Go.Proofs.Ytochmeibmjfnnaa
