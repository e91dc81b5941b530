/- The document's own disk: what a round of Crash leaves. The document's own disk: Crash. -/
import Derived.Test.YtbdjlmdbnoghnaaGreatMh25
import Derived.Test.YtbdjlmdbnoghnaaGreatMh15
import Derived.Deep.DeepCutAuto
namespace Go.Proofs.YtbdjlmdbnoghnaaGreat
open Go.RowKit

theorem RkI.keepH {w w' : World} {G : Nat → Prop} {c n : Nat} {vL vQ : Value} {ls : List Value} {ps : List (Nat × Value)} {s : DS} (h : RkI w G c n vL vQ ls ps s) (hk : ∀ k, G k → w'.heap[k]? = w.heap[k]?) (hs : w.heap.size ≤ w'.heap.size) : RkI w' G c n vL vQ ls ps s :=
  ⟨h.ok, h.blk.keep (hk _ h.inG), h.l.keepH hk hs, h.rows.mono (fun _ _ _ k => k.keepH hk hs), h.q.keepH hk hs, h.que.mono (fun _ _ _ k => k.keepH hk hs), h.inG⟩

theorem RkI.crashAt {w w9 w10 : World} {G F9 : Nat → Prop} {c n gL cap a m : Nat} {vQ v9 v10 : Value} {ls : List Value} {ps : List (Nat × Value)} {s : DS} {xs : List Value} {r : List Nat} (h : RkI w G c n (.slice (some ⟨gL, 0, none⟩) n cap) vQ ls ps s) (a9 : Adv Nul w F9 w9) (h9 : Sl w9 F9 5 1 v9 m xs) (ha : a < n)
    (hown : w10.ownsRow 0 5 1 v10 128 (r.map u8)) (hr : r.length = 128) (hg : w9.grownBy w10 v9.ownBlock) (hat : v10.ownBlock = v9.ownBlock ∨ v10.ownBlock = some w9.heap.size) :
    (∃ A k l, v10 = .slice A k l) ∧ (∀ j, G j → w10.heap[j]? = w.heap[j]?) ∧ (∀ j, G j → j ≠ gL → (w10.setCell ⟨gL, a, none⟩ v10).heap[j]? = w.heap[j]?) ∧ (∃ u, w10.cell? ⟨gL, a, none⟩ = some u) ∧ w10.frozen? ⟨gL, a, none⟩ = false ∧
    ∃ G', RkI (w10.setCell ⟨gL, a, none⟩ v10) G' c n (.slice (some ⟨gL, 0, none⟩) n cap) vQ (ls.set a v10) ps { s with L := s.L.set a r } ∧ Adv G w G' (w10.setCell ⟨gL, a, none⟩ v10) := by
  obtain ⟨g1, g2⟩ := sl_grown h9 hown hg hat (Nat.le_refl _)
  have hk : ∀ j, G j → w10.heap[j]? = w.heap[j]? := fun j hj => by
    have hjw := h.bd j hj
    rw [hg.block j (Nat.lt_of_lt_of_le hjw a9.size) (fun e => by have := a9.new_at (h9.inF j e.symm); omega), a9.block j hjw (fun x => x)]
  have hR := h.keepH hk (Nat.le_trans a9.size g2.size)
  obtain ⟨U, hU⟩ : ∃ U : Nat → Prop, U = fun j => G j ∨ (F9 j ∨ v10.ownBlock = some j) := ⟨_, rfl⟩
  have hbU : Bd U w10 := by
    rw [hU]
    exact bd_or hR.bd g1.bd
  have hRU := hR.weak (U := U) (fun j hj => by rw [hU]; exact .inl hj) hbU
  have hvU := g1.weak (G := U) (fun j hj => by rw [hU]; exact .inr hj) hbU
  obtain ⟨r1, r2, r3, r4⟩ := hRU.setL ha hvU hr
  have a10 : Adv G w U w10 := by
    refine ⟨g2.os.trans a9.os, g2.tape.trans a9.tape, g2.output.trans a9.output, Nat.le_trans a9.size g2.size, fun j hj hn => ?_, fun j hj => ?_⟩
    · rw [hg.block j (Nat.lt_of_lt_of_le hj a9.size) (fun e => by have := a9.new_at (h9.inF j e.symm); omega), a9.block j hj (fun x => x)]
    · rw [hU] at hj
      rcases hj with hj | hj | hj
      · exact .inl hj
      · exact .inr (a9.new_at hj)
      · rcases hat with e | e
        · exact .inr (a9.new_at (h9.inF j (by rw [← e]; exact hj)))
        · rw [e] at hj
          injection hj with hj
          have := a9.size
          exact .inr (by omega)
  refine ⟨?_, hk, fun j hj hne => by rw [heap_setCell_other w10 _ j _ hne]; exact hk j hj, r3, r4, U, r1, a10.trans r2⟩
  rcases hown.2 with ⟨rfl, _⟩ | ⟨_, _, _, rfl, _⟩ <;> exact ⟨_, _, _, rfl⟩

/-- behind a place: what is left of a slice -/
theorem Rd.rest8 {w : World} {g c t : Nat} {l : List Nat} (h : Rd w 1 (.slice (some ⟨g, 0, none⟩) 128 c) 128 (l.map u8)) (ht : t ≤ 128) (A : Option Addr) (hA : A = if c = t then some ⟨g, 0, none⟩ else some ⟨g, t, none⟩) : Rd w 1 (.slice A (128 - t) (c - t)) (128 - t) ((l.drop t).map u8) := by
  by_cases hlt : t < 128
  · have hc : ¬ c = t := by obtain ⟨_, _, e, h1, _⟩ := h; injection e with _ _ e; omega
    rw [if_neg hc] at hA
    subst hA
    exact h.back8 hlt
  · obtain rfl : t = 128 := by omega
    have hl : l.length = 128 := by obtain ⟨_, _, _, _, _, h, _⟩ := h; simpa using h
    have hm : c ≤ maxLen := by obtain ⟨_, _, e, _, h2, _⟩ := h; injection e with _ _ e; omega
    refine ⟨A, c - 128, rfl, by omega, by omega, by simp [hl], fun hn => ?_, fun hn => absurd hn (by omega)⟩
    rw [hA] at hn
    split at hn <;> cases hn
end Go.Proofs.YtbdjlmdbnoghnaaGreat
namespace Go.Proofs.YtbdjlmdbnoghnaaGreat
open Go.RowKit

def RcRel (w : World) (G : Nat → Prop) (c n gL cap : Nat) (vQ : Value) (ps : List (Nat × Value)) (s : DS) (L0 : List (List Nat)) (cK : Nat → Nat) (t : Value) (wr : World) : Prop :=
  ∃ k ls G', t = .int .i64 ((k : Nat) : Int) ∧ k ≤ s.Q.length ∧ RkI wr G' c n (.slice (some ⟨gL, 0, none⟩) n cap) vQ ls ps { s with L := laysBy cK s.Q L0 k } ∧ Adv G w G' wr

theorem RkI.ends {w : World} {G : Nat → Prop} {c n : Nat} {vL vQ : Value} {ls : List Value} {ps : List (Nat × Value)} {s : DS} (h : RkI w G c n vL vQ ls ps s) :
    RkI (((w.setCell ⟨c, 1, none⟩ (.slice none 0 0)).setCell ⟨c, 2, none⟩ (.int .i64 (-1))).setCell ⟨c, 3, none⟩ (.bool false)) G c n vL (.slice none 0 0) ls [] ⟨s.L, [], false, none⟩ ∧
    Adv G w G (((w.setCell ⟨c, 1, none⟩ (.slice none 0 0)).setCell ⟨c, 2, none⟩ (.int .i64 (-1))).setCell ⟨c, 3, none⟩ (.bool false)) := by
  obtain ⟨h1, a1⟩ := h.clear
  have hb3 := (h1.blk.set_ 2 (.int .i64 (-1))).set_ 3 (.bool false)
  have b2 := h1.blk.set_ 2 (.int .i64 (-1))
  have st : ∀ {e : TypeId} {size m : Nat} {v : Value} {xs : List Value}, Sl (w.setCell ⟨c, 1, none⟩ (.slice none 0 0)) G e size v m xs → 66 ≠ e → Sl (((w.setCell ⟨c, 1, none⟩ (.slice none 0 0)).setCell ⟨c, 2, none⟩ (.int .i64 (-1))).setCell ⟨c, 3, none⟩ (.bool false)) G e size v m xs := fun h hne => (h.setOther h1.blk hne 2).setOther b2 hne 3
  refine ⟨⟨⟨h.ok.len, h.ok.row, fun q hq => by simp at hq, fun hd => by simp at hd, fun f hf => by simp at hf⟩, hb3, st h1.l (by decide), h1.rows.mono (fun _ _ _ k => st k (by decide)), st h1.q (by decide), ⟨rfl, fun k hk => absurd hk (by simp)⟩, h.inG⟩, (a1.setCell (.inl h.inG) _).setCell (.inl h.inG) _⟩

theorem RkI.ne_L {w : World} {G : Nat → Prop} {c n gL cap gQ N cq : Nat} {ls : List Value} {ps : List (Nat × Value)} {s : DS} (h : RkI w G c n (.slice (some ⟨gL, 0, none⟩) n cap) (.slice (some ⟨gQ, 0, none⟩) N cq) ls ps s) : c ≠ gL ∧ gQ ≠ gL :=
  ⟨fun e => own_blk_ne h.l.own h.blk (by decide) (by rw [e]; rfl), fun e => own_ne h.q.own h.l.own (by decide) gQ rfl (by rw [e]; rfl)⟩
theorem crash_cells {w w9 : World} {G F9 : Nat → Prop} {c n gL cap gQ N cq k a : Nat} {ls : List Value} {ps : List (Nat × Value)} {s : DS} (h : RkI w G c n (.slice (some ⟨gL, 0, none⟩) n cap) (.slice (some ⟨gQ, 0, none⟩) N cq) ls ps s) (a9 : Adv Nul w F9 w9) (kA : w.cell? ⟨gQ, k * 2, none⟩ = some (.int .i64 (a : Int))) :
    w9.cell? ⟨c, 0, none⟩ = some (.slice (some ⟨gL, 0, none⟩) n cap) ∧ w9.cell? ⟨c, 1, none⟩ = some (.slice (some ⟨gQ, 0, none⟩) N cq) ∧ w9.cell? ⟨gQ, k * 2, none⟩ = some (.int .i64 (a : Int)) := by
  have h9 := h.far a9 (fun _ h _ => h)
  exact ⟨h9.c0, h9.c1, (World.cell?_of_block (a9.block gQ (h.bd gQ (h.q.inF gQ rfl)) (fun h => h))).trans kA⟩
theorem crash_fin {wr w9 w10 : World} {G F9 : Nat → Prop} {c n gL cap a mi : Nat} {vQ v9 v10 : Value} {ls : List Value} {ps : List (Nat × Value)} {s : DS} {q : Nat × List Nat} {r : List Nat} (h : RkI wr G c n (.slice (some ⟨gL, 0, none⟩) n cap) vQ ls ps s) (a9 : Adv Nul wr F9 w9) (h9 : Sl w9 F9 5 1 v9 mi ((q.2.take mi).map u8)) (ha : a < n) (hm : mi ≤ 128) (hq : q.2.length = 128) (hr : r.length = 128)
    (hown : w10.ownsRow 0 5 1 v10 (mi + (128 - mi)) ((q.2.take mi).map u8 ++ (r.drop mi).map u8)) (hg : w9.grownBy w10 v9.ownBlock) (hat : v10.ownBlock = v9.ownBlock ∨ v10.ownBlock = some w9.heap.size) :
    (∃ A k l, v10 = .slice A k l) ∧ (∀ j, G j → w10.heap[j]? = wr.heap[j]?) ∧ (∀ j, G j → j ≠ gL → (w10.setCell ⟨gL, a, none⟩ v10).heap[j]? = wr.heap[j]?) ∧ (∃ u, w10.cell? ⟨gL, a, none⟩ = some u) ∧ w10.frozen? ⟨gL, a, none⟩ = false ∧
    ∃ G', RkI (w10.setCell ⟨gL, a, none⟩ v10) G' c n (.slice (some ⟨gL, 0, none⟩) n cap) vQ (ls.set a v10) ps { s with L := s.L.set a (q.2.take mi ++ r.drop mi) } ∧ Adv G wr G' (w10.setCell ⟨gL, a, none⟩ v10) := by
  have e : mi + (128 - mi) = 128 := by omega
  rw [e, ← List.map_append] at hown
  exact h.crashAt a9 h9 ha hown (by simp [hq, hr]; omega) hg hat
theorem rc_next {w wr' : World} {G G' : Nat → Prop} {c n gL cap k a mi : Nat} {vQ : Value} {ls : List Value} {ps : List (Nat × Value)} {s : DS} {cK : Nat → Nat} {q : Nat × List Nat} {r : List Nat} (hk : k < s.Q.length) (hst : laysBy cK s.Q s.L (k + 1) = layN (laysBy cK s.Q s.L k) q (cK k)) (hk0 : cK k = mi) (hqa : a = q.1) (hre : r = (laysBy cK s.Q s.L k).getD a [])
    (h7 : RkI wr' G' c n (.slice (some ⟨gL, 0, none⟩) n cap) vQ ls ps { s with L := (laysBy cK s.Q s.L k).set a (q.2.take mi ++ r.drop mi) }) (h8 : Adv G w G' wr') : RcRel w G c n gL cap vQ ps s s.L cK (.int .i64 ((k : Int) + 1)) wr' := by
  subst hqa hre hk0
  refine ⟨k + 1, ls, G', by simp, hk, ?_, h8⟩
  rw [hst]
  exact h7
theorem rc_meas {k m : Nat} (h : k < m) : m - (intOf (.int .i64 ((k : Int) + 1))).toNat < m - (intOf (.int .i64 (k : Int))).toNat := by simp [intOf]; omega
theorem app_le {m : Nat} (h : m ≤ 128) : m + (128 - m) ≤ 1000000000 := by omega
theorem mi_facts {mi X : Int} {cd cr : Nat} (h : mi = X) (hX : 0 ≤ X ∧ X ≤ 128) (hcd : 128 ≤ cd) (hcr : 128 ≤ cr) : 0 ≤ mi ∧ mi ≤ 128 ∧ mi.toNat ≤ 128 ∧ mi ≤ (cd : Int) ∧ mi ≤ (cr : Int) := by
  subst h
  exact ⟨hX.1, hX.2, by omega, by omega, by omega⟩
theorem kept_le (ks : List Int) (torn : Int) (n k : Nat) : kept ks torn n k ≤ 128 := by
  unfold kept
  split
  · omega
  · split <;> omega
set_option maxRecDepth 2000 in
set_option maxHeartbeats 6400000 in
theorem rcrash_dk (c n m0 : Nat) (vk : Value) (G : Nat → Prop) (s : DS) (ks : List Int) (torn : Int) (w : World) (h : Rk w G c n s) (hn : 0 < n) (hk : Rd w 1 vk m0 (ks.map (Value.int .i64))) (hsep : ∀ k, vk.ownBlock = some k → 0 < m0 → ¬ G k) (hql : s.Q.length ≤ 1000000) :
    Calls Tryz.prog 19 #[.pointer (some ⟨c, 0, none⟩), vk, .int .i64 torn] w fun e w' => e = .returned (.tuple #[]) ∧ ∃ G', Rk w' G' c n (crashS s ks torn) ∧ Adv G w G' w' := by
  obtain ⟨vL, vQ, ls, ps, h⟩ := h
  obtain ⟨gL, cap, rfl, _, _⟩ := h.l.form hn
  obtain ⟨ak, ck, rfl, hkc, hkm⟩ := hk.form
  obtain ⟨aq, cq, rfl, hqc, hqm⟩ := h.q.form0
  unfold maxLen at hkm
  have hkl : ks.length = m0 := by obtain ⟨_, _, _, _, _, h, _⟩ := hk; simpa using h
  have H := Lib.hid h
  have HK := Lib.hid hk
  have HSEP := Lib.hid hsep
  have HKL := Lib.hid hkl
  have HQL := Lib.hid hql
  clear h hk hsep hkl hqc hqm hql hkc
  go_enter Tryz.func19, Tryz.ntmps19
  go_wp2_with fail
  go_loopw [6] (RcRel w G c n gL cap (.slice aq s.Q.length cq) ps s s.L (kept ks torn s.Q.length)) (fun t _ => s.Q.length - (intOf t).toNat)
  case atStart => exact ⟨0, ls, G, rfl, Nat.zero_le _, H.out, Adv.refl _ _⟩
  case round =>
    obtain ⟨k, ls', G', rfl, hkk, hr, ha⟩ := hrel
    have c1 := hr.c1
    by_cases hlt : k < s.Q.length
    · obtain ⟨gQ, cQ', v, e, kA, kD, sD, hq1, hq2⟩ := hr.qat hlt
      injection e with e1 e2 e3
      subst e1
      clear e2 e3
      have hstep : laysBy (kept ks torn s.Q.length) s.Q s.L (k + 1) = layN (laysBy (kept ks torn s.Q.length) s.Q s.L k) (s.Q.getD k (0, [])) (kept ks torn s.Q.length k) := rfl
      obtain ⟨q, hq⟩ : ∃ q, q = s.Q.getD k (0, []) := ⟨_, rfl⟩
      have kA' : wr.cell? ⟨gQ, k * 2, none⟩ = some (.int .i64 (q.1 : Int)) := by rw [hq]; exact kA
      have sD' := sD
      have hq1' : q.1 < n := by rw [hq]; exact hq1
      have hq2' : q.2.length = 128 := by rw [hq]; exact hq2
      rw [← hq] at hstep
      simp only [← hq] at sD'
      obtain ⟨gL2, cap2, u, e4, kL, sL, lL⟩ := hr.at_ hq1'
      injection e4 with e4 e5 e6
      injection e4 with e4
      injection e4 with e4
      subst e4 e6
      clear e5
      obtain ⟨a, hqa⟩ : ∃ a, a = q.1 := ⟨_, rfl⟩
      obtain ⟨r, hre⟩ : ∃ r, r = (laysBy (kept ks torn s.Q.length) s.Q s.L k).getD q.1 [] := ⟨_, rfl⟩
      have sL' := sL
      simp only [← hre] at sL' lL
      rw [← hqa] at kA' hq1' kL
      obtain ⟨gd, cd, rfl, _, hcd⟩ := sD'.form (by decide)
      obtain ⟨gr, cr, rfl, _, hcr⟩ := sL'.form (by decide)
      have hkA := HK.out.adv ha HSEP.out
      have han0 : (0 : Int) ≤ (a : Int) := by omega
      have hani : (a : Int) < (n : Int) := by omega
      have hkq : (k : Int) < (s.Q.length : Int) := by omega
      have hk2 : k + 1 ≤ 9223372036854775807 := by have := HQL.out; omega
      have hlw : IntKind.i64.wrap ((s.Q.length : Int) - 1) = (s.Q.length : Int) - 1 := by have := HQL.out; rw [IntKind.wrap_i64]; omega
      have c0 := hr.c0
      have HR := Lib.hid hr
      have HA := Lib.hid ha
      have SD := Lib.hid sD'
      have SL := Lib.hid sL'
      have HAN := Lib.hid hq1'
      have HQ2 := Lib.hid hq2'
      have LL := Lib.hid lL
      have HQA := Lib.hid hqa
      have HRE' := Lib.hid (show r = (laysBy (kept ks torn s.Q.length) s.Q s.L k).getD a [] by rw [hqa]; exact hre)
      have HST := Lib.hid hstep
      have HKA := Lib.hid hkA
      have HCD := Lib.hid hcd
      have HCR := Lib.hid hcr
      have HLT := Lib.hid hlt
      clear hr ha sD sD' sL sL' kA hq1 hq2 hq1' hq2' lL hqa hre hstep hkA hq hlt hkk hcd hcr
      obtain ⟨mi, hmi⟩ : ∃ mi : Int, mi = ((kept ks torn s.Q.length k : Nat) : Int) := ⟨_, rfl⟩
      obtain ⟨x, hx⟩ : ∃ x, x = ks.getD k 0 := ⟨_, rfl⟩
      obtain ⟨B1, hB1⟩ : ∃ B, B = (x != 0) := ⟨_, rfl⟩
      obtain ⟨n1, hn1⟩ : ∃ n1 : Int, n1 = if x ≠ 0 then 128 else 0 := ⟨_, rfl⟩
      have HX := Lib.hid hx
      have HMI := Lib.hid hmi
      have HB1 := Lib.hid hB1
      have HN1 := Lib.hid hn1
      have HK1 := Lib.hid (show ¬ (k + 1 = s.Q.length ∧ 1 ≤ torn ∧ torn ≤ 127) → n1 = mi from fun hno => by
        have e : kept ks torn s.Q.length k = if ks.getD k 0 ≠ 0 then 128 else 0 := by
          unfold kept
          rw [if_neg (by omega)]
        rw [hmi, hn1, e, hx]
        split <;> rfl)
      clear hmi hn1 hx hB1
      go_upto_region 4 with (fail)
      go_cut [29] (fun t29 wr' => t29 = .bool B1 ∧ wr = wr')
      case first =>
        by_cases hkm2 : k < m0
        · have hki : (k : Int) < (m0 : Int) := by omega
          obtain ⟨bk, ok, e, _, hcell⟩ := HKA.out.cells (by omega) (by decide)
          subst e
          have kc := hcell k _ (getD_at (by have := HKL.out; omega))
          rw [← HX.out] at kc
          clear hcell
          go_wp2_with fail
          go_meet
          exact ⟨by rw [HB1.out], rfl⟩
        · have hki : (m0 : Int) ≤ (k : Int) := by omega
          have HV := Lib.hid (show B1 = false by rw [HB1.out, HX.out, List.getD_eq_getElem?_getD, List.getElem?_eq_none (by have := HKL.out; omega)]; rfl)
          go_wp2_with fail
          go_meet
          exact ⟨by rw [HV.out], rfl⟩
      case rest =>
      obtain ⟨rfl, rfl⟩ := hcut
      rename_i Kx hKx
      refine hKx _ _ ?_
      clear hKx Kx
      go_cut [7] (fun t7 wr' => t7 = .int .i64 n1 ∧ wr = wr')
      case first =>
        by_cases hx0 : x = 0
        · have hb : B1 = false := by rw [HB1.out, hx0]; rfl
          have HV := Lib.hid (show n1 = 0 by rw [HN1.out, if_neg (by simp [hx0])])
          subst hb
          clear hx0
          go_wp2_with fail
          go_meet
          exact ⟨by rw [HV.out], rfl⟩
        · have hb : B1 = true := by rw [HB1.out, bne_iff_ne]; exact hx0
          have HV := Lib.hid (show n1 = 128 by rw [HN1.out, if_pos hx0])
          subst hb
          clear hx0
          go_wp2_with fail
          go_meet
          exact ⟨by rw [HV.out], rfl⟩
      case rest =>
      obtain ⟨rfl, rfl⟩ := hcut
      obtain ⟨B2, hB2⟩ : ∃ B, B = decide (k + 1 = s.Q.length ∧ 1 ≤ torn ∧ torn ≤ 127) := ⟨_, rfl⟩
      have HB2 := Lib.hid hB2
      clear hB2
      go_upto_region 6 with (fail)
      go_cut [45] (fun t45 wr' => t45 = .bool B2 ∧ wr = wr')
      case first =>
        by_cases hT : k + 1 = s.Q.length
        · have hTb : ((k : Int) == (s.Q.length : Int) - 1) = true := by rw [beq_iff_eq]; omega
          by_cases t0 : 1 ≤ torn
          · by_cases t1 : torn ≤ 127
            · have HV := Lib.hid (show B2 = true by rw [HB2.out]; exact decide_eq_true ⟨hT, t0, t1⟩)
              clear hT
              go_wp2_with fail
              go_meet
              exact ⟨by rw [HV.out], rfl⟩
            · have HV := Lib.hid (show B2 = false by rw [HB2.out]; exact decide_eq_false (fun h => t1 h.2.2))
              have t1' : 127 < torn := by omega
              have t2 : decide (torn ≤ 127) = false := decide_eq_false (by omega)
              clear t1 hT
              go_wp2_with fail
              go_meet
              exact ⟨by first | (rw [HV.out]; done) | (rw [HV.out, t2]; done) | (rw [HV.out]; simp; omega), rfl⟩
          · have HV := Lib.hid (show B2 = false by rw [HB2.out]; exact decide_eq_false (fun h => t0 h.2.1))
            have t0' : torn < 1 := by omega
            clear t0 hT
            go_wp2_with fail
            go_meet
            exact ⟨by rw [HV.out], rfl⟩
        · have hTb : ((k : Int) == (s.Q.length : Int) - 1) = false := by rw [beq_eq_false_iff_ne]; omega
          have HV := Lib.hid (show B2 = false by rw [HB2.out]; exact decide_eq_false (fun h => hT h.1))
          clear hT
          go_wp2_with fail
          go_meet
          exact ⟨by rw [HV.out], rfl⟩
      case rest =>
      obtain ⟨rfl, rfl⟩ := hcut
      rename_i Kx hKx
      refine hKx _ _ ?_
      clear hKx Kx
      go_cut [7] (fun t7 wr' => t7 = .int .i64 mi ∧ wr = wr')
      case first =>
        by_cases hT : k + 1 = s.Q.length ∧ 1 ≤ torn ∧ torn ≤ 127
        · have hb : B2 = true := by rw [HB2.out]; exact decide_eq_true hT
          have HV := Lib.hid (show torn = mi by rw [HMI.out]; unfold kept; rw [if_pos (by omega)]; omega)
          subst hb
          clear hT
          go_wp2_with fail
          go_meet
          exact ⟨by rw [HV.out], rfl⟩
        · have hb : B2 = false := by rw [HB2.out]; exact decide_eq_false hT
          have HV := Lib.hid (HK1.out hT)
          subst hb
          clear hT
          go_wp2_with fail
          go_meet
          exact ⟨by rw [HV.out], rfl⟩
      case rest =>
      obtain ⟨rfl, rfl⟩ := hcut
      go_upto_region 8 with (fail)
      obtain ⟨hm0, hm1, hmn, hmcd, hmcr⟩ := mi_facts HMI.out (by have := kept_le ks torn s.Q.length k; omega) HCD.out HCR.out
      have HK0 := Lib.hid (show kept ks torn s.Q.length k = mi.toNat by rw [HMI.out, Int.toNat_natCast])
      have HM := Lib.hid hmn
      have HMS := Lib.hid (rc_meas HLT.out)
      clear hmn
      refine rstart (S := (fun w' => w'.cell? ⟨c, 0, none⟩ = some (.slice (some ⟨gL, 0, none⟩) n cap) ∧ w'.cell? ⟨c, 1, none⟩ = some (.slice (some ⟨gQ, 0, none⟩) s.Q.length cq) ∧ w'.cell? ⟨gQ, k * 2, none⟩ = some (.int .i64 (a : Int)) ∧ w'.cell? ⟨gL, a, none⟩ = some (.slice (some ⟨gr, 0, none⟩) 128 cr))) (by first | exact ⟨c0, c1, kA', kL⟩) (fun hH => ?_)
      refine tk (i := 0) (oi := ⟨some 47, .move (.tmp 0), 28, "ref.go:116", #[], none⟩) hH.out (by rintro w ⟨s0, s1, s2, s3⟩; go_simp <;> with_reducible rfl) ?_
      simp only [Act.put, sA, sB, sC]
      refine tk (i := 1) (oi := ⟨some 48, .nilCheck (.tmp 47), 0, "ref.go:116", #[⟨0, .data⟩], none⟩) hH.out (by rintro w ⟨s0, s1, s2, s3⟩; go_simp <;> with_reducible rfl) ?_
      simp only [Act.put, sA, sB, sC]
      refine tk (i := 2) (oi := ⟨some 49, .fieldAddr 66 (.tmp 48) 0, 0, "ref.go:116", #[⟨1, .data⟩], none⟩) hH.out (by rintro w ⟨s0, s1, s2, s3⟩; go_simp <;> with_reducible rfl) ?_
      simp only [Act.put, sA, sB, sC]
      refine tk (i := 3) (oi := ⟨some 50, .load 50 (.tmp 49), 50, "ref.go:116", #[⟨2, .data⟩], none⟩) hH.out (by rintro w ⟨s0, s1, s2, s3⟩; go_simp <;> with_reducible rfl) ?_
      simp only [Act.put, sA, sB, sC]
      refine tk (i := 4) (oi := ⟨some 51, .move (.tmp 0), 28, "ref.go:116", #[], none⟩) hH.out (by rintro w ⟨s0, s1, s2, s3⟩; go_simp <;> with_reducible rfl) ?_
      simp only [Act.put, sA, sB, sC]
      refine tk (i := 5) (oi := ⟨some 52, .nilCheck (.tmp 51), 0, "ref.go:116", #[⟨4, .data⟩], none⟩) hH.out (by rintro w ⟨s0, s1, s2, s3⟩; go_simp <;> with_reducible rfl) ?_
      simp only [Act.put, sA, sB, sC]
      refine tk (i := 6) (oi := ⟨some 53, .fieldAddr 66 (.tmp 52) 1, 0, "ref.go:116", #[⟨5, .data⟩], none⟩) hH.out (by rintro w ⟨s0, s1, s2, s3⟩; go_simp <;> with_reducible rfl) ?_
      simp only [Act.put, sA, sB, sC]
      refine tk (i := 7) (oi := ⟨some 54, .load 64 (.tmp 53), 64, "ref.go:116", #[⟨6, .data⟩], none⟩) hH.out (by rintro w ⟨s0, s1, s2, s3⟩; go_simp <;> with_reducible rfl) ?_
      simp only [Act.put, sA, sB, sC]
      refine tk (i := 8) (oi := ⟨some 55, .move (.tmp 6), 3, "ref.go:116", #[], none⟩) hH.out (by rintro w ⟨s0, s1, s2, s3⟩; go_simp <;> with_reducible rfl) ?_
      simp only [Act.put, sA, sB, sC]
      refine tk (i := 9) (oi := ⟨some 56, .indexAddr 64 (.tmp 54) (.tmp 55), 0, "ref.go:116", #[⟨7, .data⟩, ⟨8, .data⟩], none⟩) hH.out (by rintro w ⟨s0, s1, s2, s3⟩; go_simp <;> with_reducible rfl) ?_
      simp only [Act.put, sA, sB, sC]
      refine tk (i := 10) (oi := ⟨some 57, .fieldAddr 112 (.tmp 56) 0, 0, "ref.go:116", #[⟨9, .data⟩], none⟩) hH.out (by rintro w ⟨s0, s1, s2, s3⟩; go_simp <;> with_reducible rfl) ?_
      simp only [Act.put, sA, sB, sC]
      refine tk (i := 11) (oi := ⟨some 58, .load 3 (.tmp 57), 3, "ref.go:116", #[⟨10, .data⟩], none⟩) hH.out (by rintro w ⟨s0, s1, s2, s3⟩; go_simp <;> with_reducible rfl) ?_
      simp only [Act.put, sA, sB, sC]
      refine tk (i := 12) (oi := ⟨some 59, .indexAddr 50 (.tmp 50) (.tmp 58), 0, "ref.go:116", #[⟨3, .data⟩, ⟨11, .data⟩], none⟩) hH.out (by rintro w ⟨s0, s1, s2, s3⟩; go_simp <;> with_reducible rfl) ?_
      simp only [Act.put, sA, sB, sC]
      refine tk (i := 13) (oi := ⟨some 60, .load 53 (.tmp 59), 53, "ref.go:116", #[⟨12, .data⟩], none⟩) hH.out (by rintro w ⟨s0, s1, s2, s3⟩; go_simp <;> with_reducible rfl) ?_
      simp only [Act.put, sA, sB, sC]
      refine tk (i := 14) (oi := ⟨some 8, .assign (.tmp 60), 53, "ref.go:116", #[⟨13, .data⟩, ⟨0, .phase⟩, ⟨1, .phase⟩, ⟨2, .phase⟩, ⟨3, .phase⟩, ⟨4, .phase⟩, ⟨5, .phase⟩, ⟨6, .phase⟩, ⟨7, .phase⟩, ⟨8, .phase⟩, ⟨9, .phase⟩, ⟨10, .phase⟩, ⟨11, .phase⟩, ⟨12, .phase⟩, ⟨13, .phase⟩], none⟩) hH.out (by rintro w ⟨s0, s1, s2, s3⟩; go_simp <;> with_reducible rfl) ?_
      simp only [Act.put, sA, sB, sC]
      refine wpAnyH_done (by kernel_rfl) ?_ _
      have hrd := HR.out.far ((Adv.refl Nul wr).drew) (fun _ h _ => h)
      have HRD := Lib.hid hrd
      have HNE := Lib.hid hrd.ne_L
      have hfront := (SD.out.far ((Adv.refl Nul wr).drew) (fun _ h _ => h)).rd.front8 HM.out
      have HFRONT := Lib.hid hfront
      clear hrd hfront
      go_wp2_with (first
        | (go_at_call 40; refine (copy_any _ mi.toNat (q.2.take mi.toNat) _ HFRONT.out (Nat.le_trans HM.out (by decide))).mono ?_; rintro e w9 ⟨v9, F9, rfl, h9, a9⟩; obtain ⟨av9, cv9, rfl, _, _⟩ := h9.form0; have H9 := Lib.hid (h9.far ((Adv.refl Nul w9).drew) (fun _ h _ => h)); have A9 := Lib.hid (a9.drew); obtain ⟨d0, d1, dA⟩ := crash_cells HRD.out A9.out (k := k) (a := a) kA'; have RST0 := Lib.hid ((SL.out.far ((Adv.refl Nul wr).drew) (fun _ h _ => h)).far A9.out (fun _ h _ => h)).rd; clear h9 a9)
        | fail)
      refine rstart (S := (fun w' => w'.cell? ⟨c, 0, none⟩ = some (.slice (some ⟨gL, 0, none⟩) n cap) ∧ w'.cell? ⟨c, 1, none⟩ = some (.slice (some ⟨gQ, 0, none⟩) s.Q.length cq) ∧ w'.cell? ⟨gQ, k * 2, none⟩ = some (.int .i64 (a : Int)))) (by first | exact ⟨d0, d1, dA⟩ | exact ⟨E0.out, E1.out, EA.out⟩ | exact ⟨X0.out, X1.out, XA.out⟩) (fun hH => ?_)
      refine tk (i := 0) (oi := ⟨some 72, .move (.tmp 0), 28, "ref.go:118", #[], none⟩) hH.out (by rintro w ⟨s0, s1, s2⟩; go_simp <;> with_reducible rfl) ?_
      simp only [Act.put, sA, sB, sC]
      refine tk (i := 1) (oi := ⟨some 73, .nilCheck (.tmp 72), 0, "ref.go:118", #[⟨0, .data⟩], none⟩) hH.out (by rintro w ⟨s0, s1, s2⟩; go_simp <;> with_reducible rfl) ?_
      simp only [Act.put, sA, sB, sC]
      refine tk (i := 2) (oi := ⟨some 74, .fieldAddr 66 (.tmp 73) 0, 0, "ref.go:118", #[⟨1, .data⟩], none⟩) hH.out (by rintro w ⟨s0, s1, s2⟩; go_simp <;> with_reducible rfl) ?_
      simp only [Act.put, sA, sB, sC]
      refine tk (i := 3) (oi := ⟨some 75, .load 50 (.tmp 74), 50, "ref.go:118", #[⟨2, .data⟩], none⟩) hH.out (by rintro w ⟨s0, s1, s2⟩; go_simp <;> with_reducible rfl) ?_
      simp only [Act.put, sA, sB, sC]
      refine tk (i := 4) (oi := ⟨some 76, .move (.tmp 0), 28, "ref.go:118", #[], none⟩) hH.out (by rintro w ⟨s0, s1, s2⟩; go_simp <;> with_reducible rfl) ?_
      simp only [Act.put, sA, sB, sC]
      refine tk (i := 5) (oi := ⟨some 77, .nilCheck (.tmp 76), 0, "ref.go:118", #[⟨4, .data⟩], none⟩) hH.out (by rintro w ⟨s0, s1, s2⟩; go_simp <;> with_reducible rfl) ?_
      simp only [Act.put, sA, sB, sC]
      refine tk (i := 6) (oi := ⟨some 78, .fieldAddr 66 (.tmp 77) 1, 0, "ref.go:118", #[⟨5, .data⟩], none⟩) hH.out (by rintro w ⟨s0, s1, s2⟩; go_simp <;> with_reducible rfl) ?_
      simp only [Act.put, sA, sB, sC]
      refine tk (i := 7) (oi := ⟨some 79, .load 64 (.tmp 78), 64, "ref.go:118", #[⟨6, .data⟩], none⟩) hH.out (by rintro w ⟨s0, s1, s2⟩; go_simp <;> with_reducible rfl) ?_
      simp only [Act.put, sA, sB, sC]
      refine tk (i := 8) (oi := ⟨some 80, .move (.tmp 6), 3, "ref.go:118", #[], none⟩) hH.out (by rintro w ⟨s0, s1, s2⟩; go_simp <;> with_reducible rfl) ?_
      simp only [Act.put, sA, sB, sC]
      refine tk (i := 9) (oi := ⟨some 81, .indexAddr 64 (.tmp 79) (.tmp 80), 0, "ref.go:118", #[⟨7, .data⟩, ⟨8, .data⟩], none⟩) hH.out (by rintro w ⟨s0, s1, s2⟩; go_simp <;> with_reducible rfl) ?_
      simp only [Act.put, sA, sB, sC]
      refine tk (i := 10) (oi := ⟨some 82, .fieldAddr 112 (.tmp 81) 0, 0, "ref.go:118", #[⟨9, .data⟩], none⟩) hH.out (by rintro w ⟨s0, s1, s2⟩; go_simp <;> with_reducible rfl) ?_
      simp only [Act.put, sA, sB, sC]
      refine tk (i := 11) (oi := ⟨some 83, .load 3 (.tmp 82), 3, "ref.go:118", #[⟨10, .data⟩], none⟩) hH.out (by rintro w ⟨s0, s1, s2⟩; go_simp <;> with_reducible rfl) ?_
      simp only [Act.put, sA, sB, sC]
      refine tk (i := 12) (oi := ⟨some 84, .move (.tmp 9), 53, "ref.go:118", #[], none⟩) hH.out (by rintro w ⟨s0, s1, s2⟩; go_simp <;> with_reducible rfl) ?_
      simp only [Act.put, sA, sB, sC]
      refine tk (i := 13) (oi := ⟨some 85, .move (.tmp 8), 53, "ref.go:118", #[], none⟩) hH.out (by rintro w ⟨s0, s1, s2⟩; go_simp <;> with_reducible rfl) ?_
      simp only [Act.put, sA, sB, sC]
      refine tk (i := 14) (oi := ⟨some 86, .move (.tmp 7), 3, "ref.go:118", #[], none⟩) hH.out (by rintro w ⟨s0, s1, s2⟩; go_simp <;> with_reducible rfl) ?_
      simp only [Act.put, sA, sB, sC]
      refine tk (i := 15) (oi := ⟨some 87, .slice 53 (.tmp 85) (some (.tmp 86)) none none, 53, "ref.go:118", #[⟨13, .data⟩, ⟨14, .data⟩], none⟩) hH.out (by rintro w ⟨s0, s1, s2⟩; go_simp <;> with_reducible rfl) ?_
      simp only [Act.put, sA, sB, sC]
      refine rdy (i := 16) (oi := ⟨some 88, .call ⟨.builtin .append, #[.tmp 84, .tmp 87], #[53, 53]⟩, 53, "ref.go:118", #[⟨12, .data⟩, ⟨15, .data⟩], none⟩) (fun K hK => ?_)
      refine step_append_rd rfl (.tmp 84) (.tmp 87) rfl rfl rfl H9.out.own (by first | exact RST0.out.rest8 HM.out _ rfl | exact RST0.out.rest8 HM.out _ (by split <;> rfl)) (u8_one _) (app_le HM.out) ?_
      intro v10 w10 hown hg hat
      obtain ⟨⟨A6, n6, c6, rfl⟩, k1, k2, ⟨u6, k5⟩, k6, G2, k7, k8⟩ := crash_fin HRD.out A9.out H9.out HAN.out HM.out HQ2.out LL.out hown hg hat
      have E0 := Lib.hid ((World.cell?_of_block (k1 c HRD.out.inG)).trans HRD.out.c0)
      have E1 := Lib.hid ((World.cell?_of_block (k1 c HRD.out.inG)).trans HRD.out.c1)
      have EA := Lib.hid ((World.cell?_of_block (k1 gQ (HRD.out.q.inF gQ rfl))).trans kA')
      have X0 := Lib.hid ((World.cell?_of_block (k2 c HRD.out.inG HNE.out.1)).trans HRD.out.c0)
      have X1 := Lib.hid ((World.cell?_of_block (k2 c HRD.out.inG HNE.out.1)).trans HRD.out.c1)
      have XA := Lib.hid ((World.cell?_of_block (k2 gQ (HRD.out.q.inF gQ rfl) HNE.out.2)).trans kA')
      have HN := Lib.hid (rc_next HLT.out HST.out HK0.out HQA.out HRE'.out k7 (HA.out.trans (Adv.of_drew k8)))
      clear hown hg hat k1 k2 k7 k8
      refine hK.out _ _ (by first | exact ⟨d0, d1, dA⟩ | exact ⟨E0.out, E1.out, EA.out⟩ | exact ⟨X0.out, X1.out, XA.out⟩) (fun hHeld => ?_)
      replace hH := Lib.hid hHeld
      clear hK K hHeld
      try simp only [Act.put, sA, sB, sC]
      refine tk (i := 17) (oi := ⟨some 89, .indexAddr 50 (.tmp 75) (.tmp 83), 0, "ref.go:118", #[⟨3, .data⟩, ⟨11, .data⟩, ⟨0, .phase⟩, ⟨1, .phase⟩, ⟨2, .phase⟩, ⟨3, .phase⟩, ⟨4, .phase⟩, ⟨5, .phase⟩, ⟨6, .phase⟩, ⟨7, .phase⟩, ⟨8, .phase⟩, ⟨9, .phase⟩, ⟨10, .phase⟩, ⟨11, .phase⟩, ⟨12, .phase⟩, ⟨13, .phase⟩, ⟨14, .phase⟩, ⟨15, .phase⟩, ⟨16, .phase⟩], none⟩) hH.out (by rintro w ⟨s0, s1, s2⟩; go_simp <;> with_reducible rfl) ?_
      simp only [Act.put, sA, sB, sC]
      refine rdy (i := 18) (oi := ⟨none, .store 53 (.tmp 89) (.tmp 88), 0, "ref.go:118", #[⟨17, .data⟩, ⟨16, .data⟩, ⟨16, .chain⟩, ⟨0, .phase⟩, ⟨1, .phase⟩, ⟨2, .phase⟩, ⟨3, .phase⟩, ⟨4, .phase⟩, ⟨5, .phase⟩, ⟨6, .phase⟩, ⟨7, .phase⟩, ⟨8, .phase⟩, ⟨9, .phase⟩, ⟨10, .phase⟩, ⟨11, .phase⟩, ⟨12, .phase⟩, ⟨13, .phase⟩, ⟨14, .phase⟩, ⟨15, .phase⟩, ⟨16, .phase⟩], none⟩) (fun K hK => ?_)
      go_simp
      refine hK.out _ _ (by first | exact ⟨d0, d1, dA⟩ | exact ⟨E0.out, E1.out, EA.out⟩ | exact ⟨X0.out, X1.out, XA.out⟩) (fun hHeld => ?_)
      replace hH := Lib.hid hHeld
      clear hK K hHeld
      try simp only [Act.put]
      refine wpAnyH_done (by kernel_rfl) ?_ _
      go_wp2_with fail
      exact ⟨HN.out, HMS.out⟩
    · obtain rfl : k = s.Q.length := by omega
      have hb1 := hr.blk.frozen 1
      have hb2 := (hr.blk.set_ 1 (.slice none 0 0)).frozen 2
      have hb3 := ((hr.blk.set_ 1 (.slice none 0 0)).set_ 2 (.int .i64 (-1))).frozen 3
      have c2 := hr.c2
      have c3 := hr.c3
      obtain ⟨r1, r2⟩ := hr.ends
      have R1 := Lib.hid r1
      have R2 := Lib.hid (ha.trans r2)
      clear r1 r2 hr ha hlt hkk
      go_wp2_with fail
      go_end0
      exact ⟨rfl, G', ⟨_, _, _, _, R1.out⟩, R2.out⟩
end Go.Proofs.YtbdjlmdbnoghnaaGreat
