/- The document's own disk: Write, Flush. The document's own disk: New. -/
import Derived.Test.YtbdjlmdbnoghnaaGreatMh24
import Derived.Test.YtbdjlmdbnoghnaaGreatMh16
namespace Go.Proofs.YtbdjlmdbnoghnaaGreat
open Go.RowKit

theorem infoWait : (Tryz.prog.info? 112).map (fun i => (i.zero, i.size, i.bytes)) = some (some (.agg #[.int .i64 0, .slice none 0 0]), 2, 32) := by kernel_rfl
theorem new_cells (w : World) (t : TypeId) (cs : List Value) : ∀ j u, cs[j]? = some u → (w.alloc (.cells cs.toArray t)).cell? ((⟨w.heap.size, 0, none⟩ : Addr).add j) = some u := fun j u hu => by
  rw [add_none, Nat.zero_add, (Blk.new w t cs.toArray).cell j, List.getElem?_toArray]
  exact hu

theorem bd_or {F G : Nat → Prop} {w : World} (h : Bd F w) (hG : Bd G w) : Bd (fun j => F j ∨ G j) w := by
  rintro j (h1 | h1)
  · exact h j h1
  · exact hG j h1
theorem Adv.plus {F G : Nat → Prop} {w w' : World} (h : Adv Nul w F w') : Adv G w (fun j => G j ∨ F j) w' :=
  ⟨h.os, h.tape, h.output, h.size, fun j hj _ => h.block j hj (fun x => x), fun _ hk => hk.elim .inl (fun h1 => .inr (h.new_at h1))⟩

section
variable {w w' : World} {F F' G : Nat → Prop} {c n : Nat} {vL vQ : Value} {ls : List Value} {ps : List (Nat × Value)} {s : DS}
theorem RkI.weak {U : Nat → Prop} (h : RkI w G c n vL vQ ls ps s) (hU : ∀ k, G k → U k) (hb : Bd U w) : RkI w U c n vL vQ ls ps s :=
  ⟨h.ok, h.blk, h.l.weak hU hb, h.rows.mono (fun _ _ _ k => k.weak hU hb), h.q.weak hU hb, h.que.mono (fun _ _ _ k => k.weak hU hb), hU _ h.inG⟩
/-- a write has been laid behind those that wait -/
theorem RkI.push {w3 : World} {o : Obj} {v5 vQ' : Value} {b : List Nat} {i m : Nat} (h : RkI w G c n vL vQ ls ps s) (h5 : Sl w G 5 1 v5 128 (b.map u8)) (hb : b.length = 128) (ho : ({ s with Q := s.Q ++ [(i, b)] } : DS).ok n)
    (hown : w3.ownsRow 0 112 2 vQ' (s.Q.length + 1) (ps.flatMap pcells ++ [.int .i64 (i : Int), v5])) (hg : (w.alloc o).grownBy w3 vQ.ownBlock) (hat : vQ'.ownBlock = vQ.ownBlock ∨ vQ'.ownBlock = some m) (hm : (w.alloc o).heap.size ≤ m) :
    w3.cell? ⟨c, 1, none⟩ = some vQ ∧ w3.frozen? ⟨c, 1, none⟩ = false ∧ (∃ A k l, vQ' = .slice A k l) ∧
    RkI (w3.setCell ⟨c, 1, none⟩ vQ') (fun k => G k ∨ vQ'.ownBlock = some k) c n vL vQ' ls (ps ++ [(i, v5)]) { s with Q := s.Q ++ [(i, b)] } ∧ Adv G w (fun k => G k ∨ vQ'.ownBlock = some k) (w3.setCell ⟨c, 1, none⟩ vQ') := by
  have hA := (Adv.refl G w).alloc o
  have up : ∀ {e : TypeId} {size n : Nat} {v : Value} {xs : List Value}, Sl w G e size v n xs → Sl (w.alloc o) G e size v n xs := fun h => h.keepH (fun k hk => Below.heap_alloc _ _ _ (h.bd k hk)) (by simp)
  have hq := up h.q
  obtain ⟨g1, g2⟩ := sl_grown hq hown hg hat hm
  have hbc : Blk w3 c 66 #[vL, vQ, .int .i64 (fuseI s), .bool s.dead] :=
    (h.blk.alloc o).keep (hg.block c (h.blk.alloc o).lt (fun e => own_blk_ne hq.own (h.blk.alloc o) (by decide) e.symm))
  have oth : ∀ {e : TypeId} {size n : Nat} {v : Value} {xs : List Value}, Sl w G e size v n xs → 112 ≠ e → Sl w3 (fun k => G k ∨ vQ'.ownBlock = some k) e size v n xs := fun h hne => ((up h).grown_other hg hq.own hne).weak (fun _ h => .inl h) g1.bd
  have st : ∀ {e : TypeId} {size n : Nat} {v : Value} {xs : List Value}, Sl w3 (fun k => G k ∨ vQ'.ownBlock = some k) e size v n xs → 66 ≠ e → Sl (w3.setCell ⟨c, 1, none⟩ vQ') (fun k => G k ∨ vQ'.ownBlock = some k) e size v n xs := fun h hne => h.setOther hbc hne 1
  refine ⟨hbc.cell 1, hbc.frozen 1, ?_, ⟨ho, hbc.set_ 1 vQ', st (oth h.l (by decide)) (by decide), h.rows.mono (fun _ _ _ k => st (oth k (by decide)) (by decide)), ?_, ?_, .inl h.inG⟩, (hA.trans g2).setCell (.inl h.inG) _⟩
  · rcases hown.2 with ⟨rfl, _⟩ | ⟨_, _, _, rfl, _⟩ <;> exact ⟨_, _, _, rfl⟩
  · have := st g1 (by decide)
    rw [List.flatMap_append]
    simpa [pcells] using this
  · have h5' := st (oth h5 (by decide)) (by decide)
    refine ⟨by simp [h.que.1], fun k hk => ?_⟩
    rw [List.length_append, List.length_singleton] at hk
    by_cases hlt : k < ps.length
    · obtain ⟨q, k1, k2, k3, k4⟩ := h.que.2 k hlt
      rw [List.getElem_append_left hlt]
      refine ⟨q, ?_, k2, k3, st (oth k4 (by decide)) (by decide)⟩
      show (s.Q ++ [(i, b)])[k]? = _
      rw [List.getElem?_append_left (by rw [← h.que.1]; exact hlt)]
      exact k1
    · have e : k = ps.length := by omega
      subst e
      rw [List.getElem_append_right (Nat.le_refl _)]
      refine ⟨(i, b), ?_, by simp, hb, by simpa using h5'⟩
      show (s.Q ++ [(i, b)])[ps.length]? = _
      rw [h.que.1, List.getElem?_append_right (Nat.le_refl _)]; simp
/-- a row is stored -/
theorem RkI.setL {gL cap i : Nat} {v : Value} {r : List Nat} (h : RkI w G c n (.slice (some ⟨gL, 0, none⟩) n cap) vQ ls ps s) (hi : i < n) (hv : Sl w G 5 1 v 128 (r.map u8)) (hr : r.length = 128) :
    RkI (w.setCell ⟨gL, i, none⟩ v) G c n (.slice (some ⟨gL, 0, none⟩) n cap) vQ (ls.set i v) ps { s with L := s.L.set i r } ∧ Adv G w G (w.setCell ⟨gL, i, none⟩ v) ∧ (∃ u, w.cell? ⟨gL, i, none⟩ = some u) ∧ w.frozen? ⟨gL, i, none⟩ = false := by
  have hG : G gL := h.l.inF gL rfl
  obtain ⟨cur, hcur⟩ : ∃ cur, Blk w gL 53 cur := by
    rcases h.l.own.2 with ⟨hv, _⟩ | ⟨g, cap', cur, hv, _, hg, _⟩
    · cases hv
    · injection hv with e1
      injection e1 with e1
      injection e1 with e1
      subst e1
      exact ⟨cur, hg⟩
  have hln : ls.length = n := by have := h.l.own.1; omega
  have st : ∀ {e : TypeId} {size n : Nat} {v' : Value} {xs : List Value}, Sl w G e size v' n xs → 53 ≠ e → Sl (w.setCell ⟨gL, i, none⟩ v) G e size v' n xs := fun h hne => h.setOther hcur hne i
  have hcne : c ≠ gL := fun e => by subst e; exact h.blk.ne_ hcur (by decide) rfl
  refine ⟨⟨⟨by show (s.L.set i r).length = n; rw [List.length_set]; exact h.ok.len, row_set h.ok.row i hr, h.ok.at_, h.ok.dd, h.ok.fz⟩, h.blk.far (p := ⟨gL, i, none⟩) hcne v, ⟨(h.l.own.stored i v).1, h.l.inF, fun k hk => by have := h.l.bd k hk; simpa [World.setCell] using this⟩, ⟨by show (ls.set i v).length = (s.L.set i r).length; rw [List.length_set, List.length_set]; exact h.rows.1, fun k hk => ?_⟩, st h.q (by decide), h.que.mono (fun _ _ _ k => st k (by decide)), h.inG⟩, (Adv.refl G w).setCell (.inl hG) _, ?_, h.l.own.frozenAt i⟩
  · rw [List.length_set] at hk
    show ∃ r', (s.L.set i r)[k]? = some r' ∧ _
    by_cases hik : i = k
    · subst hik
      refine ⟨r, ?_, hr, ?_⟩
      · rw [List.getElem?_set_self (by rw [h.ok.len]; exact hi)]
      · rw [List.getElem_set_self]; exact st hv (by decide)
    · obtain ⟨r', k1, k2, k3⟩ := h.rows.2 k hk
      refine ⟨r', ?_, k2, ?_⟩
      · rw [List.getElem?_set_ne hik]; exact k1
      · rw [List.getElem_set_ne hik]; exact st k3 (by decide)
  · rw [h.l.own.cellAt i (by omega)]
    exact ⟨_, List.getElem?_eq_getElem (by omega)⟩
/-- nothing waits any more -/
theorem RkI.clear (h : RkI w G c n vL vQ ls ps s) : RkI (w.setCell ⟨c, 1, none⟩ (.slice none 0 0)) G c n vL (.slice none 0 0) ls [] { s with Q := [] } ∧ Adv G w G (w.setCell ⟨c, 1, none⟩ (.slice none 0 0)) :=
  ⟨⟨⟨h.ok.len, h.ok.row, fun q hq => by simp at hq, h.ok.dd, h.ok.fz⟩, h.blk.set_ 1 _, h.l.setOther h.blk (by decide) 1, h.rows.mono (fun _ _ _ k => k.setOther h.blk (by decide) 1), Sl.nilF _ _ (fun k hk => by have := h.bd k hk; simpa [World.setCell] using this) _ _, ⟨rfl, fun k hk => absurd hk (by simp)⟩, h.inG⟩, (Adv.refl G w).setCell (.inl h.inG) _⟩
end

set_option maxRecDepth 3000 in
set_option maxHeartbeats 1600000 in
theorem rwrite_ok (c n i : Nat) (vb : Value) (G : Nat → Prop) (s : DS) (b : List Nat) (w : World) (h : Rk w G c n s) (hi : i < n) (hb : Rd w 1 vb 128 (b.map u8)) (hbl : b.length = 128) (hsep : ∀ k, vb.ownBlock = some k → ¬ G k) (hs : (stepS s).2 = true) (hql : s.Q.length ≤ 1000000) (hok : ({ (stepS s).1 with Q := s.Q ++ [(i, b)] } : DS).ok n) :
    Calls Tryz.prog 52 #[.pointer (some ⟨c, 0, none⟩), .int .i64 (i : Int), vb] w fun e w' => e = .returned (.int .i64 0) ∧ ∃ G', Rk w' G' c n { (stepS s).1 with Q := s.Q ++ [(i, b)] } ∧ Adv G w G' w' := by
  obtain ⟨vL, vQ, ls, ps, h⟩ := h
  have c0 := h.c0
  obtain ⟨aL, cL, rfl, _, _⟩ := h.l.form0
  obtain ⟨A, cb, rfl, _, _⟩ := hb.form
  have hin : (i : Int) < (n : Int) := by omega
  have hi0 : (0 : Int) ≤ (i : Int) := by omega
  have H := Lib.hid h
  have HB := Lib.hid hb
  have HBL := Lib.hid hbl
  have HSEP := Lib.hid hsep
  have HS := Lib.hid hs
  have HQ := Lib.hid hql
  have HOK := Lib.hid hok
  clear h hb hbl hsep hs hql hok hi
  go_enter Tryz.func52, Tryz.ntmps52
  go_wp2_with (first
    | (go_at_call 86; refine (rstep_dk c n _ vQ ls ps G s _ H.out).mono ?_; rw [HS.out]; rintro e w1 ⟨rfl, h1, a1⟩; obtain ⟨s1, hs1⟩ : ∃ s1, s1 = (stepS s).1 := ⟨_, rfl⟩; have hq1 : s1.Q = s.Q := (by rw [hs1, stepS_Q]); have hok1 : ({ s1 with Q := s1.Q ++ [(i, b)] } : DS).ok n := (by rw [hq1, hs1]; exact HOK.out); rw [← hs1] at h1; have HS1 := Lib.hid hs1; have HQ1 := Lib.hid hq1; have HOK1 := Lib.hid hok1; clear hs1 hq1 hok1; obtain ⟨aQ, cQ, rfl, _, _⟩ := h1.q.form0; have c11 := h1.c1; have H1 := Lib.hid h1; have A1 := Lib.hid a1; have RB1 := Lib.hid (HB.out.far (w' := w1) (fun k hk _ hl => a1.block k hl (HSEP.out k hk)) a1.size); clear h1 a1)
    | (go_at_call 40; refine (copy_any _ 128 b _ RB1.out (by decide)).mono ?_; rintro e w2 ⟨v2, F2, rfl, h2, a2⟩; obtain ⟨g2, cc2, rfl, _, _⟩ := h2.form (by decide); have H2 := Lib.hid h2; have A2 := Lib.hid a2; clear h2 a2)
    | (at_builtin; refine op_append_own rfl (.tmp 32) (.tmp 37) 64 112 rfl Tryz.underlying64 infoWait rfl (by decide) rfl (Sl.keepH (H1.out.far A2.out (fun _ h _ => h)).q (fun k hk => Below.heap_alloc _ _ _ ((H1.out.far A2.out (fun _ h _ => h)).bd k hk)) (by simp)).own ⟨w2.heap.size, 0, none⟩ 1 1 rfl [.int .i64 (i : Int), .slice (some ⟨g2, 0, none⟩) 128 cc2] rfl (new_cells w2 112 _) (by intro u hu; simp at hu; rcases hu with rfl | rfl <;> rfl) (by have := HQ.out; rw [HQ1.out]; unfold maxLen; omega) (by have := HQ.out; rw [HQ1.out]; omega) ?_; intro vQ' w3 hown hg hat; obtain ⟨k1, k2, ⟨A6, n6, c6, rfl⟩, k4, k5⟩ := ((H1.out.far A2.out (fun _ h _ => h)).weak (U := fun k => G k ∨ F2 k) (fun _ h => .inl h) (bd_or (A2.out.bd H1.out.bd) H2.out.bd)).push (H2.out.weak (fun _ h => .inr h) (bd_or (A2.out.bd H1.out.bd) H2.out.bd)) HBL.out HOK1.out hown hg hat (by simp); have K4 := Lib.hid k4; have K5 := Lib.hid (((A1.out.trans (A2.out.plus (G := G))).trans k5)); clear k4 k5 hown hg hat)
    | fail)
  go_ret
  have h := K4.out
  rw [HQ1.out, HS1.out] at h
  exact ⟨rfl, _, ⟨_, _, _, _, h⟩, K5.out⟩

set_option maxRecDepth 3000 in
theorem rwrite_bad (c n m : Nat) (i : Int) (vb : Value) (G : Nat → Prop) (s : DS) (w : World) (h : Rk w G c n s) (A : Option Addr) (cb : Nat) (hv : vb = .slice A m cb) (hi : ¬ (0 ≤ i ∧ i < (n : Int)) ∨ m ≠ 128) :
    Calls Tryz.prog 52 #[.pointer (some ⟨c, 0, none⟩), .int .i64 i, vb] w fun e w' => e = .returned (.int .i64 2) ∧ w = w' := by
  subst hv
  obtain ⟨vL, vQ, ls, ps, h⟩ := h
  have c0 := h.c0
  obtain ⟨aL, cL, rfl, _, _⟩ := h.l.form0
  clear h
  by_cases h0 : i < 0
  · clear hi
    go_enter Tryz.func52, Tryz.ntmps52
    go_wp2_with fail
    go_ret
    exact ⟨rfl, rfl⟩
  · by_cases h1 : (n : Int) ≤ i
    · have h2 : (0 : Int) ≤ i := by omega
      clear hi h0
      go_enter Tryz.func52, Tryz.ntmps52
      go_wp2_with fail
      go_ret
      exact ⟨rfl, rfl⟩
    · have hm : ((m : Int) != 128) = true := by
        rw [bne_iff_ne]
        rcases hi with h | h
        · exact absurd ⟨by omega, by omega⟩ h
        · omega
      have h2 : (0 : Int) ≤ i := by omega
      have h3 : i < (n : Int) := by omega
      clear hi h0 h1
      go_enter Tryz.func52, Tryz.ntmps52
      go_wp2_with fail
      go_ret
      exact ⟨rfl, rfl⟩
set_option maxRecDepth 3000 in
theorem rwrite_dead (c n i : Nat) (vb : Value) (G : Nat → Prop) (s : DS) (w : World) (h : Rk w G c n s) (hi : i < n) (A : Option Addr) (cb : Nat) (hv : vb = .slice A 128 cb) (hs : (stepS s).2 = false) :
    Calls Tryz.prog 52 #[.pointer (some ⟨c, 0, none⟩), .int .i64 (i : Int), vb] w fun e w' => e = .returned (.int .i64 7) ∧ Rk w' G c n (stepS s).1 ∧ Adv G w G w' := by
  subst hv
  obtain ⟨vL, vQ, ls, ps, h⟩ := h
  have c0 := h.c0
  obtain ⟨aL, cL, rfl, _, _⟩ := h.l.form0
  have hin : (i : Int) < (n : Int) := by omega
  have hi0 : (0 : Int) ≤ (i : Int) := by omega
  have H := Lib.hid h
  have HS := Lib.hid hs
  clear h hs hi
  go_enter Tryz.func52, Tryz.ntmps52
  go_wp2_with (first
    | (go_at_call 86; refine (rstep_dk c n _ vQ ls ps G s _ H.out).mono ?_; rw [HS.out]; rintro e w1 ⟨rfl, h1, a1⟩; have H1 := Lib.hid h1; have A1 := Lib.hid a1; clear h1 a1)
    | fail)
  go_ret
  exact ⟨rfl, ⟨_, _, _, _, H1.out⟩, A1.out⟩

/-- Write -/
theorem rwrite_dk (c n m : Nat) (i : Int) (vb : Value) (G : Nat → Prop) (s : DS) (b : List Nat) (w : World) (h : Rk w G c n s) (hb : Rd w 1 vb m (b.map u8)) (hsep : ∀ k, vb.ownBlock = some k → ¬ G k) (hql : s.Q.length ≤ 1000000) :
    Calls Tryz.prog 52 #[.pointer (some ⟨c, 0, none⟩), .int .i64 i, vb] w fun e w' => e = .returned (.int .i64 (writeS s i b).2) ∧ ∃ G', Rk w' G' c n (writeS s i b).1 ∧ Adv G w G' w' := by
  have hso : s.ok n := by obtain ⟨_, _, _, _, h⟩ := h; exact h.ok
  have hok := writeS_ok hso i b
  have hn := hso.len
  obtain ⟨A, cb, hv, _, _⟩ := hb.form
  have hbl : b.length = m := by obtain ⟨_, _, _, _, _, h, _⟩ := hb; simpa using h
  by_cases hc : i < 0 ∨ (s.L.length : Int) ≤ i ∨ b.length ≠ 128
  · refine (rwrite_bad c n m i vb G s w h A cb hv (by
      rw [hbl, hn] at hc
      rcases hc with h | h | h
      · left; omega
      · left; omega
      · exact .inr h)).mono ?_
    rintro e w' ⟨rfl, rfl⟩
    unfold writeS
    rw [if_pos hc]
    exact ⟨rfl, G, h, Adv.refl _ _⟩
  · have hi0 : 0 ≤ i := by omega
    have hin : i < (n : Int) := by omega
    obtain ⟨j, rfl⟩ := Int.eq_ofNat_of_zero_le hi0
    have h128 : b.length = 128 := by omega
    have hm : m = 128 := by omega
    subst hm
    unfold writeS at hok ⊢
    rw [if_neg hc] at hok ⊢
    cases hs : (stepS s).2 with
    | true =>
      rw [hs] at hok
      simp only [if_true, Int.toNat_natCast] at hok ⊢
      refine (rwrite_ok c n j vb G s b w h (by omega) hb h128 hsep hs hql hok).mono ?_
      rintro e w' ⟨rfl, G', h1, h2⟩
      exact ⟨rfl, G', h1, h2⟩
    | false =>
      simp only [Bool.false_eq_true, if_false]
      refine (rwrite_dead c n j vb G s w h (by omega) A cb hv hs).mono ?_
      rintro e w' ⟨rfl, h1, h2⟩
      exact ⟨rfl, G, h1, h2⟩

theorem RkI.flushAt {w : World} {G : Nat → Prop} {c n gL cap k : Nat} {vQ : Value} {ls : List Value} {ps : List (Nat × Value)} {s : DS} (h : RkI w G c n (.slice (some ⟨gL, 0, none⟩) n cap) vQ ls ps s) (hk : k < s.Q.length) :
    ∃ gQ cQ v a, vQ = .slice (some ⟨gQ, 0, none⟩) s.Q.length cQ ∧ a = (s.Q.getD k (0, [])).1 ∧ a < n ∧ w.cell? ⟨gQ, k * 2, none⟩ = some (.int .i64 (a : Int)) ∧ w.cell? ⟨gQ, k * 2 + 1, none⟩ = some v ∧ (∃ A m cc, v = .slice A m cc) ∧
      RkI (w.setCell ⟨gL, a, none⟩ v) G c n (.slice (some ⟨gL, 0, none⟩) n cap) vQ (ls.set a v) ps { s with L := s.L.set a (s.Q.getD k (0, [])).2 } ∧ Adv G w G (w.setCell ⟨gL, a, none⟩ v) ∧ (∃ u, w.cell? ⟨gL, a, none⟩ = some u) ∧ w.frozen? ⟨gL, a, none⟩ = false ∧
      (w.setCell ⟨gL, a, none⟩ v).cell? ⟨gQ, k * 2, none⟩ = some (.int .i64 (a : Int)) ∧ (w.setCell ⟨gL, a, none⟩ v).cell? ⟨gQ, k * 2 + 1, none⟩ = some v := by
  obtain ⟨gQ, cQ, v, rfl, kA, kD, sD, hq1, hq2⟩ := h.qat hk
  obtain ⟨r1, r2, r3, r4⟩ := h.setL hq1 sD hq2
  have hne : gQ ≠ gL := fun e => own_ne h.q.own h.l.own (by decide) gQ rfl (by rw [e]; rfl)
  have hkeep : ∀ j, (w.setCell ⟨gL, (s.Q.getD k (0, [])).1, none⟩ v).cell? ⟨gQ, j, none⟩ = w.cell? ⟨gQ, j, none⟩ := fun j => World.cell?_of_block (heap_setCell_other w _ gQ _ hne)
  obtain ⟨A, cc, rfl, _, _⟩ := sD.form0
  exact ⟨gQ, cQ, _, _, rfl, rfl, hq1, kA, kD, ⟨_, _, _, rfl⟩, r1, r2, r3, r4, (hkeep _).trans kA, (hkeep _).trans kD⟩

def RfRel (w : World) (G : Nat → Prop) (c n gL cap : Nat) (vQ : Value) (ps : List (Nat × Value)) (s : DS) (L0 : List (List Nat)) (t : Value) (wr : World) : Prop :=
  ∃ k ls, t = .int .i64 ((k : Nat) : Int) ∧ k ≤ s.Q.length ∧ RkI wr G c n (.slice (some ⟨gL, 0, none⟩) n cap) vQ ls ps { s with L := lays L0 (s.Q.take k) } ∧ Adv G w G wr

theorem lays_step {L : List (List Nat)} {Q : List (Nat × List Nat)} {k : Nat} (hk : k < Q.length) : lays L (Q.take (k + 1)) = (lays L (Q.take k)).set (Q.getD k (0, [])).1 (Q.getD k (0, [])).2 := by
  rw [List.take_succ_eq_append_getElem hk, lays_snoc]
  have e : Q.getD k (0, []) = Q[k] := by rw [List.getD_eq_getElem?_getD, List.getElem?_eq_getElem hk]; rfl
  rw [e]

set_option maxRecDepth 3000 in
set_option maxHeartbeats 1600000 in
theorem rflush_ok (c n : Nat) (G : Nat → Prop) (s : DS) (w : World) (h : Rk w G c n s) (hn : 0 < n) (hs : (stepS s).2 = true) (hq : s.Q.length ≤ 1000000) :
    Calls Tryz.prog 54 #[.pointer (some ⟨c, 0, none⟩)] w fun e w' => e = .returned (.int .i64 0) ∧ Rk w' G c n { (stepS s).1 with L := lays s.L s.Q, Q := [] } ∧ Adv G w G w' := by
  obtain ⟨vL, vQ, ls, ps, h⟩ := h
  obtain ⟨gL, cap, rfl, _, _⟩ := h.l.form hn
  have H := Lib.hid h
  have HS := Lib.hid hs
  have HQ := Lib.hid hq
  clear h hs hn hq
  go_enter Tryz.func54, Tryz.ntmps54
  go_wp2_with (first
    | (go_at_call 86; refine (rstep_dk c n _ vQ ls ps G s _ H.out).mono ?_; rw [HS.out]; rintro e w1 ⟨rfl, h1, a1⟩; obtain ⟨s1, hs1⟩ : ∃ s1, s1 = (stepS s).1 := ⟨_, rfl⟩; have hq1 : s1.Q = s.Q := (by rw [hs1, stepS_Q]); have hl1 : s1.L = s.L := (by rw [hs1, stepS_L]); rw [← hs1] at h1; have HS1 := Lib.hid hs1; have HQ1 := Lib.hid hq1; have HL1 := Lib.hid hl1; clear hs1 hq1 hl1; have H1 := Lib.hid h1; have A1 := Lib.hid a1; clear h1 a1)
    | fail)
  go_loopw [3] (RfRel w G c n gL cap vQ ps s1 s.L) (fun t _ => s1.Q.length - (intOf t).toNat)
  case atStart => exact ⟨0, ls, rfl, Nat.zero_le _, by have h := H1.out; rw [show ({ s1 with L := lays s.L (s1.Q.take 0) } : DS) = s1 by rw [← HL1.out]; rfl]; exact h, A1.out⟩
  case round =>
    obtain ⟨k, ls', rfl, hk, hr, ha⟩ := hrel
    obtain ⟨aQ, cQ, rfl, _, _⟩ := hr.q.form0
    have c1 := hr.c1
    have hkM : k ≤ 1000000 := by have := HQ.out; have := HQ1.out; rw [this] at hk; omega
    by_cases hlt : k < s1.Q.length
    · obtain ⟨gQ, cQ', v, a, e, ha1, han, kA, kD, ⟨A, m, cc, rfl⟩, r1, r2, ⟨u, r3⟩, r4, kA2, kD2⟩ := (hr.far ((Adv.refl Nul wr).drew) (fun _ h _ => h)).flushAt hlt
      injection e with e1 e2 e3
      subst e1
      clear e2 e3
      have hnext := lays_step (L := s.L) hlt
      rw [← ha1] at hnext
      have c0 : wr.drew.cell? ⟨c, 0, none⟩ = some (.slice (some ⟨gL, 0, none⟩) n cap) := hr.c0
      have c1d : wr.drew.cell? ⟨c, 1, none⟩ = some (.slice (some ⟨gQ, 0, none⟩) s1.Q.length cQ) := hr.c1
      have han0 : (0 : Int) ≤ (a : Int) := by omega
      have hani : (a : Int) < (n : Int) := by omega
      have hkq : (k : Int) < (s1.Q.length : Int) := by omega
      have hk2 : k + 1 ≤ 9223372036854775807 := by omega
      have D0 := Lib.hid r1.c0
      have D1 := Lib.hid r1.c1
      have KA2 := Lib.hid kA2
      have KD2 := Lib.hid kD2
      have R1 := Lib.hid r1
      have R2 := Lib.hid (ha.drew.trans r2)
      have HN := Lib.hid hnext
      have HLT := Lib.hid hlt
      clear r1 r2 kA2 kD2 hnext hr ha ha1 han hk hlt hkM
      go_wp2_with fail
      clear c1
      have c1 := c1d
      refine rstart (S := (fun w' => w'.cell? ⟨c, 0, none⟩ = some (.slice (some ⟨gL, 0, none⟩) n cap) ∧ w'.cell? ⟨c, 1, none⟩ = some (.slice (some ⟨gQ, 0, none⟩) s1.Q.length cQ) ∧ w'.cell? ⟨gQ, k * 2, none⟩ = some (.int .i64 (a : Int)) ∧ w'.cell? ⟨gQ, k * 2 + 1, none⟩ = some (.slice A m cc))) (by first | exact ⟨c0, c1, kA, kD⟩ | exact ⟨D0.out, D1.out, KA2.out, KD2.out⟩) (fun hH => ?_)
      refine tk (i := 0) (oi := ⟨some 16, .move (.tmp 0), 28, "ref.go:88", #[], none⟩) hH.out (by rintro w ⟨s0, s1', s2, s3⟩; go_simp <;> with_reducible rfl) ?_
      simp only [Act.put, sA, sB, sC]
      refine tk (i := 1) (oi := ⟨some 17, .nilCheck (.tmp 16), 0, "ref.go:88", #[⟨0, .data⟩], none⟩) hH.out (by rintro w ⟨s0, s1', s2, s3⟩; go_simp <;> with_reducible rfl) ?_
      simp only [Act.put, sA, sB, sC]
      refine tk (i := 2) (oi := ⟨some 18, .fieldAddr 66 (.tmp 17) 0, 0, "ref.go:88", #[⟨1, .data⟩], none⟩) hH.out (by rintro w ⟨s0, s1', s2, s3⟩; go_simp <;> with_reducible rfl) ?_
      simp only [Act.put, sA, sB, sC]
      refine tk (i := 3) (oi := ⟨some 19, .load 50 (.tmp 18), 50, "ref.go:88", #[⟨2, .data⟩], none⟩) hH.out (by rintro w ⟨s0, s1', s2, s3⟩; go_simp <;> with_reducible rfl) ?_
      simp only [Act.put, sA, sB, sC]
      refine tk (i := 4) (oi := ⟨some 20, .move (.tmp 0), 28, "ref.go:88", #[], none⟩) hH.out (by rintro w ⟨s0, s1', s2, s3⟩; go_simp <;> with_reducible rfl) ?_
      simp only [Act.put, sA, sB, sC]
      refine tk (i := 5) (oi := ⟨some 21, .nilCheck (.tmp 20), 0, "ref.go:88", #[⟨4, .data⟩], none⟩) hH.out (by rintro w ⟨s0, s1', s2, s3⟩; go_simp <;> with_reducible rfl) ?_
      simp only [Act.put, sA, sB, sC]
      refine tk (i := 6) (oi := ⟨some 22, .fieldAddr 66 (.tmp 21) 1, 0, "ref.go:88", #[⟨5, .data⟩], none⟩) hH.out (by rintro w ⟨s0, s1', s2, s3⟩; go_simp <;> with_reducible rfl) ?_
      simp only [Act.put, sA, sB, sC]
      refine tk (i := 7) (oi := ⟨some 23, .load 64 (.tmp 22), 64, "ref.go:88", #[⟨6, .data⟩], none⟩) hH.out (by rintro w ⟨s0, s1', s2, s3⟩; go_simp <;> with_reducible rfl) ?_
      simp only [Act.put, sA, sB, sC]
      refine tk (i := 8) (oi := ⟨some 24, .move (.tmp 3), 3, "ref.go:88", #[], none⟩) hH.out (by rintro w ⟨s0, s1', s2, s3⟩; go_simp <;> with_reducible rfl) ?_
      simp only [Act.put, sA, sB, sC]
      refine tk (i := 9) (oi := ⟨some 25, .indexAddr 64 (.tmp 23) (.tmp 24), 0, "ref.go:88", #[⟨7, .data⟩, ⟨8, .data⟩], none⟩) hH.out (by rintro w ⟨s0, s1', s2, s3⟩; go_simp <;> with_reducible rfl) ?_
      simp only [Act.put, sA, sB, sC]
      refine tk (i := 10) (oi := ⟨some 26, .fieldAddr 112 (.tmp 25) 0, 0, "ref.go:88", #[⟨9, .data⟩], none⟩) hH.out (by rintro w ⟨s0, s1', s2, s3⟩; go_simp <;> with_reducible rfl) ?_
      simp only [Act.put, sA, sB, sC]
      refine tk (i := 11) (oi := ⟨some 27, .load 3 (.tmp 26), 3, "ref.go:88", #[⟨10, .data⟩], none⟩) hH.out (by rintro w ⟨s0, s1', s2, s3⟩; go_simp <;> with_reducible rfl) ?_
      simp only [Act.put, sA, sB, sC]
      refine tk (i := 12) (oi := ⟨some 28, .move (.tmp 0), 28, "ref.go:88", #[], none⟩) hH.out (by rintro w ⟨s0, s1', s2, s3⟩; go_simp <;> with_reducible rfl) ?_
      simp only [Act.put, sA, sB, sC]
      refine tk (i := 13) (oi := ⟨some 29, .nilCheck (.tmp 28), 0, "ref.go:88", #[⟨12, .data⟩], none⟩) hH.out (by rintro w ⟨s0, s1', s2, s3⟩; go_simp <;> with_reducible rfl) ?_
      simp only [Act.put, sA, sB, sC]
      refine tk (i := 14) (oi := ⟨some 30, .fieldAddr 66 (.tmp 29) 1, 0, "ref.go:88", #[⟨13, .data⟩], none⟩) hH.out (by rintro w ⟨s0, s1', s2, s3⟩; go_simp <;> with_reducible rfl) ?_
      simp only [Act.put, sA, sB, sC]
      refine tk (i := 15) (oi := ⟨some 31, .load 64 (.tmp 30), 64, "ref.go:88", #[⟨14, .data⟩], none⟩) hH.out (by rintro w ⟨s0, s1', s2, s3⟩; go_simp <;> with_reducible rfl) ?_
      simp only [Act.put, sA, sB, sC]
      refine tk (i := 16) (oi := ⟨some 32, .move (.tmp 3), 3, "ref.go:88", #[], none⟩) hH.out (by rintro w ⟨s0, s1', s2, s3⟩; go_simp <;> with_reducible rfl) ?_
      simp only [Act.put, sA, sB, sC]
      refine tk (i := 17) (oi := ⟨some 33, .indexAddr 64 (.tmp 31) (.tmp 32), 0, "ref.go:88", #[⟨15, .data⟩, ⟨16, .data⟩], none⟩) hH.out (by rintro w ⟨s0, s1', s2, s3⟩; go_simp <;> with_reducible rfl) ?_
      simp only [Act.put, sA, sB, sC]
      refine tk (i := 18) (oi := ⟨some 34, .fieldAddr 112 (.tmp 33) 1, 0, "ref.go:88", #[⟨17, .data⟩], none⟩) hH.out (by rintro w ⟨s0, s1', s2, s3⟩; go_simp <;> with_reducible rfl) ?_
      simp only [Act.put, sA, sB, sC]
      refine tk (i := 19) (oi := ⟨some 35, .load 53 (.tmp 34), 53, "ref.go:88", #[⟨18, .data⟩], none⟩) hH.out (by rintro w ⟨s0, s1', s2, s3⟩; go_simp <;> with_reducible rfl) ?_
      simp only [Act.put, sA, sB, sC]
      refine tk (i := 20) (oi := ⟨some 36, .indexAddr 50 (.tmp 19) (.tmp 27), 0, "ref.go:88", #[⟨3, .data⟩, ⟨11, .data⟩, ⟨0, .phase⟩, ⟨1, .phase⟩, ⟨2, .phase⟩, ⟨3, .phase⟩, ⟨4, .phase⟩, ⟨5, .phase⟩, ⟨6, .phase⟩, ⟨7, .phase⟩, ⟨8, .phase⟩, ⟨9, .phase⟩, ⟨10, .phase⟩, ⟨11, .phase⟩, ⟨12, .phase⟩, ⟨13, .phase⟩, ⟨14, .phase⟩, ⟨15, .phase⟩, ⟨16, .phase⟩, ⟨17, .phase⟩, ⟨18, .phase⟩, ⟨19, .phase⟩], none⟩) hH.out (by rintro w ⟨s0, s1', s2, s3⟩; go_simp <;> with_reducible rfl) ?_
      simp only [Act.put, sA, sB, sC]
      refine rdy (i := 21) (oi := ⟨none, .store 53 (.tmp 36) (.tmp 35), 0, "ref.go:88", #[⟨20, .data⟩, ⟨19, .data⟩, ⟨0, .phase⟩, ⟨1, .phase⟩, ⟨2, .phase⟩, ⟨3, .phase⟩, ⟨4, .phase⟩, ⟨5, .phase⟩, ⟨6, .phase⟩, ⟨7, .phase⟩, ⟨8, .phase⟩, ⟨9, .phase⟩, ⟨10, .phase⟩, ⟨11, .phase⟩, ⟨12, .phase⟩, ⟨13, .phase⟩, ⟨14, .phase⟩, ⟨15, .phase⟩, ⟨16, .phase⟩, ⟨17, .phase⟩, ⟨18, .phase⟩, ⟨19, .phase⟩], none⟩) (fun K hK => ?_)
      go_simp
      refine hK.out _ _ (by first | exact ⟨c0, c1, kA, kD⟩ | exact ⟨D0.out, D1.out, KA2.out, KD2.out⟩) (fun hHeld => ?_)
      replace hH := Lib.hid hHeld
      clear hK K hHeld
      try simp only [Act.put]
      refine wpAnyH_done (by kernel_rfl) ?_ _
      go_wp2
      have hlt := HLT.out
      have hfin := R1.out
      rw [← HN.out] at hfin
      exact ⟨⟨k + 1, ls'.set a (.slice A m cc), by simp, by omega, hfin, R2.out⟩, by simp [intOf]; omega⟩
    · obtain rfl : k = s1.Q.length := by omega
      have f1 := hr.blk.frozen 1
      obtain ⟨r1, r2⟩ := hr.clear
      have R1 := Lib.hid r1
      have R2 := Lib.hid (ha.trans r2)
      clear r1 r2 hr ha hk hlt hkM
      go_wp2_with fail
      go_ret
      have h := R1.out
      rw [List.take_length, HQ1.out] at h
      rw [← HS1.out]
      exact ⟨rfl, ⟨_, _, _, _, h⟩, R2.out⟩
end Go.Proofs.YtbdjlmdbnoghnaaGreat
namespace Go.Proofs.YtbdjlmdbnoghnaaGreat
open Go.RowKit

set_option maxRecDepth 3000 in
theorem rflush_dk (c n : Nat) (G : Nat → Prop) (s : DS) (w : World) (h : Rk w G c n s) (hn : 0 < n) (hq : s.Q.length ≤ 1000000) :
    Calls Tryz.prog 54 #[.pointer (some ⟨c, 0, none⟩)] w fun e w' => e = .returned (.int .i64 (flushS s).2) ∧ Rk w' G c n (flushS s).1 ∧ Adv G w G w' := by
  unfold flushS
  cases hs : (stepS s).2 with
  | true =>
    simp only [if_true]
    exact rflush_ok c n G s w h hn hs hq
  | false =>
    simp only [Bool.false_eq_true, if_false]
    obtain ⟨vL, vQ, ls, ps, h⟩ := h
    have H := Lib.hid h
    have HS := Lib.hid hs
    clear h hs hn hq
    go_enter Tryz.func54, Tryz.ntmps54
    go_wp2_with (first
      | (go_at_call 86; refine (rstep_dk c n _ vQ ls ps G s _ H.out).mono ?_; rw [HS.out]; rintro e w1 ⟨rfl, h1, a1⟩; have H1 := Lib.hid h1; have A1 := Lib.hid a1; clear h1 a1)
      | fail)
    go_ret
    exact ⟨rfl, ⟨_, _, _, _, H1.out⟩, A1.out⟩

def zrow : List Nat := List.replicate 128 0
/-- The document's disk, while it is made. -/
structure Rn (w : World) (G : Nat → Prop) (c k : Nat) (vL : Value) (ls : List Value) : Prop where
  blk : Blk w c 66 #[vL, .slice none 0 0, .int .i64 (-1), .bool false]
  l : Sl w G 53 1 vL k ls
  rows : RowsR w G ls (List.replicate k zrow)
  inG : G c
theorem Rn.far {w w' : World} {F F' G : Nat → Prop} {c k : Nat} {vL : Value} {ls : List Value} (h : Rn w G c k vL ls) (ha : Adv F w F' w') (hs : Sep F G) : Rn w' G c k vL ls :=
  ⟨h.blk.keep (ha.far hs h.l.bd c h.inG), h.l.far ha hs, h.rows.mono (fun _ _ _ k => k.far ha hs), h.inG⟩
theorem Rn.weakN {w : World} {G U : Nat → Prop} {c k : Nat} {vL : Value} {ls : List Value} (h : Rn w G c k vL ls) (hU : ∀ k, G k → U k) (hb : Bd U w) : Rn w U c k vL ls := ⟨h.blk, h.l.weak hU hb, h.rows.mono (fun _ _ _ k => k.weak hU hb), hU _ h.inG⟩
theorem Rn.push {w w3 : World} {G : Nat → Prop} {c k m : Nat} {vL vL' v5 : Value} {ls : List Value} {o : Obj} (h : Rn w G c k vL ls) (h5 : Sl w G 5 1 v5 128 (zrow.map u8)) (hown : w3.ownsRow 0 53 1 vL' (k + 1) (ls ++ [v5])) (hg : (w.alloc o).grownBy w3 vL.ownBlock) (hat : vL'.ownBlock = vL.ownBlock ∨ vL'.ownBlock = some m) (hm : (w.alloc o).heap.size ≤ m) :
    w3.cell? ⟨c, 0, none⟩ = some vL ∧ w3.frozen? ⟨c, 0, none⟩ = false ∧ (∃ A k l, vL' = .slice A k l) ∧
    Rn (w3.setCell ⟨c, 0, none⟩ vL') (fun j => G j ∨ vL'.ownBlock = some j) c (k + 1) vL' (ls ++ [v5]) ∧ Adv G w (fun j => G j ∨ vL'.ownBlock = some j) (w3.setCell ⟨c, 0, none⟩ vL') := by
  have hA := (Adv.refl G w).alloc o
  have up : ∀ {e : TypeId} {size n : Nat} {v : Value} {xs : List Value}, Sl w G e size v n xs → Sl (w.alloc o) G e size v n xs := fun h => h.keepH (fun k hk => Below.heap_alloc _ _ _ (h.bd k hk)) (by simp)
  have hl := up h.l
  obtain ⟨g1, g2⟩ := sl_grown hl hown hg hat hm
  have hbc : Blk w3 c 66 #[vL, .slice none 0 0, .int .i64 (-1), .bool false] := (h.blk.alloc o).keep (hg.block c (h.blk.alloc o).lt (fun e => own_blk_ne hl.own (h.blk.alloc o) (by decide) e.symm))
  have oth : ∀ {n : Nat} {v : Value} {xs : List Value}, Sl w G 5 1 v n xs → Sl (w3.setCell ⟨c, 0, none⟩ vL') (fun j => G j ∨ vL'.ownBlock = some j) 5 1 v n xs := fun h => (((up h).grown_other hg hl.own (by decide)).weak (fun _ h => .inl h) g1.bd).setOther hbc (by decide) 0
  refine ⟨hbc.cell 0, hbc.frozen 0, ?_, ⟨hbc.set_ 0 vL', g1.setOther hbc (by decide) 0, ⟨by simp [h.rows.1], fun j hj => ?_⟩, .inl h.inG⟩, (hA.trans g2).setCell (.inl h.inG) _⟩
  · rcases hown.2 with ⟨rfl, _⟩ | ⟨_, _, _, rfl, _⟩ <;> exact ⟨_, _, _, rfl⟩
  · have hlk : ls.length = k := by have := h.rows.1; simpa using this
    rw [List.length_append, List.length_singleton] at hj
    refine ⟨zrow, ?_, by simp [zrow], ?_⟩
    · rw [List.getElem?_replicate, if_pos (by omega)]
    · by_cases hlt : j < ls.length
      · obtain ⟨r, k1, _, k3⟩ := h.rows.2 j hlt
        rw [List.getElem?_replicate, if_pos (by omega)] at k1
        injection k1 with k1
        rw [List.getElem_append_left hlt, k1]
        exact oth k3
      · have e : j = ls.length := by omega
        subst e
        rw [List.getElem_append_right (Nat.le_refl _)]
        simpa using oth h5

theorem Sl.up1 {w : World} {F : Nat → Prop} {e : TypeId} {size n : Nat} {v : Value} {xs : List Value} (h : Sl w F e size v n xs) (o : Obj) : Sl (w.alloc o) F e size v n xs := h.keepH (fun k hk => Below.heap_alloc _ _ _ (h.bd k hk)) (by simp)
theorem zrow_own {w : World} {z : Nat} (h : w.ownsRow 0 5 1 (.slice (some ⟨z, 0, none⟩) 128 128) 128 (List.replicate 128 (.int .u8 0))) : Sl w (fun j => j = z) 5 1 (.slice (some ⟨z, 0, none⟩) 128 128) 128 (zrow.map u8) := by
  have e : zrow.map u8 = List.replicate 128 (.int .u8 0) := by rw [zrow, List.map_replicate]; rfl
  rw [e]
  exact ⟨h, fun k hk => by simp [Value.ownBlock] at hk; exact hk.symm, fun k hk => by rw [hk]; exact (h.lt z rfl).2⟩

def RnRel (w : World) (c n : Nat) (t : Value) (wr : World) : Prop :=
  ∃ k G vL ls, t = .int .i64 ((k : Nat) : Int) ∧ k ≤ n ∧ Rn wr G c k vL ls ∧ Adv Nul w G wr

set_option maxRecDepth 3000 in
set_option maxHeartbeats 1600000 in
theorem rnew_r (n : Nat) (hn : 1 ≤ n) (hn2 : n ≤ 4096) (w : World) :
    Calls Tryz.prog 6 #[.int .i64 (n : Int)] w fun e w' => ∃ c G, e = .returned (.tuple #[.pointer (some ⟨c, 0, none⟩), .int .i64 0]) ∧ Rk w' G c n (newS n) ∧ Adv Nul w G w' := by
  obtain ⟨i0, hi, hz0, hz1, hz2⟩ := info_parts Tryz.infoU8
  have h1 : (1 : Int) ≤ (n : Int) := by omega
  have h2 : (n : Int) ≤ 4096 := by omega
  have HN2 := Lib.hid hn2
  have HN := Lib.hid hn
  have HI := Lib.hid hi
  have HZ0 := Lib.hid hz0
  have HZ1 := Lib.hid hz1
  have HZ2 := Lib.hid hz2
  clear hn hn2 hi hz0 hz1 hz2
  go_enter Tryz.func6, Tryz.ntmps6
  go_wp2_with fail
  obtain ⟨c, hc⟩ : ∃ c, c = w.heap.size := ⟨_, rfl⟩
  have hst : Rn (w.alloc (.cells #[.slice none 0 0, .slice none 0 0, .int .i64 (-1), .bool false] 66)) (fun k => k = c) c 0 (.slice none 0 0) [] := by
    rw [hc]
    exact ⟨Blk.new _ _ _, Sl.nilF _ _ (fun k hk => by subst hk; simp) _ _, ⟨rfl, fun k hk => absurd hk (by simp)⟩, rfl⟩
  have hadv : Adv Nul w (fun k => k = c) (w.alloc (.cells #[.slice none 0 0, .slice none 0 0, .int .i64 (-1), .bool false] 66)) :=
    ⟨rfl, rfl, rfl, by simp, fun k hk _ => Below.heap_alloc _ _ _ hk, fun k hk => .inr (by omega)⟩
  have HST := Lib.hid hst
  have HADV := Lib.hid hadv
  rw [← hc]
  clear hst hadv hc
  go_loopw [5] (RnRel w c n) (fun t _ => n - (intOf t).toNat)
  case atStart => exact ⟨0, _, _, _, rfl, Nat.zero_le _, HST.out, HADV.out⟩
  case round =>
    obtain ⟨k, G, vL, ls, rfl, hk, hr, ha⟩ := hrel
    obtain ⟨aL, cL, rfl, _, _⟩ := hr.l.form0
    have c0 := hr.blk.cell 0
    have HR := Lib.hid hr
    have HA := Lib.hid ha
    clear hr ha
    by_cases hlt : k < n
    · have hki : (k : Int) < (n : Int) := by omega
      have HLT := Lib.hid hlt
      clear hlt hk
      go_wp2_with (first
        | (at_make; refine wpList_make_full _ rfl _ _ 53 rfl 0 5 i0 (.int .u8 0) 1 Tryz.underlying53 HI.out HZ0.out HZ1.out .i64 .i64 _ _ 128 rfl rfl rfl rfl (by rw [HZ2.out]; decide) (by decide) (Nat.zero_le _) ?_; intro w1 hown hg; have hown2 := own_base hown; rw [made_one _ rfl] at hown2; have hadv : Adv Nul wr (fun j => j = wr.heap.size) w1 := ⟨hg.os, hg.tape, hg.output, hg.size, fun j hj _ => hg.block j hj (by simp), fun j hj => .inr (by rw [hj]; exact Nat.le_refl _)⟩; have hsl := zrow_own hown2; have ZR := Lib.hid hsl; have A1 := Lib.hid hadv; have c01 := (HR.out.far hadv (fun _ h _ => h)).blk.cell 0; clear hown hown2 hg hadv hsl)
        | (at_builtin; refine op_append_own rfl (.tmp 25) (.tmp 27) 50 53 rfl Tryz.underlying50 infoBytes rfl (by decide) rfl ((HR.out.far A1.out (fun _ h _ => h)).l.up1 _).own ⟨w1.heap.size, 0, none⟩ 1 1 rfl [_] rfl (cell_one_new _ _ _) (by intro u hu; simp at hu; subst hu; rfl) (by have := HLT.out; have := HN2.out; unfold maxLen; omega) (by have := HLT.out; have := HN2.out; omega) ?_; intro v' w3 hown hg hat; obtain ⟨k1, k2, ⟨A6, n6, c6, rfl⟩, k4, k5⟩ := ((HR.out.far A1.out (fun _ h _ => h)).weakN (U := fun j => G j ∨ j = wr.heap.size) (fun _ h => .inl h) (bd_or (A1.out.bd HR.out.l.bd) ZR.out.bd)).push (ZR.out.weak (fun _ h => .inr h) (bd_or (A1.out.bd HR.out.l.bd) ZR.out.bd)) hown hg hat (by simp); have K4 := Lib.hid k4; have K5 := Lib.hid ((HA.out.join A1.out).trans k5); clear k4 k5 hown hg hat)
        | fail)
      have hlt := HLT.out
      exact ⟨⟨k + 1, _, _, _, by simp, by omega, K4.out, K5.out⟩, by simp [intOf]; omega⟩
    · obtain rfl : k = n := by omega
      clear hlt hk
      go_wp2_with fail
      go_ret2
      refine ⟨c, G, rfl, ⟨_, _, ls, [], newS_ok k, HR.out.blk, HR.out.l, HR.out.rows, Sl.nilF _ _ HR.out.l.bd _ _, ⟨rfl, fun j hj => absurd hj (by simp)⟩, HR.out.inG⟩, HA.out⟩
end Go.Proofs.YtbdjlmdbnoghnaaGreat
