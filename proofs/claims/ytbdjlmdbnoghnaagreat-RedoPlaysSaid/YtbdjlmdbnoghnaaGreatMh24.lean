/- The writes that DiskLasts remembers; tails. The document's own disk: its memory; Step, Arm, Is, Read. The document's own disk: Arm, Is, Read. -/
import Derived.Test.YtbdjlmdbnoghnaaGreatMh23
namespace Go.Proofs.YtbdjlmdbnoghnaaGreat
open Go.RowKit

theorem own_ne {w : World} {e1 e2 : TypeId} {s1 s2 n1 n2 : Nat} {v1 v2 : Value} {x1 x2 : List Value} (h1 : w.ownsRow 0 e1 s1 v1 n1 x1) (h2 : w.ownsRow 0 e2 s2 v2 n2 x2) (hne : e1 ≠ e2) : ∀ k, v1.ownBlock = some k → v2.ownBlock ≠ some k := fun k hk => by
  rcases h1.2 with ⟨rfl, _⟩ | ⟨g, cap, cur, rfl, _, hg, _⟩
  · simp [Value.ownBlock] at hk
  · have : g = k := by simpa [Value.ownBlock] using hk
    subst this
    exact own_blk_ne h2 (t := e1) (show Blk w g e1 cur from hg) (fun e => hne e.symm)

theorem Sl.weak {w : World} {F G : Nat → Prop} {e : TypeId} {size n : Nat} {v : Value} {xs : List Value} (h : Sl w F e size v n xs) (hG : ∀ k, F k → G k) (hb : Bd G w) : Sl w G e size v n xs := ⟨h.own, fun k hk => hG k (h.inF k hk), hb⟩
theorem Sl.grown_other {w2 w3 : World} {F : Nat → Prop} {e e1 : TypeId} {size n s1 n1 : Nat} {v v1 : Value} {xs x1 : List Value} (h : Sl w2 F e size v n xs) (hg : w2.grownBy w3 v1.ownBlock) (h1 : w2.ownsRow 0 e1 s1 v1 n1 x1) (hne : e1 ≠ e) : Sl w3 F e size v n xs :=
  h.keepB (fun k hk => hg.block k (h.bd k (h.inF k hk)) (fun e => own_ne h1 h.own hne k e.symm hk)) hg.size

theorem Adv.join {G F : Nat → Prop} {w0 w1 w2 : World} (h : Adv Nul w0 G w1) (k : Adv Nul w1 F w2) : Adv Nul w0 (fun j => G j ∨ F j) w2 :=
  ⟨k.os.trans h.os, k.tape.trans h.tape, k.output.trans h.output, Nat.le_trans h.size k.size, fun j hj _ => (k.block j (Nat.lt_of_lt_of_le hj h.size) (fun x => x)).trans (h.block j hj (fun x => x)), fun j hj => by
    rcases hj with hj | hj
    · exact .inr (h.new_at hj)
    · have := k.new_at hj
      have := h.size
      exact .inr (by omega)⟩

/-- a slice's front, its end -/
theorem Rd.front8 {w : World} {g c n t : Nat} {l : List Nat} (h : Rd w 1 (.slice (some ⟨g, 0, none⟩) n c) n (l.map u8)) (ht : t ≤ n) : Rd w 1 (.slice (some ⟨g, 0, none⟩) t c) t ((l.take t).map u8) := by
  obtain ⟨A, c', e, h1, h2, h3, h4, h5⟩ := h
  injection e with e1 e2 e3
  subst e1 e3
  have hl : l.length = n := by simpa using h3
  refine ⟨_, c, rfl, by omega, h2, by simp; omega, fun h => (by cases h), fun hn => ?_⟩
  obtain ⟨ad, e, hb, hc⟩ := h5 (by omega)
  injection e with e
  subst e
  refine ⟨_, rfl, hb, fun j u hu => hc j u ?_⟩
  rw [List.map_take, List.getElem?_take] at hu
  split at hu
  · exact hu
  · cases hu
theorem Rd.back8 {w : World} {g c n t : Nat} {l : List Nat} (h : Rd w 1 (.slice (some ⟨g, 0, none⟩) n c) n (l.map u8)) (ht : t < n) : Rd w 1 (.slice (some ⟨g, t, none⟩) (n - t) (c - t)) (n - t) ((l.drop t).map u8) := by
  obtain ⟨A, c', e, h1, h2, h3, h4, h5⟩ := h
  injection e with e1 e2 e3
  subst e1 e3
  have hl : l.length = n := by simpa using h3
  refine ⟨_, c - t, rfl, by omega, by omega, by simp; omega, fun h => (by cases h), fun hn => ?_⟩
  obtain ⟨ad, e, hb, hc⟩ := h5 (by omega)
  injection e with e
  subst e
  refine ⟨_, rfl, hb, fun j u hu => ?_⟩
  rw [List.map_drop, List.getElem?_drop] at hu
  have := hc (t + j) u hu
  rw [add_none] at this ⊢
  rw [Nat.zero_add] at this
  exact this
end Go.Proofs.YtbdjlmdbnoghnaaGreat
namespace Go.Proofs.YtbdjlmdbnoghnaaGreat
open Go.RowKit

def fuseI (s : DS) : Int := match s.fuse with
  | none => -1
  | some f => (f : Int)
def pcells (p : Nat × Value) : List Value := [.int .i64 (p.1 : Int), p.2]

/-- rows, each with a block of its own or with another's -/
def RowsR (w : World) (G : Nat → Prop) (ls : List Value) (L : List (List Nat)) : Prop := ls.length = L.length ∧ ∀ k (h : k < ls.length), ∃ r, L[k]? = some r ∧ r.length = 128 ∧ Sl w G 5 1 ls[k] 128 (r.map u8)
def QueR (w : World) (G : Nat → Prop) (ps : List (Nat × Value)) (Q : List (Nat × List Nat)) : Prop := ps.length = Q.length ∧ ∀ k (h : k < ps.length), ∃ q, Q[k]? = some q ∧ q.1 = ps[k].1 ∧ q.2.length = 128 ∧ Sl w G 5 1 ps[k].2 128 (q.2.map u8)

/-- The document's disk at block c. -/
structure RkI (w : World) (G : Nat → Prop) (c n : Nat) (vL vQ : Value) (ls : List Value) (ps : List (Nat × Value)) (s : DS) : Prop where
  ok : s.ok n
  blk : Blk w c 66 #[vL, vQ, .int .i64 (fuseI s), .bool s.dead]
  l : Sl w G 53 1 vL n ls
  rows : RowsR w G ls s.L
  q : Sl w G 112 2 vQ s.Q.length (ps.flatMap pcells)
  que : QueR w G ps s.Q
  inG : G c
def Rk (w : World) (G : Nat → Prop) (c n : Nat) (s : DS) : Prop := ∃ vL vQ ls ps, RkI w G c n vL vQ ls ps s

section
variable {w w' : World} {F F' G : Nat → Prop} {c n : Nat} {vL vQ : Value} {ls : List Value} {ps : List (Nat × Value)} {s : DS} {L : List (List Nat)} {Q : List (Nat × List Nat)}
theorem RowsR.mono (h : RowsR w G ls L) (hs : ∀ v n xs, Sl w G 5 1 v n xs → Sl w' F 5 1 v n xs) : RowsR w' F ls L := ⟨h.1, fun k hk => by
  obtain ⟨r, k1, k2, k3⟩ := h.2 k hk
  exact ⟨r, k1, k2, hs _ _ _ k3⟩⟩
theorem QueR.mono (h : QueR w G ps Q) (hs : ∀ v n xs, Sl w G 5 1 v n xs → Sl w' F 5 1 v n xs) : QueR w' F ps Q := ⟨h.1, fun k hk => by
  obtain ⟨q, k1, k2, k3, k4⟩ := h.2 k hk
  exact ⟨q, k1, k2, k3, hs _ _ _ k4⟩⟩
theorem RkI.bd (h : RkI w G c n vL vQ ls ps s) : Bd G w := h.l.bd
theorem RkI.far (h : RkI w G c n vL vQ ls ps s) (ha : Adv F w F' w') (hs : Sep F G) : RkI w' G c n vL vQ ls ps s :=
  ⟨h.ok, h.blk.keep (ha.far hs h.bd c h.inG), h.l.far ha hs, h.rows.mono (fun _ _ _ h => h.far ha hs), h.q.far ha hs, h.que.mono (fun _ _ _ h => h.far ha hs), h.inG⟩
theorem Rk.far (h : Rk w G c n s) (ha : Adv F w F' w') (hs : Sep F G) : Rk w' G c n s := by
  obtain ⟨vL, vQ, ls, ps, h⟩ := h
  exact ⟨vL, vQ, ls, ps, h.far ha hs⟩
theorem Rk.bd (h : Rk w G c n s) : Bd G w := by
  obtain ⟨vL, vQ, ls, ps, h⟩ := h
  exact h.bd
theorem Rk.drewN (h : Rk w G c n s) (k : Nat) : Rk (w.drewN k) G c n s := h.far ((Adv.refl Nul w).drewN k) (fun _ h _ => h)
/-- a slice at whose block nothing is stored -/
theorem Sl.setOther {e t : TypeId} {size m g : Nat} {v u : Value} {xs : List Value} {cs : Array Value} (h : Sl w G e size v m xs) (hg : Blk w g t cs) (hne : t ≠ e) (i : Nat) : Sl (w.setCell ⟨g, i, none⟩ u) G e size v m xs :=
  h.keepB (fun k hk => heap_setCell_other w _ k u (fun e' => own_blk_ne h.own hg (fun e2 => hne e2.symm) (by rw [hk, e']))) (by simp [World.setCell])
/-- a cell of the head is stored -/
theorem RkI.head (h : RkI w G c n vL vQ ls ps s) (i : Nat) (u : Value) {vL' vQ' : Value} {s' : DS} (ho : s'.ok n) (hL : s'.L = s.L) (hQ : s'.Q = s.Q) (e1 : vL' = vL) (e2 : vQ' = vQ) (hb : (#[vL, vQ, .int .i64 (fuseI s), .bool s.dead] : Array Value).setIfInBounds i u = #[vL', vQ', .int .i64 (fuseI s'), .bool s'.dead]) :
    RkI (w.setCell ⟨c, i, none⟩ u) G c n vL' vQ' ls ps s' ∧ Adv G w G (w.setCell ⟨c, i, none⟩ u) := by
  subst e1 e2
  have hbk := h.blk.set_ i u
  rw [hb] at hbk
  refine ⟨⟨ho, hbk, h.l.setOther h.blk (by decide) i, ?_, ?_, ?_, h.inG⟩, (Adv.refl G w).setCell (.inl h.inG) _⟩
  · rw [hL]; exact h.rows.mono (fun _ _ _ k => k.setOther h.blk (by decide) i)
  · rw [hQ]; exact h.q.setOther h.blk (by decide) i
  · rw [hQ]; exact h.que.mono (fun _ _ _ k => k.setOther h.blk (by decide) i)
theorem RkI.c0 (h : RkI w G c n vL vQ ls ps s) : w.cell? ⟨c, 0, none⟩ = some vL := h.blk.cell 0
theorem RkI.c1 (h : RkI w G c n vL vQ ls ps s) : w.cell? ⟨c, 1, none⟩ = some vQ := h.blk.cell 1
theorem RkI.c2 (h : RkI w G c n vL vQ ls ps s) : w.cell? ⟨c, 2, none⟩ = some (.int .i64 (fuseI s)) := h.blk.cell 2
theorem RkI.c3 (h : RkI w G c n vL vQ ls ps s) : w.cell? ⟨c, 3, none⟩ = some (.bool s.dead) := h.blk.cell 3
theorem RkI.at_ (h : RkI w G c n vL vQ ls ps s) {i : Nat} (hi : i < n) : ∃ g cap v, vL = .slice (some ⟨g, 0, none⟩) n cap ∧ w.cell? ⟨g, i, none⟩ = some v ∧ Sl w G 5 1 v 128 ((s.L.getD i []).map u8) ∧ (s.L.getD i []).length = 128 := by
  obtain ⟨g, cap, rfl, _, _⟩ := h.l.form (by omega)
  have hl : ls.length = n := by have := h.l.own.1; omega
  obtain ⟨r, k1, k2, k3⟩ := h.rows.2 i (by omega)
  have e : s.L.getD i [] = r := by rw [List.getD_eq_getElem?_getD, k1]; rfl
  refine ⟨g, cap, ls[i], rfl, ?_, by rw [e]; exact k3, by rw [e]; exact k2⟩
  rw [h.l.own.cellAt i (by omega), List.getElem?_eq_getElem (by omega)]
theorem RkI.qat (h : RkI w G c n vL vQ ls ps s) {k : Nat} (hk : k < s.Q.length) : ∃ g cap v, vQ = .slice (some ⟨g, 0, none⟩) s.Q.length cap ∧ w.cell? ⟨g, k * 2, none⟩ = some (.int .i64 ((s.Q.getD k (0, [])).1 : Int)) ∧ w.cell? ⟨g, k * 2 + 1, none⟩ = some v ∧ Sl w G 5 1 v 128 (((s.Q.getD k (0, [])).2).map u8) ∧
    (s.Q.getD k (0, [])).1 < n ∧ ((s.Q.getD k (0, [])).2).length = 128 := by
  obtain ⟨g, cap, rfl, _, _⟩ := h.q.form (by omega)
  have hpl : k < ps.length := by rw [h.que.1]; exact hk
  obtain ⟨q, k1, k2, k3, k4⟩ := h.que.2 k hpl
  have e : s.Q.getD k (0, []) = q := by rw [List.getD_eq_getElem?_getD, k1]; rfl
  have hm := h.ok.at_ _ (getD_mem hk)
  have H : ∀ j u, j < 2 → (pcells ps[k])[j]? = some u → w.cell? ⟨g, k * 2 + j, none⟩ = some u := fun j u hj hu => by
    have hb : k * 2 + j < s.Q.length * 2 := by omega
    rw [h.q.own.cellAt (k * 2 + j) hb, flat_at pcells 2 ps (fun _ _ => rfl) k j hpl hj]
    exact hu
  refine ⟨g, cap, ps[k].2, rfl, ?_, H 1 _ (by decide) rfl, by rw [e]; exact k4, hm.1, hm.2⟩
  rw [e, k2]
  exact H 0 _ (by decide) rfl
end

set_option maxRecDepth 3000 in
theorem rstep_r (c : Nat) (F0 : Int) (b : Bool) (w : World) (c2 : w.cell? ⟨c, 2, none⟩ = some (.int .i64 F0)) (c3 : w.cell? ⟨c, 3, none⟩ = some (.bool b)) (h : F0 < 0) :
    Calls Tryz.prog 86 #[.pointer (some ⟨c, 0, none⟩)] w fun e w' => e = .returned (.bool (!b)) ∧ w = w' := by
  have h0 : (F0 == 0) = false := by rw [beq_eq_false_iff_ne]; omega
  have h1 : F0 ≤ 0 := by omega
  clear h
  go_enter Tryz.func86, Tryz.ntmps86
  go_wp2
  go_ret
  exact ⟨rfl, rfl⟩
set_option maxRecDepth 3000 in
theorem rstep_out (c : Nat) (b : Bool) (w : World) (c2 : w.cell? ⟨c, 2, none⟩ = some (.int .i64 0)) (c3 : w.cell? ⟨c, 3, none⟩ = some (.bool b)) (hfr : w.frozen? ⟨c, 3, none⟩ = false) :
    Calls Tryz.prog 86 #[.pointer (some ⟨c, 0, none⟩)] w fun e w' => e = .returned (.bool false) ∧ w' = w.setCell ⟨c, 3, none⟩ (.bool true) := by
  have c3' : (w.setCell ⟨c, 3, none⟩ (.bool true)).cell? ⟨c, 3, none⟩ = some (.bool true) := World.cell?_setCell_same _ _ _ c3
  go_enter Tryz.func86, Tryz.ntmps86
  go_wp2
  go_ret
  exact ⟨rfl, rfl⟩
set_option maxRecDepth 3000 in
theorem rstep_left (c : Nat) (K k : Int) (w : World) (c2 : w.cell? ⟨c, 2, none⟩ = some (.int .i64 K)) (c3 : w.cell? ⟨c, 3, none⟩ = some (.bool false)) (hfr : w.frozen? ⟨c, 2, none⟩ = false) (hK : 0 < K) (hw : IntKind.i64.wrap (K - 1) = k) :
    Calls Tryz.prog 86 #[.pointer (some ⟨c, 0, none⟩)] w fun e w' => e = .returned (.bool true) ∧ w' = w.setCell ⟨c, 2, none⟩ (.int .i64 k) := by
  have hK0 : (K == 0) = false := by rw [beq_eq_false_iff_ne]; omega
  go_enter Tryz.func86, Tryz.ntmps86
  go_wp2
  go_ret
  exact ⟨rfl, rfl⟩
/-- Step -/
theorem rstep_dk (c n : Nat) (vL vQ : Value) (ls : List Value) (ps : List (Nat × Value)) (G : Nat → Prop) (s : DS) (w : World) (h : RkI w G c n vL vQ ls ps s) :
    Calls Tryz.prog 86 #[.pointer (some ⟨c, 0, none⟩)] w fun e w' => e = .returned (.bool (stepS s).2) ∧ RkI w' G c n vL vQ ls ps (stepS s).1 ∧ Adv G w G w' := by
  have ho' := stepS_ok h.ok
  obtain ⟨L, Q, dead, fuse⟩ := s
  have hdd := h.ok.dd
  have hfz := h.ok.fz
  rcases fuse with _ | _ | k
  · have hd : dead = false := by
      cases dead with
      | false => rfl
      | true => have := hdd rfl; simp at this
    subst hd
    refine (rstep_r c _ false w h.c2 h.c3 (by simp [fuseI])).mono ?_
    rintro e w' ⟨rfl, rfl⟩
    exact ⟨rfl, h, Adv.refl _ _⟩
  · refine (rstep_out c dead w h.c2 h.c3 (h.blk.frozen 3)).mono ?_
    rintro e w' ⟨rfl, rfl⟩
    have := h.head 3 (.bool true) ho' rfl rfl rfl rfl rfl
    exact ⟨rfl, this.1, this.2⟩
  · have hd : dead = false := by
      cases dead with
      | false => rfl
      | true => have := hdd rfl; simp at this
    subst hd
    have hk := hfz _ rfl
    refine (rstep_left c _ (k : Int) w h.c2 h.c3 (h.blk.frozen 2) (by simp only [fuseI]; omega) (by simp only [fuseI]; rw [IntKind.wrap_i64]; omega)).mono ?_
    rintro e w' ⟨rfl, rfl⟩
    have := h.head 2 (.int .i64 (k : Int)) ho' rfl rfl rfl rfl rfl
    exact ⟨rfl, this.1, this.2⟩
end Go.Proofs.YtbdjlmdbnoghnaaGreat
namespace Go.Proofs.YtbdjlmdbnoghnaaGreat
open Go.RowKit

set_option maxRecDepth 3000 in
theorem rarm_dk (c n : Nat) (G : Nat → Prop) (s : DS) (k : Int) (w : World) (h : Rk w G c n s) (hk : k < 9223372036854775808) :
    Calls Tryz.prog 17 #[.pointer (some ⟨c, 0, none⟩), .int .i64 k] w fun e w' => e = .returned (.int .i64 (fuseS s k).2) ∧ Rk w' G c n (fuseS s k).1 ∧ Adv G w G w' := by
  obtain ⟨vL, vQ, ls, ps, h⟩ := h
  have c2 := h.c2
  have c3 := h.c3
  have hfr := h.blk.frozen 2
  have ho' := fuseS_ok h.ok k hk
  have H := Lib.hid h
  have HO := Lib.hid ho'
  clear h ho'
  unfold fuseS at HO ⊢
  by_cases h1 : k < 0
  · simp only [if_pos h1]
    go_enter Tryz.func17, Tryz.ntmps17
    go_wp2
    go_ret
    exact ⟨rfl, ⟨vL, vQ, ls, ps, H.out⟩, Adv.refl _ _⟩
  · simp only [if_neg h1] at HO ⊢
    have hk0 : (0 : Int) ≤ k := by omega
    cases hd : s.dead with
    | true =>
      rw [hd] at c3
      simp only [if_true]
      clear hd HO
      go_enter Tryz.func17, Tryz.ntmps17
      go_wp2
      go_ret
      exact ⟨rfl, ⟨vL, vQ, ls, ps, H.out⟩, Adv.refl _ _⟩
    | false =>
      rw [hd] at c3 HO
      simp only [Bool.false_eq_true, if_false] at HO ⊢
      have HD := Lib.hid hd
      clear hd
      have hfin : RkI (w.setCell ⟨c, 2, none⟩ (.int .i64 k)) G c n vL vQ ls ps ⟨s.L, s.Q, false, some k.toNat⟩ ∧ Adv G w G (w.setCell ⟨c, 2, none⟩ (.int .i64 k)) := by
        refine H.out.head 2 (.int .i64 k) HO.out rfl rfl rfl rfl ?_
        rw [HD.out]
        have e : fuseI ⟨s.L, s.Q, false, some k.toNat⟩ = k := by simp only [fuseI]; omega
        rw [e]; rfl
      have HF := Lib.hid hfin
      clear hfin
      go_enter Tryz.func17, Tryz.ntmps17
      go_wp2
      go_ret
      exact ⟨rfl, ⟨vL, vQ, ls, ps, HF.out.1⟩, HF.out.2⟩

theorem lays_take_at {L : List (List Nat)} {Q : List (Nat × List Nat)} {i k : Nat} (hi : i < L.length) (hk : k < Q.length) :
    (lays L (Q.take (k + 1))).getD i [] = if (Q.getD k (0, [])).1 = i then (Q.getD k (0, [])).2 else (lays L (Q.take k)).getD i [] := by
  rw [List.take_succ_eq_append_getElem hk, lays_snoc]
  have e : Q.getD k (0, []) = Q[k] := by rw [List.getD_eq_getElem?_getD, List.getElem?_eq_getElem hk]; rfl
  rw [e]
  split
  · rename_i h
    rw [h, List.getD_eq_getElem?_getD, List.getElem?_set_self (by rw [lays_length]; exact hi)]; rfl
  · rename_i h
    rw [List.getD_eq_getElem?_getD, List.getElem?_set_ne h, ← List.getD_eq_getElem?_getD]

def IsRel (w : World) (G : Nat → Prop) (s : DS) (i : Nat) (t5 t6 : Value) (wr : World) : Prop :=
  wr = w ∧ ∃ k, t6 = .int .i64 ((k : Nat) : Int) ∧ k ≤ s.Q.length ∧ Sl w G 5 1 t5 128 (((lays s.L (s.Q.take k)).getD i []).map u8)

set_option maxRecDepth 3000 in
set_option maxHeartbeats 800000 in
theorem ris_r (c n i : Nat) (G : Nat → Prop) (s : DS) (w : World) (h : Rk w G c n s) (hi : i < n) (hq : s.Q.length ≤ 1000000) :
    Calls Tryz.prog 25 #[.pointer (some ⟨c, 0, none⟩), .int .i64 (i : Int)] w fun e w' => ∃ v, e = .returned v ∧ Sl w G 5 1 v 128 ((isS s i).map u8) ∧ w = w' := by
  obtain ⟨vL, vQ, ls, ps, h⟩ := h
  obtain ⟨g, cap, v, rfl, kL, sL, lL⟩ := h.at_ hi
  have c0 := h.c0
  have c1 := h.c1
  obtain ⟨aQ, cQ, rfl, _, _⟩ := h.q.form0
  have hin : (i : Int) < (n : Int) := by omega
  have hiL : i < s.L.length := by rw [h.ok.len]; exact hi
  have H := Lib.hid h
  have SL := Lib.hid sL
  have HIL := Lib.hid hiL
  have HQ := Lib.hid hq
  clear h sL lL hi hiL hq
  go_enter Tryz.func25, Tryz.ntmps25
  go_wp2_with fail
  go_loopw [5, 6] (IsRel w G s i) (fun _ t _ => s.Q.length - (intOf t).toNat)
  case atStart => exact ⟨rfl, 0, rfl, Nat.zero_le _, by simpa [lays] using SL.out⟩
  case round =>
    obtain ⟨rfl, k, rfl, hk, hs⟩ := hrel
    have HS := Lib.hid hs
    clear hs
    by_cases hlt : k < s.Q.length
    · obtain ⟨gQ, cQ', u, e, kA, kD, sD, _, _⟩ := H.out.qat hlt
      injection e with e1 e2 e3
      subst e1
      clear e2 e3
      have hnext := lays_take_at HIL.out hlt
      obtain ⟨q, hqe⟩ : ∃ q, q = s.Q.getD k (0, []) := ⟨_, rfl⟩
      rw [← hqe] at kA sD hnext
      obtain ⟨a, ha⟩ : ∃ a, a = q.1 := ⟨_, rfl⟩
      rw [← ha] at kA hnext
      have hkq : (k : Int) < (s.Q.length : Int) := by omega
      have hk2 : k + 1 ≤ 9223372036854775807 := by have := HQ.out; omega
      have HN := Lib.hid hnext
      have SD := Lib.hid sD
      have HLT := Lib.hid hlt
      clear hnext sD hqe ha hk hlt
      by_cases hai : a = i
      · have hab : ((a : Int) == (i : Int)) = true := by subst hai; simp
        have HE := Lib.hid (show (lays s.L (s.Q.take (k + 1))).getD i [] = q.2 by rw [HN.out, if_pos hai])
        clear hai
        go_wp2_with fail
        have hlt := HLT.out
        refine ⟨⟨rfl, k + 1, by simp, by omega, ?_⟩, by simp [intOf]; omega⟩
        rw [HE.out]; exact SD.out
      · have hab : ((a : Int) == (i : Int)) = false := by rw [beq_eq_false_iff_ne]; omega
        have HE := Lib.hid (show (lays s.L (s.Q.take (k + 1))).getD i [] = (lays s.L (s.Q.take k)).getD i [] by rw [HN.out, if_neg hai])
        clear hai
        go_wp2_with fail
        have hlt := HLT.out
        refine ⟨⟨rfl, k + 1, by simp, by omega, ?_⟩, by simp [intOf]; omega⟩
        rw [HE.out]; exact HS.out
    · obtain rfl : k = s.Q.length := by omega
      clear hlt hk
      go_wp2_with fail
      go_ret
      have h := HS.out
      rw [List.take_length] at h
      exact ⟨_, rfl, h, rfl⟩
end Go.Proofs.YtbdjlmdbnoghnaaGreat
