/- The document's own disk: its memory; Step, Arm, Is, Read. -/
import Derived.Test.YtochmeibmjfnnaaDkLa
namespace Go.Proofs.Ytochmeibmjfnnaa
open Go.RowKit

def fuseI (s : DS) : Int := match s.fuse with
  | none => -1
  | some f => (f : Int)
def pcells (p : Nat × Value) : List Value := [.int .i64 (p.1 : Int), p.2]

/-- rows, each with a block of its own or with another's -/
def RowsR (w : World) (G : Nat → Prop) (ls : List Value) (L : List (List Nat)) : Prop := ls.length = L.length ∧ ∀ k (h : k < ls.length), ∃ r, L[k]? = some r ∧ r.length = 128 ∧ Sl w G 5 1 ls[k] 128 (r.map u8)
def QueR (w : World) (G : Nat → Prop) (ps : List (Nat × Value)) (Q : List (Nat × List Nat)) : Prop := ps.length = Q.length ∧ ∀ k (h : k < ps.length), ∃ q, Q[k]? = some q ∧ q.1 = ps[k].1 ∧ q.2.length = 128 ∧ Sl w G 5 1 ps[k].2 128 (q.2.map u8)

/-- The document's disk at block c. -/
structure RkI (w : World) (G : Nat → Prop) (c n : Nat) (vL vQ : Value) (ls : List Value) (ps : List (Nat × Value)) (s : DS) : Prop where
  ok : s.ok n
  blk : Blk w c 62 #[vL, vQ, .int .i64 (fuseI s), .bool s.dead]
  l : Sl w G 33 1 vL n ls
  rows : RowsR w G ls s.L
  q : Sl w G 76 2 vQ s.Q.length (ps.flatMap pcells)
  que : QueR w G ps s.Q
  inG : G c
def Rk (w : World) (G : Nat → Prop) (c n : Nat) (s : DS) : Prop := ∃ vL vQ ls ps, RkI w G c n vL vQ ls ps s

section
variable {w w' : World} {F F' G : Nat → Prop} {c n : Nat} {vL vQ : Value} {ls : List Value} {ps : List (Nat × Value)} {s : DS} {L : List (List Nat)} {Q : List (Nat × List Nat)}
theorem RowsR.mono (h : RowsR w G ls L) (hs : ∀ v n xs, Sl w G 5 1 v n xs → Sl w' F 5 1 v n xs) : RowsR w' F ls L := ⟨h.1, fun k hk => by
  obtain ⟨r, k1, k2, k3⟩ := h.2 k hk
  exact ⟨r, k1, k2, hs _ _ _ k3⟩⟩
theorem QueR.mono (h : QueR w G ps Q) (hs : ∀ v n xs, Sl w G 5 1 v n xs → Sl w' F 5 1 v n xs) : QueR w' F ps Q := ⟨h.1, fun k hk => by
  obtain ⟨q, k1, k2, k3, k4⟩ := h.2 k hk
  exact ⟨q, k1, k2, k3, hs _ _ _ k4⟩⟩
theorem RkI.bd (h : RkI w G c n vL vQ ls ps s) : Bd G w := h.l.bd
theorem RkI.far (h : RkI w G c n vL vQ ls ps s) (ha : Adv F w F' w') (hs : Sep F G) : RkI w' G c n vL vQ ls ps s :=
  ⟨h.ok, h.blk.keep (ha.far hs h.bd c h.inG), h.l.far ha hs, h.rows.mono (fun _ _ _ h => h.far ha hs), h.q.far ha hs, h.que.mono (fun _ _ _ h => h.far ha hs), h.inG⟩
theorem Rk.far (h : Rk w G c n s) (ha : Adv F w F' w') (hs : Sep F G) : Rk w' G c n s := by
  obtain ⟨vL, vQ, ls, ps, h⟩ := h
  exact ⟨vL, vQ, ls, ps, h.far ha hs⟩
theorem Rk.bd (h : Rk w G c n s) : Bd G w := by
  obtain ⟨vL, vQ, ls, ps, h⟩ := h
  exact h.bd
theorem Rk.drewN (h : Rk w G c n s) (k : Nat) : Rk (w.drewN k) G c n s := h.far ((Adv.refl Nul w).drewN k) (fun _ h _ => h)
/-- a slice at whose block nothing is stored -/
theorem Sl.setOther {e t : TypeId} {size m g : Nat} {v u : Value} {xs : List Value} {cs : Array Value} (h : Sl w G e size v m xs) (hg : Blk w g t cs) (hne : t ≠ e) (i : Nat) : Sl (w.setCell ⟨g, i, none⟩ u) G e size v m xs :=
  h.keepB (fun k hk => heap_setCell_other w _ k u (fun e' => own_blk_ne h.own hg (fun e2 => hne e2.symm) (by rw [hk, e']))) (by simp [World.setCell])
/-- a cell of the head is stored -/
theorem RkI.head (h : RkI w G c n vL vQ ls ps s) (i : Nat) (u : Value) {vL' vQ' : Value} {s' : DS} (ho : s'.ok n) (hL : s'.L = s.L) (hQ : s'.Q = s.Q) (e1 : vL' = vL) (e2 : vQ' = vQ) (hb : (#[vL, vQ, .int .i64 (fuseI s), .bool s.dead] : Array Value).setIfInBounds i u = #[vL', vQ', .int .i64 (fuseI s'), .bool s'.dead]) :
    RkI (w.setCell ⟨c, i, none⟩ u) G c n vL' vQ' ls ps s' ∧ Adv G w G (w.setCell ⟨c, i, none⟩ u) := by
  subst e1 e2
  have hbk := h.blk.set_ i u
  rw [hb] at hbk
  refine ⟨⟨ho, hbk, h.l.setOther h.blk (by decide) i, ?_, ?_, ?_, h.inG⟩, (Adv.refl G w).setCell (.inl h.inG) _⟩
  · rw [hL]; exact h.rows.mono (fun _ _ _ k => k.setOther h.blk (by decide) i)
  · rw [hQ]; exact h.q.setOther h.blk (by decide) i
  · rw [hQ]; exact h.que.mono (fun _ _ _ k => k.setOther h.blk (by decide) i)
theorem RkI.c0 (h : RkI w G c n vL vQ ls ps s) : w.cell? ⟨c, 0, none⟩ = some vL := h.blk.cell 0
theorem RkI.c1 (h : RkI w G c n vL vQ ls ps s) : w.cell? ⟨c, 1, none⟩ = some vQ := h.blk.cell 1
theorem RkI.c2 (h : RkI w G c n vL vQ ls ps s) : w.cell? ⟨c, 2, none⟩ = some (.int .i64 (fuseI s)) := h.blk.cell 2
theorem RkI.c3 (h : RkI w G c n vL vQ ls ps s) : w.cell? ⟨c, 3, none⟩ = some (.bool s.dead) := h.blk.cell 3
theorem RkI.at_ (h : RkI w G c n vL vQ ls ps s) {i : Nat} (hi : i < n) : ∃ g cap v, vL = .slice (some ⟨g, 0, none⟩) n cap ∧ w.cell? ⟨g, i, none⟩ = some v ∧ Sl w G 5 1 v 128 ((s.L.getD i []).map u8) ∧ (s.L.getD i []).length = 128 := by
  obtain ⟨g, cap, rfl, _, _⟩ := h.l.form (by omega)
  have hl : ls.length = n := by have := h.l.own.1; omega
  obtain ⟨r, k1, k2, k3⟩ := h.rows.2 i (by omega)
  have e : s.L.getD i [] = r := by rw [List.getD_eq_getElem?_getD, k1]; rfl
  refine ⟨g, cap, ls[i], rfl, ?_, by rw [e]; exact k3, by rw [e]; exact k2⟩
  rw [h.l.own.cellAt i (by omega), List.getElem?_eq_getElem (by omega)]
theorem RkI.qat (h : RkI w G c n vL vQ ls ps s) {k : Nat} (hk : k < s.Q.length) : ∃ g cap v, vQ = .slice (some ⟨g, 0, none⟩) s.Q.length cap ∧ w.cell? ⟨g, k * 2, none⟩ = some (.int .i64 ((s.Q.getD k (0, [])).1 : Int)) ∧ w.cell? ⟨g, k * 2 + 1, none⟩ = some v ∧ Sl w G 5 1 v 128 (((s.Q.getD k (0, [])).2).map u8) ∧
    (s.Q.getD k (0, [])).1 < n ∧ ((s.Q.getD k (0, [])).2).length = 128 := by
  obtain ⟨g, cap, rfl, _, _⟩ := h.q.form (by omega)
  have hpl : k < ps.length := by rw [h.que.1]; exact hk
  obtain ⟨q, k1, k2, k3, k4⟩ := h.que.2 k hpl
  have e : s.Q.getD k (0, []) = q := by rw [List.getD_eq_getElem?_getD, k1]; rfl
  have hm := h.ok.at_ _ (getD_mem hk)
  have H : ∀ j u, j < 2 → (pcells ps[k])[j]? = some u → w.cell? ⟨g, k * 2 + j, none⟩ = some u := fun j u hj hu => by
    have hb : k * 2 + j < s.Q.length * 2 := by omega
    rw [h.q.own.cellAt (k * 2 + j) hb, flat_at pcells 2 ps (fun _ _ => rfl) k j hpl hj]
    exact hu
  refine ⟨g, cap, ps[k].2, rfl, ?_, H 1 _ (by decide) rfl, by rw [e]; exact k4, hm.1, hm.2⟩
  rw [e, k2]
  exact H 0 _ (by decide) rfl
end

set_option maxRecDepth 3000 in
theorem rstep_r (c : Nat) (F0 : Int) (b : Bool) (w : World) (c2 : w.cell? ⟨c, 2, none⟩ = some (.int .i64 F0)) (c3 : w.cell? ⟨c, 3, none⟩ = some (.bool b)) (h : F0 < 0) :
    Calls Try.prog 33 #[.pointer (some ⟨c, 0, none⟩)] w fun e w' => e = .returned (.bool (!b)) ∧ w = w' := by
  have h0 : (F0 == 0) = false := by rw [beq_eq_false_iff_ne]; omega
  have h1 : F0 ≤ 0 := by omega
  clear h
  go_enter Try.func33, Try.ntmps33
  go_wp2
  go_ret
  exact ⟨rfl, rfl⟩
set_option maxRecDepth 3000 in
theorem rstep_out (c : Nat) (b : Bool) (w : World) (c2 : w.cell? ⟨c, 2, none⟩ = some (.int .i64 0)) (c3 : w.cell? ⟨c, 3, none⟩ = some (.bool b)) (hfr : w.frozen? ⟨c, 3, none⟩ = false) :
    Calls Try.prog 33 #[.pointer (some ⟨c, 0, none⟩)] w fun e w' => e = .returned (.bool false) ∧ w' = w.setCell ⟨c, 3, none⟩ (.bool true) := by
  have c3' : (w.setCell ⟨c, 3, none⟩ (.bool true)).cell? ⟨c, 3, none⟩ = some (.bool true) := World.cell?_setCell_same _ _ _ c3
  go_enter Try.func33, Try.ntmps33
  go_wp2
  go_ret
  exact ⟨rfl, rfl⟩
set_option maxRecDepth 3000 in
theorem rstep_left (c : Nat) (K k : Int) (w : World) (c2 : w.cell? ⟨c, 2, none⟩ = some (.int .i64 K)) (c3 : w.cell? ⟨c, 3, none⟩ = some (.bool false)) (hfr : w.frozen? ⟨c, 2, none⟩ = false) (hK : 0 < K) (hw : IntKind.i64.wrap (K - 1) = k) :
    Calls Try.prog 33 #[.pointer (some ⟨c, 0, none⟩)] w fun e w' => e = .returned (.bool true) ∧ w' = w.setCell ⟨c, 2, none⟩ (.int .i64 k) := by
  have hK0 : (K == 0) = false := by rw [beq_eq_false_iff_ne]; omega
  go_enter Try.func33, Try.ntmps33
  go_wp2
  go_ret
  exact ⟨rfl, rfl⟩
/-- Step -/
theorem rstep_dk (c n : Nat) (vL vQ : Value) (ls : List Value) (ps : List (Nat × Value)) (G : Nat → Prop) (s : DS) (w : World) (h : RkI w G c n vL vQ ls ps s) :
    Calls Try.prog 33 #[.pointer (some ⟨c, 0, none⟩)] w fun e w' => e = .returned (.bool (stepS s).2) ∧ RkI w' G c n vL vQ ls ps (stepS s).1 ∧ Adv G w G w' := by
  have ho' := stepS_ok h.ok
  obtain ⟨L, Q, dead, fuse⟩ := s
  have hdd := h.ok.dd
  have hfz := h.ok.fz
  rcases fuse with _ | _ | k
  · have hd : dead = false := by
      cases dead with
      | false => rfl
      | true => have := hdd rfl; simp at this
    subst hd
    refine (rstep_r c _ false w h.c2 h.c3 (by simp [fuseI])).mono ?_
    rintro e w' ⟨rfl, rfl⟩
    exact ⟨rfl, h, Adv.refl _ _⟩
  · refine (rstep_out c dead w h.c2 h.c3 (h.blk.frozen 3)).mono ?_
    rintro e w' ⟨rfl, rfl⟩
    have := h.head 3 (.bool true) ho' rfl rfl rfl rfl rfl
    exact ⟨rfl, this.1, this.2⟩
  · have hd : dead = false := by
      cases dead with
      | false => rfl
      | true => have := hdd rfl; simp at this
    subst hd
    have hk := hfz _ rfl
    refine (rstep_left c _ (k : Int) w h.c2 h.c3 (h.blk.frozen 2) (by simp only [fuseI]; omega) (by simp only [fuseI]; rw [IntKind.wrap_i64]; omega)).mono ?_
    rintro e w' ⟨rfl, rfl⟩
    have := h.head 2 (.int .i64 (k : Int)) ho' rfl rfl rfl rfl rfl
    exact ⟨rfl, this.1, this.2⟩
end Go.Proofs.Ytochmeibmjfnnaa
