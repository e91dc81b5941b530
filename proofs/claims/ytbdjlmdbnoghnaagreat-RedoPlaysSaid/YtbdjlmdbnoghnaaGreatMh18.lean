/- Write, Sync. Read. -/
import Derived.Test.YtbdjlmdbnoghnaaGreatMh17
namespace Go.Proofs.YtbdjlmdbnoghnaaGreat
open Go.RowKit Go.Maps

theorem PRdG.adv {w w' : World} {G G' F F' : Nat → Prop} {v : Value} {ps : List Pc} (h : PRdG w G v ps) (ha : Adv F w F' w') (hF : ∀ k, F k → G k) (hG : ∀ k, G' k → G k ∨ w.heap.size ≤ k) : PRdG w' G' v ps := by
  obtain ⟨A, k, rfl, h1, h2, h3⟩ := h
  refine ⟨A, k, rfl, h1, h2, fun hn => ?_⟩
  obtain ⟨b, o, rfl, ⟨hb, hg⟩, hc⟩ := h3 hn
  have hk : w'.heap[b]? = w.heap[b]? := ha.block b hb (fun h => hg (hF b h))
  refine ⟨b, o, rfl, ⟨Nat.lt_of_lt_of_le hb ha.size, fun h => ?_⟩, fun i hi => ?_⟩
  · rcases hG b h with h | h
    · exact hg h
    · omega
  · obtain ⟨a, q, c0, c1, c2, c3, c4, hr, hs⟩ := hc i hi
    have e : ∀ j, w'.cell? ⟨b, j, none⟩ = w.cell? ⟨b, j, none⟩ := fun j => World.cell?_of_block hk
    refine ⟨a, q, by rw [e]; exact c0, by rw [e]; exact c1, by rw [e]; exact c2, by rw [e]; exact c3, by rw [e]; exact c4, hr.far (fun j hj hn' hl => ha.block j hl (fun h => hs j hj hn' (hF j h))) ha.size, fun j hj hn' h => ?_⟩
    rcases hG j h with h | h
    · exact hs j hj hn' h
    · have := hr.lt hj hn'; omega
theorem PRdG.row {w : World} {G : Nat → Prop} {A : Option Addr} {n k : Nat} {ps : List Pc} (h : PRdG w G (.slice A n k) ps) {i : Nat} (hi : i < ps.length) : ∃ b o a q, A = some ⟨b, o, none⟩ ∧ Cells5 w b (o + i * 5) ps[i] (.slice a ps[i].d.length q) ∧ Rd w 1 (.slice a ps[i].d.length q) ps[i].d.length (ps[i].d.map u8) := by
  obtain ⟨b, o, a, q, h1, _, h2, h3⟩ := h.prd.row hi
  exact ⟨b, o, a, q, h1, h2, h3⟩
theorem cutP_ok {e c : Nat} {l : List Nat} (h : cutE e c l.length = 0) : ∀ p ∈ cutP e c l, p.ok := fun p hp => by
  obtain ⟨i, hi, rfl⟩ := List.getElem_of_mem hp
  rw [cutP_length] at hi
  rw [cutP_at e c l hi]
  unfold cutE at h
  split at h
  · rename_i hc
    refine ⟨hc.1, ?_, ?_⟩
    · show c + i ≤ _
      omega
    · show ((l.drop (i * 106)).take 106).length ≤ 106
      rw [List.length_take]; omega
  · cases h
theorem cutP_bytes {e c : Nat} {l : List Nat} (h : ∀ x ∈ l, x < 256) : ∀ p ∈ cutP e c l, ∀ x ∈ p.d, x < 256 := fun p hp x hx => by
  obtain ⟨i, hi, rfl⟩ := List.getElem_of_mem hp
  rw [cutP_length] at hi
  rw [cutP_at e c l hi] at hx
  exact h x (List.mem_of_mem_drop (List.mem_of_mem_take hx))

/-- A log and its disk. -/
structure Rs (w : World) (F : Nat → Prop) (d l b n N : Nat) (s : DS) (g : LS) : Prop where
  dk : Dk w F d N s
  lg : Lg w l b d n N g
  sep : Sep F (LF l b)
def UF (F : Nat → Prop) (l b : Nat) : Nat → Prop := fun k => F k ∨ LF l b k
section
variable {w w' : World} {F F' : Nat → Prop} {d l b n N : Nat} {s s' : DS} {g g' : LS}
theorem Rs.bd (h : Rs w F d l b n N s g) : Bd (UF F l b) w := fun k hk => by
  rcases hk with hk | hk
  · exact h.dk.bd k hk
  · exact h.lg.bd k hk
theorem Rs.over (h : Rs w F d l b n N s g) (ha : Adv Nul w F' w') : Rs w' F d l b n N s g :=
  ⟨h.dk.far ha (fun _ x _ => x), h.lg.far ha (fun _ x _ => x), h.sep⟩
theorem Rs.disk (h : Rs w F d l b n N s g) (ha : Adv F w F' w') (k : Dk w' F' d N s') : Rs w' F' d l b n N s' g :=
  ⟨k, h.lg.far ha h.sep, ha.sep h.sep h.lg.bd⟩
theorem Rs.log (h : Rs w F d l b n N s g) (ha : Adv (LF l b) w (LF l b) w') (k : Lg w' l b d n N g') : Rs w' F d l b n N s g' :=
  ⟨h.dk.far ha h.sep.symm, k, h.sep⟩
theorem adv_disk (ha : Adv F w F' w') : Adv (UF F l b) w (UF F' l b) w' :=
  ⟨ha.os, ha.tape, ha.output, ha.size, fun k hk hn => ha.block k hk (fun x => hn (.inl x)), fun k hk => by
    rcases hk with hk | hk
    · exact (ha.into k hk).imp .inl id
    · exact .inl (.inr hk)⟩
theorem adv_log (ha : Adv (LF l b) w (LF l b) w') : Adv (UF F l b) w (UF F l b) w' := ha.same (fun _ x => .inr x)
theorem adv_nul (ha : Adv Nul w F' w') : Adv (UF F l b) w (UF F l b) w' := ha.same (fun _ x => x.elim)
end
/-- what holds of each log -/
structure GOk (n N : Nat) (s : DS) (g : LS) : Prop where
  hn : 2 ≤ n ∧ n + 3 ≤ N ∧ N ≤ 4096
  q : s.Q.length ≤ 900000
  tn : g.h.t ≤ g.next
  fr : g.next - g.h.t ≤ n
  nx : g.next ≤ 1099511627776
  ep : g.ep ≤ 16777215

/-- a transaction's pieces are laid -/
def layAll (s : DS) (n : Nat) : List Pc → DS × Int
  | [] => (s, 0)
  | p :: ps => if (writeS s ((2 + p.c % n : Nat) : Int) (sealL p)).2 = 0 then layAll (writeS s ((2 + p.c % n : Nat) : Int) (sealL p)).1 n ps else writeS s ((2 + p.c % n : Nat) : Int) (sealL p)
def freeG (n : Nat) (g : LS) : Nat := n - (g.next - g.h.t)
def writeG (s : DS) (n N : Nat) (g : LS) (ps : List Pt) : (DS × LS) × Int :=
  if g.err = 0 then
    if isTx ps ((N - 2 - n : Nat) : Int) then
      if cutE g.ep g.next (recB ps).length = 0 ∧ needT ps ≤ freeG n g then
        if (layAll s n (cutP g.ep g.next (recB ps))).2 = 0 then (((layAll s n (cutP g.ep g.next (recB ps))).1, g.putAll ps (needT ps)), 0)
        else (((layAll s n (cutP g.ep g.next (recB ps))).1, { g with err := (layAll s n (cutP g.ep g.next (recB ps))).2 }), (layAll s n (cutP g.ep g.next (recB ps))).2)
      else ((s, g), 8)
    else ((s, g), 2)
  else ((s, g), g.err)
def WrR (w : World) (F : Nat → Prop) (d l b n N : Nat) (r : (DS × LS) × Int) (e : Ending) (w' : World) : Prop := e = .returned (.int .i64 r.2) ∧ ∃ F', Rs w' F' d l b n N r.1.1 r.1.2 ∧ Adv (UF F l b) w (UF F' l b) w'
def WrL (W : World) (F0 : Nat → Prop) (d l b n N : Nat) (s0 : DS) (g : LS) (P : List Pc) (t : Value) (wr : World) : Prop :=
  ∃ (k : Nat) (sk : DS) (Fk : Nat → Prop), k ≤ P.length ∧ t = .int .i64 (k : Int) ∧ layAll s0 n P = layAll sk n (P.drop k) ∧ sk.Q.length ≤ s0.Q.length + k ∧ Rs wr Fk d l b n N sk g ∧ Adv (UF F0 l b) W (UF Fk l b) wr
theorem wr_cells {w : World} {l b d n N : Nat} {g : LS} (h : Lg w l b d n N g) : w.cell? ⟨l, 6, none⟩ = some (.int .u64 (g.ep : Int)) ∧ w.cell? ⟨l, 5, none⟩ = some (.int .u64 (g.next : Int)) := ⟨h.cells.2.2.2.2.2.2.1, h.cells.2.2.2.2.2.1⟩

set_option maxRecDepth 3000 in
set_option maxHeartbeats 6400000 in
theorem gwrite_lg (l b d n N : Nat) (g : LS) (F : Nat → Prop) (s : DS) (A0 : Option Addr) (M k0 : Nat) (ps : List Pt) (w : World) (h : Rs w F d l b n N s g) (ok : GOk n N s g) (hq : QRd w (UF F l b) (.slice A0 M k0) ps) (h8 : ∀ p ∈ ps, ∀ x ∈ p.d, x < 256) :
    Calls Tryz.prog 10 #[.pointer (some ⟨l, 0, none⟩), .slice A0 M k0] w (WrR w F d l b n N (writeG s n N g ps)) := by
  obtain ⟨R, hR⟩ : ∃ R, R = writeG s n N g ps := ⟨_, rfl⟩
  rw [← hR]
  have HR := Lib.hid hR
  have HS := Lib.hid h
  have HOK := Lib.hid ok
  have HQ := Lib.hid hq
  have H8 := Lib.hid h8
  have HST := Lib.hid (gstays_lg h.lg)
  obtain ⟨E, hE⟩ : ∃ E, E = g.err := ⟨_, rfl⟩
  rw [← hE] at HST
  have HE := Lib.hid hE
  clear h ok hq h8 hR hE
  by_cases h0 : E = 0
  · subst h0
    have HHM := Lib.hid (ghomes_lg HS.out.lg HS.out.dk HOK.out.hn.2.2 (by have := HOK.out.hn; omega))
    obtain ⟨Hm, hHm⟩ : ∃ x, x = N - 2 - n := ⟨_, rfl⟩
    rw [← hHm] at HHM
    have HHm := Lib.hid hHm
    clear hHm
    go_enter Tryz.func10, Tryz.ntmps10
    go_wp2_with fail
    refine HST.out.mono ?_
    rintro x w1 ⟨rfl, rfl⟩
    go_wp2_with fail
    refine HHM.out.mono ?_
    rintro x w1 ⟨rfl, k1, rfl⟩
    have HA1 := Lib.hid ((Adv.refl Nul w).drewN k1)
    have HTX := Lib.hid (istx_any A0 M k0 ps (Hm : Int) _ (w.drewN k1) (HQ.out.step HA1.out))
    obtain ⟨B, hB⟩ : ∃ B, B = decide (isTx ps (Hm : Int)) := ⟨_, rfl⟩
    rw [← hB] at HTX
    have HB := Lib.hid hB
    clear hB
    go_wp2_with fail
    refine HTX.out.mono ?_
    rintro x w2 ⟨rfl, a2⟩
    have HA2 := Lib.hid (HA1.out.trans a2)
    have HS2 := Lib.hid (HS.out.over HA2.out)
    clear a2
    cases B with
    | false =>
      have HF := Lib.hid (show WrR w F d l b n N R (.returned (.int .i64 2)) w2 by
        rw [HR.out]
        unfold writeG
        rw [if_pos HE.out.symm, ← HHm.out, if_neg (of_decide_eq_false HB.out.symm)]
        exact ⟨rfl, F, HS2.out, adv_nul HA2.out⟩)
      go_wp2_with fail
      go_ret
      exact HF.out
    | true =>
      have HT := Lib.hid (of_decide_eq_true HB.out.symm)
      have HT4 := Lib.hid (show isTx ps 4096 from HT.out.mono (by have := HHm.out; have := HOK.out.hn; omega))
      obtain ⟨ep, hep⟩ : ∃ x, x = g.ep := ⟨_, rfl⟩
      obtain ⟨nx, hnx⟩ : ∃ x, x = g.next := ⟨_, rfl⟩
      have hc2 := wr_cells HS2.out.lg
      rw [← hep, ← hnx] at hc2
      have HC2 := Lib.hid hc2
      have HC2D := Lib.hid (show w2.drew.cell? ⟨l, 6, none⟩ = some (.int .u64 (ep : Int)) ∧ w2.drew.cell? ⟨l, 5, none⟩ = some (.int .u64 (nx : Int)) from hc2)
      have HKEEP := Lib.hid (show ∀ (w' : World), Adv Nul w2.drew Nul w' → w'.cell? ⟨l, 6, none⟩ = some (.int .u64 (ep : Int)) ∧ w'.cell? ⟨l, 5, none⟩ = some (.int .u64 (nx : Int)) from fun w' a => by
        have := wr_cells (HS2.out.over (Adv.of_drew a)).lg
        rw [← hep, ← hnx] at this
        exact this)
      have HCUT := Lib.hid (gcut_any ep nx A0 M k0 ps _ w2.drew (HQ.out.step (HA2.out.drew)) HT4.out H8.out)
      have HEP := Lib.hid hep
      have HNX := Lib.hid hnx
      obtain ⟨c6, c5⟩ := hc2
      clear hep hnx
      go_wp2_with fail
      refine rstart (S := (fun w' => w'.cell? ⟨l, 6, none⟩ = some (.int .u64 (ep : Int)) ∧ w'.cell? ⟨l, 5, none⟩ = some (.int .u64 (nx : Int)))) (by first | with_reducible exact HC3.out | with_reducible exact HC2D.out | with_reducible exact HC2.out) (fun hH => ?_)
      refine tk (i := 0) (oi := ⟨some 22, .move (.tmp 0), 31, "redo.go:92", #[], none⟩) hH.out (by rintro w ⟨s0, s1⟩; go_simp <;> with_reducible rfl) ?_
      simp only [Act.put, sA, sB, sC]
      refine tk (i := 1) (oi := ⟨some 23, .nilCheck (.tmp 22), 0, "redo.go:92", #[⟨0, .data⟩], none⟩) hH.out (by rintro w ⟨s0, s1⟩; go_simp <;> with_reducible rfl) ?_
      simp only [Act.put, sA, sB, sC]
      refine tk (i := 2) (oi := ⟨some 24, .fieldAddr 74 (.tmp 23) 4, 0, "redo.go:92", #[⟨1, .data⟩], none⟩) hH.out (by rintro w ⟨s0, s1⟩; go_simp <;> with_reducible rfl) ?_
      simp only [Act.put, sA, sB, sC]
      refine tk (i := 3) (oi := ⟨some 25, .load 49 (.tmp 24), 49, "redo.go:92", #[⟨2, .data⟩], none⟩) hH.out (by rintro w ⟨s0, s1⟩; go_simp <;> with_reducible rfl) ?_
      simp only [Act.put, sA, sB, sC]
      refine tk (i := 4) (oi := ⟨some 26, .move (.tmp 0), 31, "redo.go:92", #[], none⟩) hH.out (by rintro w ⟨s0, s1⟩; go_simp <;> with_reducible rfl) ?_
      simp only [Act.put, sA, sB, sC]
      refine tk (i := 5) (oi := ⟨some 27, .nilCheck (.tmp 26), 0, "redo.go:92", #[⟨4, .data⟩], none⟩) hH.out (by rintro w ⟨s0, s1⟩; go_simp <;> with_reducible rfl) ?_
      simp only [Act.put, sA, sB, sC]
      refine tk (i := 6) (oi := ⟨some 28, .fieldAddr 74 (.tmp 27) 3, 0, "redo.go:92", #[⟨5, .data⟩], none⟩) hH.out (by rintro w ⟨s0, s1⟩; go_simp <;> with_reducible rfl) ?_
      simp only [Act.put, sA, sB, sC]
      refine tk (i := 7) (oi := ⟨some 29, .load 49 (.tmp 28), 49, "redo.go:92", #[⟨6, .data⟩], none⟩) hH.out (by rintro w ⟨s0, s1⟩; go_simp <;> with_reducible rfl) ?_
      simp only [Act.put, sA, sB, sC]
      refine tk (i := 8) (oi := ⟨some 30, .move (.tmp 1), 37, "redo.go:92", #[], none⟩) hH.out (by rintro w ⟨s0, s1⟩; go_simp <;> with_reducible rfl) ?_
      simp only [Act.put, sA, sB, sC]
      refine rdy (i := 9) (oi := ⟨some 31, .call ⟨.value (.func 44), #[.tmp 25, .tmp 29, .tmp 30], #[49, 49, 37]⟩, 94, "redo.go:92", #[⟨3, .data⟩, ⟨7, .data⟩, ⟨8, .data⟩], none⟩) (fun K hK => ?_)
      go_simp
      refine HCUT.out.mono ?_
      intro x w3 h3
      obtain ⟨Ap, np, kp, rfl, hp3, a3⟩ := h3
      have HC3 := Lib.hid (HKEEP.out w3 a3)
      have HP3 := Lib.hid (hp3 (UF F l b) (HS2.out.over ((Adv.refl Nul w2).drew)).bd)
      have HA3 := Lib.hid (HA2.out.trans (Adv.of_drew a3))
      obtain ⟨CE, hCE⟩ : ∃ x, x = cutE ep nx (recB ps).length := ⟨_, rfl⟩
      rw [← hCE]
      have HCE := Lib.hid hCE
      clear hp3 a3 hCE
      go_wp2_with fail
      refine hK.out _ _ (by first | with_reducible exact HC3.out | with_reducible exact HC2D.out | with_reducible exact HC2.out) (fun hHeld => ?_)
      replace hH := Lib.hid hHeld
      clear hK K hHeld
      try simp only [Act.put, sA, sB, sC]
      refine tk (i := 10) (oi := ⟨some 21, .move (.tmp 31), 94, "redo.go:92", #[⟨9, .data⟩], none⟩) hH.out (by rintro w ⟨s0, s1⟩; go_simp <;> with_reducible rfl) ?_
      simp only [Act.put, sA, sB, sC]
      refine tk (i := 11) (oi := ⟨some 32, .extract (.tmp 21) 0, 93, "redo.go:92", #[⟨10, .data⟩], none⟩) hH.out (by rintro w ⟨s0, s1⟩; go_simp <;> with_reducible rfl) ?_
      simp only [Act.put, sA, sB, sC]
      refine tk (i := 12) (oi := ⟨some 33, .extract (.tmp 21) 1, 25, "redo.go:92", #[⟨10, .data⟩, { on := 13, ground := Go.Ground.gcOnly Go.Departure.lateStores }], none⟩) hH.out (by rintro w ⟨s0, s1⟩; go_simp <;> with_reducible rfl) ?_
      simp only [Act.put, sA, sB, sC]
      refine tk (i := 13) (oi := ⟨some 6, .assign (.tmp 32), 93, "redo.go:92", #[⟨11, .data⟩, ⟨9, .chain⟩, ⟨0, .phase⟩, ⟨1, .phase⟩, ⟨2, .phase⟩, ⟨3, .phase⟩, ⟨4, .phase⟩, ⟨5, .phase⟩, ⟨6, .phase⟩, ⟨7, .phase⟩, ⟨8, .phase⟩, ⟨9, .phase⟩, ⟨10, .phase⟩, ⟨11, .phase⟩, { on := 12, ground := Go.Ground.textOnly Go.Departure.lateStores }], none⟩) hH.out (by rintro w ⟨s0, s1⟩; go_simp <;> with_reducible rfl) ?_
      simp only [Act.put, sA, sB, sC]
      refine tk (i := 14) (oi := ⟨some 7, .assign (.tmp 33), 25, "redo.go:92", #[⟨12, .data⟩, ⟨13, .chain⟩, ⟨0, .phase⟩, ⟨1, .phase⟩, ⟨2, .phase⟩, ⟨3, .phase⟩, ⟨4, .phase⟩, ⟨5, .phase⟩, ⟨6, .phase⟩, ⟨7, .phase⟩, ⟨8, .phase⟩, ⟨9, .phase⟩, ⟨10, .phase⟩, ⟨11, .phase⟩, ⟨12, .phase⟩, ⟨13, .phase⟩], none⟩) hH.out (by rintro w ⟨s0, s1⟩; go_simp <;> with_reducible rfl) ?_
      simp only [Act.put, sA, sB, sC]
      refine wpAnyH_done (by kernel_rfl) ?_ _
      have HS3 := Lib.hid (HS.out.over HA3.out)
      have HBAD := Lib.hid (show ¬ (CE = 0 ∧ needT ps ≤ freeG n g) → ∀ w', Adv Nul w Nul w' → WrR w F d l b n N R (.returned (.int .i64 8)) w' from fun k w' a => by
        rw [HR.out]
        unfold writeG
        rw [if_pos HE.out.symm, ← HHm.out, if_pos HT.out, ← HEP.out, ← HNX.out, ← HCE.out, if_neg k]
        exact ⟨rfl, F, HS.out.over a, adv_nul a⟩)
      clear c6 c5
      by_cases hce : CE = 0
      · subst hce
        have hnp : np = needT ps := by
          rw [HP3.out.prd.len.1, cutV, if_pos HCE.out.symm, cutP_length]; rfl
        have HNP := Lib.hid hnp
        have HFREE := Lib.hid (gfree_lg HS3.out.lg (by have := HOK.out.hn; omega) HOK.out.tn HOK.out.fr)
        obtain ⟨fr, hfr⟩ : ∃ x, x = freeG n g := ⟨_, rfl⟩
        rw [show n - (g.next - g.h.t) = fr by rw [hfr]; rfl] at HFREE
        have HFR := Lib.hid hfr
        clear hnp hfr
        go_wp2_with fail
        refine HFREE.out.mono ?_
        rintro x w4 ⟨rfl, k4, rfl⟩
        have HA4 := Lib.hid (HA3.out.drewN k4)
        by_cases hgt : (fr : Int) < (np : Int)
        · have HF := Lib.hid (HBAD.out (fun k => by have := k.2; rw [← HFR.out, ← HNP.out] at this; omega) _ HA4.out)
          go_wp2_with fail
          go_ret
          exact HF.out
        · have hle : (np : Int) ≤ (fr : Int) := by omega
          clear hgt
          obtain ⟨P, hP⟩ : ∃ P, P = cutP ep nx (recB ps) := ⟨_, rfl⟩
          have hp4 : PRdG (w3.drewN k4) (UF F l b) (.slice Ap np kp) P := by
            have := HP3.out.adv ((Adv.refl Nul w3).drewN k4) (fun _ x => x.elim) (fun _ x => .inl x)
            rw [cutV, if_pos HCE.out.symm] at this
            rw [hP]; exact this
          have HP4 := Lib.hid hp4
          have hPl : np = P.length := hp4.prd.len.1
          have HPL := Lib.hid hPl
          have HPOK := Lib.hid (show ∀ p ∈ P, p.ok by rw [hP]; exact cutP_ok HCE.out.symm)
          have HP8 := Lib.hid (show ∀ p ∈ P, ∀ x ∈ p.d, x < 256 by rw [hP]; exact cutP_bytes (recB_lt ps))
          have hnpI : (np : Int) ≤ 4096 := by have := HOK.out.hn; have := HFR.out; unfold freeG at this; omega
          have HGOOD := Lib.hid (show writeG s n N g ps = (if (layAll s n P).2 = 0 then (((layAll s n P).1, g.putAll ps (needT ps)), 0) else (((layAll s n P).1, { g with err := (layAll s n P).2 }), (layAll s n P).2)) by
            unfold writeG
            rw [if_pos HE.out.symm, ← HHm.out, if_pos HT.out, ← HEP.out, ← HNX.out, if_pos ⟨HCE.out.symm, by rw [← HFR.out, ← HNP.out]; omega⟩, hP])
          have hnf : ((fr : Int) < (np : Int)) = False := eq_false (by omega)
          clear hp4 hPl hP hle
          go_wp2_with fail
          go_loopw [45] (WrL (w3.drewN k4) F d l b n N s g P) (fun t _ => np - (intOf t).toNat)
          case atStart => exact ⟨0, s, F, Nat.zero_le _, rfl, by rw [List.drop_zero], Nat.le_refl _, HS3.out.over ((Adv.refl Nul w3).drewN k4), Adv.refl _ _⟩
          case round =>
            obtain ⟨k, sk, Fk, hk, rfl, hlay, hqk, hrs, had⟩ := hrel
            by_cases hlt : k < np
            · have hki : (k : Int) < (np : Int) := by omega
              have hkp : k < P.length := by rw [← HPL.out]; exact hlt
              obtain ⟨b5, o5, a5, q5, rfl, c5s, hr5⟩ := (HP4.out.adv had (fun _ x => x) (fun _ x => had.into _ x)).row hkp
              have hok := HPOK.out _ (List.getElem_mem hkp)
              have hb8 := HP8.out _ (List.getElem_mem hkp)
              have hdr : P.drop k = P[k] :: P.drop (k + 1) := (List.getElem_cons_drop hkp).symm
              obtain ⟨p, hp⟩ : ∃ p, p = P[k] := ⟨_, rfl⟩
              rw [← hp] at c5s hr5 hok hb8 hdr
              clear hp
              rw [hdr] at hlay
              obtain ⟨Wr, hWr⟩ : ∃ x, x = writeS sk ((2 + p.c % n : Nat) : Int) (sealL p) := ⟨_, rfl⟩
              have hlay2 : layAll s n P = if Wr.2 = 0 then layAll Wr.1 n (P.drop (k + 1)) else Wr := by rw [hlay, hWr]; rfl
              have hqw : Wr.1.Q.length ≤ s.Q.length + (k + 1) := by rw [hWr]; exact Nat.le_trans (few_write sk _ _) (by omega)
              obtain ⟨V, hV⟩ : ∃ V, V = wr.alloc (.cells #[.int .u64 (p.e : Int), .int .u64 (p.c : Int), .bool p.f, .bool p.g, .slice a5 p.d.length q5] 96) := ⟨_, rfl⟩
              obtain ⟨z, hz⟩ : ∃ z, z = wr.heap.size := ⟨_, rfl⟩
              have hav : Adv Nul wr Nul V := by rw [hV]; exact (Adv.refl _ _).alloc _
              have hzb : Blk V z 96 #[.int .u64 (p.e : Int), .int .u64 (p.c : Int), .bool p.f, .bool p.g, .slice a5 p.d.length q5] := by rw [hV, hz]; exact Blk.new _ _ _
              have hrv := hrs.over hav
              have hcall : Calls Tryz.prog 45 #[.pointer (some ⟨l, 0, none⟩), .agg #[.int .u64 (p.e : Int), .int .u64 (p.c : Int), .bool p.f, .bool p.g, .slice a5 p.d.length q5]] V (LayR V Fk d N Wr) := by
                rw [hWr]
                exact glay_lg l b d n N g Fk sk p a5 q5 V hrv.lg hrv.dk hrv.sep hok (hr5.far (fun _ _ _ h => hav.block _ h (fun h => h)) hav.size) hb8 (by have := HOK.out.q; have := HPL.out; omega) (by have := HOK.out.hn; omega)
              have HLAY2 := Lib.hid hlay2
              have HQW := Lib.hid hqw
              have HV := Lib.hid hV
              have HZ := Lib.hid hz
              have HCALL := Lib.hid hcall
              have HRV := Lib.hid hrv
              have HADV := Lib.hid (had.trans (adv_nul (F := Fk) (l := l) (b := b) hav))
              have HC5 := Lib.hid c5s
              have HLT := Lib.hid hlt
              obtain ⟨pe, hpe⟩ : ∃ x, x = p.e := ⟨_, rfl⟩
              obtain ⟨pc, hpc⟩ : ∃ x, x = p.c := ⟨_, rfl⟩
              obtain ⟨pf, hpf⟩ : ∃ x, x = p.f := ⟨_, rfl⟩
              obtain ⟨pg, hpg⟩ : ∃ x, x = p.g := ⟨_, rfl⟩
              obtain ⟨pm, hpm⟩ : ∃ x, x = p.d.length := ⟨_, rfl⟩
              obtain ⟨i0, i1, i2, i3, i4⟩ := c5s
              obtain ⟨WE, hWE⟩ : ∃ x, x = Wr.2 := ⟨_, rfl⟩
              rw [← hpe] at i0 hzb HV HCALL
              rw [← hpc] at i1 hzb HV HCALL
              rw [← hpf] at i2 hzb HV HCALL
              rw [← hpg] at i3 hzb HV HCALL
              rw [← hpm] at i4 hzb HV HCALL
              have HWE := Lib.hid hWE
              have HZB := Lib.hid hzb
              clear hk hlay hqk hrs had hlt hkp hr5 hok hb8 hdr hlay2 hqw hV hz hav hzb hrv hcall hpe hpc hpf hpg hpm hWE hWr HC5
              go_upto_region 12 with (fail)
              rw [← HV.out, ← HZ.out]
              clear i0 i1 i2 i3 i4
              obtain ⟨z0, z1, z2, z3, z4⟩ := pcell5 HZB.out
              go_wp2_with fail
              refine HCALL.out.mono ?_
              rintro x w6 ⟨rfl, F6, k6, a6⟩
              rw [← HWE.out]
              have HS6 := Lib.hid (HRV.out.disk a6 k6)
              have HA6 := Lib.hid (HADV.out.trans (adv_disk (l := l) (b := b) a6))
              clear a6 k6 z0 z1 z2 z3 z4
              by_cases hwe : WE = 0
              · subst hwe
                go_wp2_with fail
                have hlt := HLT.out
                refine ⟨⟨k + 1, Wr.1, F6, by have := HPL.out; omega, by go_num, ?_, HQW.out, HS6.out, HA6.out⟩, by simp [intOf] <;> omega⟩
                rw [HLAY2.out, if_pos HWE.out.symm]
              · have hb : ((WE : Int) != 0) = true := by rw [bne_iff_ne]; exact hwe
                have hb2 : ((WE : Int) == 0) = false := by rw [beq_eq_false_iff_ne]; exact hwe
                have HKP := Lib.hid (gkeep_lg WE HS6.out.lg)
                have HNE := Lib.hid hwe
                clear hwe
                go_wp2_with fail
                refine HKP.out.mono ?_
                rintro x w7 ⟨rfl, l7, a7⟩
                have HF := Lib.hid (show WrR w F d l b n N R (.returned (.int .i64 WE)) w7 by
                  have e1 : layAll s n P = Wr := by rw [HLAY2.out, if_neg (by rw [← HWE.out]; exact HNE.out)]
                  rw [HR.out, HGOOD.out, e1, if_neg (by rw [← HWE.out]; exact HNE.out), ← HWE.out]
                  exact ⟨rfl, F6, HS6.out.log a7 l7, (adv_nul (HA4.out)).trans (HA6.out.trans (adv_log a7))⟩)
                clear l7 a7
                go_wp2_with fail
                go_ret
                exact HF.out
            · obtain rfl : k = np := by have := HPL.out; omega
              have e0 : P.drop k = [] := List.drop_eq_nil_of_le (by have := HPL.out; omega)
              rw [e0] at hlay
              have hlay2 : layAll s n P = (sk, 0) := hlay
              have HLAY := Lib.hid hlay2
              have HRS := Lib.hid hrs
              have HAD := Lib.hid had
              have htk := gtake_lg l b d n N k g A0 M k0 ps wr hrs.lg ((HQ.out.step HA4.out).adv had (fun _ x => x) (fun j x => .inl (.inr x))) (by rw [← HHm.out]; exact HT.out) HOK.out.hn.2.2 (by have := HOK.out.nx; omega)
              have HTK := Lib.hid htk
              clear hk hlay e0 hlay2 hqk hrs had hlt htk
              go_wp2_with fail
              refine HTK.out.mono ?_
              rintro x w7 ⟨rfl, l7, a7⟩
              have HF := Lib.hid (show WrR w F d l b n N R (.returned (.int .i64 0)) w7 by
                rw [HR.out, HGOOD.out, HLAY.out, if_pos rfl, ← HNP.out]
                exact ⟨rfl, Fk, HRS.out.log a7 l7, (adv_nul (HA4.out)).trans (HAD.out.trans (adv_log a7))⟩)
              clear l7 a7
              go_wp2_with fail
              go_ret
              exact HF.out
      · have hb : ((CE : Int) != 0) = true := by rw [bne_iff_ne]; exact hce
        have hb2 : ((CE : Int) == 0) = false := by rw [beq_eq_false_iff_ne]; exact hce
        have HF := Lib.hid (HBAD.out (fun k => hce k.1) _ HA3.out)
        clear hce
        go_wp2_with fail
        go_ret
        exact HF.out
  · have hb : ((E : Int) != 0) = true := by rw [bne_iff_ne]; exact h0
    have hb2 : ((E : Int) == 0) = false := by rw [beq_eq_false_iff_ne]; exact h0
    have HF := Lib.hid (show WrR w F d l b n N R (.returned (.int .i64 E)) w by
      rw [HR.out]
      unfold writeG
      rw [if_neg (by rw [← HE.out]; exact h0), ← HE.out]
      exact ⟨rfl, F, HS.out, Adv.refl _ _⟩)
    clear h0
    go_enter Tryz.func10, Tryz.ntmps10
    go_wp2_with fail
    refine HST.out.mono ?_
    rintro x w1 ⟨rfl, rfl⟩
    go_wp2_with fail
    go_ret
    exact HF.out

def syncG (s : DS) (g : LS) : (DS × LS) × Int := if g.err = 0 then (((flushS s).1, { g with err := (flushS s).2 }), (flushS s).2) else ((s, g), g.err)
set_option maxRecDepth 3000 in
set_option maxHeartbeats 1600000 in
theorem gsync_lg (l b d n N : Nat) (g : LS) (F : Nat → Prop) (s : DS) (w : World) (h : Rs w F d l b n N s g) :
    Calls Tryz.prog 12 #[.pointer (some ⟨l, 0, none⟩)] w (WrR w F d l b n N (syncG s g)) := by
  obtain ⟨R, hR⟩ : ∃ R, R = syncG s g := ⟨_, rfl⟩
  rw [← hR]
  have HST := Lib.hid (gstays_lg h.lg)
  have HS := Lib.hid h
  have HR := Lib.hid hR
  obtain ⟨E, hE⟩ : ∃ E, E = g.err := ⟨_, rfl⟩
  rw [← hE] at HST
  have HE := Lib.hid hE
  have c0 := h.lg.cells.1
  clear h hR hE
  by_cases h0 : E = 0
  · subst h0
    obtain ⟨X, hX⟩ : ∃ x, x = flushS s := ⟨_, rfl⟩
    have HFL := Lib.hid (flush_dk d N F s w HS.out.dk)
    rw [← hX] at HFL
    have HX := Lib.hid hX
    obtain ⟨XE, hXE⟩ : ∃ x, x = X.2 := ⟨_, rfl⟩
    rw [← hXE] at HFL
    have HXE := Lib.hid hXE
    clear hX hXE
    go_enter Tryz.func12, Tryz.ntmps12
    go_wp2_with fail
    refine HST.out.mono ?_
    rintro x w1 ⟨rfl, rfl⟩
    go_wp2_with fail
    refine HFL.out.mono ?_
    rintro x w2 ⟨rfl, k2, a2⟩
    have HS2 := Lib.hid (HS.out.disk a2 k2)
    have HKP := Lib.hid (gkeep_lg XE HS2.out.lg)
    have HA2 := Lib.hid (adv_disk (l := l) (b := b) a2)
    clear a2 k2 c0
    go_wp2_with fail
    refine HKP.out.mono ?_
    rintro x w3 ⟨rfl, l3, a3⟩
    have HF := Lib.hid (show WrR w F d l b n N R (.returned (.int .i64 XE)) w3 by
      rw [HR.out]
      unfold syncG
      rw [if_pos HE.out.symm, ← HX.out, ← HXE.out]
      exact ⟨rfl, F, HS2.out.log a3 l3, HA2.out.trans (adv_log a3)⟩)
    clear l3 a3
    go_wp2_with fail
    go_ret
    exact HF.out
  · have hb : ((E : Int) != 0) = true := by rw [bne_iff_ne]; exact h0
    have hb2 : ((E : Int) == 0) = false := by rw [beq_eq_false_iff_ne]; exact h0
    have HF := Lib.hid (show WrR w F d l b n N R (.returned (.int .i64 E)) w by
      rw [HR.out]
      unfold syncG
      rw [if_neg (by rw [← HE.out]; exact h0), ← HE.out]
      exact ⟨rfl, F, HS.out, Adv.refl _ _⟩)
    clear h0
    go_enter Tryz.func12, Tryz.ntmps12
    go_wp2_with fail
    refine HST.out.mono ?_
    rintro x w1 ⟨rfl, rfl⟩
    go_wp2_with fail
    go_ret
    exact HF.out
end Go.Proofs.YtbdjlmdbnoghnaaGreat
namespace Go.Proofs.YtbdjlmdbnoghnaaGreat
open Go.RowKit Go.Maps

def homeG (s : DS) (n : Nat) (g : LS) (i : Nat) : List Nat := (g.A i).getD (isS s (2 + n + i))
/-- what is not home is a sector of a home -/
def AOk (M : Nat) (A : Nat → Option (List Nat)) : Prop := ∀ i x, A i = some x → i < M ∧ x.length = 128 ∧ ∀ y ∈ x, y < 256
theorem AOk.none (M : Nat) : AOk M (fun _ => none) := fun _ _ h => by cases h
theorem AOk.set {M i : Nat} {A : Nat → Option (List Nat)} {x : List Nat} (h : AOk M A) (hi : i < M) (hl : x.length = 128) (h8 : ∀ y ∈ x, y < 256) : AOk M (setA A i x) := fun j y hy => by
  unfold setA at hy
  split at hy
  · injection hy with hy; subst hy; rename_i e; rw [e]; exact ⟨hi, hl, h8⟩
  · exact h j y hy
theorem op_look2 {ops : Array Oper} {rest : List Oper} {o : Oper} {a : Act} {w : World} {Q : Exit → Act → World → Prop} (hgd : o.guard = none) (m x : Operand) (ho : o.op = Op.lookup 72 m x true) (b N i : Nat) (A : Nat → Option (List Nat)) (hM : Mp w b N A) (hm : a.eval m = .map (some b)) (hx : a.eval x = .int .i64 (i : Int)) (hi : i < N) (hN : N ≤ 4096)
    {X : List Nat} {B : Bool} (hX : X = (A i).getD (List.replicate 128 0)) (hB : B = (A i).isSome)
    (hK : wpList Tryz.prog ops Q rest (a.put o.dst (.tuple #[.agg ((X.map u8).toArray), .bool B])) w) : wpList Tryz.prog ops Q (o :: rest) a w := by
  subst hX hB
  exact op_look hgd m x ho b N i A hM hm hx hi hN hK
def RdR (w : World) (X : List Nat) (e : Ending) (w' : World) : Prop := ∃ z, e = .returned (.tuple #[.slice (some ⟨z, 0, none⟩) 128 128, .int .i64 0]) ∧ w.heap.size ≤ z ∧ z < w'.heap.size ∧ Rd w' 1 (.slice (some ⟨z, 0, none⟩) 128 128) 128 (X.map u8) ∧ X.length = 128 ∧ Adv Nul w Nul w'
theorem Blk.rdS8 {w : World} {z : Nat} {t : TypeId} {X : List Nat} (h : Blk w z t (X.map u8).toArray) (hl : X.length = 128) : Rd w 1 (.slice (some ⟨z, 0, none⟩) 128 128) 128 (X.map u8) :=
  ⟨_, 128, rfl, Nat.le_refl _, by unfold maxLen; omega, by simpa using hl, fun e => (by cases e), fun _ => ⟨_, rfl, h.lt, fun j u hu => by
    have e : (⟨z, 0, none⟩ : Addr).add j = ⟨z, j, none⟩ := by rw [add_none, Nat.zero_add]
    rw [e, h.cell]
    simpa using hu⟩⟩

set_option maxRecDepth 3000 in
set_option maxHeartbeats 6400000 in
theorem gread_lg (l b d n N i : Nat) (g : LS) (F : Nat → Prop) (s : DS) (w : World) (h : Rs w F d l b n N s g) (hn : 2 ≤ n ∧ n + 3 ≤ N ∧ N ≤ 4096) (hA : AOk (N - 2 - n) g.A) (hi : i < N - 2 - n) :
    Calls Tryz.prog 26 #[.pointer (some ⟨l, 0, none⟩), .int .i64 (i : Int)] w (RdR w (homeG s n g i)) := by
  have HMD := Lib.hid (gmade_lg h.lg)
  have HHM := Lib.hid (ghomes_lg h.lg h.dk hn.2.2 (by omega))
  obtain ⟨Hm, hHm⟩ : ∃ x, x = N - 2 - n := ⟨_, rfl⟩
  rw [← hHm] at HHM hA hi
  have hiI : (i : Int) < (Hm : Int) := by omega
  have hi0 : (0 : Int) ≤ (i : Int) := by omega
  obtain ⟨X, hX⟩ : ∃ X, X = (g.A i).getD (List.replicate 128 0) := ⟨_, rfl⟩
  obtain ⟨B, hB⟩ : ∃ B, B = (g.A i).isSome := ⟨_, rfl⟩
  have hXl : X.length = 128 := by
    rw [hX]
    cases e : g.A i with
    | none => simp
    | some x => exact (hA i x e).2.1
  have HXL := Lib.hid hXl
  have HX := Lib.hid hX
  have HB := Lib.hid hB
  have HS := Lib.hid h
  have HI := Lib.hid hi
  have HHm := Lib.hid hHm
  have HN := Lib.hid hn
  have c7 := h.lg.cells.2.2.2.2.2.2.2.1
  have c0 := h.lg.cells.1
  clear h hn hA hi hHm hX hB hXl
  go_enter Tryz.func26, Tryz.ntmps26
  go_wp2_with fail
  refine HMD.out.mono ?_
  rintro x w1 ⟨rfl, rfl⟩
  go_wp2_with fail
  refine HHM.out.mono ?_
  rintro x w1 ⟨rfl, k1, rfl⟩
  obtain ⟨w1, hw1⟩ : ∃ W, W = w.drewN k1 := ⟨_, rfl⟩
  rw [← hw1]
  have ha1 : Adv Nul w Nul w1 := by rw [hw1]; exact (Adv.refl Nul w).drewN k1
  have HS1 := Lib.hid (HS.out.over ha1)
  have HA1 := Lib.hid ha1
  have c7' := HS1.out.lg.cells.2.2.2.2.2.2.2.1
  have c0' := HS1.out.lg.cells.1
  have HMP := Lib.hid (show Mp w1 b Hm g.A by rw [HHm.out]; exact HS1.out.lg.mp)
  have HN4 := Lib.hid (show Hm ≤ 4096 by have := HHm.out; have := HN.out; omega)
  clear ha1 c7 c0 hw1
  go_upto_region 6 with (first
    | (refine op_look2 rfl _ _ rfl b Hm i g.A HMP.out rfl rfl HI.out HN4.out HX.out HB.out ?_)
    | (refine op_alloc_sec rfl rfl ?_)
    | (refine op_store_sec rfl _ _ rfl _ rfl X HXL.out rfl rfl ?_)
    | fail)
  obtain ⟨z, hz⟩ : ∃ z, z = w1.heap.size := ⟨_, rfl⟩
  obtain ⟨V, hV⟩ : ∃ V, V = w1.alloc (.cells (X.map u8).toArray 114) := ⟨_, rfl⟩
  rw [← hV, ← hz]
  have hav : Adv Nul w1 Nul V := by rw [hV]; exact (Adv.refl _ _).alloc _
  have HZB := Lib.hid (show Blk V z 114 (X.map u8).toArray by rw [hV, hz]; exact Blk.new _ _ _)
  have HSV := Lib.hid (HS1.out.over hav)
  have HAV := Lib.hid (HA1.out.trans hav)
  have HZ := Lib.hid (show w.heap.size ≤ z by rw [hz]; exact HA1.out.size)
  clear hV hz hav c7' c0'
  cases B with
  | true =>
    have HF := Lib.hid (show RdR w (homeG s n g i) (.returned (.tuple #[.slice (some ⟨z, 0, none⟩) 128 128, .int .i64 0])) V by
      have e : homeG s n g i = X := by
        rw [HX.out]
        unfold homeG
        obtain ⟨x, hx⟩ := Option.isSome_iff_exists.1 HB.out.symm
        rw [hx]; rfl
      rw [e]
      exact ⟨z, rfl, HZ.out, HZB.out.lt, HZB.out.rdS8 HXL.out, HXL.out, HAV.out⟩)
    go_wp2_with fail
    exact bodyPost_ret (v := .tuple #[.slice (some ⟨z, 0, none⟩) 128 128, .int .i64 0]) (by simp [results, Tryz.results26, go_sem]) rfl HF.out
  | false =>
    have c0 := HSV.out.lg.cells.1
    have HC := Lib.hid c0
    have HCD := Lib.hid (show V.drew.cell? ⟨l, 0, none⟩ = some (.pointer (some ⟨d, 0, none⟩)) from c0)
    have HHO := Lib.hid (ghome_lg (w := V.drew) i (show Lg V.drew l b d n N g from ⟨HSV.out.lg.blk, HSV.out.lg.mp⟩) (by have := HI.out; have := HN4.out; omega) (by have := HN.out; omega))
    have HRD := Lib.hid (read_dk d N F s (2 + n + i) V.drew (HSV.out.dk.far ((Adv.refl Nul V).drew) (fun _ x _ => x)) (by have := HI.out; have := HHm.out; omega))
    have HKEEP := Lib.hid (show ∀ w', Adv Nul V.drew Nul w' → w'.cell? ⟨l, 0, none⟩ = some (.pointer (some ⟨d, 0, none⟩)) from fun w' a => (HSV.out.over (Adv.of_drew a)).lg.cells.1)
    obtain ⟨hm, hhm⟩ : ∃ x, x = 2 + n + i := ⟨_, rfl⟩
    rw [← hhm] at HHO HRD
    have HHMM := Lib.hid hhm
    clear hhm
    go_wp2_with fail
    refine rstart (S := (fun w' => w'.cell? ⟨l, 0, none⟩ = some (.pointer (some ⟨d, 0, none⟩)))) (by first | with_reducible exact HC7.out | with_reducible exact HCD.out | with_reducible exact HC.out) (fun hH => ?_)
    refine tk (i := 0) (oi := ⟨some 30, .move (.tmp 0), 31, "redo.go:81", #[], none⟩) hH.out (by rintro w s0; go_simp <;> with_reducible rfl) ?_
    simp only [Act.put, sA, sB, sC]
    refine tk (i := 1) (oi := ⟨some 31, .nilCheck (.tmp 30), 0, "redo.go:81", #[⟨0, .data⟩], none⟩) hH.out (by rintro w s0; go_simp <;> with_reducible rfl) ?_
    simp only [Act.put, sA, sB, sC]
    refine tk (i := 2) (oi := ⟨some 32, .fieldAddr 74 (.tmp 31) 0, 0, "redo.go:81", #[⟨1, .data⟩], none⟩) hH.out (by rintro w s0; go_simp <;> with_reducible rfl) ?_
    simp only [Act.put, sA, sB, sC]
    refine tk (i := 3) (oi := ⟨some 33, .load 24 (.tmp 32), 24, "redo.go:81", #[⟨2, .data⟩], none⟩) hH.out (by rintro w s0; go_simp <;> with_reducible rfl) ?_
    simp only [Act.put, sA, sB, sC]
    refine tk (i := 4) (oi := ⟨some 34, .move (.tmp 0), 31, "redo.go:81", #[], none⟩) hH.out (by rintro w s0; go_simp <;> with_reducible rfl) ?_
    simp only [Act.put, sA, sB, sC]
    refine tk (i := 5) (oi := ⟨some 35, .move (.tmp 1), 3, "redo.go:81", #[], none⟩) hH.out (by rintro w s0; go_simp <;> with_reducible rfl) ?_
    simp only [Act.put, sA, sB, sC]
    refine rdy (i := 6) (oi := ⟨some 36, .call ⟨.value (.func 63), #[.tmp 34, .tmp 35], #[31, 3]⟩, 3, "redo.go:81", #[⟨4, .data⟩, ⟨5, .data⟩], none⟩) (fun K hK => ?_)
    go_simp
    refine HHO.out.mono ?_
    rintro x w6 ⟨rfl, rfl⟩
    go_wp2_with fail
    refine hK.out _ _ (by first | with_reducible exact HC7.out | with_reducible exact HCD.out | with_reducible exact HC.out) (fun hHeld => ?_)
    replace hH := Lib.hid hHeld
    clear hK K hHeld
    try simp only [Act.put, sA, sB, sC]
    refine rdy (i := 7) (oi := ⟨some 37, .call ⟨.value (.func 23), #[.tmp 33, .tmp 36], #[24, 3]⟩, 54, "redo.go:81", #[⟨3, .data⟩, ⟨6, .data⟩, ⟨6, .chain⟩], none⟩) (fun K hK => ?_)
    go_simp
    refine HRD.out.mono ?_
    rintro x w7 ⟨y, rfl, b7, l7, a7⟩
    have HC7 := Lib.hid (HKEEP.out w7 (a7.sub (G := Nul) (fun _ x => x.elim)))
    have HF := Lib.hid (show RdR w (homeG s n g i) (.returned (.tuple #[.slice (some ⟨y, 0, none⟩) 128 128, .int .i64 0])) w7 by
      have e : homeG s n g i = isS s hm := by
        unfold homeG
        have : g.A i = none := by
          cases h : g.A i with
          | none => rfl
          | some x => have := HB.out; rw [h] at this; cases this
        rw [this, HHMM.out]; rfl
      rw [e]
      exact ⟨y, rfl, Nat.le_trans HAV.out.size (by rcases a7.into y rfl with h | h; exact h.elim; exact h), b7.lt, b7.rdS8 l7, l7, HAV.out.trans (Adv.of_drew (a7.sub (G := Nul) (fun _ x => x.elim)))⟩)
    clear b7 l7 a7
    go_wp2_with fail
    refine hK.out _ _ (by first | with_reducible exact HC7.out | with_reducible exact HCD.out | with_reducible exact HC.out) (fun hHeld => ?_)
    replace hH := Lib.hid hHeld
    clear hK K hHeld
    try simp only [Act.put, sA, sB, sC]
    refine tk (i := 8) (oi := ⟨some 38, .extract (.tmp 37) 0, 53, "redo.go:81", #[⟨7, .data⟩], none⟩) hH.out (by rintro w s0; go_simp <;> with_reducible rfl) ?_
    simp only [Act.put, sA, sB, sC]
    refine tk (i := 9) (oi := ⟨some 39, .extract (.tmp 37) 1, 25, "redo.go:81", #[⟨7, .data⟩], none⟩) hH.out (by rintro w s0; go_simp <;> with_reducible rfl) ?_
    simp only [Act.put, sA, sB, sC]
    refine tk (i := 10) (oi := ⟨some 4, .assign (.tmp 38), 53, "redo.go:81", #[⟨8, .data⟩, ⟨7, .chain⟩, ⟨0, .phase⟩, ⟨1, .phase⟩, ⟨2, .phase⟩, ⟨3, .phase⟩, ⟨4, .phase⟩, ⟨5, .phase⟩, ⟨6, .phase⟩, ⟨7, .phase⟩, ⟨8, .phase⟩, ⟨9, .phase⟩], none⟩) hH.out (by rintro w s0; go_simp <;> with_reducible rfl) ?_
    simp only [Act.put, sA, sB, sC]
    refine tk (i := 11) (oi := ⟨some 5, .assign (.tmp 39), 25, "redo.go:81", #[⟨9, .data⟩, ⟨10, .chain⟩, ⟨0, .phase⟩, ⟨1, .phase⟩, ⟨2, .phase⟩, ⟨3, .phase⟩, ⟨4, .phase⟩, ⟨5, .phase⟩, ⟨6, .phase⟩, ⟨7, .phase⟩, ⟨8, .phase⟩, ⟨9, .phase⟩, ⟨10, .phase⟩], none⟩) hH.out (by rintro w s0; go_simp <;> with_reducible rfl) ?_
    simp only [Act.put, sA, sB, sC]
    refine wpAnyH_done (by kernel_rfl) ?_ _
    go_wp2_with fail
    exact bodyPost_ret (v := .tuple #[.slice (some ⟨y, 0, none⟩) 128 128, .int .i64 0]) (by simp [results, Tryz.results26, go_sem]) rfl HF.out
end Go.Proofs.YtbdjlmdbnoghnaaGreat
