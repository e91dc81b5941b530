/- A log whose power stays, behind crashes: writing. A log whose power stays, behind crashes: Sync. A log whose power stays, behind crashes: Checkpoint. A log behind crashes: the invariant, a step at a time. RedoKept's memory: the states. -/
import Derived.Test.YtolcnbiaiolcoaaGreatMgF
import Derived.Test.YtolcnbiaiolcoaaGreatMgE
namespace Go.Proofs.YtolcnbiaiolcoaaGreat
open Go.RowKit Go.Maps

theorem Base.sameL {s s' : DS} {n N E u fu : Nat} {h : Hd} {fls : List (Nat × List Pt)} (b : Base s n N h E fls u fu) (hok : s'.ok N) (hL : s'.L = s.L) : Base s' n N h E fls u fu := by
  have e : ∀ i, isS (bare s') i = isS (bare s) i := fun i => by rw [bare_at, bare_at, hL]
  have e' : isS (bare s') = isS (bare s) := funext e
  refine ⟨hok, by rw [e']; exact b.sb, b.e1, b.e2, by rw [e']; exact b.c0, by rw [e']; exact b.c1, by rw [e']; exact b.f0, by rw [e']; exact b.f1, by rw [e']; exact b.hd, by rw [e']; exact b.ring, by rw [e']; exact b.ch, b.fe, b.fr, ?_, b.aok⟩
  rcases b.stop with k | k
  · exact .inl k
  · exact .inr (halt_same k fun c => e _)
theorem hm_sameL {s s' : DS} {n M : Nat} {A : Nat → Option (List Nat)} (hL : s'.L = s.L) : hmL (bare s') n M A = hmL (bare s) n M A := by
  unfold hmL
  exact List.map_congr_left fun i _ => by rw [bare_at, bare_at, hL]

def sumN (pend : List (List Pt)) : Nat := (pend.map needT).sum
theorem sumN_snoc (pend : List (List Pt)) (ps : List Pt) : sumN (pend ++ [ps]) = sumN pend + needT ps := by unfold sumN; simp

/-- The log while the power stays: fls last, pend wait, their pieces PL. -/
structure Live (s : DS) (n N : Nat) (g : LS) (SL : List (List (List Nat))) (fls : List (Nat × List Pt)) (u fu : Nat) (pend : List (List Pt)) (PL : List Pc) : Prop where
  base : Base s n N g.h g.ep fls u fu
  err : g.err = 0
  dd : s.dead = false
  Q : s.Q = PL.map (qOf n)
  wait : Wait PL g.ep u
  next : g.next = u + PL.length
  fr : g.next ≤ g.h.t + n
  pd : PendAt (byC u PL) ((N - 2 - n : Nat) : Int) g.ep u pend
  tot : sumN pend = PL.length
  A : g.A = pend.foldl putA (putE nA fls)
  st : ∀ j, j ≤ pend.length → hmL (bare s) n (N - 2 - n) ((pend.take j).foldl putA (putE nA fls)) ∈ SL
  last : SL.getLast? = some (homesL s n g (N - 2 - n))
section
variable {s : DS} {n N : Nat} {g : LS} {SL : List (List (List Nat))} {fls : List (Nat × List Pt)} {u fu : Nat} {pend : List (List Pt)} {PL : List Pc}
theorem ring_out {n : Nat} {PL : List Pc} {s : DS} (hQ : s.Q = PL.map (qOf n)) (hn : 1 ≤ n) : ∀ q ∈ s.Q, 2 ≤ q.1 ∧ q.1 < 2 + n := fun q hq => by
  rw [hQ] at hq
  obtain ⟨p, _, rfl⟩ := List.mem_map.1 hq
  have := Nat.mod_lt p.c (by omega : 0 < n)
  exact ⟨Nat.le_add_right _ _, by show 2 + p.c % n < 2 + n; omega⟩
theorem isS_out {s : DS} {i : Nat} (h : ∀ q ∈ s.Q, q.1 ≠ i) : isS s i = isS (bare s) i := by
  rw [bare_at]
  unfold isS
  rw [List.getD_eq_getElem?_getD, List.getD_eq_getElem?_getD, lays_other _ _ _ h]
theorem hm_bare (hQ : s.Q = PL.map (qOf n)) (hn : 1 ≤ n) (M : Nat) (A : Nat → Option (List Nat)) : hmL s n M A = hmL (bare s) n M A := by
  unfold hmL
  exact List.map_congr_left fun i _ => by rw [isS_out fun q hq => by have := ring_out hQ hn q hq; omega]
theorem Live.aok (h : Live s n N g SL fls u fu pend PL) : AOk (N - 2 - n) g.A := by
  rw [h.A]
  have := AOk.pend (M := N - 2 - n) (by simp) pend u pend.length _ h.base.aok h.pd
  rwa [List.take_length] at this
theorem Live.homes (h : Live s n N g SL fls u fu pend PL) (hn : 1 ≤ n) : homesL s n g (N - 2 - n) = hmL (bare s) n (N - 2 - n) (pend.foldl putA (putE nA fls)) := by
  rw [homesL_hm, h.A]
  exact hm_bare h.Q hn _ _
theorem Live.crash (h : Live s n N g SL fls u fu pend PL) (hn : 2 ≤ n ∧ n + 3 ≤ N ∧ N ≤ 4096) (hE : g.ep < 255) : After s n N g.ep g.next g.h.g SL := by
  have := pend_crash hn h.base hE h.Q h.wait (by rw [← h.next]; exact h.fr) h.pd h.st
  rwa [← h.next] at this

/-- a row of pieces is written, till the power goes off -/
theorem lay_row {n N : Nat} (hn : 1 ≤ n) (hN : n + 2 ≤ N) : ∀ (P : List Pc) (s : DS), s.ok N → (∀ p ∈ P, p.ok) → ∃ k, k ≤ P.length ∧ (layAll s n P).1.L = s.L ∧ (layAll s n P).1.Q = s.Q ++ (P.take k).map (qOf n) ∧ (layAll s n P).1.ok N ∧
    (((layAll s n P).2 = 0 ∧ k = P.length ∧ (layAll s n P).1.dead = s.dead) ∨ ((layAll s n P).2 = 7 ∧ k < P.length ∧ (layAll s n P).1.dead = true))
  | [], s, hok, _ => ⟨0, Nat.le_refl _, rfl, by simp [layAll], hok, .inl ⟨rfl, rfl, rfl⟩⟩
  | p :: P, s, hok, hp => by
    have hm := Nat.mod_lt p.c (by omega : 0 < n)
    have hl : (sealL p).length = 128 := sealL_length (hp p (by simp)).2.2
    have hw : writeS s ((2 + p.c % n : Nat) : Int) (sealL p) = if (stepS s).2 then ({ (stepS s).1 with Q := s.Q ++ [(2 + p.c % n, sealL p)] }, 0) else ((stepS s).1, 7) := by
      unfold writeS
      rw [if_neg (by rw [hok.len, hl]; omega), Int.toNat_natCast]
    have hok1 := writeS_ok hok ((2 + p.c % n : Nat) : Int) (sealL p)
    by_cases hs : (stepS s).2 = true
    · rw [if_pos hs] at hw
      rw [hw] at hok1
      obtain ⟨k, h1, h2, h3, h4, h5⟩ := lay_row hn hN P _ hok1 (fun q hq => hp q (by simp [hq]))
      have e : layAll s n (p :: P) = layAll { (stepS s).1 with Q := s.Q ++ [(2 + p.c % n, sealL p)] } n P := by
        rw [layAll, hw]; rfl
      rw [e]
      refine ⟨k + 1, by simp; omega, by rw [h2]; exact stepS_L s, by rw [h3]; simp [qOf], h4, ?_⟩
      rcases h5 with ⟨a, b, c⟩ | ⟨a, b, c⟩
      · exact .inl ⟨a, by simp; omega, by rw [c]; exact stepS_live hs⟩
      · exact .inr ⟨a, by simp; omega, c⟩
    · have hs' : (stepS s).2 = false := by simpa using hs
      rw [if_neg hs] at hw
      have e : layAll s n (p :: P) = ((stepS s).1, 7) := by
        rw [layAll, hw]; rfl
      rw [e]
      rw [hw] at hok1
      refine ⟨0, Nat.zero_le _, stepS_L s, by simp [stepS_Q], hok1, .inr ⟨rfl, by simp, ?_⟩⟩
      rw [stepS_dead (stepS_no hs')]

theorem Wait.append {PL P : List Pc} {E u : Nat} (h : Wait PL E u) (k : Wait P E (u + PL.length)) : Wait (PL ++ P) E u := by
  refine ⟨fun i hi => ?_⟩
  by_cases c : i < PL.length
  · rw [List.getElem_append_left c]; exact h.at_ i c
  · rw [List.getElem_append_right (by omega)]
    obtain ⟨k1, k2, k3, k4⟩ := k.at_ (i - PL.length) (by simp at hi; omega)
    exact ⟨by rw [k1]; omega, k2, k3, k4⟩
theorem Wait.take {PL : List Pc} {E u : Nat} (h : Wait PL E u) (k : Nat) : Wait (PL.take k) E u := by
  refine ⟨fun i hi => ?_⟩
  have hi' : i < PL.length := by simp at hi; omega
  rw [List.getElem_take]
  exact h.at_ i hi'
theorem cut_wait {E u : Nat} {l : List Nat} (h : cutE E u l.length = 0) (h8 : ∀ x ∈ l, x < 256) : Wait (cutP E u l) E u := by
  refine ⟨fun i hi => ?_⟩
  have hm := List.getElem_mem hi
  have e : (cutP E u l)[i] = pieceAt E u l i := cutP_at E u l (by rw [cutP_length] at hi; exact hi)
  refine ⟨by rw [e]; rfl, by rw [e]; rfl, cutP_ok h _ hm, cutP_bytes h8 _ hm⟩
theorem cutP_some {E u : Nat} {l : List Nat} {i : Nat} (hi : i < needN l.length) : (cutP E u l)[i]? = some (pieceAt E u l i) := by
  rw [List.getElem?_eq_getElem (by rw [cutP_length]; exact hi), cutP_at E u l hi]
theorem byC_append {u c : Nat} {PL P : List Pc} {p : Pc} (h : byC u PL c = some p) : byC u (PL ++ P) c = some p := by
  unfold byC at h ⊢
  split at h
  · next hc => rw [if_pos hc, List.getElem?_append_left (List.getElem?_eq_some_iff.1 h).1]; exact h
  · cases h
theorem byC_behind {u i : Nat} {PL P : List Pc} : byC u (PL ++ P) (u + PL.length + i) = P[i]? := by
  unfold byC
  rw [if_pos (by omega), List.getElem?_append_right (by omega)]
  congr 1; omega
/-- what waits, with a beginning of one more transaction behind it -/
theorem PendAt.part {u0 E : Nat} {H : Int} {PL P : List Pc} (hP : ∀ (i : Nat) (p : Pc), P[i]? = some p → p.g = false) : ∀ (pend : List (List Pt)) (u : Nat), PendAt (byC u0 PL) H E u pend → u + sumN pend = u0 + PL.length → PendAt (byC u0 (PL ++ P)) H E u pend
  | [], u, _, hs => by
    intro c p hc hp
    have hs : u = u0 + PL.length := by simpa [sumN] using hs
    have : byC u0 (PL ++ P) (u0 + PL.length + (c - (u0 + PL.length))) = P[c - (u0 + PL.length)]? := byC_behind
    rw [show u0 + PL.length + (c - (u0 + PL.length)) = c by omega, hp] at this
    exact hP _ _ this.symm
  | qs :: r, u, h, hs => by
    have e : sumN (qs :: r) = needT qs + sumN r := by unfold sumN; simp
    exact ⟨⟨h.1.1, h.1.2.1, h.1.2.2.1, fun i hi => byC_append (h.1.2.2.2 i hi)⟩, PendAt.part hP r (u + needT qs) h.2 (by omega)⟩
/-- .. and with one whole transaction more -/
theorem PendAt.snoc {u0 E : Nat} {H : Int} {PL : List Pc} {ps : List Pt} (ht : isTx ps H) (hb : ∀ p ∈ ps, ∀ x ∈ p.d, x < 256) : ∀ (pend : List (List Pt)) (u : Nat), PendAt (byC u0 PL) H E u pend → u + sumN pend = u0 + PL.length → cutE E (u0 + PL.length) (recB ps).length = 0 →
    PendAt (byC u0 (PL ++ cutP E (u0 + PL.length) (recB ps))) H E u (pend ++ [ps])
  | [], u, _, hs, hc => by
    have hs : u = u0 + PL.length := by simpa [sumN] using hs
    subst hs
    refine ⟨⟨ht, hb, hc, fun i hi => ?_⟩, fun c p h1 h2 => ?_⟩
    · rw [byC_behind]; exact cutP_some hi
    · exfalso
      unfold byC at h2
      split at h2
      · have h3 := (List.getElem?_eq_some_iff.1 h2).1
        rw [List.length_append, cutP_length] at h3
        unfold needT at h1
        omega
      · cases h2
  | qs :: r, u, h, hs, hc => by
    have e : sumN (qs :: r) = needT qs + sumN r := by unfold sumN; simp
    exact ⟨⟨h.1.1, h.1.2.1, h.1.2.2.1, fun i hi => byC_append (h.1.2.2.2 i hi)⟩, PendAt.snoc ht hb r (u + needT qs) h.2 (by omega) hc⟩
theorem cut_last {E u k i : Nat} {l : List Nat} {p : Pc} (hk : k < needN l.length) (h : ((cutP E u l).take k)[i]? = some p) : p.g = false := by
  rw [List.getElem?_take] at h
  split at h
  · next hi =>
    rw [cutP_some (by omega)] at h
    obtain rfl := Option.some.inj h
    show (pieceAt E u l i).g = false
    unfold pieceAt
    simp
    omega
  · cases h

/-- what a Write that was done is -/
structure Wrote (s : DS) (n N : Nat) (g : LS) (SL : List (List (List Nat))) (fls : List (Nat × List Pt)) (u fu : Nat) (ps : List Pt) (r : DS × LS) : Prop where
  live : ∃ pend PL, Live r.1 n N r.2 (SL ++ [homesL r.1 n r.2 (N - 2 - n)]) fls u fu pend PL
  next : r.2.next ≤ g.next + 30
  h : r.2.h = g.h
  ep : r.2.ep = g.ep
  q : r.1.Q.length ≤ s.Q.length + 30
structure Died (s : DS) (n N : Nat) (g : LS) (SL : List (List (List Nat))) (X G q : Nat) (r : DS × LS) : Prop where
  gg : r.2 = { g with err := 7 }
  dd : r.1.dead = true
  ok : r.1.ok N
  after : After r.1 n N g.ep X G SL
  q : r.1.Q.length ≤ q
theorem Live.write (h : Live s n N g SL fls u fu pend PL) (hn : 2 ≤ n ∧ n + 3 ≤ N ∧ N ≤ 4096) (hE : g.ep < 255) {ps : List Pt} (hb : ∀ p ∈ ps, ∀ x ∈ p.d, x < 256) :
    ((writeG s n N g ps).2 = 0 ∧ Wrote s n N g SL fls u fu ps (writeG s n N g ps).1) ∨ (((writeG s n N g ps).2 = 2 ∨ (writeG s n N g ps).2 = 8) ∧ (writeG s n N g ps).1 = (s, g)) ∨
    ((writeG s n N g ps).2 = 7 ∧ Died s n N g SL (g.next + 30) g.h.g (s.Q.length + 30) (writeG s n N g ps).1) := by
  unfold writeG
  rw [if_pos h.err]
  by_cases ht : isTx ps ((N - 2 - n : Nat) : Int)
  · rw [if_pos ht]
    by_cases hc : cutE g.ep g.next (recB ps).length = 0 ∧ needT ps ≤ freeG n g
    · rw [if_pos hc]
      obtain ⟨hc1, hc2⟩ := hc
      have h30 := needT_le ht
      have hlen : (cutP g.ep g.next (recB ps)).length = needT ps := cutP_length _ _ _
      have htn : g.h.t ≤ g.next := by have := h.base.ch.le; have := h.next; omega
      have hroom : g.next + needT ps ≤ g.h.t + n := by unfold freeG at hc2; have := h.fr; omega
      obtain ⟨k, k1, k2, k3, k4, k5⟩ := lay_row (n := n) (N := N) (by omega) (by omega) (cutP g.ep g.next (recB ps)) s h.base.ok (cutP_ok hc1)
      rcases k5 with ⟨e0, ek, ed⟩ | ⟨e0, ek, ed⟩
      · left
        rw [if_pos e0]
        have hQ1 : (layAll s n (cutP g.ep g.next (recB ps))).1.Q = (PL ++ cutP g.ep g.next (recB ps)).map (qOf n) := by rw [k3, ek, List.take_length, h.Q, List.map_append]
        have hp := PendAt.snoc (PL := PL) (u0 := u) ht hb pend u h.pd (by rw [h.tot]) (by rw [← h.next]; exact hc1)
        rw [← h.next] at hp
        have hw : Wait (PL ++ cutP g.ep g.next (recB ps)) g.ep u := h.wait.append (by rw [← h.next]; exact cut_wait hc1 (recB_lt ps))
        have hA : (g.putAll ps (needT ps)).A = (pend ++ [ps]).foldl putA (putE nA fls) := by
          show putA g.A ps = _
          rw [h.A, List.foldl_append]; rfl
        have hb1 := h.base.sameL k4 k2
        have hhm : homesL (layAll s n (cutP g.ep g.next (recB ps))).1 n (g.putAll ps (needT ps)) (N - 2 - n) = hmL (bare (layAll s n (cutP g.ep g.next (recB ps))).1) n (N - 2 - n) ((pend ++ [ps]).foldl putA (putE nA fls)) := by
          rw [homesL_hm, hA]
          exact hm_bare hQ1 (by omega) _ _
        refine ⟨rfl, ⟨⟨pend ++ [ps], PL ++ cutP g.ep g.next (recB ps), hb1, h.err, by rw [ed]; exact h.dd, hQ1, hw, ?_, ?_, hp, ?_, hA, ?_, ?_⟩, ?_, rfl, rfl, ?_⟩⟩
        · show g.next + needT ps = u + (PL ++ cutP g.ep g.next (recB ps)).length
          rw [List.length_append, hlen, h.next]; omega
        · exact hroom
        · rw [sumN_snoc, List.length_append, hlen, h.tot]
        · intro j hj
          rw [List.length_append, List.length_singleton] at hj
          by_cases c : j ≤ pend.length
          · rw [List.take_append_of_le_length c, hm_sameL k2]
            exact List.mem_append_left _ (h.st j c)
          · have : (pend ++ [ps]).take j = pend ++ [ps] := List.take_of_length_le (by rw [List.length_append, List.length_singleton]; omega)
            rw [this, ← hhm]
            exact List.mem_append_right _ (by simp)
        · rw [List.getLast?_append]; simp
        · show g.next + needT ps ≤ g.next + 30; omega
        · rw [k3, List.length_append, List.length_map, List.length_take]; omega
      · right; right
        rw [if_neg (by rw [e0]; decide)]
        refine ⟨e0, ⟨by rw [e0], ed, k4, ?_, by rw [k3, List.length_append, List.length_map, List.length_take]; omega⟩⟩
        have hQ1 : (layAll s n (cutP g.ep g.next (recB ps))).1.Q = (PL ++ (cutP g.ep g.next (recB ps)).take k).map (qOf n) := by rw [k3, h.Q, List.map_append]
        have hw : Wait (PL ++ (cutP g.ep g.next (recB ps)).take k) g.ep u := h.wait.append (by rw [← h.next]; exact (cut_wait hc1 (recB_lt ps)).take k)
        have hl2 : (PL ++ (cutP g.ep g.next (recB ps)).take k).length = PL.length + k := by rw [List.length_append, List.length_take]; omega
        have hp := PendAt.part (PL := PL) (P := (cutP g.ep g.next (recB ps)).take k) (fun i p hi => cut_last (by unfold needT at hlen; omega) hi) pend u h.pd (by rw [h.tot])
        have := pend_crash hn (h.base.sameL k4 k2) hE hQ1 hw (by rw [hl2]; have := h.next; omega) hp (SL := SL) (fun j hj => by rw [hm_sameL k2]; exact h.st j hj)
        exact this.mono (Nat.le_refl _) (by rw [hl2]; have := h.next; omega) (Nat.le_refl _) (fun _ hx => hx)
    · rw [if_neg hc]
      exact .inr (.inl ⟨.inr rfl, rfl⟩)
  · rw [if_neg ht]
    exact .inr (.inl ⟨.inl rfl, rfl⟩)
end
end Go.Proofs.YtolcnbiaiolcoaaGreat
namespace Go.Proofs.YtolcnbiaiolcoaaGreat
open Go.RowKit Go.Maps

theorem lays_in : ∀ (Q : List (Nat × List Nat)) (L : List (List Nat)), Q.Pairwise (fun a b => a.1 ≠ b.1) → (∀ q ∈ Q, q.1 < L.length) → ∀ q ∈ Q, (lays L Q).getD q.1 [] = q.2
  | [], _, _, _, q, hq => by cases hq
  | q0 :: Q, L, hp, hl, q, hq => by
    obtain ⟨h1, h2⟩ := List.pairwise_cons.1 hp
    have hl' : ∀ q ∈ Q, q.1 < (L.set q0.1 q0.2).length := fun q hq => by rw [List.length_set]; exact hl q (by simp [hq])
    show (lays (L.set q0.1 q0.2) Q).getD q.1 [] = q.2
    rcases List.mem_cons.1 hq with rfl | hq
    · rw [List.getD_eq_getElem?_getD, lays_other _ Q q.1 (fun r hr e => h1 r hr e.symm), List.getElem?_set_self (hl q (by simp))]
      rfl
    · exact lays_in Q _ h2 hl' q hq
theorem lays_or (i : Nat) : ∀ (Q : List (Nat × List Nat)) (L : List (List Nat)), (lays L Q).getD i [] = L.getD i [] ∨ ∃ q ∈ Q, q.1 = i ∧ (lays L Q).getD i [] = q.2
  | [], _ => .inl rfl
  | q0 :: Q, L => by
    show (lays (L.set q0.1 q0.2) Q).getD i [] = L.getD i [] ∨ _
    rcases lays_or i Q (L.set q0.1 q0.2) with h | ⟨q, hq, e, h⟩
    · by_cases c : q0.1 = i
      · by_cases cl : i < L.length
        · right
          refine ⟨q0, by simp, c, ?_⟩
          show (lays (L.set q0.1 q0.2) Q).getD i [] = q0.2
          rw [h, c, List.getD_eq_getElem?_getD, List.getElem?_set_self cl]; rfl
        · left
          rw [h, List.getD_eq_getElem?_getD, List.getD_eq_getElem?_getD, List.getElem?_eq_none (by rw [List.length_set]; omega), List.getElem?_eq_none (by omega)]
      · left
        rw [h, List.getD_eq_getElem?_getD, List.getD_eq_getElem?_getD, List.getElem?_set_ne c]
    · exact .inr ⟨q, by simp [hq], e, h⟩

/-- what a write does, what a flush does -/
theorem write_cases {s : DS} {N i : Nat} {b : List Nat} (hok : s.ok N) (hi : i < N) (hb : b.length = 128) :
    ((writeS s (i : Int) b).2 = 0 ∧ (writeS s (i : Int) b).1.L = s.L ∧ (writeS s (i : Int) b).1.Q = s.Q ++ [(i, b)] ∧ (writeS s (i : Int) b).1.dead = s.dead ∧ (writeS s (i : Int) b).1.ok N) ∨
    ((writeS s (i : Int) b).2 = 7 ∧ (writeS s (i : Int) b).1.L = s.L ∧ (writeS s (i : Int) b).1.Q = s.Q ∧ (writeS s (i : Int) b).1.dead = true ∧ (writeS s (i : Int) b).1.ok N) := by
  have hok1 := writeS_ok hok (i : Int) b
  have hw : writeS s (i : Int) b = if (stepS s).2 then ({ (stepS s).1 with Q := s.Q ++ [(i, b)] }, 0) else ((stepS s).1, 7) := by
    unfold writeS
    rw [if_neg (by rw [hok.len, hb]; omega), Int.toNat_natCast]
  by_cases hs : (stepS s).2 = true
  · left
    rw [if_pos hs] at hw
    rw [hw] at hok1 ⊢
    exact ⟨rfl, stepS_L s, rfl, stepS_live hs, hok1⟩
  · right
    rw [if_neg hs] at hw
    rw [hw] at hok1 ⊢
    refine ⟨rfl, stepS_L s, stepS_Q s, ?_, hok1⟩
    rw [stepS_dead (stepS_no (by simpa using hs))]
theorem flush_cases {s : DS} {N : Nat} (hok : s.ok N) :
    ((flushS s).2 = 0 ∧ (flushS s).1.L = lays s.L s.Q ∧ (flushS s).1.Q = [] ∧ (flushS s).1.dead = s.dead ∧ (flushS s).1.ok N) ∨
    ((flushS s).2 = 7 ∧ (flushS s).1.L = s.L ∧ (flushS s).1.Q = s.Q ∧ (flushS s).1.dead = true ∧ (flushS s).1.ok N) := by
  have hok1 := flushS_ok hok
  unfold flushS at hok1 ⊢
  by_cases hs : (stepS s).2 = true
  · left
    rw [if_pos hs] at hok1 ⊢
    exact ⟨rfl, rfl, rfl, stepS_live hs, hok1⟩
  · right
    rw [if_neg hs] at hok1 ⊢
    refine ⟨rfl, stepS_L s, stepS_Q s, ?_, hok1⟩
    rw [stepS_dead (stepS_no (by simpa using hs))]
theorem After.same {s s' : DS} {n N E X G : Nat} {SL : List (List (List Nat))} (h : After s n N E X G SL) (hL : s'.L = s.L) (hQ : s'.Q = s.Q) : After s' n N E X G SL := fun ks torn => by
  have e : crashS s' ks torn = crashS s ks torn := by unfold crashS; rw [hL, hQ]
  rw [e]
  exact h ks torn

theorem BCls.mono {E u u' : Nat} {X : List Nat} (h : BCls E u X) (hu : u ≤ u') : BCls E u' X := by
  rcases h with h | ⟨q, h1, h2, h3, h4, h5⟩
  · exact .inl h
  · exact .inr ⟨q, h1, h2, h3, h4, by omega⟩
theorem PendAt.chain {V : Nat → List Nat} {n u0 E : Nat} {H : Int} {PL : List Pc} (hV : ∀ c p, byC u0 PL c = some p → V (2 + c % n) = sealL p) : ∀ (pend : List (List Pt)) (u fu : Nat), PendAt (byC u0 PL) H E u pend → fu ≤ E →
    ChE V n H u fu (pend.map (fun qs => (E, qs))) (u + sumN pend) (if pend = [] then fu else E)
  | [], u, fu, _, _ => ⟨rfl, rfl⟩
  | qs :: r, u, fu, h, hf => by
    have e : sumN (qs :: r) = needT qs + sumN r := by unfold sumN; simp
    have k := PendAt.chain hV r (u + needT qs) E h.2 (Nat.le_refl _)
    rw [e, ← Nat.add_assoc, if_neg (by simp)]
    rw [show (if r = [] then E else E) = E by split <;> rfl] at k
    refine ⟨⟨hf, ⟨h.1.1, h.1.2.1, h.1.2.2.1, fun p hp => ?_⟩⟩, k⟩
    obtain ⟨i, hi, rfl⟩ := List.mem_map.1 (show p ∈ (List.range (needN (recB qs).length)).map (pieceAt E u (recB qs)) from hp)
    exact hV (u + i) _ (h.1.2.2.2 i (List.mem_range.1 hi))
section
variable {s : DS} {n N : Nat} {g : LS} {SL : List (List (List Nat))} {fls : List (Nat × List Pt)} {u fu : Nat} {pend : List (List Pt)} {PL : List Pc}
theorem Live.apart (h : Live s n N g SL fls u fu pend PL) : s.Q.Pairwise (fun a b => a.1 ≠ b.1) := by
  rw [h.Q, List.pairwise_map, List.pairwise_iff_getElem]
  intro i j hi hj hij e
  have h1 := (h.wait.at_ i hi).1
  have h2 := (h.wait.at_ j hj).1
  have e : 2 + PL[i].c % n = 2 + PL[j].c % n := e
  have hle := h.base.ch.le
  have := h.fr; have := h.next
  have := same_mod (t := g.h.t) (n := n) (a := PL[i].c) (b := PL[j].c) (by omega) (by omega) (by omega) (by omega) (by omega)
  omega
/-- all that waits lasts -/
theorem Live.flush (h : Live s n N g SL fls u fu pend PL) (hn : 2 ≤ n ∧ n + 3 ≤ N ∧ N ≤ 4096) {s' : DS} (hL : s'.L = lays s.L s.Q) (hQ : s'.Q = []) (hok : s'.ok N) (hdd : s'.dead = false) :
    homesL s' n g (N - 2 - n) = homesL s n g (N - 2 - n) ∧ Live s' n N g [homesL s n g (N - 2 - n)] (fls ++ pend.map (fun qs => (g.ep, qs))) g.next (if pend = [] then fu else g.ep) [] [] := by
  have hle := h.base.ch.le
  have hV : isS (bare s') = isS s := funext fun i => by rw [bare_at, hL]; rfl
  have hV' : isS s' = isS s := by rw [← bare_self hQ]; exact hV
  have hro := ring_out h.Q (by omega)
  have out : ∀ i, (i < 2 ∨ 2 + n ≤ i) → isS s i = isS (bare s) i := fun i hi => isS_out fun q hq => by have := hro q hq; omega
  have hq : ∀ q ∈ s.Q, ∃ i, ∃ (hi : i < PL.length), q = qOf n PL[i] := fun q hq => by
    rw [h.Q] at hq
    obtain ⟨p, hp, rfl⟩ := List.mem_map.1 hq
    obtain ⟨i, hi, rfl⟩ := List.getElem_of_mem hp
    exact ⟨i, hi, rfl⟩
  have or_ : ∀ i, isS s i = isS (bare s) i ∨ ∃ k, ∃ (hk : k < PL.length), i = 2 + PL[k].c % n ∧ isS s i = sealL PL[k] := fun i => by
    rcases lays_or i s.Q s.L with k | ⟨q, k1, k2, k3⟩
    · left; rw [bare_at]; exact k
    · right
      obtain ⟨k, hk, rfl⟩ := hq q k1
      exact ⟨k, hk, k2.symm, k3⟩
  have low : ∀ c, g.h.t ≤ c → c < u → isS s (2 + c % n) = isS (bare s) (2 + c % n) := fun c h1 h2 => isS_out fun q hqm e => by
    obtain ⟨k, hk, rfl⟩ := hq q hqm
    have e : 2 + PL[k].c % n = 2 + c % n := e
    have h3 := (h.wait.at_ k hk).1
    have := h.fr; have := h.next
    have := same_mod (t := g.h.t) (n := n) (a := PL[k].c) (b := c) (by omega) (by omega) h1 (by omega) (by omega)
    omega
  have at_ : ∀ c p, byC u PL c = some p → isS s (2 + c % n) = sealL p := fun c p hp => by
    obtain ⟨k1, k2, k3, _⟩ := byC_at h.wait hp
    have hm : qOf n p ∈ s.Q := by
      rw [h.Q]
      refine List.mem_map_of_mem ?_
      unfold byC at hp
      rw [if_pos k1] at hp
      exact List.mem_of_getElem? hp
    have := lays_in s.Q s.L h.apart (fun q hq => by rw [h.base.ok.len]; exact (h.base.ok.at_ q hq).1) _ hm
    have e : (qOf n p).1 = 2 + c % n := by show 2 + p.c % n = _; rw [k3]
    rw [e] at this
    exact this
  have hch := PendAt.chain (V := isS s) (n := n) at_ pend u fu h.pd h.base.fe
  rw [h.tot, ← h.next] at hch
  have hA : putE nA (fls ++ pend.map (fun qs => (g.ep, qs))) = g.A := by rw [putE_append, putE_map, h.A]
  have hhm : homesL s' n g (N - 2 - n) = homesL s n g (N - 2 - n) := by unfold homesL homeG; rw [hV']
  refine ⟨hhm, ⟨⟨hok, ?_, h.base.e1, h.base.e2, ?_, ?_, ?_, ?_, ?_, ?_, ?_, ?_, h.fr, ?_, ?_⟩, h.err, hdd, by rw [hQ]; rfl, ⟨fun i hi => by simp at hi⟩, by simp, h.fr, ?_, rfl, ?_, ?_, ?_⟩⟩
  · rw [hV]
    intro j hj x hx
    rcases or_ j with k | ⟨k, hk, _, e⟩
    · rw [k] at hx; exact h.base.sb j hj x hx
    · rw [e] at hx
      obtain ⟨_, _, k3, k4⟩ := h.wait.at_ k hk
      exact sealL_lt k3.2.2 k4 x hx
  · rw [hV, out 0 (by omega)]; exact h.base.c0
  · rw [hV, out 1 (by omega)]; exact h.base.c1
  · rw [hV, out 0 (by omega)]; exact h.base.f0
  · rw [hV, out 1 (by omega)]; exact h.base.f1
  · rw [hV]; exact h.base.hd.frame (out 0 (by omega)) (out 1 (by omega))
  · rw [hV]
    intro j hj
    rcases or_ (2 + j) with k | ⟨k, hk, _, e⟩
    · rw [k]; exact (h.base.ring j hj).mono (by have := h.next; omega)
    · rw [e]
      obtain ⟨k1, k2, k3, k4⟩ := h.wait.at_ k hk
      exact .inr ⟨PL[k], k3, k2, k4, rfl, by have := h.next; omega⟩
  · rw [hV]
    exact (h.base.ch.frame low).append hch
  · split
    · exact h.base.fe
    · exact Nat.le_refl _
  · by_cases hp : pend = []
    · rw [if_pos hp]
      have hpl : PL = [] := List.eq_nil_of_length_eq_zero (by rw [← h.tot, hp]; rfl)
      have hq0 : s.Q = [] := by rw [h.Q, hpl]; rfl
      have hu : g.next = u := by rw [h.next, hpl]; rfl
      rcases h.base.stop with k | k
      · exact .inl k
      · refine .inr ?_
        rw [hu]
        refine halt_same k fun c => ?_
        show isS (bare s') _ = isS (bare s) _
        rw [hV, ← bare_self hq0, bare_bare]
    · rw [if_neg hp]; exact .inl rfl
  · rw [hA]; exact h.aok
  · intro c p _ hp
    unfold byC at hp
    split at hp <;> simp at hp
  · show g.A = putE nA _
    rw [hA]
  · intro j hj
    have : j = 0 := by simpa using hj
    subst this
    show hmL (bare s') n (N - 2 - n) (putE nA _) ∈ _
    rw [hA]
    have : hmL (bare s') n (N - 2 - n) g.A = homesL s n g (N - 2 - n) := by
      rw [← hhm, homesL_hm, bare_self hQ]
    rw [this]; simp
  · rw [hhm]; rfl
theorem Live.sync (h : Live s n N g SL fls u fu pend PL) (hn : 2 ≤ n ∧ n + 3 ≤ N ∧ N ≤ 4096) (hE : g.ep < 255) :
    ((syncG s g).2 = 0 ∧ (syncG s g).1.2 = g ∧ homesL (syncG s g).1.1 n g (N - 2 - n) = homesL s n g (N - 2 - n) ∧ (∃ fls' u' fu', Live (syncG s g).1.1 n N g [homesL s n g (N - 2 - n)] fls' u' fu' [] []) ∧ (syncG s g).1.1.Q = []) ∨
    ((syncG s g).2 = 7 ∧ Died s n N g SL g.next g.h.g s.Q.length (syncG s g).1) := by
  unfold syncG
  rw [if_pos h.err]
  rcases flush_cases h.base.ok with ⟨e, hL, hQ, hd, hok⟩ | ⟨e, hL, hQ, hd, hok⟩
  · left
    obtain ⟨k1, k2⟩ := h.flush hn hL hQ hok (by rw [hd]; exact h.dd)
    have eg : ({ g with err := (flushS s).2 } : LS) = g := by
      have := h.err
      rw [e]; cases g; simp at this; rw [this]
    exact ⟨e, eg, k1, ⟨_, _, _, k2⟩, hQ⟩
  · right
    exact ⟨e, ⟨by rw [e], hd, hok, (h.crash hn hE).same hL hQ, by rw [hQ]; exact Nat.le_refl _⟩⟩
end
end Go.Proofs.YtolcnbiaiolcoaaGreat
namespace Go.Proofs.YtolcnbiaiolcoaaGreat
open Go.RowKit Go.Maps

def hOf (n : Nat) (q : Nat × List Nat) : Nat × List Nat := (2 + n + q.1, q.2)
/-- homes are written, till the power goes off -/
theorem homes_row {n N : Nat} : ∀ (T : List (Nat × List Nat)) (s : DS), s.ok N → (∀ q ∈ T, 2 + n + q.1 < N ∧ q.2.length = 128) → ∃ k, k ≤ T.length ∧ (putHomes s n T).1.L = s.L ∧ (putHomes s n T).1.Q = s.Q ++ (T.take k).map (hOf n) ∧ (putHomes s n T).1.ok N ∧
    (((putHomes s n T).2 = 0 ∧ k = T.length ∧ (putHomes s n T).1.dead = s.dead) ∨ ((putHomes s n T).2 = 7 ∧ k < T.length ∧ (putHomes s n T).1.dead = true))
  | [], s, hok, _ => ⟨0, Nat.le_refl _, rfl, by simp [putHomes], hok, .inl ⟨rfl, rfl, rfl⟩⟩
  | q :: T, s, hok, hq => by
    obtain ⟨hq1, hq2⟩ := hq q (by simp)
    rcases write_cases hok hq1 hq2 with ⟨e, hL, hQ, hd, hok1⟩ | ⟨e, hL, hQ, hd, hok1⟩
    · obtain ⟨k, h1, h2, h3, h4, h5⟩ := homes_row (n := n) T _ hok1 (fun r hr => hq r (by simp [hr]))
      have e' : putHomes s n (q :: T) = putHomes (writeS s ((2 + n + q.1 : Nat) : Int) q.2).1 n T := by rw [putHomes, if_pos e]
      rw [e']
      refine ⟨k + 1, by simp; omega, by rw [h2, hL], by rw [h3, hQ]; simp [hOf], h4, ?_⟩
      rcases h5 with ⟨a, b, c⟩ | ⟨a, b, c⟩
      · exact .inl ⟨a, by simp; omega, by rw [c, hd]⟩
      · exact .inr ⟨a, by simp; omega, c⟩
    · have e' : putHomes s n (q :: T) = writeS s ((2 + n + q.1 : Nat) : Int) q.2 := by rw [putHomes, if_neg (by rw [e]; decide)]
      rw [e']
      exact ⟨0, Nat.zero_le _, hL, by rw [hQ]; simp, hok1, .inr ⟨e, by simp, hd⟩⟩
theorem away_mem {A : Nat → Option (List Nat)} {M : Nat} {q : Nat × List Nat} (h : q ∈ awayL A M) : q.1 < M ∧ A q.1 = some q.2 := by
  unfold awayL keysL at h
  obtain ⟨i, hi, rfl⟩ := List.mem_map.1 h
  obtain ⟨h1, h2⟩ := List.mem_filter.1 hi
  refine ⟨List.mem_range.1 h1, ?_⟩
  show A i = some ((A i).getD _)
  cases hA : A i with
  | none => rw [hA] at h2; simp at h2
  | some x => rfl
theorem away_of {A : Nat → Option (List Nat)} {M i : Nat} {v : List Nat} (hi : i < M) (h : A i = some v) : (i, v) ∈ awayL A M := by
  unfold awayL keysL
  exact List.mem_map.2 ⟨i, List.mem_filter.2 ⟨List.mem_range.2 hi, by rw [h]; rfl⟩, by rw [h]; rfl⟩
theorem away_apart (A : Nat → Option (List Nat)) (M : Nat) : (awayL A M).Pairwise (fun a b => a.1 ≠ b.1) := by
  unfold awayL keysL
  rw [List.pairwise_map]
  refine (List.Pairwise.filter _ List.pairwise_lt_range).imp ?_
  intro a b h e
  have e : a = b := e
  omega
theorem away_len (A : Nat → Option (List Nat)) (M : Nat) : (awayL A M).length ≤ M := by
  unfold awayL
  rw [List.length_map]
  exact keysL_len A M

/-- the ring and the heads are as they lasted -/
theorem Base.sameR {s s' : DS} {n N E u fu : Nat} {h : Hd} {fls : List (Nat × List Pt)} (b : Base s n N h E fls u fu) (hn : 1 ≤ n) (hok : s'.ok N) (hb : ∀ j, j < N → ∀ x ∈ isS (bare s') j, x < 256) (hr : ∀ j, j < 2 + n → isS (bare s') j = isS (bare s) j) : Base s' n N h E fls u fu := by
  have hm : ∀ c, 2 + c % n < 2 + n := fun c => by have := Nat.mod_lt c (by omega : 0 < n); omega
  refine ⟨hok, hb, b.e1, b.e2, by rw [hr 0 (by omega)]; exact b.c0, by rw [hr 1 (by omega)]; exact b.c1, by rw [hr 0 (by omega)]; exact b.f0, by rw [hr 1 (by omega)]; exact b.f1, b.hd.frame (hr 0 (by omega)) (hr 1 (by omega)), fun j hj => by rw [hr (2 + j) (by omega)]; exact b.ring j hj, b.ch.frame fun c _ _ => hr _ (hm c), b.fe, b.fr, ?_, b.aok⟩
  rcases b.stop with k | k
  · exact .inl k
  · exact .inr (halt_same k fun c => hr _ (hm c))

section
variable {s : DS} {n N : Nat} {g : LS} {SL : List (List (List Nat))} {fls : List (Nat × List Pt)} {u fu : Nat} {pend : List (List Pt)} {PL : List Pc}
theorem Live.mem (h : Live s n N g SL fls u fu pend PL) : homesL s n g (N - 2 - n) ∈ SL := List.mem_of_getLast? h.last

theorem Live.check (h : Live s n N g SL fls u fu pend PL) (hn : 2 ≤ n ∧ n + 3 ≤ N ∧ N ≤ 4096) (hE : g.ep < 255) (hs : g.next ≤ 1000000) (hg : g.h.g ≤ 1000000) :
    ((checkG s n N g).2 = 0 ∧ (checkG s n N g).1.2 = { g with h := hNew g, A := nA } ∧ homesL (checkG s n N g).1.1 n (checkG s n N g).1.2 (N - 2 - n) = homesL s n g (N - 2 - n) ∧
      (∃ fls' u' fu', Live (checkG s n N g).1.1 n N (checkG s n N g).1.2 [homesL s n g (N - 2 - n)] fls' u' fu' [] []) ∧ (checkG s n N g).1.1.Q = []) ∨
    ((checkG s n N g).2 = 7 ∧ Died s n N g SL g.next (g.h.g + 1) (s.Q.length + N) (checkG s n N g).1) := by
  unfold checkG
  rw [if_pos h.err]
  rcases flush_cases h.base.ok with ⟨e1, hL1, hQ1, hd1, hok1⟩ | ⟨e1, hL1, hQ1, hd1, hok1⟩
  · obtain ⟨hh1, k1⟩ := h.flush hn hL1 hQ1 hok1 (by rw [hd1]; exact h.dd)
    obtain ⟨fls1, hf1⟩ : ∃ fls1, fls1 = fls ++ pend.map (fun qs => (g.ep, qs)) := ⟨_, rfl⟩
    obtain ⟨fu1, hfu1⟩ : ∃ fu1, fu1 = if pend = [] then fu else g.ep := ⟨_, rfl⟩
    rw [← hf1, ← hfu1] at k1
    obtain ⟨s1, hs1⟩ : ∃ s1, s1 = (flushS s).1 := ⟨_, rfl⟩
    rw [← hs1] at hL1 hQ1 hd1 hok1 hh1 k1
    have hA1 : putE nA fls1 = g.A := k1.A.symm
    have hAok : AOk (N - 2 - n) g.A := h.aok
    have hT : ∀ q ∈ awayL g.A (N - 2 - n), 2 + n + q.1 < N ∧ q.2.length = 128 := fun q hq => by
      obtain ⟨a, b⟩ := away_mem hq
      exact ⟨by omega, (hAok _ _ b).2.1⟩
    have hst1 : hmL (bare s1) n (N - 2 - n) (putE nA fls1) = homesL s n g (N - 2 - n) := by
      rw [← hh1, homesL_hm, hA1, bare_self hQ1]
    have hH : ∀ k, ∀ q ∈ ((awayL g.A (N - 2 - n)).take k).map (hOf n), ∃ i, i < N - 2 - n ∧ q.1 = 2 + n + i ∧ (putE nA fls1 i).isSome = true ∧ ∀ x ∈ q.2, x < 256 := fun k q hq => by
      obtain ⟨r, hr, rfl⟩ := List.mem_map.1 hq
      obtain ⟨a, b⟩ := away_mem (List.mem_of_mem_take hr)
      exact ⟨r.1, a, rfl, by rw [hA1, b]; rfl, (hAok _ _ b).2.2⟩
    obtain ⟨k, j1, hL2, hQ2, hok2, j5⟩ := homes_row (n := n) (awayL g.A (N - 2 - n)) s1 hok1 hT
    rw [hQ1, List.nil_append] at hQ2
    obtain ⟨r2, hr2⟩ : ∃ r2, r2 = putHomes s1 n (awayL g.A (N - 2 - n)) := ⟨_, rfl⟩
    have hbr : bringS s n (N - 2 - n) g.A = if r2.2 = 0 then flushS r2.1 else r2 := by
      unfold bringS
      rw [if_pos e1, ← hs1, ← hr2]
    rw [← hr2] at hL2 hQ2 hok2 j5
    have hq2l : r2.1.Q.length ≤ N := by rw [hQ2, List.length_map, List.length_take]; have := away_len g.A (N - 2 - n); omega
    rcases j5 with ⟨e2, ek, hd2⟩ | ⟨e2, ek, hd2⟩
    · rw [hbr, if_pos e2]
      have hQ2' : r2.1.Q = (awayL g.A (N - 2 - n)).map (hOf n) := by rw [hQ2, ek, List.take_length]
      have hQH : ∀ q ∈ r2.1.Q, ∃ i, i < N - 2 - n ∧ q.1 = 2 + n + i ∧ (putE nA fls1 i).isSome = true ∧ ∀ x ∈ q.2, x < 256 := by rw [hQ2]; exact hH k
      rcases flush_cases hok2 with ⟨e3, hL3, hQ3, hd3, hok3⟩ | ⟨e3, hL3, hQ3, hd3, hok3⟩
      · rw [if_pos e3]
        obtain ⟨s3, hs3⟩ : ∃ s3, s3 = (flushS r2.1).1 := ⟨_, rfl⟩
        rw [← hs3] at hL3 hQ3 hd3 hok3 ⊢
        -- what lasts now
        have hV3 : ∀ j, isS (bare s3) j = (lays s1.L r2.1.Q).getD j [] := fun j => by rw [bare_at, hL3, hL2]
        have hlow : ∀ j, j < 2 + n → isS (bare s3) j = isS (bare s1) j := fun j hj => by
          rw [hV3, bare_at, List.getD_eq_getElem?_getD, List.getD_eq_getElem?_getD, lays_other]
          intro q hq
          obtain ⟨i, _, e, _⟩ := hQH q hq
          omega
        have hhome : ∀ i, i < N - 2 - n → isS (bare s3) (2 + n + i) = (g.A i).getD (isS (bare s1) (2 + n + i)) := fun i hi => by
          cases hA : g.A i with
          | none =>
            show _ = isS (bare s1) (2 + n + i)
            rw [hV3, bare_at, List.getD_eq_getElem?_getD, List.getD_eq_getElem?_getD, lays_other]
            intro q hq e
            rw [hQ2'] at hq
            obtain ⟨r, hr, rfl⟩ := List.mem_map.1 hq
            obtain ⟨a, b⟩ := away_mem hr
            have e : 2 + n + r.1 = 2 + n + i := e
            rw [show r.1 = i by omega, hA] at b
            cases b
          | some v =>
            show _ = v
            have hm : hOf n (i, v) ∈ r2.1.Q := by rw [hQ2']; exact List.mem_map_of_mem (away_of hi hA)
            have hpw : r2.1.Q.Pairwise (fun a b => a.1 ≠ b.1) := by
              rw [hQ2', List.pairwise_map]
              refine (away_apart g.A (N - 2 - n)).imp ?_
              intro a b hab e
              have e : 2 + n + a.1 = 2 + n + b.1 := e
              omega
            have := lays_in r2.1.Q s1.L hpw (fun q hq => by rw [hok1.len]; exact (hok2.at_ q hq).1) _ hm
            rw [hV3]
            exact this
        have hb3 : ∀ j, j < N → ∀ x ∈ isS (bare s3) j, x < 256 := fun j hj => by
          by_cases c : j < 2 + n
          · rw [hlow j c]; exact k1.base.sb j hj
          · obtain ⟨i, rfl⟩ : ∃ i, j = 2 + n + i := ⟨j - (2 + n), by omega⟩
            rw [hhome i (by omega)]
            cases hA : g.A i with
            | none => exact k1.base.sb _ hj
            | some v => exact (hAok _ _ hA).2.2
        have b3 := k1.base.sameR (by omega) hok3 hb3 hlow
        have hst3 : hmL (bare s3) n (N - 2 - n) (putE nA fls1) = homesL s n g (N - 2 - n) := by
          rw [← hst1]
          unfold hmL
          refine List.map_congr_left fun i hi => ?_
          rw [hhome i (List.mem_range.1 hi), hA1]
          cases g.A i <;> rfl
        have hk : hOk g.ep (hNew g) := by
          refine ⟨⟨by omega, ?_⟩, ?_, ?_⟩
          · show g.h.g + 1 ≤ _; omega
          · show g.next < _; omega
          · show g.ep < _; omega
        have hm2 : (hNew g).g % 2 < 2 := Nat.mod_lt _ (by decide)
        have hsv : saveG s3 N g.ep (hNew g) = if (writeS s3 (((hNew g).g % 2 : Nat) : Int) (hSec g.ep (hNew g))).2 = 0 then flushS (writeS s3 (((hNew g).g % 2 : Nat) : Int) (hSec g.ep (hNew g))).1 else writeS s3 (((hNew g).g % 2 : Nat) : Int) (hSec g.ep (hNew g)) := by
          unfold saveG saveS
          rw [if_neg (by show ¬ 1099511627775 < g.h.g + 1; omega), if_pos ⟨⟨by omega, by omega⟩, hk⟩, Int.zero_add]
        rcases write_cases hok3 (i := (hNew g).g % 2) (by omega) (hSec_length hk) with ⟨e4, hL4, hQ4, hd4, hok4⟩ | ⟨e4, hL4, hQ4, hd4, hok4⟩
        · rw [hsv, if_pos e4]
          obtain ⟨s4, hs4⟩ : ∃ s4, s4 = (writeS s3 (((hNew g).g % 2 : Nat) : Int) (hSec g.ep (hNew g))).1 := ⟨_, rfl⟩
          rw [← hs4] at hL4 hQ4 hd4 hok4 ⊢
          rw [hQ3, List.nil_append] at hQ4
          have b4 := b3.sameL hok4 hL4
          rcases flush_cases hok4 with ⟨e5, hL5, hQ5, hd5, hok5⟩ | ⟨e5, hL5, hQ5, hd5, hok5⟩
          · -- all went well
            left
            rw [if_pos e5]
            obtain ⟨s5, hs5⟩ : ∃ s5, s5 = (flushS s4).1 := ⟨_, rfl⟩
            rw [← hs5] at hL5 hQ5 hd5 hok5 ⊢
            have hV5 : ∀ j, isS (bare s5) j = putV (isS (bare s3)) ((hNew g).g % 2) (hSec g.ep (hNew g)) j := fun j => by
              rw [bare_at, hL5, hQ4, hL4]
              show (s3.L.set ((hNew g).g % 2) (hSec g.ep (hNew g))).getD j [] = _
              unfold putV
              rw [bare_at, List.getD_eq_getElem?_getD, List.getD_eq_getElem?_getD, List.getElem?_set]
              by_cases c : j = (hNew g).g % 2
              · subst c
                rw [if_pos rfl, if_pos rfl, if_pos (by rw [hok3.len]; omega)]; rfl
              · rw [if_neg (fun e => c e.symm), if_neg c]
            have hV5' : isS (bare s5) = putV (isS (bare s3)) ((hNew g).g % 2) (hSec g.ep (hNew g)) := funext hV5
            have far5 : ∀ j, 2 ≤ j → isS (bare s5) j = isS (bare s3) j := fun j hj => by rw [hV5]; unfold putV; rw [if_neg (by omega)]
            have hhd5 : ∀ j, j < 2 → HCls g.ep (isS (bare s5) j) ((hNew g).g + 1) ∧ FlOk (isS (bare s5) j) := fun j hj => by
              rw [hV5]
              unfold putV
              by_cases c : j = (hNew g).g % 2
              · rw [if_pos c]
                exact ⟨.inr ⟨hNew g, hk, rfl, Nat.lt_succ_self _⟩, .head hk (Nat.le_refl _)⟩
              · rw [if_neg c]
                have : j = 0 ∨ j = 1 := by omega
                rcases this with rfl | rfl
                · exact ⟨b3.c0.mono (by show _ ≤ g.h.g + 1 + 1; omega), b3.f0⟩
                · exact ⟨b3.c1.mono (by show _ ≤ g.h.g + 1 + 1; omega), b3.f1⟩
            have b5 : Base s5 n N (hNew g) g.ep [] g.next g.ep := by
              refine ⟨hok5, ?_, b3.e1, b3.e2, (hhd5 0 (by omega)).1, (hhd5 1 (by omega)).1, (hhd5 0 (by omega)).2, (hhd5 1 (by omega)).2, ?_, ?_, ⟨rfl, rfl⟩, Nat.le_refl _, Nat.le_add_right _ _, .inl rfl, AOk.none _⟩
              · intro j hj x hx
                rw [hV5] at hx
                unfold putV at hx
                split at hx
                · exact hSec_lt hk x hx
                · exact hb3 j hj x hx
              · rw [hV5']; exact b3.hd.save hk rfl
              · intro j hj
                rw [far5 _ (by omega)]
                exact b3.ring j hj
            have hhm5 : homesL s5 n ({ g with h := hNew g, A := nA } : LS) (N - 2 - n) = homesL s n g (N - 2 - n) := by
              rw [homesL_hm, ← hst3]
              unfold hmL
              refine List.map_congr_left fun i hi => ?_
              show isS s5 (2 + n + i) = _
              rw [← bare_self hQ5, far5 _ (by omega), hhome i (List.mem_range.1 hi), hA1]
              cases g.A i <;> rfl
            refine ⟨rfl, rfl, hhm5, ⟨[], g.next, g.ep, b5, h.err, ?_, by rw [hQ5]; rfl, ⟨fun i hi => by simp at hi⟩, by simp, Nat.le_add_right _ _, ?_, rfl, rfl, ?_, ?_⟩, hQ5⟩
            · show s5.dead = false
              rw [hd5, hd4, hd3, hd2, hd1]; exact h.dd
            · intro c p _ hp
              unfold byC at hp
              split at hp <;> simp at hp
            · intro j hj
              have : j = 0 := by simpa using hj
              subst this
              have e : hmL (bare s5) n (N - 2 - n) nA = homesL s n g (N - 2 - n) := by
                rw [← hhm5, homesL_hm, bare_self hQ5]
              show hmL (bare s5) n (N - 2 - n) nA ∈ _
              rw [e]; simp
            · exact congrArg some hhm5.symm
          · -- the head waits
            right
            rw [if_neg (by rw [e5]; decide)]
            refine ⟨e5, ⟨by rw [e5], hd5, hok5, ?_, by rw [hQ5, hQ4]; simp; omega⟩⟩
            have := head_crash hn b4 hE (x := hNew g) hQ4 hk rfl rfl rfl (fun i hi v hA => by
              rw [hA1] at hA
              rw [bare_at, hL4, ← bare_at, hhome i hi, hA]; rfl) (SL := SL) (by rw [hm_sameL hL4, hst3]; exact h.mem)
            exact this.same hL5 hQ5
        · -- the head was not written
          right
          have hsv' : saveG s3 N g.ep (hNew g) = writeS s3 (((hNew g).g % 2 : Nat) : Int) (hSec g.ep (hNew g)) := by rw [hsv, if_neg (by rw [e4]; decide)]
          rw [hsv', if_neg (by rw [e4]; decide)]
          refine ⟨e4, ⟨by rw [e4], hd4, hok4, ?_, by rw [hQ4, hQ3]; exact Nat.zero_le _⟩⟩
          have := homes_crash hn (b3.sameL hok4 hL4) hE (by rw [hQ4, hQ3]; intro q hq; cases hq) (SL := SL) (by rw [hm_sameL hL4, hst3]; exact h.mem)
          exact this.mono (Nat.le_refl _) (Nat.le_refl _) (Nat.le_succ _) (fun _ hx => hx)
      · -- the homes wait
        right
        rw [if_neg (by rw [e3]; decide)]
        refine ⟨e3, ⟨by rw [e3], hd3, hok3, ?_, by rw [hQ3]; omega⟩⟩
        have := homes_crash hn ((k1.base.sameL hok2 hL2).sameL hok3 hL3) hE (by rw [hQ3]; exact hQH) (SL := SL) (by rw [hm_sameL hL3, hm_sameL hL2, hst1]; exact h.mem)
        exact this.mono (Nat.le_refl _) (Nat.le_refl _) (Nat.le_succ _) (fun _ hx => hx)
    · -- some homes wait
      right
      have hbr' : bringS s n (N - 2 - n) g.A = r2 := by rw [hbr, if_neg (by rw [e2]; decide)]
      rw [hbr', if_neg (by rw [e2]; decide)]
      refine ⟨e2, ⟨by rw [e2], hd2, hok2, ?_, Nat.le_trans hq2l (Nat.le_add_left _ _)⟩⟩
      have := homes_crash hn (k1.base.sameL hok2 hL2) hE (by rw [hQ2]; exact hH k) (SL := SL) (by rw [hm_sameL hL2, hst1]; exact h.mem)
      exact this.mono (Nat.le_refl _) (Nat.le_refl _) (Nat.le_succ _) (fun _ hx => hx)
  · -- nothing was flushed
    right
    have hbr : bringS s n (N - 2 - n) g.A = flushS s := by unfold bringS; rw [if_neg (by rw [e1]; decide)]
    rw [hbr, if_neg (by rw [e1]; decide)]
    refine ⟨e1, ⟨by rw [e1], hd1, hok1, ?_, by rw [hQ1]; omega⟩⟩
    exact ((h.crash hn hE).same hL1 hQ1).mono (Nat.le_refl _) (Nat.le_refl _) (Nat.le_succ _) (fun _ hx => hx)
end
end Go.Proofs.YtolcnbiaiolcoaaGreat
namespace Go.Proofs.YtolcnbiaiolcoaaGreat
open Go.RowKit Go.Maps

/-- What holds of a disk and its log after k steps. SL: what the homes may be. -/
structure KI (s : DS) (g : LS) (n N k : Nat) (SL : List (List (List Nat))) : Prop where
  tn : g.h.t ≤ g.next
  fr : g.next ≤ g.h.t + n
  nx : g.next ≤ 30 * k + 30
  ep : g.ep ≤ k + 1
  gen : g.h.g ≤ k
  q : s.Q.length ≤ 5000 * k
  aok : AOk (N - 2 - n) g.A
  ok : s.ok N
  ne : SL ≠ []
  st : (∃ fls u fu pend PL, Live s n N g SL fls u fu pend PL) ∨ (g.err = 7 ∧ s.dead = true ∧ After s n N (k + 1) (30 * k + 30) k SL)
section
variable {s : DS} {n N k : Nat} {g : LS} {SL : List (List (List Nat))}
theorem Live.num (h : ∃ fls u fu pend PL, Live s n N g SL fls u fu pend PL) : g.h.t ≤ g.next ∧ g.next ≤ g.h.t + n ∧ AOk (N - 2 - n) g.A ∧ s.ok N ∧ SL ≠ [] := by
  obtain ⟨fls, u, fu, pend, PL, h⟩ := h
  refine ⟨by have := h.base.ch.le; have := h.next; omega, h.fr, h.aok, h.base.ok, fun e => ?_⟩
  have := h.last
  rw [e] at this; cases this
theorem KI.of_live (h : ∃ fls u fu pend PL, Live s n N g SL fls u fu pend PL) (hx : g.next ≤ 30 * k + 30) (he : g.ep ≤ k + 1) (hg : g.h.g ≤ k) (hq : s.Q.length ≤ 5000 * k) : KI s g n N k SL := by
  obtain ⟨a, b, c, d, e⟩ := Live.num h
  exact ⟨a, b, hx, he, hg, hq, c, d, e, .inl h⟩
theorem KI.step (h : KI s g n N k SL) : KI s g n N (k + 1) SL :=
  ⟨h.tn, h.fr, by have := h.nx; omega, by have := h.ep; omega, by have := h.gen; omega, by have := h.q; omega, h.aok, h.ok, h.ne, h.st.imp id fun ⟨a, b, c⟩ => ⟨a, b, c.mono (by omega) (by omega) (by omega) (fun _ hx => hx)⟩⟩
theorem KI.died (h : KI s g n N k SL) {X G q : Nat} {r : DS × LS} {SL' : List (List (List Nat))} (hd : Died s n N g SL X G q r) (hX : X ≤ 30 * (k + 1) + 30) (hG : G ≤ k + 1) (hq : q ≤ 5000 * (k + 1)) (hS : ∀ x ∈ SL, x ∈ SL') : KI r.1 r.2 n N (k + 1) SL' := by
  obtain ⟨e, dd, ok, af, hql⟩ := hd
  refine ⟨?_, ?_, ?_, ?_, ?_, by omega, ?_, ok, fun e => ?_, .inr ⟨by rw [e], dd, af.mono (by have := h.ep; omega) hX hG hS⟩⟩
  · rw [e]; exact h.tn
  · rw [e]; exact h.fr
  · rw [e]; have := h.nx; show g.next ≤ _; omega
  · rw [e]; have := h.ep; show g.ep ≤ _; omega
  · rw [e]; have := h.gen; show g.h.g ≤ _; omega
  · rw [e]; exact h.aok
  · cases hl : SL with
    | nil => exact h.ne hl
    | cons x l => have := hS x (by rw [hl]; simp); rw [e] at this; cases this

theorem KI.write (h : KI s g n N k SL) (hn : 2 ≤ n ∧ n + 3 ≤ N ∧ N ≤ 4096) (hk : k ≤ 100) {ps : List Pt} (hb : ∀ p ∈ ps, ∀ x ∈ p.d, x < 256) :
    ((writeG s n N g ps).2 = 0 ∧ KI (writeG s n N g ps).1.1 (writeG s n N g ps).1.2 n N (k + 1) (SL ++ [homesL (writeG s n N g ps).1.1 n (writeG s n N g ps).1.2 (N - 2 - n)])) ∨
    ((writeG s n N g ps).2 = 7 ∧ s.dead = false ∧ ∀ x, KI (writeG s n N g ps).1.1 (writeG s n N g ps).1.2 n N (k + 1) (SL ++ [x])) ∨
    ((writeG s n N g ps).1 = (s, g) ∧ KI s g n N (k + 1) SL ∧ (((writeG s n N g ps).2 = 7 ∧ s.dead = true) ∨ (((writeG s n N g ps).2 = 2 ∨ (writeG s n N g ps).2 = 8) ∧ s.dead = false ∧ SL.getLast? = some (homesL s n g (N - 2 - n))))) := by
  have hep := h.ep
  have hnx := h.nx
  have hgen := h.gen
  have hq := h.q
  rcases h.st with ⟨fls, u, fu, pend, PL, hl⟩ | ⟨he, hd, _⟩
  · rcases hl.write hn (by omega) hb with ⟨e, w⟩ | ⟨e, e2⟩ | ⟨e, d⟩
    · left
      refine ⟨e, KI.of_live ?_ ?_ ?_ ?_ ?_⟩
      · obtain ⟨pend', PL', w⟩ := w.live
        exact ⟨fls, u, fu, pend', PL', w⟩
      · have := w.next; omega
      · rw [w.ep]; omega
      · rw [w.h]; omega
      · have := w.q; omega
    · exact .inr (.inr ⟨e2, h.step, .inr ⟨e, hl.dd, hl.last⟩⟩)
    · exact .inr (.inl ⟨e, hl.dd, fun x => h.died d (by omega) (by omega) (by omega) (fun y hy => List.mem_append_left _ hy)⟩)
  · right; right
    have e : writeG s n N g ps = ((s, g), 7) := by unfold writeG; rw [if_neg (by rw [he]; decide), he]
    rw [e]
    exact ⟨rfl, h.step, .inl ⟨rfl, hd⟩⟩
/-- a Write that the power went off in was one of a transaction -/
theorem KI.tx (h : KI s g n N k SL) (hd : s.dead = false) {ps : List Pt} (hw : (writeG s n N g ps).2 = 7) : isTx ps ((N - 2 - n : Nat) : Int) := by
  rcases h.st with ⟨fls, u, fu, pend, PL, hl⟩ | ⟨_, e, _⟩
  · by_cases ht : isTx ps ((N - 2 - n : Nat) : Int)
    · exact ht
    · exfalso
      unfold writeG at hw
      rw [if_pos hl.err, if_neg ht] at hw
      exact absurd (show (2 : Int) = 7 from hw) (by decide)
  · rw [hd] at e; cases e
theorem KI.sync (h : KI s g n N k SL) (hn : 2 ≤ n ∧ n + 3 ≤ N ∧ N ≤ 4096) (hk : k ≤ 100) :
    ((syncG s g).2 = 0 ∧ ∃ x, SL.getLast? = some x ∧ homesL (syncG s g).1.1 n (syncG s g).1.2 (N - 2 - n) = x ∧ KI (syncG s g).1.1 (syncG s g).1.2 n N (k + 1) [x]) ∨ ((syncG s g).2 = 7 ∧ KI (syncG s g).1.1 (syncG s g).1.2 n N (k + 1) SL) := by
  have hep := h.ep
  have hnx := h.nx
  have hgen := h.gen
  have hq := h.q
  rcases h.st with ⟨fls, u, fu, pend, PL, hl⟩ | ⟨he, hd, _⟩
  · rcases hl.sync hn (by omega) with ⟨e, eg, eh, ⟨fls', u', fu', w⟩, eq⟩ | ⟨e, d⟩
    · left
      refine ⟨e, _, hl.last, by rw [eg]; exact eh, ?_⟩
      rw [eg]
      exact KI.of_live ⟨fls', u', fu', [], [], w⟩ (by omega) (by omega) (by omega) (by rw [eq]; exact Nat.zero_le _)
    · exact .inr ⟨e, h.died d (by omega) (by omega) (by omega) (fun _ hy => hy)⟩
  · right
    have e : syncG s g = ((s, g), 7) := by unfold syncG; rw [if_neg (by rw [he]; decide), he]
    rw [e]
    exact ⟨rfl, h.step⟩
theorem KI.check (h : KI s g n N k SL) (hn : 2 ≤ n ∧ n + 3 ≤ N ∧ N ≤ 4096) (hk : k ≤ 100) :
    ((checkG s n N g).2 = 0 ∧ ∃ x, SL.getLast? = some x ∧ homesL (checkG s n N g).1.1 n (checkG s n N g).1.2 (N - 2 - n) = x ∧ KI (checkG s n N g).1.1 (checkG s n N g).1.2 n N (k + 1) [x]) ∨ ((checkG s n N g).2 = 7 ∧ KI (checkG s n N g).1.1 (checkG s n N g).1.2 n N (k + 1) SL) := by
  have hep := h.ep
  have hnx := h.nx
  have hgen := h.gen
  have hq := h.q
  rcases h.st with ⟨fls, u, fu, pend, PL, hl⟩ | ⟨he, hd, _⟩
  · rcases hl.check hn (by omega) (by omega) (by omega) with ⟨e, eg, eh, ⟨fls', u', fu', w⟩, eq⟩ | ⟨e, d⟩
    · left
      refine ⟨e, _, hl.last, eh, KI.of_live ⟨fls', u', fu', [], [], w⟩ ?_ ?_ ?_ (by rw [eq]; exact Nat.zero_le _)⟩
      · rw [eg]; show g.next ≤ _; omega
      · rw [eg]; show g.ep ≤ _; omega
      · rw [eg]; show g.h.g + 1 ≤ _; omega
    · exact .inr ⟨e, h.died d (by omega) (by omega) (by omega) (fun _ hy => hy)⟩
  · right
    have e : checkG s n N g = ((s, g), 7) := by unfold checkG; rw [if_neg (by rw [he]; decide), he]
    rw [e]
    exact ⟨rfl, h.step⟩
theorem isS_sameLQ {s s' : DS} (hL : s'.L = s.L) (hQ : s'.Q = s.Q) (i : Nat) : isS s' i = isS s i := by unfold isS; rw [hL, hQ]
theorem KI.fuse (h : KI s g n N k SL) (c : Int) (hc : c < 9223372036854775808) : KI (fuseS s c).1 g n N (k + 1) SL := by
  have hok := fuseS_ok h.ok c hc
  have hL : (fuseS s c).1.L = s.L := by unfold fuseS; split; rfl; split <;> rfl
  have hQ : (fuseS s c).1.Q = s.Q := by unfold fuseS; split; rfl; split <;> rfl
  have hd : (fuseS s c).1.dead = s.dead := by unfold fuseS; split; rfl; split <;> rfl
  obtain ⟨s', hs'⟩ : ∃ s', s' = (fuseS s c).1 := ⟨_, rfl⟩
  rw [← hs'] at hok hL hQ hd ⊢
  have h' := h.step
  refine ⟨h'.tn, h'.fr, h'.nx, h'.ep, h'.gen, by rw [hQ]; exact h'.q, h'.aok, hok, h'.ne, ?_⟩
  rcases h'.st with ⟨fls, u, fu, pend, PL, hl⟩ | ⟨a, b, af⟩
  · refine .inl ⟨fls, u, fu, pend, PL, hl.base.sameL hok hL, hl.err, by rw [hd]; exact hl.dd, by rw [hQ]; exact hl.Q, hl.wait, hl.next, hl.fr, hl.pd, hl.tot, hl.A, fun j hj => by rw [hm_sameL hL]; exact hl.st j hj, ?_⟩
    rw [hl.last]
    congr 1
    unfold homesL homeG
    exact List.map_congr_left fun i _ => by rw [isS_sameLQ hL hQ]
  · exact .inr ⟨a, by rw [hd]; exact b, af.same hL hQ⟩
theorem Opened.live {h : Hd} {E u fu : Nat} {fls : List (Nat × List Pt)} (o : Opened s n N h E fls u fu) (hQ : s.Q = []) (hd : s.dead = false) : Live s n N (openS s n N) [homesL s n (openS s n N) (N - 2 - n)] fls u fu [] [] := by
  have hle := o.base.ch.le
  rw [o.is]
  refine ⟨o.base, rfl, hd, by rw [hQ]; rfl, ⟨fun i hi => by simp at hi⟩, by simp, o.base.fr, ?_, rfl, rfl, ?_, rfl⟩
  · intro c p _ hp
    unfold byC at hp
    split at hp <;> simp at hp
  · intro j hj
    have : j = 0 := by simpa using hj
    subst this
    show hmL (bare s) n (N - 2 - n) (putE nA fls) ∈ _
    rw [bare_self hQ]
    exact List.mem_singleton.2 rfl
/-- what a crash leads to -/
structure Crashed (n N k : Nat) (SL : List (List (List Nat))) (s' : DS) : Prop where
  mem : homesL s' n (openS s' n N) (N - 2 - n) ∈ SL
  top : topE s' (2 + n) < 16777215
  sb : SB s' N
  ki : KI s' (openS s' n N) n N (k + 1) [homesL s' n (openS s' n N) (N - 2 - n)]
theorem KI.crash (h : KI s g n N k SL) (hn : 2 ≤ n ∧ n + 3 ≤ N ∧ N ≤ 4096) (hk : k ≤ 100) (ks : List Int) (torn : Int) : Crashed n N k SL (crashS s ks torn) := by
  have hep := h.ep
  have hnx := h.nx
  have hgen := h.gen
  have af : After s n N (k + 1) (30 * k + 30) k SL := by
    rcases h.st with ⟨fls, u, fu, pend, PL, hl⟩ | ⟨_, _, af⟩
    · exact (hl.crash hn (by omega)).mono hep hnx hgen (fun _ hx => hx)
    · exact af
  obtain ⟨h', E', fls, u, fu, h1, h2, h3, o, hm⟩ := af ks torn
  have eh : homesL (crashS s ks torn) n (openS (crashS s ks torn) n N) (N - 2 - n) = hmL (crashS s ks torn) n (N - 2 - n) (putE nA fls) := by rw [homesL_hm, o.is]
  have et : (openS (crashS s ks torn) n N).ep = topE (crashS s ks torn) (2 + n) + 1 := rfl
  rw [o.is] at et
  have et : E' = topE (crashS s ks torn) (2 + n) + 1 := et
  refine ⟨by rw [eh]; exact hm, by omega, fun i hi => ?_, KI.of_live ⟨fls, u, fu, [], [], o.live rfl rfl⟩ ?_ ?_ ?_ (Nat.zero_le _)⟩
  · have := o.base.sb i hi
    rwa [bare_self rfl] at this
  · rw [o.is]; show u ≤ _; omega
  · rw [o.is]; show E' ≤ _; omega
  · rw [o.is]; show h'.g ≤ _; omega
theorem KI.new (hn : 2 ≤ n ∧ n + 3 ≤ N ∧ N ≤ 4096) : Crashed n N 0 [homesL (newS N) n (openS (newS N) n N) (N - 2 - n)] (newS N) ∧ KI (newS N) (openS (newS N) n N) n N 0 [homesL (newS N) n (openS (newS N) n N) (N - 2 - n)] := by
  have hnou : ∀ i, i < N → isS (newS N) i = nou := fun i hi => new_nou hi
  have hsb : ∀ j, j < N → ∀ x ∈ isS (newS N) j, x < 256 := fun j hj => by rw [hnou j hj]; exact RSec.nou.b
  obtain ⟨E', hE', o⟩ := opened (s := newS N) (h := ⟨0, 0, 1⟩) (E := 0) (fls := []) (u := 0) (fu := 1) hn (newS_ok N) rfl hsb (by decide) (fun j hj => by rw [hnou j (by omega)]; exact RSec.nou) (by rw [hnou 0 (by omega)]; exact .nou) (by rw [hnou 1 (by omega)]; exact .nou)
    ⟨hZ, false, ⟨by rw [hnou 0 (by omega), hnou 1 (by omega)]; unfold two; rw [unO_nou, unO_nou]; rfl, fun _ => rfl⟩, rfl⟩ ⟨rfl, rfl⟩ (Nat.zero_le _) (fun A => stop_E (by omega) fun j hj => .inl (by rw [hnou _ (by omega)]; exact RSec.nou)) (AOk.none _)
  have et : E' = topE (newS N) (2 + n) + 1 := by
    have : (openS (newS N) n N).ep = topE (newS N) (2 + n) + 1 := rfl
    rw [o.is] at this
    exact this
  have ki : KI (newS N) (openS (newS N) n N) n N 0 [homesL (newS N) n (openS (newS N) n N) (N - 2 - n)] := KI.of_live ⟨[], 0, 1, [], [], o.live rfl rfl⟩ (by rw [o.is]; show (0 : Nat) ≤ _; omega) (by rw [o.is]; show E' ≤ _; omega) (by rw [o.is]; show (0 : Nat) ≤ _; omega) (Nat.zero_le _)
  exact ⟨⟨by simp, by omega, hsb, ki.step⟩, ki⟩
end
end Go.Proofs.YtolcnbiaiolcoaaGreat
namespace Go.Proofs.YtolcnbiaiolcoaaGreat
open Go.RowKit Go.Maps

theorem infoBytess : (Tryz.prog.info? 50).map (fun i => (i.zero, i.size, i.bytes)) = some (some (.slice none 0 0), 1, 24) := by kernel_rfl
/-- a row of rows as a cell -/
def scell (H : Nat) (r : RC) : Value := .slice r.1 H r.2
/-- The states: rows of H rows, in block z; no step on G turns them. -/
structure StR (w : World) (G : Nat → Prop) (H z : Nat) (v : Value) (SL : List (List (List Nat))) : Prop where
  at_ : ∃ (o cap : Nat) (cur : Array Value) (rs : List RC), v = .slice (some ⟨z, o, none⟩) SL.length cap ∧ (SL.length ≤ cap ∧ cap ≤ maxLen) ∧ rs.length = SL.length ∧ Blk w z 50 cur ∧ cur.size = o + cap ∧ (cur.toList.drop o).take SL.length = rs.map (scell H) ∧ ∀ i (h : i < rs.length) (h' : i < SL.length), RwR w (fun k => G k ∨ k = z) (scell H rs[i]) SL[i]
  nz : ¬ G z
  len : ∀ x ∈ SL, x.length = H
section
variable {w w' : World} {G G' F F' : Nat → Prop} {H z : Nat} {v : Value} {SL : List (List (List Nat))}
theorem StR.lt (h : StR w G H z v SL) : z < w.heap.size := by
  obtain ⟨o, cap, cur, rs, _, _, _, hb, _⟩ := h.at_
  exact hb.lt
theorem StR.adv (h : StR w G H z v SL) (ha : Adv F w F' w') (hF : ∀ k, F k → G k) (hG : ∀ k, G' k → G k ∨ w.heap.size ≤ k) : StR w' G' H z v SL := by
  have hlt := h.lt
  obtain ⟨o, cap, cur, rs, h1, h2, h3, h4, h5, h6, h7⟩ := h.at_
  refine ⟨⟨o, cap, cur, rs, h1, h2, h3, h4.keep (ha.block z hlt (fun x => h.nz (hF z x))), h5, h6, fun i hi hi' => (h7 i hi hi').adv ha (fun k hk => .inl (hF k hk)) (fun k hk => ?_)⟩, fun hz => ?_, h.len⟩
  · rcases hk with hk | hk
    · rcases hG k hk with a | a
      · exact .inl (.inl a)
      · exact .inr a
    · exact .inl (.inr hk)
  · rcases hG z hz with a | a
    · exact h.nz a
    · omega
theorem StR.step (h : StR w G H z v SL) (ha : Adv Nul w F' w') : StR w' G H z v SL := h.adv ha (fun _ x => x.elim) (fun _ x => .inl x)
theorem StR.form (h : StR w G H z v SL) : ∃ o cap, v = .slice (some ⟨z, o, none⟩) SL.length cap ∧ SL.length ≤ cap ∧ cap ≤ maxLen := by
  obtain ⟨o, cap, cur, rs, h1, h2, _⟩ := h.at_
  exact ⟨o, cap, h1, h2⟩
theorem StR.row {o n cap i : Nat} (h : StR w G H z (.slice (some ⟨z, o, none⟩) n cap) SL) (hi : i < SL.length) : ∃ A q, w.cell? ⟨z, o + i, none⟩ = some (.slice A H q) ∧ RwR w (fun k => G k ∨ k = z) (.slice A H q) SL[i] := by
  obtain ⟨o', cap', cur, rs, h1, h2, h3, h4, h5, h6, h7⟩ := h.at_
  injection h1 with e1 e2 e3
  injection e1 with e1
  injection e1 with _ e1 _
  subst e1
  have hr : i < rs.length := by omega
  refine ⟨rs[i].1, rs[i].2, ?_, h7 i hr hi⟩
  rw [h4.cell, ← Array.getElem?_toList]
  have : ((cur.toList.drop o).take SL.length)[i]? = some (scell H rs[i]) := by rw [h6, List.getElem?_map, List.getElem?_eq_getElem hr]; rfl
  rw [List.getElem?_take, if_pos hi, List.getElem?_drop] at this
  exact this
/-- one state alone -/
theorem StR.one {A : Option Addr} {q : Nat} {hs : List (List Nat)} (hr : RwR w G (.slice A H q) hs) (hl : hs.length = H) (hG : Bd G w) : StR (w.alloc (.cells #[.slice A H q] 50)) G H w.heap.size (.slice (some ⟨w.heap.size, 0, none⟩) 1 1) [hs] := by
  refine ⟨⟨0, 1, #[.slice A H q], [(A, q)], rfl, ⟨Nat.le_refl _, by decide⟩, rfl, Blk.new _ _ _, rfl, rfl, fun i hi hi' => ?_⟩, fun h => absurd (hG _ h) (Nat.lt_irrefl _), fun x hx => by rw [List.mem_singleton.1 hx]; exact hl⟩
  have : i = 0 := by simpa using hi
  subst this
  exact hr.adv (F := Nul) (F' := Nul) ((Adv.refl Nul w).alloc _) (fun _ x => x.elim) (fun k hk => by
    rcases hk with hk | hk
    · exact .inl hk
    · exact .inr (by rw [hk]; exact Nat.le_refl _))
/-- the last state alone -/
theorem StR.last {o n cap : Nat} (h : StR w G H z (.slice (some ⟨z, o, none⟩) (n + 1) cap) SL) (hn : SL.length = n + 1) {x : List (List Nat)} (hx : SL.getLast? = some x) : StR w G H z (.slice (some ⟨z, o + n, none⟩) 1 (cap - n)) [x] ∧ n + 1 ≤ cap ∧ cap ≤ maxLen := by
  obtain ⟨o', cap', cur, rs, h1, h2, h3, h4, h5, h6, h7⟩ := h.at_
  injection h1 with e1 e2 e3
  injection e1 with e1
  injection e1 with _ e1 _
  subst e1; subst e3
  have hr : n < rs.length := by omega
  have hs : n < SL.length := by omega
  have ex : SL[n] = x := by
    have : SL[SL.length - 1]? = some x := by rw [← List.getLast?_eq_getElem?]; exact hx
    rw [show SL.length - 1 = n by omega, List.getElem?_eq_getElem hs] at this
    exact Option.some.inj this
  refine ⟨⟨⟨o + n, cap - n, cur, [rs[n]], rfl, ⟨by show 1 ≤ cap - n; omega, by omega⟩, rfl, h4, by omega, ?_, fun i hi hi' => ?_⟩, h.nz, fun y hy => ?_⟩, by omega, h2.2⟩
  · have : ((cur.toList.drop o).take SL.length)[n]? = some (scell H rs[n]) := by rw [h6, List.getElem?_map, List.getElem?_eq_getElem hr]; rfl
    rw [List.getElem?_take, if_pos hs, List.getElem?_drop] at this
    have hlt : o + n < cur.toList.length := (List.getElem?_eq_some_iff.1 this).1
    rw [List.drop_eq_getElem_cons hlt]
    rw [List.getElem?_eq_getElem hlt] at this
    simp only [List.length_singleton, List.take_succ_cons, List.take_zero, List.map_cons, List.map_nil]
    rw [Option.some.inj this]
  · have : i = 0 := by simpa using hi
    subst this
    show RwR w _ (scell H rs[n]) x
    rw [← ex]
    exact h7 n hr hs
  · rw [List.mem_singleton.1 hy, ← ex]
    exact h.len _ (List.getElem_mem hs)
theorem setCells_one (w : World) (b o : Nat) (u : Value) : w.setCells b o [u] = w.setCell ⟨b, o, none⟩ u := rfl
/-- a state more -/
theorem run_append_st (hS : StR w G H z v SL) (hG : Bd G w) {A : Option Addr} {q y : Nat} {hs : List (List Nat)} (hy : w.cell? ⟨y, 0, none⟩ = some (.slice A H q)) (hr : RwR w (fun k => G k ∨ k = z) (.slice A H q) hs) (hl : hs.length = H) (hn : SL.length + 1 ≤ 1000) (ty : TypeId) :
    ∃ v' w' z', (Builtin.append_ #[61, 61] ty #[v, .slice (some ⟨y, 0, none⟩) 1 1]).run Tryz.prog w = .ok v' w' ∧ StR w' G H z' v' (SL ++ [hs]) ∧ Adv (fun k => k = z) w (fun k => k = z') w' := by
  obtain ⟨i0, hi, hz0, hz1, hz2⟩ := info_parts infoBytess
  have hzlt := hS.lt
  obtain ⟨o, cap, cur, rs, h1, h2, h3, h4, h5, h6, h7⟩ := hS.at_
  subst h1
  have hnews : ∀ j u, [Value.slice A H q][j]? = some u → w.cell? ((⟨y, 0, none⟩ : Addr).add j) = some u := fun j u hu => by
    have hj : j = 0 := by have := (List.getElem?_eq_some_iff.1 hu).1; simpa using this
    subst hj
    rw [add_none]
    have : u = .slice A H q := by simpa using hu.symm
    rw [this]; exact hy
  have hone : ∀ u ∈ [Value.slice A H q], u.oneCell' = true := fun u hu => by rw [List.mem_singleton.1 hu]; rfl
  have hlen : ∀ x ∈ SL ++ [hs], x.length = H := fun x hx => by
    rcases List.mem_append.1 hx with a | a
    · exact hS.len x a
    · rw [List.mem_singleton.1 a]; exact hl
  by_cases hroom : SL.length + 1 ≤ cap
  · have hcell : cur[o + SL.length]?.isSome = true := by rw [Array.getElem?_eq_getElem (by omega)]; rfl
    have hrun := run_append_room_cells (P := Tryz.prog) w 61 ty 50 i0 Tryz.underlying61 hi z o SL.length cap ⟨y, 0, none⟩ 1 1 [.slice A H q] (by rw [hz1]; rfl) hnews hone hroom
      (fun j hj => by
        have : j = 0 := by simpa using hj
        subst this
        rw [hz1, Nat.mul_one, Nat.add_zero, h4.cell]; exact hcell) (fun j hj => h4.frozen _)
    rw [hz1, Nat.mul_one, setCells_one] at hrun
    have hA : Adv (fun k => k = z) w (fun k => k = z) (w.setCell ⟨z, o + SL.length, none⟩ (.slice A H q)) := (Adv.refl (fun k => k = z) w).setCell (p := ⟨z, o + SL.length, none⟩) (.inl rfl) _
    refine ⟨_, _, z, hrun, ⟨⟨o, cap, _, rs ++ [(A, q)], by rw [List.length_append]; rfl, by rw [List.length_append]; exact ⟨hroom, h2.2⟩, by rw [List.length_append, List.length_append, h3]; rfl, h4.set_ _ _, by rw [Array.size_setIfInBounds]; exact h5, ?_, fun i hi hi' => ?_⟩, hS.nz, hlen⟩, hA⟩
    · apply List.ext_getElem?
      intro j
      rw [List.getElem?_take, List.getElem?_drop, List.length_append, List.length_singleton, List.map_append]
      by_cases hj : j < SL.length
      · rw [if_pos (by omega), List.getElem?_append_left (by rw [List.length_map]; omega), ← h6, List.getElem?_take, if_pos hj, List.getElem?_drop, Array.getElem?_toList, Array.getElem?_toList, Array.getElem?_setIfInBounds, if_neg (by omega)]
      · by_cases hj2 : j = SL.length
        · subst hj2
          rw [if_pos (by omega), List.getElem?_append_right (by rw [List.length_map]; omega), List.length_map, h3, Nat.sub_self, Array.getElem?_toList, Array.getElem?_setIfInBounds, if_pos rfl, if_pos (by omega)]
          rfl
        · rw [if_neg (by omega), List.getElem?_eq_none (by simp; omega)]
    · have up : ∀ {u : Value} {x : List (List Nat)}, RwR w (fun k => G k ∨ k = z) u x → RwR (w.setCell ⟨z, o + SL.length, none⟩ (.slice A H q)) (fun k => G k ∨ k = z) u x := fun k => k.adv hA (fun _ e => .inr e) (fun _ e => .inl e)
      by_cases c : i < SL.length
      · rw [List.getElem_append_left (by omega), List.getElem_append_left c]
        exact up (h7 i (by omega) c)
      · have hi2 : i = SL.length := by rw [List.length_append, List.length_singleton] at hi'; omega
        subst hi2
        rw [List.getElem_append_right (by omega), List.getElem_append_right (Nat.le_refl _)]
        simp only [h3, Nat.sub_self, List.getElem_cons_zero]
        exact up hr
  · obtain ⟨v', w', hrun, hown, hg⟩ := run_append_arg_grows (P := Tryz.prog) w 61 ty 50 i0 (.slice none 0 0) 1 24 Tryz.underlying61 hi hz0 hz1 hz2 rfl (by decide) ⟨z, o, none⟩ SL.length cap (rs.map (scell H)) (by rw [List.length_map, h3, Nat.mul_one])
      (fun j u hu => by
        rw [add_none, h4.cell, ← Array.getElem?_toList]
        rw [← h6] at hu
        rw [List.getElem?_take] at hu
        split at hu
        · rw [List.getElem?_drop] at hu; exact hu
        · cases hu) ⟨y, 0, none⟩ 1 1 [.slice A H q] rfl hnews (by omega) (by unfold maxLen; omega) (by omega)
    rcases hown.2 with ⟨_, e⟩ | ⟨g, cap', cur', rfl, hgg, hb, hn1, hcm, hcs, ht⟩
    · omega
    · have hA : Adv Nul w (fun k => k = g) w' := ⟨hg.os, hg.tape, hg.output, hg.size, fun k hk _ => hg.block k hk (by simp), fun k hk => .inr (by rw [hk]; exact hgg)⟩
      refine ⟨_, w', g, hrun, ⟨⟨0, cap', cur', rs ++ [(A, q)], by rw [List.length_append]; rfl, by rw [List.length_append]; exact ⟨hn1, hcm⟩, by rw [List.length_append, List.length_append, h3]; rfl, hb, by rw [hcs]; omega, ?_, fun i hi hi' => ?_⟩, fun h => absurd (hG _ h) (by omega), hlen⟩, hA.weak (fun _ x => x.elim)⟩
      · rw [List.drop_zero, List.length_append, List.length_singleton, List.map_append]
        rw [Nat.mul_one] at ht
        exact ht
      · have up : ∀ {u : Value} {x : List (List Nat)}, RwR w (fun k => G k ∨ k = z) u x → RwR w' (fun k => G k ∨ k = g) u x := fun k => k.adv hA (fun _ e => e.elim) (fun k e => by
          rcases e with e | e
          · exact .inl (.inl e)
          · exact .inr (by rw [e]; exact hgg))
        by_cases c : i < SL.length
        · rw [List.getElem_append_left (by omega), List.getElem_append_left c]
          exact up (h7 i (by omega) c)
        · have hi2 : i = SL.length := by rw [List.length_append, List.length_singleton] at hi'; omega
          subst hi2
          rw [List.getElem_append_right (by omega), List.getElem_append_right (Nat.le_refl _)]
          simp only [h3, Nat.sub_self, List.getElem_cons_zero]
          exact up hr
theorem op_append_st {ops : Array Oper} {rest : List Oper} {op : Oper} {a : Act} {Q : Exit → Act → World → Prop} (hgd : op.guard = none) (s x : Operand) (ho : op.op = .call { callee := .builtin .append, args := #[s, x], argTypes := #[61, 61] })
    (hS : StR w G H z v SL) (hG : Bd G w) (hs : a.eval s = v) {A : Option Addr} {q y : Nat} {hh : List (List Nat)} (hx : a.eval x = .slice (some ⟨y, 0, none⟩) 1 1) (hy : w.cell? ⟨y, 0, none⟩ = some (.slice A H q)) (hr : RwR w (fun k => G k ∨ k = z) (.slice A H q) hh) (hl : hh.length = H) (hn : SL.length + 1 ≤ 1000)
    (h : ∀ v' w' z', StR w' G H z' v' (SL ++ [hh]) → Adv (fun k => k = z) w (fun k => k = z') w' → wpList Tryz.prog ops Q rest (a.put op.dst v') w') : wpList Tryz.prog ops Q (op :: rest) a w := by
  refine wpList_plain hgd fun K hK => ?_
  obtain ⟨v', w', z', hrun, h2, h3⟩ := run_append_st hS hG hy hr hl hn op.type
  unfold Oper.wp execOp
  simp only [ho, resolve, invoke, builtin, Sem.run_bind, Sem.run_pure, Result.andThen_ok, List.map_toArray, List.map_cons, List.map_nil, hs, hx, hrun]
  exact hK _ _ (h v' w' z' h2 h3)
end

/-- The memory of RedoKept: disk, log, states. -/
structure KpM (W : World) (d l b n N H : Nat) (SL : List (List (List Nat))) (s : DS) (g : LS) (F : Nat → Prop) (z : Nat) (v : Value) (w : World) : Prop where
  rs : Rs w F d l b n N s g
  st : StR w (UF F l b) H z v SL
  adv : Adv Nul W Nul w
  low : ∀ j, UF F l b j → W.heap.size ≤ j
  zlow : W.heap.size ≤ z
section
variable {W w w' : World} {d l b n N H : Nat} {SL SL' : List (List (List Nat))} {s s' : DS} {g g' : LS} {F F' : Nat → Prop} {z z' : Nat} {v v' : Value}
theorem KpM.step (h : KpM W d l b n N H SL s g F z v w) (ha : Adv Nul w F' w') : KpM W d l b n N H SL s g F z v w' :=
  ⟨h.rs.over ha, h.st.step ha, h.adv.trans (ha.same (fun _ x => x)), h.low, h.zlow⟩
theorem KpM.call (h : KpM W d l b n N H SL s g F z v w) (hr : Rs w' F' d l b n N s' g') (ha : Adv (UF F l b) w (UF F' l b) w') : KpM W d l b n N H SL s' g' F' z v w' := by
  have hlow : ∀ j, UF F' l b j → W.heap.size ≤ j := fun j hj => by
    rcases ha.into j hj with k | k
    · exact h.low j k
    · exact Nat.le_trans h.adv.size k
  exact ⟨hr, h.st.adv ha (fun _ x => x) (fun _ x => ha.into _ x), advLow h.adv ha h.low, hlow, h.zlow⟩
theorem Rs.aside (h : Rs w F d l b n N s g) (ha : Adv (fun k => k = z) w F' w') (hz : ¬ UF F l b z) : Rs w' F d l b n N s g :=
  ⟨h.dk.far ha (fun _ e hf => hz (.inl (e ▸ hf))), h.lg.far ha (fun _ e hf => hz (.inr (e ▸ hf))), h.sep⟩
theorem KpM.push (h : KpM W d l b n N H SL s g F z v w) (hs : StR w' (UF F l b) H z' v' SL') (ha : Adv (fun k => k = z) w (fun k => k = z') w') : KpM W d l b n N H SL' s g F z' v' w' := by
  refine ⟨h.rs.aside ha h.st.nz, hs, advLow h.adv ha (fun j hj => by rw [hj]; exact h.zlow), h.low, ?_⟩
  rcases ha.into z' rfl with k | k
  · rw [k]; exact h.zlow
  · exact Nat.le_trans h.adv.size k
end
end Go.Proofs.YtolcnbiaiolcoaaGreat
