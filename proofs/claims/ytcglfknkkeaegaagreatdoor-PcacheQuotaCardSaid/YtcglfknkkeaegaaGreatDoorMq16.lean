/- The ring goes around (arithmetic): the log's states. Rows of sectors in a slice: homes. Rows of sectors: same, over. The document's Is; Few: puts that came in, cut to a transaction's form. Few; puts that came in. The statements' lists of calls on a disk. Puts that came in: opened. The calls on a log that came in. The calls that came in; the log's states, in step with its homes. A cache's homes while the power stays. Writers, whatever has been put; noughts put behind a slice of one's own. -/
import Derived.Test.YtcglfknkkeaegaaGreatDoorMq15
import Derived.Test.YtcglfknkkeaegaaGreatDoorMq11
import Derived.Test.YtcglfknkkeaegaaGreatDoorMq06
import Derived.Test.YtcglfknkkeaegaaGreatDoorMq07
import Derived.Test.YtcglfknkkeaegaaGreatDoorMq01
import Derived.Deep.Slices
import Derived.Deep.Fields
import Derived.ChangeArms
import Derived.Test.YtcglfknkkeaegaaGreatDoorMq09
import Derived.Test.YtcglfknkkeaegaaGreatDoorMq12
import Derived.Test.YtcglfknkkeaegaaGreatDoorMq00
import Derived.Lib.AppendZerosOnto
namespace Go.Proofs.YtcglfknkkeaegaaGreatDoor
open Go.RowKit Go.Maps

def HeadV (V : Nat → List Nat) (h : Hd) : Prop := ∃ (sure : Hd) (has : Bool), Says (V 0) (V 1) sure has ∧ h = (if has = true then sure else ⟨0, 0, 1⟩)
theorem HeadV.headO {s : DS} {N : Nat} {V : Nat → List Nat} {h : Hd} (hv : HeadV V h) (ho : On s N V) (hN : 2 ≤ N) : Go.Proofs.YtcglfknkkeaegaaGreatDoor.headO s = h := by
  obtain ⟨sure, has, hs, rfl⟩ := hv
  have e : curAt s 0 2 = two (V 0) (V 1) := by
    rw [curAt2]
    show nx (unO (isS s 0) 0) (unO (isS s (0 + 1)) 1) = _
    rw [ho.at_ 0 (by omega), ho.at_ (0 + 1) (by omega)]
    rfl
  unfold Go.Proofs.YtcglfknkkeaegaaGreatDoor.headO
  rw [e, hs.1]
  cases has <;> rfl
theorem HeadV.frame {V V' : Nat → List Nat} {h : Hd} (hv : HeadV V h) (h0 : V' 0 = V 0) (h1 : V' 1 = V 1) : HeadV V' h := by
  obtain ⟨sure, has, hs, e⟩ := hv
  exact ⟨sure, has, by rw [h0, h1]; exact hs, e⟩
theorem HeadV.save {V : Nat → List Nat} {h x : Hd} {e : Nat} (hv : HeadV V h) (k : hOk e x) (hg : x.g = h.g + 1) : HeadV (putV V (x.g % 2) (hSec e x)) x := by
  obtain ⟨sure, has, hs, rfl⟩ := hv
  have hg' : x.g = sure.g + 1 := by
    cases has with
    | true => exact hg
    | false => rw [hs.2 rfl]; exact hg
  refine ⟨x, true, ⟨?_, fun e => by cases e⟩, rfl⟩
  have h2 := says_new hs k hg'
  rw [if_pos rfl, ← h2]
  unfold putP2 putV
  by_cases c : x.g % 2 = 0
  · rw [c]; rfl
  · have c1 : x.g % 2 = 1 := by omega
    rw [c1]; rfl

/-- the homes -/
def homesL (s : DS) (n : Nat) (g : LS) (M : Nat) : List (List Nat) := (List.range M).map (homeG s n g)
def overL (hs : List (List Nat)) (ps : List Pt) : List (List Nat) := ps.foldl (fun hs p => hs.set p.a.toNat p.d) hs
theorem over_one (A : Nat → Option (List Nat)) (B : Nat → List Nat) (M k : Nat) (d : List Nat) : (List.range M).map (fun i => (setA A k d i).getD (B i)) = ((List.range M).map (fun i => (A i).getD (B i))).set k d := by
  apply List.ext_getElem
  · simp
  · intro i h1 h2
    rw [List.getElem_set]
    simp only [List.getElem_map, List.getElem_range]
    unfold setA
    by_cases c : i = k
    · rw [if_pos c, if_pos c.symm]; rfl
    · rw [if_neg c, if_neg (fun e => c e.symm)]
theorem over_all (B : Nat → List Nat) (M : Nat) : ∀ (ps : List Pt) (A : Nat → Option (List Nat)), (List.range M).map (fun i => (putA A ps i).getD (B i)) = overL ((List.range M).map (fun i => (A i).getD (B i))) ps
  | [], _ => rfl
  | p :: ps, A => by
    show (List.range M).map (fun i => (putA (setA A p.a.toNat p.d) ps i).getD (B i)) = overL (((List.range M).map (fun i => (A i).getD (B i))).set p.a.toNat p.d) ps
    rw [over_all B M ps, over_one]
def putHV (V : Nat → List Nat) (n : Nat) (T : List (Nat × List Nat)) : Nat → List Nat := T.foldl (fun V q => putV V (2 + n + q.1) q.2) V
theorem On.homes {N n : Nat} : ∀ {T : List (Nat × List Nat)} {s : DS} {V : Nat → List Nat}, On s N V → (∀ q ∈ T, 2 + n + q.1 < N ∧ q.2.length = 128) → (putHomes s n T).2 = 0 ∧ On (putHomes s n T).1 N (putHV V n T)
  | [], _, _, h, _ => ⟨rfl, h⟩
  | q :: T, s, V, h, hq => by
    obtain ⟨h1, h2⟩ := h.write (i := 2 + n + q.1) (b := q.2) (hq q (by simp)).1 (hq q (by simp)).2
    unfold putHomes
    rw [if_pos h1]
    exact On.homes h2 (fun r hr => hq r (by simp [hr]))
theorem putHV_low {n j : Nat} (hj : j < 2 + n) : ∀ (T : List (Nat × List Nat)) (V : Nat → List Nat), putHV V n T j = V j
  | [], _ => rfl
  | q :: T, V => by
    show putHV (putV V (2 + n + q.1) q.2) n T j = V j
    rw [putHV_low hj T]
    unfold putV
    rw [if_neg (by omega)]
theorem putHV_at {n : Nat} (f : Nat → List Nat) (i : Nat) : ∀ (T : List (Nat × List Nat)) (V : Nat → List Nat), (∀ q ∈ T, q.2 = f q.1) → putHV V n T (2 + n + i) = if (∃ q ∈ T, q.1 = i) then f i else V (2 + n + i)
  | [], V, _ => by simp [putHV]
  | q :: T, V, h => by
    show putHV (putV V (2 + n + q.1) q.2) n T (2 + n + i) = _
    rw [putHV_at f i T _ (fun r hr => h r (by simp [hr]))]
    unfold putV
    by_cases c1 : ∃ r ∈ T, r.1 = i
    · rw [if_pos c1, if_pos (by obtain ⟨r, hr, e⟩ := c1; exact ⟨r, by simp [hr], e⟩)]
    · rw [if_neg c1]
      by_cases c2 : q.1 = i
      · rw [if_pos (by omega), if_pos ⟨q, by simp, c2⟩, h q (by simp), c2]
      · rw [if_neg (by omega), if_neg (fun ⟨r, hr, e⟩ => by
          rcases List.mem_cons.mp hr with rfl | hr
          · exact c2 e
          · exact c1 ⟨r, hr, e⟩)]
theorem putHV_away {n M i : Nat} (A : Nat → Option (List Nat)) (V : Nat → List Nat) (hi : i < M) : putHV V n (awayL A M) (2 + n + i) = (A i).getD (V (2 + n + i)) := by
  rw [putHV_at (fun i => (A i).getD (List.replicate 128 0)) i (awayL A M) V (fun q hq => by
    unfold awayL at hq
    obtain ⟨k, _, rfl⟩ := List.mem_map.mp hq
    rfl)]
  cases h : A i with
  | none =>
    rw [if_neg]
    · rfl
    · rintro ⟨q, hq, e⟩
      unfold awayL keysL at hq
      obtain ⟨k, hk, rfl⟩ := List.mem_map.mp hq
      have h1 := (List.mem_filter.mp hk).2
      have e : k = i := e
      rw [e, h] at h1
      cases h1
  | some x =>
    rw [if_pos]
    · simp
    · refine ⟨(i, (A i).getD (List.replicate 128 0)), ?_, rfl⟩
      unfold awayL keysL
      exact List.mem_map.mpr ⟨i, List.mem_filter.mpr ⟨List.mem_range.mpr hi, by rw [h]; rfl⟩, rfl⟩
theorem On.bring {s : DS} {N n M : Nat} {V : Nat → List Nat} {A : Nat → Option (List Nat)} (h : On s N V) (hM : 2 + n + M ≤ N) (hA : AOk M A) : (bringS s n M A).2 = 0 ∧ On (bringS s n M A).1 N (putHV V n (awayL A M)) := by
  obtain ⟨h1, h2⟩ := h.flush
  obtain ⟨h3, h4⟩ := h2.homes (n := n) (T := awayL A M) (fun q hq => by
    unfold awayL at hq
    obtain ⟨k, hk, rfl⟩ := List.mem_map.mp hq
    unfold keysL at hk
    have hk' := List.mem_filter.mp hk
    have hkM := List.mem_range.mp hk'.1
    refine ⟨by show 2 + n + k < N; omega, ?_⟩
    show ((A k).getD (List.replicate 128 0)).length = 128
    cases e : A k with
    | none => simp
    | some x => exact (hA k x e).2.1)
  obtain ⟨h5, h6⟩ := h4.flush
  unfold bringS
  rw [if_pos h1, if_pos h3]
  exact ⟨h5, h6⟩
theorem On.save {s : DS} {N e : Nat} {V : Nat → List Nat} {x : Hd} (h : On s N V) (hN : 2 ≤ N) (k : hOk e x) : (saveG s N e x).2 = 0 ∧ On (saveG s N e x).1 N (putV V (x.g % 2) (hSec e x)) := by
  have hm : x.g % 2 < 2 := Nat.mod_lt _ (by decide)
  obtain ⟨h1, h2⟩ := h.write (i := x.g % 2) (b := hSec e x) (by omega) (hSec_length k)
  obtain ⟨h3, h4⟩ := h2.flush
  have hk := k.1.2
  unfold saveG saveS
  rw [if_neg (by omega), if_pos ⟨⟨by decide, by omega⟩, k⟩, show (0 : Int) + ((x.g % 2 : Nat) : Int) = ((x.g % 2 : Nat) : Int) by omega, if_pos h1]
  exact ⟨h3, h4⟩

/-- the log while the power stays -/
structure Ar (s : DS) (n N : Nat) (V : Nat → List Nat) (g : LS) (txs : List (List Pt)) : Prop where
  on : On s N V
  err : g.err = 0
  ep : g.ep = 1
  fl : g.h.f = 1
  ch : Chain V n ((N - 2 - n : Nat) : Int) g.h.t txs g.next
  fr : g.next ≤ g.h.t + n
  A : g.A = txs.foldl putA (fun _ => none)
  ok : AOk (N - 2 - n) g.A
  old : OldV V n g.next
  hd : HeadV V g.h
  ends : ∀ j, j < 2 + n → endX (V j) ≤ 1 ∧ endY (V j) ≤ 1
  sb : ∀ i, i < N → ∀ x ∈ V i, x < 256
section
variable {s : DS} {n N : Nat} {V : Nat → List Nat} {g : LS} {txs : List (List Pt)}
theorem Ar.home (h : Ar s n N V g txs) {i : Nat} (hi : i < N - 2 - n) : homeG s n g i = (g.A i).getD (V (2 + n + i)) := by
  unfold homeG
  rw [h.on.at_ _ (by omega)]
theorem Ar.homes (h : Ar s n N V g txs) : homesL s n g (N - 2 - n) = (List.range (N - 2 - n)).map (fun i => (g.A i).getD (V (2 + n + i))) := by
  unfold homesL
  apply List.map_congr_left
  intro i hi
  exact h.home (List.mem_range.mp hi)
theorem Ar.le (h : Ar s n N V g txs) : g.h.t + txs.length ≤ g.next := h.ch.le
theorem needT_le {ps : List Pt} {H : Int} (k : isTx ps H) : needT ps ≤ 30 := needN_le (by decide) (by have := recB_small k; omega)
theorem Ar.write (h : Ar s n N V g txs) (hn : 2 ≤ n ∧ n + 3 ≤ N ∧ N ≤ 4096) {ps : List Pt} (ht : isTx ps ((N - 2 - n : Nat) : Int)) (hb : ∀ p ∈ ps, ∀ x ∈ p.d, x < 256) (hf : needT ps ≤ freeG n g) (hs : g.next ≤ 1000000) :
    (writeG s n N g ps).2 = 0 ∧ Ar (writeG s n N g ps).1.1 n N (layV V n (cutP 1 g.next (recB ps))) (writeG s n N g ps).1.2 (txs ++ [ps]) ∧ (writeG s n N g ps).1.2 = g.putAll ps (needT ps) ∧
    homesL (writeG s n N g ps).1.1 n (writeG s n N g ps).1.2 (N - 2 - n) = overL (homesL s n g (N - 2 - n)) ps := by
  have h30 := needT_le ht
  have hle := h.le
  have hcut : cutE 1 g.next (recB ps).length = 0 := cutE_zero.mpr ⟨by decide, by omega, by unfold needT at h30; omega, by have := recB_small ht; omega⟩
  have hfree : g.next + needT ps ≤ g.h.t + n := by unfold freeG at hf; have := h.fr; have := needT_pos ps; omega
  have hpk := cutP_ok hcut
  obtain ⟨l1, l2⟩ := h.on.layP (n := n) (P := cutP 1 g.next (recB ps)) (by omega) (by omega) (fun p hp => (hpk p hp).2.2)
  have e : writeG s n N g ps = (((layAll s n (cutP 1 g.next (recB ps))).1, g.putAll ps (needT ps)), 0) := by
    unfold writeG
    rw [if_pos h.err, if_pos ht, h.ep, if_pos ⟨hcut, hf⟩, if_pos l1]
  have hhome : ∀ j, 2 + n ≤ j → layV V n (cutP 1 g.next (recB ps)) j = V j := fun j hj => layV_out n _ _ (fun p _ => by
    have := Nat.mod_lt p.c (show 0 < n by omega); omega)
  have har : Ar (layAll s n (cutP 1 g.next (recB ps))).1 n N (layV V n (cutP 1 g.next (recB ps))) (g.putAll ps (needT ps)) (txs ++ [ps]) := by
    refine ⟨l2, h.err, h.ep, h.fl, ?_, ?_, ?_, ?_, ?_, ?_, ?_, ?_⟩
    · refine (h.ch.frame (fun c h1 h2 => layV_out n _ _ (fun p hp => ?_))).snoc ⟨ht, hb, hcut, fun p hp => layV_in n _ _ (cut_apart (by unfold needT at hfree; omega)) hp⟩
      obtain ⟨_, i, hi, ec⟩ := cutP_mem hp
      have := mod_apart (n := n) (a := c) (b := p.c) (by omega) (by unfold needT at hfree; omega)
      omega
    · exact hfree
    · show putA g.A ps = _
      rw [List.foldl_append, ← h.A]; rfl
    · exact h.ok.putA (fun p hp => ht.row p hp) hb (by omega)
    · exact h.old.lay hcut
    · exact h.hd.frame (layV_out n _ _ (fun p _ => by omega)) (layV_out n _ _ (fun p _ => by omega))
    · intro j hj
      rcases layV_or n j (cutP 1 g.next (recB ps)) V with e | ⟨p, hp, e⟩
      · rw [e]; exact h.ends j hj
      · rw [e, (end_seal (hpk p hp)).1, (end_seal (hpk p hp)).2, (cutP_mem hp).1]
        exact ⟨Nat.le_refl _, Nat.le_refl _⟩
    · intro i hi
      rcases layV_or n i (cutP 1 g.next (recB ps)) V with e | ⟨p, hp, e⟩
      · rw [e]; exact h.sb i hi
      · rw [e]; exact sealL_lt (hpk p hp).2.2 (cutP_bytes (recB_lt ps) p hp)
  rw [e]
  refine ⟨rfl, har, rfl, ?_⟩
  rw [har.homes, h.homes, ← over_all]
  apply List.map_congr_left
  intro i _
  rw [hhome _ (by omega)]
  rfl
theorem Ar.check (h : Ar s n N V g txs) (hn : 2 ≤ n ∧ n + 3 ≤ N ∧ N ≤ 4096) (hs : g.next ≤ 1000000) (hg : g.h.g ≤ 1000000) :
    (checkG s n N g).2 = 0 ∧ (∃ V', Ar (checkG s n N g).1.1 n N V' (checkG s n N g).1.2 []) ∧ (checkG s n N g).1.2 = { g with h := hNew g, A := fun _ => none } ∧
    homesL (checkG s n N g).1.1 n (checkG s n N g).1.2 (N - 2 - n) = homesL s n g (N - 2 - n) := by
  obtain ⟨b1, b2⟩ := h.on.bring (n := n) (M := N - 2 - n) (by omega) h.ok
  have hk : hOk g.ep (hNew g) := by
    refine ⟨⟨by rw [h.ep]; decide, ?_⟩, ?_, ?_⟩
    · show g.h.g + 1 ≤ _; omega
    · show g.next < _; omega
    · show g.ep < _; rw [h.ep]; decide
  obtain ⟨c1, c2⟩ := b2.save (by omega) hk
  have e : checkG s n N g = (((saveG (bringS s n (N - 2 - n) g.A).1 N g.ep (hNew g)).1, { g with h := hNew g, A := fun _ => none }), 0) := by
    unfold checkG
    rw [if_pos h.err, if_pos b1, if_pos c1]
  have hm : (hNew g).g % 2 < 2 := Nat.mod_lt _ (by decide)
  have hlow : ∀ j, 2 ≤ j → j < 2 + n → putV (putHV V n (awayL g.A (N - 2 - n))) ((hNew g).g % 2) (hSec g.ep (hNew g)) j = V j := fun j h1 h2 => by
    unfold putV
    rw [if_neg (by omega), putHV_low h2]
  have hhm : ∀ i, i < N - 2 - n → putV (putHV V n (awayL g.A (N - 2 - n))) ((hNew g).g % 2) (hSec g.ep (hNew g)) (2 + n + i) = (g.A i).getD (V (2 + n + i)) := fun i hi => by
    unfold putV
    rw [if_neg (by omega), putHV_away _ _ hi]
  have hst : endX (hSec g.ep (hNew g)) ≤ 1 ∧ endY (hSec g.ep (hNew g)) ≤ 1 := by
    unfold hSec
    rw [(end_seal (hPc_ok hk)).1, (end_seal (hPc_ok hk)).2]
    show g.ep ≤ 1 ∧ g.ep ≤ 1
    rw [h.ep]
    exact ⟨Nat.le_refl _, Nat.le_refl _⟩
  have har : Ar (saveG (bringS s n (N - 2 - n) g.A).1 N g.ep (hNew g)).1 n N (putV (putHV V n (awayL g.A (N - 2 - n))) ((hNew g).g % 2) (hSec g.ep (hNew g))) { g with h := hNew g, A := fun _ => none } [] := by
    refine ⟨c2, h.err, h.ep, h.ep, rfl, Nat.le_add_right _ _, rfl, AOk.none _, ?_, ?_, ?_, ?_⟩
    · intro j hj
      rw [hlow _ (by omega) (by omega)]
      exact h.old j hj
    · exact (h.hd.frame (V' := putHV V n (awayL g.A (N - 2 - n))) (putHV_low (by omega) _ _) (putHV_low (by omega) _ _)).save hk rfl
    · intro j hj
      by_cases c : j < 2
      · unfold putV
        by_cases c2 : j = (hNew g).g % 2
        · rw [if_pos c2]; exact hst
        · rw [if_neg c2, putHV_low (by omega)]; exact h.ends j hj
      · rw [hlow j (by omega) hj]; exact h.ends j hj
    · intro i hi
      by_cases c : i < 2 + n
      · unfold putV
        by_cases c2 : i = (hNew g).g % 2
        · rw [if_pos c2]; exact hSec_lt hk
        · rw [if_neg c2, putHV_low c]; exact h.sb i hi
      · obtain ⟨k, rfl⟩ : ∃ k, i = 2 + n + k := ⟨i - (2 + n), by omega⟩
        rw [hhm k (by omega)]
        cases hA : g.A k with
        | none => exact h.sb _ hi
        | some x => exact (h.ok k x hA).2.2
  rw [e]
  refine ⟨rfl, ⟨_, har⟩, rfl, ?_⟩
  rw [har.homes, h.homes]
  apply List.map_congr_left
  intro i hi
  exact hhm i (List.mem_range.mp hi)
theorem Ar.sync (h : Ar s n N V g txs) : (syncG s g).2 = 0 ∧ Ar (syncG s g).1.1 n N V (syncG s g).1.2 txs ∧ homesL (syncG s g).1.1 n (syncG s g).1.2 (N - 2 - n) = homesL s n g (N - 2 - n) := by
  obtain ⟨f1, f2⟩ := h.on.flush
  have e : syncG s g = (((flushS s).1, { g with err := 0 }), 0) := by
    unfold syncG
    rw [if_pos h.err, f1]
  have har : Ar (flushS s).1 n N V { g with err := 0 } txs := ⟨f2, rfl, h.ep, h.fl, h.ch, h.fr, h.A, h.ok, h.old, h.hd, h.ends, h.sb⟩
  rw [e]
  exact ⟨rfl, har, by rw [har.homes, h.homes]⟩
theorem Ar.top (h : Ar s n N V g txs) (hn : 2 ≤ n ∧ n + 3 ≤ N ∧ N ≤ 4096) : topE s (2 + n) ≤ 1 := topE_le _ (fun j hj => by
  rw [h.on.at_ j (by omega)]
  exact h.ends j hj)
theorem Ar.says (h : Ar s n N V g txs) (hn : 2 ≤ n ∧ n + 3 ≤ N ∧ N ≤ 4096) : (openS s n N).A = g.A ∧ (openS s n N).next = g.next ∧ (openS s n N).h = g.h ∧ (openS s n N).err = 0 ∧ (openS s n N).ep = topE s (2 + n) + 1 := by
  have hh := h.hd.headO h.on (by omega)
  have hle := h.le
  obtain ⟨fl', e⟩ := chain_says h.on (by omega) (by omega) (H := ((N - 2 - n : Nat) : Int)) (by omega) txs g.h.t g.next (n + 1) 1 (fun _ => none) h.ch h.fr (by have := h.fr; omega) (Nat.le_refl _) (fun A fl _ => h.old.stop h.on (by omega) (by omega))
  have e0 : r0G (openL s n) = ⟨g.h.t, 1, fun _ => none⟩ := by
    unfold r0G openL
    rw [hh]
    show (⟨g.h.t, g.h.f, fun _ => none⟩ : Rp) = _
    rw [h.fl]
  unfold openS LS.at_
  rw [e0, e]
  exact ⟨h.A.symm, rfl, hh, rfl, rfl⟩
theorem Ar.sb_ (h : Ar s n N V g txs) : SB s N := fun i hi x hx => by
  rw [h.on.at_ i hi] at hx
  exact h.sb i hi x hx
end
theorem new_nou {N i : Nat} (h : i < N) : isS (newS N) i = nou := by
  unfold isS newS lays nou
  simp [List.getD_eq_getElem?_getD, h]
theorem Ar.new {n N : Nat} (hn : 2 ≤ n ∧ n + 3 ≤ N ∧ N ≤ 4096) : Ar (newS N) n N (fun _ => nou) (openS (newS N) n N) [] ∧ (openS (newS N) n N).next = 0 ∧ (openS (newS N) n N).h.g = 0 := by
  have on : On (newS N) N (fun _ => nou) := ⟨rfl, by simp [newS], fun j hj => new_nou hj⟩
  have hd : HeadV (fun _ => nou) ⟨0, 0, 1⟩ := ⟨hZ, false, ⟨by unfold two; rw [unO_nou, unO_nou]; rfl, fun _ => rfl⟩, rfl⟩
  have old : ∀ u, OldV (fun _ => nou) n u := fun u j hj => .inl rfl
  have ends : ∀ j, j < 2 + n → endX nou ≤ 0 ∧ endY nou ≤ 0 := fun j _ => by rw [end_nou.1, end_nou.2]; exact ⟨Nat.le_refl _, Nat.le_refl _⟩
  have sb : ∀ i, i < N → ∀ x ∈ nou, x < 256 := fun i _ x hx => by rw [List.eq_of_mem_replicate hx]; decide
  have h0 : Ar (newS N) n N (fun _ => nou) ⟨⟨0, 0, 1⟩, 0, 1, fun _ => none, 0⟩ [] :=
    ⟨on, rfl, rfl, rfl, rfl, Nat.zero_le _, rfl, AOk.none _, old 0, hd, fun j hj => by have := ends j hj; omega, sb⟩
  have ht : topE (newS N) (2 + n) ≤ 0 := topE_le _ (fun j hj => by
    rw [new_nou (by omega)]
    exact ends j hj)
  obtain ⟨s1, s2, s3, s4, s5⟩ := h0.says hn
  have e : openS (newS N) n N = ⟨⟨0, 0, 1⟩, 0, 1, fun _ => none, 0⟩ := by
    have s5' : (openS (newS N) n N).ep = 1 := by rw [s5]; omega
    generalize openS (newS N) n N = x at s1 s2 s3 s4 s5'
    obtain ⟨x1, x2, x3, x4, x5⟩ := x
    simp only at s1 s2 s3 s4 s5'
    subst s1 s2 s3 s4 s5'
    rfl
  rw [e]
  exact ⟨h0, rfl, rfl⟩
end Go.Proofs.YtcglfknkkeaegaaGreatDoor
namespace Go.Proofs.YtcglfknkkeaegaaGreatDoor
open Go.RowKit Go.Maps

abbrev RC := Option Addr × Nat
def rcell (r : RC) : Value := .slice r.1 128 r.2
/-- rows in a slice of one's own -/
structure HW (W : World) (G : Nat → Prop) (f : Nat → List Nat) (k : Nat) (vo : Value) (F : Nat → Prop) (rs : List RC) (w : World) : Prop where
  len : rs.length = k
  sl : Sl w F 118 1 vo k (rs.map rcell)
  at_ : ∀ i (h : i < rs.length), (f i).length = 128 ∧ Rd w 1 (rcell rs[i]) 128 ((f i).map u8) ∧ ∀ g, (rcell rs[i]).ownBlock = some g → ¬ F g ∧ ¬ G g
  adv : Adv Nul W F w
section
variable {W w w' : World} {G : Nat → Prop} {f : Nat → List Nat} {k : Nat} {vo : Value}
end
theorem hone (r : RC) : ∀ u ∈ [rcell r], u.oneCell' = true := by
  intro u hu
  simp at hu
  subst hu; rfl
end Go.Proofs.YtcglfknkkeaegaaGreatDoor
namespace Go.Proofs.YtcglfknkkeaegaaGreatDoor
open Go.RowKit Go.Maps

theorem hall (rs : List RC) : ∀ u ∈ rs.map rcell, u.oneCell' = true := by
  intro u hu
  obtain ⟨r, _, rfl⟩ := List.mem_map.mp hu
  rfl
end Go.Proofs.YtcglfknkkeaegaaGreatDoor
namespace Go.Proofs.YtcglfknkkeaegaaGreatDoor
open Go.RowKit Go.Maps
end Go.Proofs.YtcglfknkkeaegaaGreatDoor
namespace Go.Proofs.YtcglfknkkeaegaaGreatDoor
open Go.RowKit Go.Maps

theorem flatM {α : Type} (m : Nat) (f : α → List Value) (hf : ∀ x, (f x).length = m) : ∀ (l : List α) (i j : Nat) (hi : i < l.length), j < m → (l.flatMap f)[i * m + j]? = (f l[i])[j]?
  | x :: l, 0, j, _, hj => by
    rw [List.flatMap_cons, Nat.zero_mul, Nat.zero_add, List.getElem?_append_left (by rw [hf]; omega)]; simp
  | x :: l, i + 1, j, hi, hj => by
    have e : (i + 1) * m + j = m + (i * m + j) := by rw [Nat.succ_mul]; omega
    rw [List.flatMap_cons, List.getElem?_append_right (by rw [hf]; omega), e, hf, Nat.add_sub_cancel_left]
    exact flatM m f hf l i j (by simpa using hi) hj
def qcells (q : Pt × Value) : List Value := [.int .i64 q.1.a, q.2]
/-- puts in a slice of one's own -/
structure QW (W : World) (P : Nat → Pt) (k : Nat) (vo : Value) (F : Nat → Prop) (qs : List (Pt × Value)) (w : World) : Prop where
  len : qs.length = k
  sl : Sl w F 133 2 vo k (qs.flatMap qcells)
  at_ : ∀ i (h : i < qs.length), qs[i].1 = P i ∧ ∃ a q, qs[i].2 = .slice a (P i).d.length q ∧ Rd w 1 (.slice a (P i).d.length q) (P i).d.length ((P i).d.map u8) ∧ ∀ g, (Value.slice a (P i).d.length q).ownBlock = some g → 0 < (P i).d.length → ¬ F g ∧ W.heap.size ≤ g
  adv : Adv Nul W F w
section
variable {W w w' : World} {P : Nat → Pt} {k : Nat} {vo : Value}
theorem QW.nil (W : World) (P : Nat → Pt) : QW W P 0 (.slice none 0 0) Nul [] W := ⟨rfl, Sl.nil _ _ _, fun i h => absurd h (by simp), Adv.refl _ _⟩
theorem QW.step {F F' : Nat → Prop} {qs : List (Pt × Value)} (h : QW W P k vo F qs w) (ha : Adv Nul w F' w') : QW W P k vo F qs w' :=
  ⟨h.len, h.sl.far ha (fun _ h _ => h), fun i hi => by
    obtain ⟨e, a, q, e2, hr, hn⟩ := h.at_ i hi
    exact ⟨e, a, q, e2, hr.far (fun _ _ _ hl => ha.block _ hl (fun x => x)) ha.size, hn⟩, h.adv.over ha⟩
theorem QW.push1 {F : Nat → Prop} {qs : List (Pt × Value)} {vo' : Value} {a : Option Addr} {q : Nat} {p : Pt} (h : QW W P k vo F qs w) (hp : P k = p) (hr : Rd w 1 (.slice a p.d.length q) p.d.length (p.d.map u8)) (hnF : ∀ g, (Value.slice a p.d.length q).ownBlock = some g → 0 < p.d.length → ¬ F g ∧ W.heap.size ≤ g)
    (hown : w'.ownsRow 0 133 2 vo' (k + 1) (qs.flatMap qcells ++ [.int .i64 p.a, .slice a p.d.length q])) (hg : w.grownBy w' vo.ownBlock) (hat : vo'.ownBlock = vo.ownBlock ∨ vo'.ownBlock = some w.heap.size) : QW W P (k + 1) vo' (fun g => F g ∨ vo'.ownBlock = some g) (qs ++ [(p, .slice a p.d.length q)]) w' := by
  obtain ⟨g1, g2⟩ := lsl_grown h.sl hown hg hat (Nat.le_refl _)
  have hF' : ∀ g, g < w.heap.size → ¬ F g → ¬ (F g ∨ vo'.ownBlock = some g) := fun g hlt hn hor => by
    rcases hor with h1 | h1
    · exact hn h1
    · rcases hat with e | e
      · exact hn (h.sl.inF g (by rw [← e]; exact h1))
      · rw [e] at h1; injection h1 with h1; omega
  have keep : ∀ {a : Option Addr} {d q : Nat} {l : List Nat}, Rd w 1 (.slice a d q) d (l.map u8) → (∀ g, (Value.slice a d q).ownBlock = some g → 0 < d → ¬ F g ∧ W.heap.size ≤ g) → Rd w' 1 (.slice a d q) d (l.map u8) ∧ ∀ g, (Value.slice a d q).ownBlock = some g → 0 < d → ¬ (F g ∨ vo'.ownBlock = some g) ∧ W.heap.size ≤ g := fun hr hn =>
    ⟨hr.far (fun g hg hd hl => g2.block g hl (hn g hg hd).1) g2.size, fun g hg hd => ⟨hF' g (hr.lt hg hd) (hn g hg hd).1, (hn g hg hd).2⟩⟩
  have hl := h.len
  refine ⟨by simp [hl], by simpa [qcells] using g1, fun i hi => ?_, h.adv.trans g2⟩
  rw [List.length_append, List.length_singleton] at hi
  by_cases hik : i < qs.length
  · rw [List.getElem_append_left hik]
    obtain ⟨e, a', q', e2, hr', hn'⟩ := h.at_ i hik
    obtain ⟨k1, k2⟩ := keep hr' hn'
    exact ⟨e, a', q', e2, k1, k2⟩
  · obtain rfl : i = qs.length := by omega
    rw [List.getElem_append_right (Nat.le_refl _)]
    simp only [Nat.sub_self, List.getElem_cons_zero, hl]
    rw [hp]
    obtain ⟨k1, k2⟩ := keep hr hnF
    exact ⟨rfl, a, q, rfl, k1, k2⟩
theorem QW.push {F : Nat → Prop} {qs : List (Pt × Value)} {vo' : Value} {a : Option Addr} {q : Nat} {p : Pt} (h : QW W P k vo F qs w) (hp : P k = p) (hr : Rd w 1 (.slice a p.d.length q) p.d.length (p.d.map u8)) (hnF : ∀ g, (Value.slice a p.d.length q).ownBlock = some g → 0 < p.d.length → ¬ F g ∧ W.heap.size ≤ g)
    (hown : w'.ownsRow 0 133 2 vo' (k + 1) (qs.flatMap qcells ++ [.int .i64 p.a, .slice a p.d.length q])) (hg : w.grownBy w' vo.ownBlock) (hat : vo'.ownBlock = vo.ownBlock ∨ vo'.ownBlock = some w.heap.size) : ∃ F' qs', QW W P (k + 1) vo' F' qs' w' :=
  ⟨_, _, h.push1 hp hr hnF hown hg hat⟩
theorem QW.qrd {F G : Nat → Prop} {qs : List (Pt × Value)} (h : QW W P k vo F qs w) (hG : Bd G W) : QRd w G vo ((List.range k).map P) := by
  have hl := h.len
  obtain ⟨A, c, rfl, hkc, hcm⟩ := h.sl.form0
  refine ⟨A, c, by simp, by simpa using hkc, hcm, fun hk => ?_⟩
  have hk' : 0 < k := by simpa using hk
  obtain ⟨g, c', e, hFg, _⟩ := h.sl.form hk'
  injection e with e1 _ _
  subst e1
  have hGg : ∀ j, W.heap.size ≤ j → ¬ G j := fun j hj x => by have := hG j x; omega
  refine ⟨g, 0, rfl, ⟨h.sl.bd g hFg, hGg g (by rcases h.adv.into g hFg with x | x; exact x.elim; exact x)⟩, fun i hi => ?_⟩
  have hi' : i < k := by simpa using hi
  obtain ⟨e, a, q, e2, hr, hn⟩ := h.at_ i (by omega)
  have e3 : ((List.range k).map P)[i]'hi = P i := by simp
  rw [e3]
  have H : ∀ j u, j < 2 → (qcells (qs[i]'(by omega)))[j]? = some u → w.cell? ⟨g, 0 + (i * 2 + j), none⟩ = some u := fun j u hj hu => by
    rw [Nat.zero_add, h.sl.own.cellAt (i * 2 + j) (by omega), flatM 2 qcells (fun _ => rfl) qs i j (by omega) hj]
    exact hu
  refine ⟨a, q, H 0 _ (by decide) ?_, H 1 _ (by decide) ?_, hr, fun j hj hn' => hGg j (hn j hj hn').2⟩ <;> simp [qcells, e, e2]
end
theorem qnew_at {T : TypeId} {w : World} {x : Int} {v : Value} (j : Nat) (u : Value) (h : [Value.int .i64 x, v][j]? = some u) : (w.alloc (.cells #[.int .i64 x, v] T)).cell? ((⟨w.heap.size, 0, none⟩ : Addr).add j) = some u := by
  rw [add_none, Nat.zero_add, (Blk.new w T #[.int .i64 x, v]).cell j, List.getElem?_toArray]
  exact h
theorem qone {x : Int} {a : Option Addr} {d q : Nat} : ∀ u ∈ [Value.int .i64 x, .slice a d q], u.oneCell' = true := by
  intro u hu
  simp at hu
  rcases hu with rfl | rfl <;> rfl
end Go.Proofs.YtcglfknkkeaegaaGreatDoor
namespace Go.Proofs.YtcglfknkkeaegaaGreatDoor
open Go.ChangeShapes Go.WideShapes Go.ChangeAt Go.RowKit Go.Deep

set_option maxRecDepth 3000 in
/-- a slice of integers in a struct's field -/
theorem open_cell_ints {H : Type} {enc : TypeId × Value → H} {P : Program} {W : World} {t e : TypeId} {k : IntKind} {fuel : Nat} {v : Value} {x : DataW H × List MemPlace} (ht : P.underlying t = some (.slice e)) (he : P.underlying e = some (.int k)) (hc : P.cellsOf e = 1)
    (hf : DataW.trod enc P W 0 (fun _ => true) true fuel t [v] = some x) :
    ∃ (n : Nat) (zs : List Int), Rd W 1 v n (zs.map (Value.int k)) ∧ zs.length = n ∧ (∀ z ∈ zs, (Lit.int k z).wf = true) ∧ (∀ b, v.ownBlock = some b → 0 < n → b < W.heap.size) := by
  rcases open_ints ht he hc hf with ⟨hcs, _⟩ | ⟨x, l, c, zs, hcs, _, hl, hm, hz, _, hcell, hwz⟩
  · simp at hcs
    subst hcs
    exact ⟨0, [], ⟨none, 0, rfl, Nat.le_refl _, Nat.zero_le _, rfl, fun _ => rfl, fun hn => absurd hn (by omega)⟩, rfl, fun _ hz => by simp at hz, fun b hb => by simp [Value.ownBlock] at hb⟩
  · simp at hcs
    subst hcs
    have hz' : zs.length = c := by simpa using hz
    have hlt : 0 < l → x.block < W.heap.size := fun hn => by
      have h := World.block_lt_of_cell? _ _ (hcell 0 (by omega))
      rwa [add_block] at h
    refine ⟨l, zs.take l, ⟨some x, c, rfl, hl, hm, by simp; omega, fun hn => (by cases hn), fun hn => ⟨x, rfl, hlt hn, fun j u hu => ?_⟩⟩, by simp; omega, fun z hzz => hwz z (List.mem_of_mem_take hzz), fun b hb hn => ?_⟩
    · obtain ⟨h1, h2, rfl⟩ := getD_map_int k zs l j u hu
      exact hcell j (by omega)
    · have : x.block = b := by simpa [Value.ownBlock] using hb
      rw [← this]; exact hlt hn
end Go.Proofs.YtcglfknkkeaegaaGreatDoor
namespace Go.Proofs.YtcglfknkkeaegaaGreatDoor
open Go.ChangeShapes Go.WideShapes Go.ChangeAt Go.RowKit Go.Deep

set_option maxRecDepth 3000 in
theorem open_cell_rows {α : Type} {H : Type} {enc : TypeId × Value → H} {W : World} (cells : α → List Value) (c : Nat) (fit : α → Prop) {t e : TypeId} (ht : Tryz.prog.underlying t = some (.slice e)) (hce : Tryz.prog.cellsOf e = c) (hc0 : 0 < c) (hlen : ∀ x, (cells x).length = c)
    (hel : ∀ {n : Nat} {cs : List Value} {x : DataW H × List MemPlace}, DataW.trod enc Tryz.prog W 0 (fun _ => true) true n e cs = some x → ∃ d, cs = cells d ∧ fit d) {fuel : Nat} {v : Value} {x : DataW H × List MemPlace} (hf : DataW.trod enc Tryz.prog W 0 (fun _ => true) true fuel t [v] = some x) :
    ∃ ds : List α, Rd W c v ds.length (ds.flatMap cells) ∧ ∀ d ∈ ds, fit d := by
  rcases open_slice ht hf with ⟨hcs, _⟩ | ⟨x, l, cp, m, n, D, Pl, hcs, _, hl, hm, hmm, _, hi⟩
  · simp at hcs
    subst hcs
    exact ⟨[], ⟨none, 0, rfl, Nat.le_refl _, Nat.zero_le _, by simp, fun _ => rfl, fun hn => absurd hn (by simp)⟩, fun _ hz => by simp at hz⟩
  · simp at hcs
    subst hcs
    simp only [if_true] at hmm
    have H1 : ∀ i, i < l → ∃ d : α, (∀ j, j < c → W.cell? (x.add (i * c + j)) = (cells d)[j]?) ∧ fit d := by
      intro i hil
      obtain ⟨cs', hc, ht'⟩ := hi i (by omega)
      rw [hce] at hc
      obtain ⟨d, rfl, h1⟩ := hel ht'
      obtain ⟨_, _, hat⟩ := World.cells?_some hc
      refine ⟨d, fun j hj => ?_, h1⟩
      rw [← hat j hj, Go.Deep.add_add]
    obtain ⟨ds, hdl, hd⟩ : ∃ ds : List α, ds.length = l ∧ ∀ i (h : i < ds.length), (∀ j, j < c → W.cell? (x.add (i * c + j)) = (cells ds[i])[j]?) ∧ fit ds[i] := by
      clear hi hf
      have : ∀ n : Nat, (∀ i, i < n → ∃ d : α, (∀ j, j < c → W.cell? (x.add (i * c + j)) = (cells d)[j]?) ∧ fit d) → ∃ ds : List α, ds.length = n ∧ ∀ i (h : i < ds.length), (∀ j, j < c → W.cell? (x.add (i * c + j)) = (cells ds[i])[j]?) ∧ fit ds[i] := by
        intro n
        induction n with
        | zero => exact fun _ => ⟨[], rfl, fun i h => absurd h (by simp)⟩
        | succ n ih =>
          intro H
          obtain ⟨ds, hl, hd⟩ := ih (fun i hi => H i (by omega))
          obtain ⟨d, hq⟩ := H n (by omega)
          refine ⟨ds ++ [d], by simp [hl], fun i h => ?_⟩
          rw [List.length_append, List.length_singleton] at h
          by_cases hi : i < ds.length
          · rw [List.getElem_append_left hi]; exact hd i hi
          · have e : i = n := by omega
            subst e
            rw [List.getElem_append_right (by omega)]
            simpa [hl] using hq
      exact this l H1
    have hfl : (ds.flatMap cells).length = ds.length * c := flat_length cells c ds (fun _ _ => hlen _)
    refine ⟨ds, ⟨some x, cp, by rw [hdl], by omega, hm, hfl, fun hn => (by cases hn), fun hn => ⟨x, rfl, ?_, ?_⟩⟩, ?_⟩
    · have h0 := (hd 0 hn).1 0 hc0
      have hs : ∃ u, (cells ds[0])[0]? = some u := ⟨_, List.getElem?_eq_getElem (by rw [hlen]; exact hc0)⟩
      obtain ⟨u, hu⟩ := hs
      have := World.block_lt_of_cell? _ _ (h0.trans hu)
      rwa [add_block] at this
    · intro j u hu
      have hjl : j < (ds.flatMap cells).length := (List.getElem?_eq_some_iff.1 hu).1
      rw [hfl] at hjl
      have hk : j / c < ds.length := Nat.div_lt_of_lt_mul (by rw [Nat.mul_comm]; exact hjl)
      have hj6 : j % c < c := Nat.mod_lt _ hc0
      have e : j = j / c * c + j % c := by rw [Nat.mul_comm]; exact (Nat.div_add_mod j c).symm
      rw [e] at hu ⊢
      rw [(hd (j / c) hk).1 (j % c) hj6, ← hu, flat_at cells c ds (fun _ _ => hlen _) (j / c) (j % c) hk hj6]
    · intro d hdm
      obtain ⟨i, hi2, rfl⟩ := List.getElem_of_mem hdm
      exact (hd i hi2).2
end Go.Proofs.YtcglfknkkeaegaaGreatDoor
namespace Go.Proofs.YtcglfknkkeaegaaGreatDoor
open Go.ChangeShapes Go.WideShapes Go.ChangeAt Go.RowKit Go.Deep Go.Maps
end Go.Proofs.YtcglfknkkeaegaaGreatDoor
namespace Go.Proofs.YtcglfknkkeaegaaGreatDoor
open Go.ChangeShapes Go.WideShapes Go.ChangeAt Go.RowKit Go.Deep Go.Maps

set_option maxRecDepth 3000 in
theorem few_lay (n : Nat) : ∀ (P : List Pc) (s : DS), (layAll s n P).1.Q.length ≤ s.Q.length + P.length
  | [], s => Nat.le_refl _
  | p :: P, s => by
    have h1 := few_write s ((2 + p.c % n : Nat) : Int) (sealL p)
    have h2 := few_lay n P (writeS s ((2 + p.c % n : Nat) : Int) (sealL p)).1
    unfold layAll
    split
    · simp only [List.length_cons]; omega
    · simp only [List.length_cons]; omega
set_option maxRecDepth 3000 in
theorem few_writeG (s : DS) (n N : Nat) (g : LS) (ps : List Pt) : (writeG s n N g ps).1.1.Q.length ≤ s.Q.length + needT ps := by
  have h := few_lay n (cutP g.ep g.next (recB ps)) s
  rw [cutP_length] at h
  unfold writeG needT
  split
  · split
    · split
      · split <;> exact h
      · exact Nat.le_add_right _ _
    · exact Nat.le_add_right _ _
  · exact Nat.le_add_right _ _
set_option maxRecDepth 3000 in
theorem few_save (s : DS) (N e : Nat) (x : Hd) : (saveG s N e x).1.Q.length ≤ s.Q.length + 1 := by
  unfold saveG
  split
  · exact Nat.le_succ _
  · unfold saveS
    have h1 := few_write s (0 + ((x.g % 2 : Nat) : Int)) (hSec e x)
    have h2 := few_flush (writeS s (0 + ((x.g % 2 : Nat) : Int)) (hSec e x)).1
    split
    · split <;> omega
    · exact Nat.le_succ _
set_option maxRecDepth 3000 in
theorem few_check (s : DS) (n N : Nat) (g : LS) : (checkG s n N g).1.1.Q.length ≤ s.Q.length + N + 1 := by
  have h1 := few_bring s n (N - 2 - n) g.A
  have h2 := few_save (bringS s n (N - 2 - n) g.A).1 N g.ep (hNew g)
  unfold checkG
  split
  · split
    · split <;> (simp only; omega)
    · simp only; omega
  · simp only; omega
section
variable {W w w' : World} {d l b m N K : Nat} {s : DS} {g : LS} {F F' : Nat → Prop} {v v' : Value}
end
end Go.Proofs.YtcglfknkkeaegaaGreatDoor
namespace Go.Proofs.YtcglfknkkeaegaaGreatDoor
open Go.RowKit Go.Maps
def numS (x : Nat) : List Nat := be 128 x
/-- all homes: the number's, the slots', others -/
def HL (num : Nat) (L : List Slt) (rest : List (List Nat)) : List (List Nat) := numS num :: (L.map secT ++ rest)
theorem HL_puts (num : Nat) (rest : List (List Nat)) : ∀ (ps : List Plc) (L : List Slt), (∀ p ∈ ps, p.1 < L.length) → overL (HL num L rest) (putsT ps) = HL num (setsL L ps) rest
  | [], _, _ => rfl
  | p :: ps, L, h => by
    have h1 : p.1 < L.length := h p List.mem_cons_self
    have e : (HL num L rest).set (1 + p.1) (secT p.2) = HL num (L.set p.1 p.2) rest := by
      unfold HL
      rw [Nat.add_comm 1, List.set_cons_succ, List.set_append_left _ _ (by rw [List.length_map]; exact h1), ← List.map_set]
    have e2 : overL (HL num L rest) (putsT (p :: ps)) = overL ((HL num L rest).set (((1 + p.1 : Nat) : Int)).toNat (secT p.2)) (putsT ps) := rfl
    rw [e2, Int.toNat_natCast, e, HL_puts num rest ps (L.set p.1 p.2) (fun q hq => by rw [List.length_set]; exact h q (List.mem_cons_of_mem _ hq))]
    rfl
theorem numS_length (x : Nat) : (numS x).length = 128 := be_length _ _
theorem numS_lt (x : Nat) : ∀ y ∈ numS x, y < 256 := be_lt _ _
/-- puts that a log takes -/
structure TxOk (ps : List Pt) (M : Nat) : Prop where
  tx : isTx ps (M : Int)
  need : needT ps ≤ 20
  by_ : ∀ p ∈ ps, ∀ x ∈ p.d, x < 256
theorem need_20 {ps : List Pt} (hd : ∀ p ∈ ps, p.d.length = 128) (h : ps.length ≤ 14) : needT ps ≤ 20 := by
  unfold needT
  rw [recB_length hd]
  unfold needN qn
  omega
theorem puts_ok {ps : List Plc} {M : Nat} (h0 : ps ≠ []) (h14 : ps.length ≤ 14) (hn : (ps.map (·.1)).Nodup) (hM : ∀ p ∈ ps, 1 + p.1 < M) : TxOk (putsT ps) M := by
  have hd : ∀ p ∈ putsT ps, p.d.length = 128 := fun p hp => by
    obtain ⟨q, _, rfl⟩ := List.mem_map.1 hp
    exact secT_length _
  have hl : (putsT ps).length = ps.length := List.length_map _
  have hpos : 0 < ps.length := List.length_pos_iff.2 h0
  refine ⟨⟨⟨by omega, by omega⟩, fun i hi => ?_⟩, need_20 hd (by omega), fun p hp => ?_⟩
  · rw [hl] at hi
    refine ⟨?_, hd _ (List.getElem_mem _), fun j hj e => ?_⟩
    · simp only [putsT, List.getElem_map]
      have := hM _ (List.getElem_mem hi)
      omega
    · simp only [putsT, List.getElem_map] at e
      have h3 := (List.pairwise_iff_getElem.1 (List.nodup_iff_pairwise_ne.1 hn)) j i (by rw [List.length_map]; omega) (by rw [List.length_map]; omega) hj
      rw [List.getElem_map, List.getElem_map] at h3
      exact h3 (by omega)
  · obtain ⟨q, _, rfl⟩ := List.mem_map.1 hp
    exact secT_lt _
theorem num_ok {x M : Nat} (hM : 0 < M) : TxOk [⟨0, numS x⟩] M := by
  have hd : ∀ p ∈ ([⟨0, numS x⟩] : List Pt), p.d.length = 128 := fun p hp => by rw [List.mem_singleton.1 hp]; exact numS_length x
  refine ⟨⟨⟨Nat.le_refl 1, (by omega : 1 ≤ 24)⟩, fun i hi => ?_⟩, need_20 hd (by show 1 ≤ 14; omega), fun p hp => by rw [List.mem_singleton.1 hp]; exact numS_lt x⟩
  obtain rfl : i = 0 := by simpa using hi
  exact ⟨⟨Int.le_refl _, by show (0 : Int) < _; omega⟩, numS_length x, fun k hk => absurd hk (Nat.not_lt_zero _)⟩
/-- a log whose power stays, and what its homes are -/
structure Lc (s : DS) (g : LS) (n N k : Nat) (hs : List (List Nat)) : Prop where
  hn : 20 ≤ n ∧ n + 3 ≤ N ∧ N ≤ 1100
  ar : ∃ V txs, Ar s n N V g txs
  nx : g.next ≤ 30 * k
  gn : g.h.g ≤ k
  q : s.Q.length ≤ 5000 * k
  hm : homesL s n g (N - 2 - n) = hs
section
variable {s : DS} {g : LS} {n N k : Nat} {hs : List (List Nat)}
theorem Lc.nn (h : Lc s g n N k hs) : 2 ≤ n ∧ n + 3 ≤ N ∧ N ≤ 4096 := by have := h.hn; omega
theorem Ar.gok {V : Nat → List Nat} {txs : List (List Pt)} (h : Ar s n N V g txs) (hn : 2 ≤ n ∧ n + 3 ≤ N ∧ N ≤ 4096) (hq : s.Q.length ≤ 900000) (hx : g.next ≤ 1000000) : GOk n N s g :=
  ⟨hn, hq, by have := h.le; omega, by have := h.fr; omega, by omega, by rw [h.ep]; decide⟩
theorem Lc.check (h : Lc s g n N k hs) (hk : k ≤ 140) : (checkG s n N g).2 = 0 ∧ Lc (checkG s n N g).1.1 (checkG s n N g).1.2 n N (k + 1) hs ∧ (checkG s n N g).1.2.h.t = (checkG s n N g).1.2.next := by
  obtain ⟨V, txs, a⟩ := h.ar
  have h1 := h.nx
  have h2 := h.gn
  have h3 := h.q
  have h4 := h.hn
  obtain ⟨c1, ⟨V', c2⟩, c3, c4⟩ := a.check h.nn (by omega) (by omega)
  have h5 := few_check s n N g
  refine ⟨c1, ⟨h.hn, ⟨V', _, c2⟩, by rw [c3]; show g.next ≤ _; omega, by rw [c3]; show g.h.g + 1 ≤ _; omega, by omega, c4.trans h.hm⟩, by rw [c3]; rfl⟩
theorem Lc.write (h : Lc s g n N k hs) (hk : k ≤ 140) {ps : List Pt} (ht : TxOk ps (N - 2 - n)) :
    ((writeG s n N g ps).2 = 0 ∧ Lc (writeG s n N g ps).1.1 (writeG s n N g ps).1.2 n N (k + 1) (overL hs ps)) ∨ ((writeG s n N g ps).2 = 8 ∧ g.h.t ≠ g.next) := by
  obtain ⟨V, txs, a⟩ := h.ar
  have h1 := h.nx
  have h2 := h.gn
  have h3 := h.q
  have h4 := h.hn
  by_cases hf : needT ps ≤ freeG n g
  · left
    obtain ⟨a1, a2, a3, a4⟩ := a.write h.nn ht.tx ht.by_ hf (by omega)
    have h5 := few_writeG s n N g ps
    have h6 := ht.need
    refine ⟨a1, ⟨h.hn, ⟨_, _, a2⟩, by rw [a3]; show g.next + needT ps ≤ _; omega, by rw [a3]; show g.h.g ≤ _; omega, by omega, by rw [a4, h.hm]⟩⟩
  · right
    refine ⟨?_, fun e => hf ?_⟩
    · unfold writeG
      rw [if_pos a.err, if_pos ht.tx, if_neg (fun x => hf x.2)]
    · have := ht.need
      unfold freeG
      omega
theorem Lc.wok (h : Lc s g n N k hs) (hk : k ≤ 140) : WOk n N s g := by
  obtain ⟨V, txs, a⟩ := h.ar
  have h1 := h.nx
  have h2 := h.gn
  have h3 := h.q
  obtain ⟨_, c2, _⟩ := h.check hk
  obtain ⟨V', txs', b⟩ := c2.ar
  have h4 := c2.nx
  have h5 := c2.q
  exact ⟨a.gok h.nn (by omega) (by omega), by omega, by omega, a.ok, fun _ => b.gok h.nn (by omega) (by omega)⟩
theorem Lc.up (h : Lc s g n N k hs) {j : Nat} (hj : k ≤ j) : Lc s g n N j hs := ⟨h.hn, h.ar, by have := h.nx; omega, by have := h.gn; omega, by have := h.q; omega, h.hm⟩
/-- written, a full ring brought home ahead -/
theorem Lc.wrt (h : Lc s g n N k hs) (hk : k ≤ 130) {ps : List Pt} (ht : ps ≠ [] → TxOk ps (N - 2 - n)) :
    (wrtG s n N g ps).2 = 0 ∧ Lc (wrtG s n N g ps).1.1 (wrtG s n N g ps).1.2 n N (k + 2) (overL hs ps) := by
  unfold wrtG
  by_cases h0 : ps.length = 0
  · rw [if_pos h0]
    obtain rfl := List.eq_nil_of_length_eq_zero h0
    exact ⟨rfl, h.up (by omega)⟩
  · rw [if_neg h0]
    have ht := ht (fun e => h0 (by rw [e]; rfl))
    rcases h.write (by omega) ht with ⟨a1, a2⟩ | ⟨a1, _⟩
    · rw [if_neg (by rw [a1]; decide)]
      exact ⟨a1, a2.up (by omega)⟩
    · rw [if_pos a1]
      obtain ⟨b1, b2, b3⟩ := h.check (by omega)
      rw [if_pos b1]
      rcases b2.write (by omega) ht with ⟨c1, c2⟩ | ⟨_, c⟩
      · exact ⟨c1, c2⟩
      · exact absurd b3 c
theorem Lc.sync (h : Lc s g n N k hs) : (syncG s g).2 = 0 ∧ Lc (syncG s g).1.1 (syncG s g).1.2 n N k hs := by
  obtain ⟨V, txs, a⟩ := h.ar
  obtain ⟨b1, b2, b3⟩ := a.sync
  have e1 : syncG s g = (((flushS s).1, { g with err := (flushS s).2 }), (flushS s).2) := by unfold syncG; rw [if_pos a.err]
  have h5 := few_flush s
  have h3 := h.q
  refine ⟨b1, ⟨h.hn, ⟨_, _, b2⟩, ?_, ?_, ?_, b3.trans h.hm⟩⟩
  · rw [e1]; exact h.nx
  · rw [e1]; exact h.gn
  · rw [e1]; show (flushS s).1.Q.length ≤ _; omega
end
theorem pbe_0 : ∀ k, be k 0 = List.replicate k 0
  | 0 => rfl
  | k + 1 => by
    have := be_noughts 0 0 (k + 1)
    simpa [be] using this
theorem HL_zero (m r : Nat) : HL 0 (List.replicate m zeroT) (List.replicate r nou) = List.replicate (1 + m + r) nou := by
  have e1 : numS 0 = nou := pbe_0 128
  have e2 : secT zeroT = nou := secT_zero
  unfold HL
  rw [e1, List.map_replicate, e2, List.replicate_append_replicate, Nat.add_assoc 1, Nat.add_comm 1, List.replicate_succ]
/-- a fresh disk -/
theorem Lc.new {n N m : Nat} (hn : 20 ≤ n ∧ n + 3 + m ≤ N ∧ N ≤ 1100) : Lc (newS N) (openS (newS N) n N) n N 0 (HL 0 (List.replicate m zeroT) (List.replicate (N - 3 - n - m) nou)) := by
  have hnn : 2 ≤ n ∧ n + 3 ≤ N ∧ N ≤ 4096 := by omega
  obtain ⟨a, b, c⟩ := Ar.new hnn
  refine ⟨by omega, ⟨_, _, a⟩, by omega, by omega, Nat.zero_le _, ?_⟩
  rw [a.homes, HL_zero]
  have hA : (openS (newS N) n N).A = fun _ => none := a.A
  rw [hA]
  apply List.ext_getElem
  · simp; omega
  · intro i h1 h2
    rw [List.getElem_map, List.getElem_replicate]
    rfl
end Go.Proofs.YtcglfknkkeaegaaGreatDoor
namespace Go.Proofs.YtcglfknkkeaegaaGreatDoor
open Go.RowKit

/-- a writer that has been given so many bits, or has an error -/
def WrP (w : World) (F : Nat → Prop) (b : Nat) (ok : Prop) (N m : Nat) : Prop := (ok ∧ WSt w F b N m ∧ Bd F w) ∨ (¬ ok ∧ WErr w F b)
structure WP (V : World) (F : Nat → Prop) (b : Nat) (ok : Prop) (N m : Nat) (w : World) : Prop where
  ws : WrP w F b ok N m
  ad : Adv Nul V F w
section
variable {V w : World} {F : Nat → Prop} {b N m : Nat} {ok : Prop}
theorem WP.drew (h : WP V F b ok N m w) : WP V F b ok N m w.drew := by
  refine ⟨?_, h.ad.drew⟩
  rcases h.ws with ⟨h1, h2, h3⟩ | ⟨h1, h2⟩
  · exact .inl ⟨h1, h2.drew, h3⟩
  · obtain ⟨v, r, hB⟩ := h2.ex
    exact .inr ⟨h1, ⟨⟨v, r, hB.drew⟩, h2.inF, h2.bd⟩⟩
theorem WP.new (ha : Adv Nul V Nul w) : Calls Tryz.prog 90 #[] w fun e w' => ∃ b F, e = .returned (.pointer (some ⟨b, 0, none⟩)) ∧ WP V F b True 0 0 w' := by
  refine (new_any w).mono ?_
  rintro e w' ⟨b, F, rfl, h1, h2, h3⟩
  exact ⟨b, F, rfl, .inl ⟨trivial, h1, h3⟩, ha.trans h2⟩
theorem WP.put (h : WP V F b ok N m w) (x n : Nat) (hn : n ≤ 64) (hx : x < 18446744073709551616) (hm : m + n ≤ 1000000000) :
    Calls Tryz.prog 91 #[.pointer (some ⟨b, 0, none⟩), .int .u64 (x : Int), .int .i64 (n : Int)] w fun e w' => ∃ F', e = .returned (.pointer (some ⟨b, 0, none⟩)) ∧ WP V F' b (ok ∧ x < 2 ^ n) (N * 2 ^ n + x) (m + n) w' := by
  rcases h.ws with ⟨h1, h2, h3⟩ | ⟨h1, h2⟩
  · by_cases hx2 : x < 2 ^ n
    · refine (put_ok b N m x n F w h2 h3 hn hx2 hm).mono ?_
      rintro e w' ⟨rfl, F', k1, k2, k3⟩
      exact ⟨F', rfl, .inl ⟨⟨h1, hx2⟩, k1, k3⟩, h.ad.trans k2⟩
    · refine (put_bad b N m x n F w h2 h3 hx (.inr (.inr ⟨n, rfl, hn, Nat.le_of_not_lt hx2⟩))).mono ?_
      rintro e w' ⟨rfl, k1, k2⟩
      exact ⟨F, rfl, .inr ⟨fun h => hx2 h.2, k1⟩, h.ad.trans k2⟩
  · refine (put_err b x n F w h2).mono ?_
    rintro e w' ⟨rfl, rfl⟩
    exact ⟨F, rfl, .inr ⟨fun h => h1 h.1, h2⟩, h.ad⟩
theorem WP.done_ [Decidable ok] (h : WP V F b ok N m w) (hm : m ≤ 1000000000) :
    Calls Tryz.prog 94 #[.pointer (some ⟨b, 0, none⟩)] w fun e w' => ∃ A n k F', e = .returned (.tuple #[.slice A n k, .int .i64 (if ok then 0 else 2)]) ∧ (ok → n = qn m ∧ Sl w' F' 5 1 (.slice A n k) n ((rowOf N m).map u8)) ∧ Adv Nul V F' w' := by
  rcases h.ws with ⟨h1, h2, h3⟩ | ⟨h1, h2⟩
  · refine (done_ok b N m F w h2 hm).mono ?_
    rintro e w' ⟨v, F', rfl, k1, k2⟩
    obtain ⟨A, k, rfl, _⟩ := k1.form0
    exact ⟨A, _, k, F', by rw [if_pos h1], fun _ => ⟨rfl, k1⟩, (h.ad.sub (fun _ x => x.elim)).trans k2⟩
  · refine (done_err b F w h2).mono ?_
    rintro e w' ⟨rfl, k2⟩
    exact ⟨none, 0, 0, Nul, by rw [if_neg h1], fun h => absurd h h1, (h.ad.sub (fun _ x => x.elim)).trans k2⟩
end
theorem zeros_list (m : Nat) : (Builtin.zeroCells (#[.int .u8 0] : Array Value) m).toList = List.replicate m (u8 0) := by
  apply List.ext_getElem
  · simp [Builtin.zeroCells]
  · intro j h1 h2
    simp [Builtin.zeroCells, Nat.mod_one, u8]
theorem zeros_size (m : Nat) : (Builtin.zeroCells (#[.int .u8 0] : Array Value) m).size = m := by simp [Builtin.zeroCells]
theorem cells_u8 (x : Int) : (Value.int .u8 x).cells = #[.int .u8 x] := rfl
theorem run_append_noughts {w : World} {ty : TypeId} {g cap n m : Nat} {xs : List Value} (hown : w.ownsRow 0 5 1 (.slice (some ⟨g, 0, none⟩) n cap) n xs) (hm : 0 < m) (hn : n + m ≤ 1000000000) :
    ∃ v' w', (Builtin.append_ #[118, 3] ty #[.slice (some ⟨g, 0, none⟩) n cap, .int .i64 (m : Int)]).run Tryz.prog w = .ok v' w' ∧ w'.ownsRow 0 5 1 v' (n + m) (xs ++ List.replicate m (u8 0)) ∧ w.grownBy w' (some g) ∧ (v'.ownBlock = some g ∨ v'.ownBlock = some w.heap.size) := by
  obtain ⟨i, hi, hz0, hz1, hz2⟩ := info_parts Tryz.infoU8
  have ht := Tryz.underlying118
  have htn := Tryz.underlying3
  have hcells : ∀ j u, xs[j]? = some u → w.cell? ((⟨g, 0, none⟩ : Addr).add j) = some u := hown.cells (g := g) rfl
  obtain ⟨hxl, hh⟩ := hown
  rcases hh with ⟨h, _⟩ | ⟨g', cap', cur, e, hbg, hg, hnc, hcm, hcs, htake⟩
  · cases h
  · injection e with e1 e2 e3
    injection e1 with e1
    injection e1 with e1
    subst e1
    subst e3
    rw [Nat.mul_one] at hcs hxl htake
    have hlen : (xs ++ List.replicate m (u8 0)).length = (n + m) * 1 := by simp [hxl]
    have hw : IntKind.i64.wrap (m : Int) = m := by rw [IntKind.wrap_i64]; omega
    have hm0 : m ≠ 0 := by omega
    have hneg : ¬ ((m : Int) < 0) := by omega
    have h48 : ¬ (281474976710656 < (m : Int)) := by omega
    by_cases hroom : n + m ≤ cap
    · have hst := run_storeCells_at Tryz.prog g n 5 (List.replicate m (u8 0)) 0 cur w hg (by rw [List.length_replicate, hcs]; omega) (by intro u hu; rw [(List.mem_replicate.1 hu).2]; rfl)
      simp only [Nat.add_zero] at hst
      have hr : (Builtin.append_ #[118, 3] ty #[.slice (some ⟨g, 0, none⟩) n cap, .int .i64 (m : Int)]).run Tryz.prog w = .ok (.slice (some ⟨g, 0, none⟩) (n + m) cap) (w.setRow g (cur.toList.take n ++ List.replicate m (u8 0) ++ cur.toList.drop (n + (List.replicate m (u8 0)).length)).toArray) := by
        simp [Builtin.append_, run_underlying ht, run_underlying htn, sizeOf, typeInfo, zeroValue, hi, hz0, hz1, hz2, asInt, asIntOf, hw, hroom, hneg, hm0, h48, Addr.add_lit, cells_u8, zeros_list]
        have h2 := hst
        simp at h2
        rw [h2]
        rfl
      refine ⟨_, _, hr, ⟨hlen, .inr ⟨g, cap, _, rfl, Nat.zero_le _, setRow_heap w g cur _ _ _ hg, hroom, hcm, ?_, ?_⟩⟩, ⟨rfl, rfl, rfl, by simp, fun k _ hk => setRow_other w g k _ (fun e => hk (by rw [e]))⟩, .inl rfl⟩
      · simp only [List.size_toArray, List.length_append, List.length_take, List.length_drop, Array.length_toList, List.length_replicate, Nat.mul_one]
        omega
      · rw [htake, ← hlen]
        exact List.take_left
    · have hold : (Builtin.firstCells i.size n (.slice (some ⟨g, 0, none⟩) n cap)).run Tryz.prog w.drew = .ok xs.toArray w.drew := run_firstCells_some w.drew i.size n ⟨g, 0, none⟩ n cap xs (by rw [hz1, Nat.mul_one]; exact hxl) (fun j u hu => hcells j u hu)
      have hr := Lib.run_append_grow_zeros (P := Tryz.prog) w 118 3 ty 5 i (.int .u8 0) .i64 .i64 ht htn hi hz0 (some ⟨g, 0, none⟩) n cap xs hold m hm (by rw [hz1]; decide) (by omega) (by omega) (by rw [hz2]; omega) (growslice_fits (by omega) (by rw [hz2]; omega))
      have hge := grownCap_ge w (n + m) cap 5
      have hcm' : grownCap w (n + m) cap 5 ≤ maxLen := grownCap_le_maxLen w (n + m) cap 5 (by unfold maxLen; omega)
      refine ⟨_, _, hr, ⟨hlen, .inr ⟨w.heap.size, _, _, rfl, Nat.zero_le _, heap_alloc_new w.drew _, hge, hcm', ?_, ?_⟩⟩, ⟨rfl, rfl, rfl, by simp, fun k hk _ => Below.heap_alloc w.drew _ _ hk⟩, .inr rfl⟩
      · simp only [Array.size_append, List.size_toArray, cells_u8, zeros_size, hxl, Nat.mul_one]
        omega
      · simp only [Array.toList_append, cells_u8, zeros_list, ← hlen]
        exact List.take_left
theorem wpList_append_noughts {w : World} {ops : Array Oper} {rest : List Oper} {o : Oper} {a : Act} {Q : Exit → Act → World → Prop} (hgd : o.guard = none) (s x : Operand) (ho : o.op = .call { callee := .builtin .append, args := #[s, x], argTypes := #[118, 3] })
    {g cap n m : Nat} {xs : List Value} (hs : a.eval s = .slice (some ⟨g, 0, none⟩) n cap) (hx : a.eval x = .int .i64 (m : Int)) (hown : w.ownsRow 0 5 1 (.slice (some ⟨g, 0, none⟩) n cap) n xs) (hm : 0 < m) (hn : n + m ≤ 1000000000)
    (h : ∀ v' w', w'.ownsRow 0 5 1 v' (n + m) (xs ++ List.replicate m (u8 0)) → w.grownBy w' (some g) → (v'.ownBlock = some g ∨ v'.ownBlock = some w.heap.size) → wpList Tryz.prog ops Q rest (a.put o.dst v') w') : wpList Tryz.prog ops Q (o :: rest) a w := by
  refine wpList_plain hgd fun K hK => ?_
  obtain ⟨v', w', hr, h2, h3, h5⟩ := run_append_noughts (ty := o.type) hown hm hn
  unfold Oper.wp execOp
  simp only [ho, resolve, invoke, builtin, Sem.run_bind, Sem.run_pure, Result.andThen_ok, List.map_toArray, List.map_cons, List.map_nil, hs, hx, hr]
  exact hK _ _ (h v' w' h2 h3 h5)
end Go.Proofs.YtcglfknkkeaegaaGreatDoor
