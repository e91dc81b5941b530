/- HeadKept: what a torn write of a head leaves (arithmetic). RedoPlays, pure: what all sectors of a disk keep, whatever is torn. The ring goes around: a log while the power stays (arithmetic): disks. What holds of the log and its disk, whatever has been done. The statements' lists of calls on a disk. Puts that came in: opened. The calls on a log that came in. -/
import Derived.Test.YtbdjlmdbnoghnaaGreatMh31
import Derived.Test.YtbdjlmdbnoghnaaGreatMh23
import Derived.Test.YtbdjlmdbnoghnaaGreatMh16
import Derived.Test.YtbdjlmdbnoghnaaGreatMh12
import Derived.Test.YtbdjlmdbnoghnaaGreatMh01
import Derived.Deep.Slices
import Derived.Deep.Fields
import Derived.ChangeArms
import Derived.Test.YtbdjlmdbnoghnaaGreatMh27
namespace Go.Proofs.YtbdjlmdbnoghnaaGreat
open Go.RowKit

theorem seal_front {p : Pc} {i : Nat} (hi : i < 8) : (sealL p)[i]? = (be 8 (stamp p.e p.c))[i]? := by
  rw [← sealL_take8, List.getElem?_take_of_lt hi]
theorem seal_back {p : Pc} (hp : p.d.length ≤ 106) {i : Nat} : (sealL p)[120 + i]? = (be 8 (stamp p.e p.c))[i]? := by
  rw [← sealL_drop120 hp, List.getElem?_drop]
/-- what two sectors say -/
def two (S0 S1 : List Nat) : Option Hd := nx (unO S0 0) (unO S1 1)
end Go.Proofs.YtbdjlmdbnoghnaaGreat
namespace Go.Proofs.YtbdjlmdbnoghnaaGreat
open Go.RowKit Go.Maps

/-- of all that lasts and all that waits -/
def DAll (P : Nat → List Nat → Prop) (s : DS) : Prop := (∀ i, i < s.L.length → P i (s.L.getD i [])) ∧ ∀ q ∈ s.Q, P q.1 q.2
section
variable {P P' : Nat → List Nat → Prop} {s : DS}
theorem DAll.mono (h : DAll P s) (hP : ∀ i l, P i l → P' i l) : DAll P' s := ⟨fun i hi => hP _ _ (h.1 i hi), fun q hq => hP _ _ (h.2 q hq)⟩
theorem getD_setP (L : List (List Nat)) (x i : Nat) (l : List Nat) (hi : i < L.length) : (L.set x l).getD i [] = if i = x then l else L.getD i [] := by
  simp only [List.getD_eq_getElem?_getD]
  by_cases h : i = x
  · subst h
    rw [if_pos rfl, List.getElem?_set_self hi]
    rfl
  · rw [if_neg h, List.getElem?_set_ne (fun e => h e.symm)]
theorem all_lays : ∀ (Q : List (Nat × List Nat)) (L : List (List Nat)), (∀ i, i < L.length → P i (L.getD i [])) → (∀ q ∈ Q, P q.1 q.2) → ∀ i, i < L.length → P i ((lays L Q).getD i [])
  | [], _, h, _, i, hi => h i hi
  | q :: Q, L, h, hq, i, hi => by
    have := all_lays Q (L.set q.1 q.2) (fun j hj => by
      rw [List.length_set] at hj
      rw [getD_setP L q.1 j q.2 hj]
      split
      · next e => rw [e]; exact hq q (List.mem_cons_self ..)
      · exact h j hj) (fun q' h' => hq q' (List.mem_cons_of_mem _ h')) i (by rw [List.length_set]; exact hi)
    exact this
theorem DAll.isS (h : DAll P s) {i : Nat} (hi : i < s.L.length) : P i (isS s i) := all_lays s.Q s.L h.1 h.2 i hi
theorem DAll.step (h : DAll P s) : DAll P (stepS s).1 := by
  unfold DAll
  rw [stepS_L, stepS_Q]
  exact h
theorem DAll.write (h : DAll P s) (i : Int) (b : List Nat) (hb : ∀ j : Nat, (j : Int) = i → b.length = 128 → P j b) : DAll P (writeS s i b).1 := by
  unfold writeS
  split
  · exact h
  · next hn =>
    split
    · refine ⟨fun j hj => ?_, fun q hq => ?_⟩
      · rw [show ({ (stepS s).1 with Q := s.Q ++ [(i.toNat, b)] } : DS).L = s.L from stepS_L s] at hj ⊢
        exact h.1 j hj
      · rcases List.mem_append.1 hq with hq | hq
        · exact h.2 q hq
        · rw [List.mem_singleton] at hq
          subst hq
          exact hb i.toNat (by omega) (Decidable.byContradiction fun e => hn (.inr (.inr e)))
    · exact h.step
theorem DAll.flush (h : DAll P s) : DAll P (flushS s).1 := by
  unfold flushS
  split
  · refine ⟨fun j hj => ?_, fun q hq => absurd hq (by simp)⟩
    have hj' : j < s.L.length := by
      have : (lays s.L s.Q).length = s.L.length := lays_length s.Q s.L
      rw [← this]; exact hj
    exact all_lays s.Q s.L h.1 h.2 j hj'
  · exact h.step
theorem DAll.fuse (h : DAll P s) (k : Int) : DAll P (fuseS s k).1 := by
  unfold fuseS
  split
  · exact h
  · split
    · exact h
    · exact h
theorem DAll.crash (h : DAll P s) (hm : ∀ i a b m, P i a → P i b → P i (a.take m ++ b.drop m)) (ks : List Int) (torn : Int) : DAll P (crashS s ks torn) := by
  refine ⟨?_, fun q hq => absurd hq (by simp [crashS])⟩
  show ∀ i, i < (laysBy (kept ks torn s.Q.length) s.Q s.L s.Q.length).length → P i ((laysBy (kept ks torn s.Q.length) s.Q s.L s.Q.length).getD i [])
  generalize kept ks torn s.Q.length = c
  suffices H : ∀ k, k ≤ s.Q.length → ∀ i, i < s.L.length → P i ((laysBy c s.Q s.L k).getD i []) from fun i hi => H _ (Nat.le_refl _) i (by rwa [laysBy_length] at hi)
  intro k
  induction k with
  | zero => intro _ i hi; exact h.1 i hi
  | succ k ih =>
    intro hk i hi
    show P i ((layN (laysBy c s.Q s.L k) (s.Q.getD k (0, [])) (c k)).getD i [])
    unfold layN
    rw [getD_setP _ _ _ _ (by rw [laysBy_length]; exact hi)]
    split
    · next e =>
      subst e
      exact hm _ _ _ _ (h.2 _ (getD_mem (by omega))) (ih (by omega) _ hi)
    · exact ih (by omega) i hi
end
/-- one byte of a sector, or more, that tearing keeps -/
def ByAt (j : Nat) (p : Nat → Prop) (l : List Nat) : Prop := l.length = 128 ∧ p (l.getD j 0)
theorem ByAt.mix {j m : Nat} {p : Nat → Prop} {a b : List Nat} (ha : ByAt j p a) (hb : ByAt j p b) : ByAt j p (a.take m ++ b.drop m) := by
  obtain ⟨la, pa⟩ := ha
  obtain ⟨lb, pb⟩ := hb
  by_cases hm : m ≤ 128
  · refine ⟨by rw [List.length_append, List.length_take, List.length_drop]; omega, ?_⟩
    rw [List.getD_eq_getElem?_getD]
    by_cases hj : j < m
    · rw [List.getElem?_append_left (by rw [List.length_take]; omega), List.getElem?_take_of_lt hj, ← List.getD_eq_getElem?_getD]
      exact pa
    · rw [List.getElem?_append_right (by rw [List.length_take]; omega), List.getElem?_drop, List.length_take, show m + (j - min m a.length) = j by omega, ← List.getD_eq_getElem?_getD]
      exact pb
  · rw [List.take_of_length_le (by omega), List.drop_of_length_le (by omega), List.append_nil]
    exact ⟨la, pa⟩
/-- what each sector is, k the steps -/
def SecB (n k i : Nat) (l : List Nat) : Prop := (l.length = 128 ∧ ∀ x ∈ l, x < 256) ∧
  (i < n + 2 → ByAt 0 (· = 0) l ∧ ByAt 1 (· = 0) l ∧ ByAt 2 (· ≤ k) l ∧ ByAt 120 (· = 0) l ∧ ByAt 121 (· = 0) l ∧ ByAt 122 (· ≤ k) l) ∧
  (i < 2 → ByAt 3 (· = 0) l ∧ ByAt 4 (· = 0) l ∧ ByAt 5 (· = 0) l ∧ ByAt 6 (· = 0) l ∧ ByAt 7 (· ≤ k) l)
theorem SecB.mix {n k i m : Nat} {a b : List Nat} (ha : SecB n k i a) (hb : SecB n k i b) : SecB n k i (a.take m ++ b.drop m) := by
  refine ⟨⟨?_, fun x hx => ?_⟩, fun hi => ?_, fun hi => ?_⟩
  · have := (ByAt.mix (m := m) (j := 0) (p := fun _ => True) ⟨ha.1.1, trivial⟩ ⟨hb.1.1, trivial⟩).1
    exact this
  · rcases List.mem_append.1 hx with h | h
    · exact ha.1.2 x (List.mem_of_mem_take h)
    · exact hb.1.2 x (List.mem_of_mem_drop h)
  · obtain ⟨a1, a2, a3, a4, a5, a6⟩ := ha.2.1 hi
    obtain ⟨b1, b2, b3, b4, b5, b6⟩ := hb.2.1 hi
    exact ⟨a1.mix b1, a2.mix b2, a3.mix b3, a4.mix b4, a5.mix b5, a6.mix b6⟩
  · obtain ⟨a1, a2, a3, a4, a5⟩ := ha.2.2 hi
    obtain ⟨b1, b2, b3, b4, b5⟩ := hb.2.2 hi
    exact ⟨a1.mix b1, a2.mix b2, a3.mix b3, a4.mix b4, a5.mix b5⟩
theorem SecB.le {n k k' i : Nat} {l : List Nat} (h : SecB n k i l) (hk : k ≤ k') : SecB n k' i l := by
  refine ⟨h.1, fun hi => ?_, fun hi => ?_⟩
  · obtain ⟨a1, a2, a3, a4, a5, a6⟩ := h.2.1 hi
    exact ⟨a1, a2, ⟨a3.1, Nat.le_trans a3.2 hk⟩, a4, a5, ⟨a6.1, Nat.le_trans a6.2 hk⟩⟩
  · obtain ⟨a1, a2, a3, a4, a5⟩ := h.2.2 hi
    exact ⟨a1, a2, a3, a4, ⟨a5.1, Nat.le_trans a5.2 hk⟩⟩
/-- a home's -/
theorem SecB.home {n k i : Nat} {l : List Nat} (hl : l.length = 128) (h8 : ∀ x ∈ l, x < 256) (hi : n + 2 ≤ i) : SecB n k i l := ⟨⟨hl, h8⟩, fun h => by omega, fun h => by omega⟩
theorem SecB.new {n k i : Nat} : SecB n k i (List.replicate 128 0) := by
  refine ⟨⟨by simp, fun x hx => by rw [List.mem_replicate] at hx; omega⟩, fun _ => ?_, fun _ => ?_⟩
  · exact ⟨⟨by simp, by decide⟩, ⟨by simp, by decide⟩, ⟨by simp, by show _ ≤ k; simp [List.getD_eq_getElem?_getD]⟩, ⟨by simp, by decide⟩, ⟨by simp, by decide⟩, ⟨by simp, by show _ ≤ k; simp [List.getD_eq_getElem?_getD]⟩⟩
  · exact ⟨⟨by simp, by decide⟩, ⟨by simp, by decide⟩, ⟨by simp, by decide⟩, ⟨by simp, by decide⟩, ⟨by simp, by show _ ≤ k; simp [List.getD_eq_getElem?_getD]⟩⟩
theorem seal_byte {p : Pc} (h : p.d.length ≤ 106) {j : Nat} (hj : j < 8) : (sealL p).getD j 0 = stamp p.e p.c / 256 ^ (7 - j) % 256 ∧ (sealL p).getD (120 + j) 0 = stamp p.e p.c / 256 ^ (7 - j) % 256 := by
  have hb := be_get 8 (stamp p.e p.c) j hj
  rw [show 8 - 1 - j = 7 - j by omega] at hb
  obtain ⟨z, hz⟩ : ∃ z, z = stamp p.e p.c / 256 ^ (7 - j) % 256 := ⟨_, rfl⟩
  rw [← hz] at hb ⊢
  exact ⟨by rw [List.getD_eq_getElem?_getD, seal_front hj, hb, Option.getD_some], by rw [List.getD_eq_getElem?_getD, seal_back h, hb, Option.getD_some]⟩
theorem div_byte {x a b r : Nat} (h : x = a * b + r) (hr : r < b) : x / b = a := by
  subst h
  rw [Nat.mul_comm, Nat.mul_add_div (by omega), Nat.div_eq_of_lt hr, Nat.add_zero]
theorem stamp_bytes {e c : Nat} (he : e ≤ 255) (hc : c ≤ 1099511627775) : stamp e c / 256 ^ (7 - 0) % 256 = 0 ∧ stamp e c / 256 ^ (7 - 1) % 256 = 0 ∧ stamp e c / 256 ^ (7 - 2) % 256 = e := by
  have h7 : (256 : Nat) ^ (7 - 0) = 72057594037927936 := by decide
  have h6 : (256 : Nat) ^ (7 - 1) = 281474976710656 := by decide
  have h5 : (256 : Nat) ^ (7 - 2) = 1099511627776 := by decide
  rw [h7, h6, h5]
  unfold stamp
  have hs : e * 1099511627776 + c < 281474976710656 := by omega
  refine ⟨?_, ?_, ?_⟩
  · rw [Nat.div_eq_of_lt (by omega)]
  · rw [Nat.div_eq_of_lt hs]
  · rw [div_byte rfl (by omega)]
    omega
theorem stamp_low {e c : Nat} (hc : c ≤ 255) : stamp e c / 256 ^ (7 - 3) % 256 = 0 ∧ stamp e c / 256 ^ (7 - 4) % 256 = 0 ∧ stamp e c / 256 ^ (7 - 5) % 256 = 0 ∧ stamp e c / 256 ^ (7 - 6) % 256 = 0 ∧ stamp e c / 256 ^ (7 - 7) % 256 = c := by
  have h4 : (256 : Nat) ^ (7 - 3) = 4294967296 := by decide
  have h3 : (256 : Nat) ^ (7 - 4) = 16777216 := by decide
  have h2 : (256 : Nat) ^ (7 - 5) = 65536 := by decide
  have h1 : (256 : Nat) ^ (7 - 6) = 256 := by decide
  have h0 : (256 : Nat) ^ (7 - 7) = 1 := by decide
  rw [h4, h3, h2, h1, h0]
  unfold stamp
  have e4 : (e * 1099511627776 + c) / 4294967296 = e * 256 := div_byte (r := c) (by omega) (by omega)
  have e3 : (e * 1099511627776 + c) / 16777216 = e * 65536 := div_byte (r := c) (by omega) (by omega)
  have e2 : (e * 1099511627776 + c) / 65536 = e * 16777216 := div_byte (r := c) (by omega) (by omega)
  have e1 : (e * 1099511627776 + c) / 256 = e * 4294967296 := div_byte (r := c) (by omega) (by omega)
  rw [e4, e3, e2, e1, Nat.div_one]
  refine ⟨by omega, by omega, by omega, by omega, by omega⟩
theorem SecB.seal {n k i : Nat} {p : Pc} (h : p.ok) (hd : ∀ x ∈ p.d, x < 256) (he : p.e ≤ k) (hk : k ≤ 255) (hi : i < 2 → p.c ≤ k) : SecB n k i (sealL p) := by
  have hl := sealL_length h.2.2
  have hs := fun (j : Nat) (hj : j < 8) => seal_byte h.2.2 hj
  obtain ⟨s0, s1, s2⟩ := stamp_bytes (e := p.e) (c := p.c) (by omega) h.2.1
  refine ⟨⟨hl, sealL_lt h.2.2 hd⟩, fun _ => ?_, fun h2 => ?_⟩
  · exact ⟨⟨hl, (hs 0 (by omega)).1.trans s0⟩, ⟨hl, (hs 1 (by omega)).1.trans s1⟩, ⟨hl, by rw [(hs 2 (by omega)).1, s2]; exact he⟩, ⟨hl, (hs 0 (by omega)).2.trans s0⟩, ⟨hl, (hs 1 (by omega)).2.trans s1⟩, ⟨hl, by rw [(hs 2 (by omega)).2, s2]; exact he⟩⟩
  · obtain ⟨t3, t4, t5, t6, t7⟩ := stamp_low (e := p.e) (c := p.c) (by have := hi h2; omega)
    exact ⟨⟨hl, (hs 3 (by omega)).1.trans t3⟩, ⟨hl, (hs 4 (by omega)).1.trans t4⟩, ⟨hl, (hs 5 (by omega)).1.trans t5⟩, ⟨hl, (hs 6 (by omega)).1.trans t6⟩, ⟨hl, by rw [(hs 7 (by omega)).1, t7]; exact hi h2⟩⟩
end Go.Proofs.YtbdjlmdbnoghnaaGreat
namespace Go.Proofs.YtbdjlmdbnoghnaaGreat
open Go.RowKit Go.Maps

theorem cutP_mem {e c : Nat} {l : List Nat} {p : Pc} (h : p ∈ cutP e c l) : p.e = e ∧ ∃ i, i < needN l.length ∧ p.c = c + i := by
  unfold cutP at h
  obtain ⟨i, hi, rfl⟩ := List.mem_map.mp h
  exact ⟨rfl, i, List.mem_range.mp hi, rfl⟩

theorem topE_le {s : DS} {m : Nat} : ∀ k, (∀ j, j < k → endX (isS s j) ≤ m ∧ endY (isS s j) ≤ m) → topE s k ≤ m
  | 0, _ => Nat.zero_le _
  | k + 1, h => by
    have h1 := topE_le (s := s) (m := m) k (fun j hj => h j (by omega))
    have h2 := h k (by omega)
    unfold topE
    omega
end Go.Proofs.YtbdjlmdbnoghnaaGreat
namespace Go.Proofs.YtbdjlmdbnoghnaaGreat
open Go.RowKit Go.Maps

/-- k: the heads saved and the openings, and one -/
structure PI (n N k : Nat) (s : DS) (g : LS) : Prop where
  all : DAll (SecB n k) s
  tn : g.h.t ≤ g.next
  fr : g.next - g.h.t ≤ n
  nx : g.next ≤ 1099511627776
  ep : g.ep ≤ k
  gn : g.h.g ≤ k
  aok : AOk (N - 2 - n) g.A
theorem PI.le {n N k k' : Nat} {s : DS} {g : LS} (h : PI n N k s g) (hk : k ≤ k') : PI n N k' s g :=
  ⟨h.all.mono (fun _ _ x => x.le hk), h.tn, h.fr, h.nx, Nat.le_trans h.ep hk, Nat.le_trans h.gn hk, h.aok⟩
theorem lay_dall {n k : Nat} (hk : k ≤ 255) : ∀ (P : List Pc) (s : DS), DAll (SecB n k) s → (∀ p ∈ P, p.ok ∧ (∀ x ∈ p.d, x < 256) ∧ p.e ≤ k) → DAll (SecB n k) (layAll s n P).1 ∧ (layAll s n P).1.Q.length ≤ s.Q.length + P.length
  | [], s, h, _ => ⟨h, Nat.le_refl _⟩
  | p :: P, s, h, hp => by
    obtain ⟨h1, h2, h3⟩ := hp p (by simp)
    have hw := h.write ((2 + p.c % n : Nat) : Int) (sealL p) (fun j hj _ => SecB.seal h1 h2 h3 hk (fun hlt => by omega))
    have hq := few_write s ((2 + p.c % n : Nat) : Int) (sealL p)
    unfold layAll
    rw [List.length_cons]
    split
    · obtain ⟨k1, k2⟩ := lay_dall hk P _ hw (fun q hq => hp q (by simp [hq]))
      exact ⟨k1, by omega⟩
    · exact ⟨hw, by omega⟩
theorem PI.write {n N k : Nat} {s : DS} {g : LS} {ps : List Pt} (h : PI n N k s g) (hk : k ≤ 255) (h8 : ∀ p ∈ ps, ∀ x ∈ p.d, x < 256) : PI n N k (writeG s n N g ps).1.1 (writeG s n N g ps).1.2 ∧ (writeG s n N g ps).1.1.Q.length ≤ s.Q.length + n := by
  unfold writeG
  split
  · split
    · next ht =>
      split
      · next hc =>
        obtain ⟨hl, hq⟩ := lay_dall hk (cutP g.ep g.next (recB ps)) s h.all (fun p hp => ⟨cutP_ok hc.1 p hp, cutP_bytes (recB_lt ps) p hp, by rw [(cutP_mem hp).1]; exact h.ep⟩)
        have hlen : (cutP g.ep g.next (recB ps)).length = needT ps := cutP_length _ _ _
        have hf : needT ps ≤ n - (g.next - g.h.t) := hc.2
        have hfr := h.fr
        have htn := h.tn
        have hnx : g.next + needT ps ≤ 1099511627776 := by
          have hce := hc.1
          unfold cutE at hce
          have h1 : 1 ≤ needN (recB ps).length := by unfold needN; omega
          unfold needT
          split at hce
          · omega
          · cases hce
        rw [hlen] at hq
        split
        · refine ⟨⟨hl, ?_, ?_, hnx, h.ep, h.gn, ?_⟩, by simp only; omega⟩
          · show g.h.t ≤ g.next + needT ps; omega
          · show g.next + needT ps - g.h.t ≤ n; omega
          · refine h.aok.putA (fun p hp => ?_) h8 (by rw [Int.toNat_natCast]; exact Nat.le_refl _)
            obtain ⟨i, hi, rfl⟩ := List.getElem_of_mem hp
            exact ⟨(ht.2 i hi).1, (ht.2 i hi).2.1⟩
        · exact ⟨⟨hl, h.tn, h.fr, h.nx, h.ep, h.gn, h.aok⟩, by simp only; omega⟩
      · exact ⟨h, Nat.le_add_right _ _⟩
    · exact ⟨h, Nat.le_add_right _ _⟩
  · exact ⟨h, Nat.le_add_right _ _⟩
theorem PI.sync {n N k : Nat} {s : DS} {g : LS} (h : PI n N k s g) : PI n N k (syncG s g).1.1 (syncG s g).1.2 ∧ (syncG s g).1.1.Q.length ≤ s.Q.length := by
  unfold syncG
  split
  · exact ⟨⟨h.all.flush, h.tn, h.fr, h.nx, h.ep, h.gn, h.aok⟩, few_flush s⟩
  · exact ⟨h, Nat.le_refl _⟩
theorem homes_dall {n k : Nat} : ∀ (T : List (Nat × List Nat)) (s : DS), DAll (SecB n k) s → (∀ q ∈ T, q.2.length = 128 ∧ ∀ x ∈ q.2, x < 256) → DAll (SecB n k) (putHomes s n T).1 ∧ (putHomes s n T).1.Q.length ≤ s.Q.length + T.length
  | [], s, h, _ => ⟨h, Nat.le_refl _⟩
  | p :: P, s, h, hp => by
    obtain ⟨h1, h2⟩ := hp p (by simp)
    have hw := h.write ((2 + n + p.1 : Nat) : Int) p.2 (fun j hj _ => SecB.home h1 h2 (by omega))
    have hq := few_write s ((2 + n + p.1 : Nat) : Int) p.2
    unfold putHomes
    rw [List.length_cons]
    split
    · obtain ⟨k1, k2⟩ := homes_dall P _ hw (fun q hq => hp q (by simp [hq]))
      exact ⟨k1, by omega⟩
    · exact ⟨hw, by omega⟩
theorem yaway_mem {A : Nat → Option (List Nat)} {M : Nat} {q : Nat × List Nat} (h : q ∈ awayL A M) : A q.1 = some q.2 := by
  unfold awayL keysL at h
  obtain ⟨i, hi, rfl⟩ := List.mem_map.mp h
  have := (List.mem_filter.mp hi).2
  obtain ⟨l, hl⟩ := Option.isSome_iff_exists.mp this
  simp only
  rw [hl]; rfl
theorem yaway_len (A : Nat → Option (List Nat)) (M : Nat) : (awayL A M).length ≤ M := by
  unfold awayL keysL
  rw [List.length_map]
  exact Nat.le_trans (List.length_filter_le _ _) (by simp)
theorem bring_dall {n k M : Nat} {s : DS} {A : Nat → Option (List Nat)} (h : DAll (SecB n k) s) (hA : AOk M A) : DAll (SecB n k) (bringS s n M A).1 ∧ (bringS s n M A).1.Q.length ≤ s.Q.length + M := by
  have hf := few_flush s
  have hl := yaway_len A M
  obtain ⟨h1, h2⟩ := homes_dall (awayL A M) (flushS s).1 h.flush (fun q hq => (hA q.1 q.2 (yaway_mem hq)).2)
  unfold bringS
  split
  · split
    · exact ⟨h1.flush, by have := few_flush (putHomes (flushS s).1 n (awayL A M)).1; omega⟩
    · exact ⟨h1, by omega⟩
  · exact ⟨h.flush, by omega⟩
theorem save_dall {n N k : Nat} {s : DS} {e : Nat} {x : Hd} (h : DAll (SecB n k) s) (he : e ≤ k) (hk : k ≤ 255) (hg : x.g ≤ k) : DAll (SecB n k) (saveG s N e x).1 ∧ (saveG s N e x).1.Q.length ≤ s.Q.length + 1 := by
  unfold saveG
  split
  · exact ⟨h, Nat.le_succ _⟩
  · unfold saveS
    split
    · next hc =>
      have hw := h.write (0 + ((x.g % 2 : Nat) : Int)) (hSec e x) (fun j hj _ => SecB.seal (hPc_ok hc.2) (hdata_lt x) he hk (fun _ => hg))
      have hq := few_write s (0 + ((x.g % 2 : Nat) : Int)) (hSec e x)
      split
      · exact ⟨hw.flush, by have := few_flush (writeS s (0 + ((x.g % 2 : Nat) : Int)) (hSec e x)).1; omega⟩
      · exact ⟨hw, hq⟩
    · exact ⟨h, Nat.le_succ _⟩
theorem PI.check {n N k : Nat} {s : DS} {g : LS} (h : PI n N k s g) (hk : k + 1 ≤ 255) : PI n N (k + 1) (checkG s n N g).1.1 (checkG s n N g).1.2 ∧ (checkG s n N g).1.1.Q.length ≤ s.Q.length + (N - 2 - n) + 1 := by
  have h' := h.le (Nat.le_succ k)
  obtain ⟨h1, h2⟩ := bring_dall (M := N - 2 - n) h'.all h.aok
  obtain ⟨h3, h4⟩ := save_dall (N := N) (x := hNew g) h1 h'.ep hk (Nat.succ_le_succ h.gn)
  unfold checkG
  split
  · split
    · split
      · exact ⟨⟨h3, Nat.le_refl _, by simp [hNew], h.nx, h'.ep, Nat.succ_le_succ h.gn, AOk.none _⟩, by simp only; omega⟩
      · exact ⟨⟨h3, h.tn, h.fr, h.nx, h'.ep, h'.gn, h.aok⟩, by simp only; omega⟩
    · exact ⟨⟨h1, h.tn, h.fr, h.nx, h'.ep, h'.gn, h.aok⟩, by simp only; omega⟩
  · exact ⟨h', by simp only; omega⟩
theorem PI.fuse {n N k : Nat} {s : DS} {g : LS} (h : PI n N k s g) (a : Int) : PI n N k (fuseS s a).1 g := ⟨h.all.fuse a, h.tn, h.fr, h.nx, h.ep, h.gn, h.aok⟩
theorem val3_le {l : List Nat} {k a : Nat} (h0 : ByAt a (· = 0) l) (h1 : ByAt (a + 1) (· = 0) l) (h2 : ByAt (a + 2) (· ≤ k) l) (ha : a + 3 ≤ 128) : val ((l.drop a).take 3) ≤ k := by
  have hl := h0.1
  have e : (l.drop a).take 3 = [l.getD a 0, l.getD (a + 1) 0, l.getD (a + 2) 0] := by
    apply List.ext_getElem
    · simp; omega
    · intro i hi hi'
      simp at hi'
      rw [List.getElem_take, List.getElem_drop]
      have h3 : i = 0 ∨ i = 1 ∨ i = 2 := by omega
      rcases h3 with rfl | rfl | rfl <;> simp [List.getD_eq_getElem?_getD, show a < l.length by omega, show a + 1 < l.length by omega, show a + 2 < l.length by omega]
  have h2' : l.getD (a + 2) 0 ≤ k := h2.2
  have h0' : l.getD a 0 = 0 := h0.2
  have h1' : l.getD (a + 1) 0 = 0 := h1.2
  rw [e, h0', h1']
  obtain ⟨z, hz⟩ : ∃ z, z = l.getD (a + 2) 0 := ⟨_, rfl⟩
  rw [← hz] at h2' ⊢
  simp [val]
  exact h2'
theorem PI.top {n N k : Nat} {s : DS} {g : LS} (h : PI n N k s g) (hL : s.L.length = N) (hn : n + 2 ≤ N) : topE s (2 + n) ≤ k :=
  topE_le _ fun j hj => by
    obtain ⟨_, h2, _⟩ := h.all.isS (i := j) (by omega)
    obtain ⟨b0, b1, b2, b120, b121, b122⟩ := h2 (by omega)
    exact ⟨val3_le (a := 0) b0 b1 b2 (by decide), val3_le (a := 120) b120 b121 b122 (by decide)⟩
theorem PI.sb {n N k : Nat} {s : DS} {g : LS} (h : PI n N k s g) (hL : s.L.length = N) : SB s N := fun i hi => (h.all.isS (i := i) (by omega)).1.2
theorem val5_le {l : List Nat} {k : Nat} (h3 : ByAt 3 (· = 0) l) (h4 : ByAt 4 (· = 0) l) (h5 : ByAt 5 (· = 0) l) (h6 : ByAt 6 (· = 0) l) (h7 : ByAt 7 (· ≤ k) l) : val ((l.drop 3).take 5) ≤ k := by
  have hl := h3.1
  have e : (l.drop 3).take 5 = [l.getD 3 0, l.getD 4 0, l.getD 5 0, l.getD 6 0, l.getD 7 0] := by
    apply List.ext_getElem
    · simp; omega
    · intro i hi hi'
      simp at hi'
      rw [List.getElem_take, List.getElem_drop]
      have h3 : i = 0 ∨ i = 1 ∨ i = 2 ∨ i = 3 ∨ i = 4 := by omega
      rcases h3 with rfl | rfl | rfl | rfl | rfl <;> simp [List.getD_eq_getElem?_getD, show 3 < l.length by omega, show 4 < l.length by omega, show 5 < l.length by omega, show 6 < l.length by omega, show 7 < l.length by omega]
  have e3 : l.getD 3 0 = 0 := h3.2
  have e4 : l.getD 4 0 = 0 := h4.2
  have e5 : l.getD 5 0 = 0 := h5.2
  have e6 : l.getD 6 0 = 0 := h6.2
  have e7 : l.getD 7 0 ≤ k := h7.2
  rw [e, e3, e4, e5, e6]
  obtain ⟨z, hz⟩ : ∃ z, z = l.getD 7 0 := ⟨_, rfl⟩
  rw [← hz] at e7 ⊢
  simp [val]
  exact e7
theorem unHd_gen {k : Nat} {l : List Nat} {h : Hd} (hl : ∀ x ∈ l, x < 256) (e : unHd l = some h) (h3 : ByAt 3 (· = 0) l) (h4 : ByAt 4 (· = 0) l) (h5 : ByAt 5 (· = 0) l) (h6 : ByAt 6 (· = 0) l) (h7 : ByAt 7 (· ≤ k) l) : h.g ≤ k := by
  unfold unHd at e
  split at e
  · have e := Option.some.inj e
    rw [← e]
    show val (l.take 8) % 1099511627776 ≤ k
    have e8 : l.take 8 = l.take 3 ++ (l.drop 3).take 5 := by
      rw [← List.take_add]
    have hv := val5_le h3 h4 h5 h6 h7
    have hlt : val ((l.drop 3).take 5) < 1099511627776 := by
      have h1 := val_lt _ ((l.drop 3).take 5) rfl (fun x hx => hl x (List.mem_of_mem_drop (List.mem_of_mem_take hx)))
      have h2 : ((l.drop 3).take 5).length = 5 := by have := h3.1; simp; omega
      rw [h2] at h1
      have h3 : (256 : Nat) ^ 5 = 1099511627776 := by decide
      omega
    have ea := val_append (l.take 3) 5 ((l.drop 3).take 5) (by have := h3.1; simp; omega)
    have h3 : (256 : Nat) ^ 5 = 1099511627776 := by decide
    rw [e8, ea, h3]
    omega
  · cases e
theorem curAt_gen {n N k : Nat} {s : DS} (hd : DAll (SecB n k) s) (hL : s.L.length = N) (hN : 2 ≤ N) : ∀ {j : Nat} {h : Hd}, j ≤ 2 → curAt s 0 j = some h → h.g ≤ k
  | 0, h, _, e => by cases e
  | j + 1, h, hj, e => by
    have e1 : nx (curAt s 0 j) (unO (isS s (0 + j)) j) = some h := e
    rw [Nat.zero_add] at e1
    cases ho : unO (isS s j) j with
    | none => rw [ho] at e1; exact curAt_gen hd hL hN (by omega) e1
    | some h' =>
      have hu : unHd (isS s j) = some h' := by
        unfold unO at ho
        rw [Option.bind_eq_some_iff] at ho
        obtain ⟨x, h1, h2⟩ := ho
        split at h2
        · injection h2 with h2; rw [← h2]; exact h1
        · cases h2
      obtain ⟨⟨_, hb⟩, _, h2⟩ := hd.isS (i := j) (by omega)
      obtain ⟨b3, b4, b5, b6, b7⟩ := h2 (by omega)
      have hs := unHd_gen hb hu b3 b4 b5 b6 b7
      rw [ho] at e1
      unfold nx at e1
      simp only at e1
      split at e1
      · injection e1 with e1; rw [← e1]; exact hs
      · exact curAt_gen hd hL hN (by omega) e1
theorem headO_gen {n N k : Nat} {s : DS} (hd : DAll (SecB n k) s) (hL : s.L.length = N) (hN : 2 ≤ N) : (headO s).g ≤ k := by
  unfold headO
  cases h : curAt s 0 2 with
  | none => exact Nat.zero_le _
  | some x => exact curAt_gen hd hL hN (Nat.le_refl _) h
theorem says_end {s : DS} {n : Nat} {H : Int} {r0 : Rp} (hn : 1 ≤ n) : ∀ (f k : Nat) (r : Rp), SaysK s n H r0 k r → ∃ k', SaysK s n H r0 k' (saysR s n H f r)
  | 0, k, r, h => ⟨k, h⟩
  | f + 1, k, r, h => by
    unfold saysR
    split
    · next ho => exact says_end hn f (k + 1) _ (h.step hn ho).1
    · exact ⟨k, h⟩
theorem PI.open_ {n N k : Nat} {s : DS} (hd : DAll (SecB n k) s) (hL : s.L.length = N) (hn : 2 ≤ n ∧ n + 3 ≤ N) : PI n N (k + 1) s (openS s n N) := by
  have hsb : SB s N := fun i hi => (hd.isS (i := i) (by omega)).1.2
  have htop : topE s (2 + n) ≤ k := topE_le _ fun j hj => by
    obtain ⟨_, h2, _⟩ := hd.isS (i := j) (by omega)
    obtain ⟨b0, b1, b2, b120, b121, b122⟩ := h2 (by omega)
    exact ⟨val3_le (a := 0) b0 b1 b2 (by decide), val3_le (a := 120) b120 b121 b122 (by decide)⟩
  obtain ⟨k', hk⟩ := says_end (s := s) (n := n) (H := ((N - 2 - n : Nat) : Int)) (r0 := r0G (openL s n)) (by omega) (n + 1) 0 _ (SaysK.zero _ _ _ _)
  obtain ⟨hg, ht, hf⟩ := headO_small hsb (by omega)
  have hle := hk.le
  have htp := hk.top (by omega)
  have e0 : (r0G (openL s n)).next = (headO s).t := rfl
  refine ⟨hd.mono (fun _ _ x => x.le (Nat.le_succ k)), ?_, ?_, ?_, Nat.succ_le_succ htop, Nat.le_succ_of_le (headO_gen hd hL (by omega)), openS_A s n N⟩
  · show (headO s).t ≤ (saysR s n ((N - 2 - n : Nat) : Int) (n + 1) (r0G (openL s n))).next
    omega
  · show (saysR s n ((N - 2 - n : Nat) : Int) (n + 1) (r0G (openL s n))).next - (headO s).t ≤ n
    omega
  · show (saysR s n ((N - 2 - n : Nat) : Int) (n + 1) (r0G (openL s n))).next ≤ _
    obtain ⟨u, hu⟩ : ∃ u, u = (saysR s n ((N - 2 - n : Nat) : Int) (n + 1) (r0G (openL s n))).next := ⟨_, rfl⟩
    by_cases h : u = (headO s).t
    · omega
    · obtain ⟨hw, hc⟩ := hk.good (u - 1) (by omega) (by omega)
      have hok := dec_ok hw.1 hw.2.1 (hsb (2 + (u - 1) % n) (by have := Nat.mod_lt (u - 1) (show 0 < n by omega); omega))
      have h2 := hok.2.1
      have h3 : (dec (isS s (2 + (u - 1) % n))).c = u - 1 := hc
      omega
theorem PI.crash {n N k : Nat} {s : DS} {g : LS} (h : PI n N k s g) (ks : List Int) (torn : Int) : DAll (SecB n k) (crashS s ks torn) := h.all.crash (fun _ _ _ _ ha hb => ha.mix hb) ks torn
theorem new_dall (n N : Nat) : DAll (SecB n 0) (newS N) := ⟨fun i hi => by
  have e : (newS N).L.getD i [] = List.replicate 128 0 := by
    have hi' : i < N := by simpa [newS] using hi
    simp [newS, List.getD_eq_getElem?_getD, hi']
  rw [e]; exact SecB.new, fun q hq => by cases hq⟩
theorem PI.gok {n N k : Nat} {s : DS} {g : LS} (h : PI n N k s g) (hn : 2 ≤ n ∧ n + 3 ≤ N ∧ N ≤ 4096) (hk : k ≤ 255) (hq : s.Q.length ≤ 900000) : GOk n N s g := ⟨hn, hq, h.tn, h.fr, h.nx, by have := h.ep; omega⟩
end Go.Proofs.YtbdjlmdbnoghnaaGreat
namespace Go.Proofs.YtbdjlmdbnoghnaaGreat
open Go.ChangeShapes Go.WideShapes Go.ChangeAt Go.RowKit Go.Deep

set_option maxRecDepth 3000 in
/-- a slice of integers in a struct's field -/
theorem open_cell_ints {H : Type} {enc : TypeId × Value → H} {P : Program} {W : World} {t e : TypeId} {k : IntKind} {fuel : Nat} {v : Value} {x : DataW H × List MemPlace} (ht : P.underlying t = some (.slice e)) (he : P.underlying e = some (.int k)) (hc : P.cellsOf e = 1)
    (hf : DataW.trod enc P W 0 (fun _ => true) true fuel t [v] = some x) :
    ∃ (n : Nat) (zs : List Int), Rd W 1 v n (zs.map (Value.int k)) ∧ zs.length = n ∧ (∀ z ∈ zs, (Lit.int k z).wf = true) ∧ (∀ b, v.ownBlock = some b → 0 < n → b < W.heap.size) := by
  rcases open_ints ht he hc hf with ⟨hcs, _⟩ | ⟨x, l, c, zs, hcs, _, hl, hm, hz, _, hcell, hwz⟩
  · simp at hcs
    subst hcs
    exact ⟨0, [], ⟨none, 0, rfl, Nat.le_refl _, Nat.zero_le _, rfl, fun _ => rfl, fun hn => absurd hn (by omega)⟩, rfl, fun _ hz => by simp at hz, fun b hb => by simp [Value.ownBlock] at hb⟩
  · simp at hcs
    subst hcs
    have hz' : zs.length = c := by simpa using hz
    have hlt : 0 < l → x.block < W.heap.size := fun hn => by
      have h := World.block_lt_of_cell? _ _ (hcell 0 (by omega))
      rwa [add_block] at h
    refine ⟨l, zs.take l, ⟨some x, c, rfl, hl, hm, by simp; omega, fun hn => (by cases hn), fun hn => ⟨x, rfl, hlt hn, fun j u hu => ?_⟩⟩, by simp; omega, fun z hzz => hwz z (List.mem_of_mem_take hzz), fun b hb hn => ?_⟩
    · obtain ⟨h1, h2, rfl⟩ := getD_map_int k zs l j u hu
      exact hcell j (by omega)
    · have : x.block = b := by simpa [Value.ownBlock] using hb
      rw [← this]; exact hlt hn

set_option maxRecDepth 3000 in
theorem cellsInt : Tryz.prog.cellsOf 3 = 1 := by kernel_rfl
set_option maxRecDepth 3000 in
theorem cellsBytes : Tryz.prog.cellsOf 53 = 1 := by kernel_rfl
set_option maxRecDepth 3000 in
theorem cellsBool : Tryz.prog.cellsOf 4 = 1 := by kernel_rfl
set_option maxRecDepth 3000 in
theorem cellsInts : Tryz.prog.cellsOf 39 = 1 := by kernel_rfl
set_option maxRecDepth 3000 in
theorem i64_wf {x : Int} (h : (Lit.int .i64 x).wf = true) : x < 9223372036854775808 := by
  have hb := bounds_i64 h
  omega
end Go.Proofs.YtbdjlmdbnoghnaaGreat
namespace Go.Proofs.YtbdjlmdbnoghnaaGreat
open Go.ChangeShapes Go.WideShapes Go.ChangeAt Go.RowKit Go.Deep

set_option maxRecDepth 3000 in
theorem open_cell_rows {α : Type} {H : Type} {enc : TypeId × Value → H} {W : World} (cells : α → List Value) (c : Nat) (fit : α → Prop) {t e : TypeId} (ht : Tryz.prog.underlying t = some (.slice e)) (hce : Tryz.prog.cellsOf e = c) (hc0 : 0 < c) (hlen : ∀ x, (cells x).length = c)
    (hel : ∀ {n : Nat} {cs : List Value} {x : DataW H × List MemPlace}, DataW.trod enc Tryz.prog W 0 (fun _ => true) true n e cs = some x → ∃ d, cs = cells d ∧ fit d) {fuel : Nat} {v : Value} {x : DataW H × List MemPlace} (hf : DataW.trod enc Tryz.prog W 0 (fun _ => true) true fuel t [v] = some x) :
    ∃ ds : List α, Rd W c v ds.length (ds.flatMap cells) ∧ ∀ d ∈ ds, fit d := by
  rcases open_slice ht hf with ⟨hcs, _⟩ | ⟨x, l, cp, m, n, D, Pl, hcs, _, hl, hm, hmm, _, hi⟩
  · simp at hcs
    subst hcs
    exact ⟨[], ⟨none, 0, rfl, Nat.le_refl _, Nat.zero_le _, by simp, fun _ => rfl, fun hn => absurd hn (by simp)⟩, fun _ hz => by simp at hz⟩
  · simp at hcs
    subst hcs
    simp only [if_true] at hmm
    have H1 : ∀ i, i < l → ∃ d : α, (∀ j, j < c → W.cell? (x.add (i * c + j)) = (cells d)[j]?) ∧ fit d := by
      intro i hil
      obtain ⟨cs', hc, ht'⟩ := hi i (by omega)
      rw [hce] at hc
      obtain ⟨d, rfl, h1⟩ := hel ht'
      obtain ⟨_, _, hat⟩ := World.cells?_some hc
      refine ⟨d, fun j hj => ?_, h1⟩
      rw [← hat j hj, Go.Deep.add_add]
    obtain ⟨ds, hdl, hd⟩ : ∃ ds : List α, ds.length = l ∧ ∀ i (h : i < ds.length), (∀ j, j < c → W.cell? (x.add (i * c + j)) = (cells ds[i])[j]?) ∧ fit ds[i] := by
      clear hi hf
      have : ∀ n : Nat, (∀ i, i < n → ∃ d : α, (∀ j, j < c → W.cell? (x.add (i * c + j)) = (cells d)[j]?) ∧ fit d) → ∃ ds : List α, ds.length = n ∧ ∀ i (h : i < ds.length), (∀ j, j < c → W.cell? (x.add (i * c + j)) = (cells ds[i])[j]?) ∧ fit ds[i] := by
        intro n
        induction n with
        | zero => exact fun _ => ⟨[], rfl, fun i h => absurd h (by simp)⟩
        | succ n ih =>
          intro H
          obtain ⟨ds, hl, hd⟩ := ih (fun i hi => H i (by omega))
          obtain ⟨d, hq⟩ := H n (by omega)
          refine ⟨ds ++ [d], by simp [hl], fun i h => ?_⟩
          rw [List.length_append, List.length_singleton] at h
          by_cases hi : i < ds.length
          · rw [List.getElem_append_left hi]; exact hd i hi
          · have e : i = n := by omega
            subst e
            rw [List.getElem_append_right (by omega)]
            simpa [hl] using hq
      exact this l H1
    have hfl : (ds.flatMap cells).length = ds.length * c := flat_length cells c ds (fun _ _ => hlen _)
    refine ⟨ds, ⟨some x, cp, by rw [hdl], by omega, hm, hfl, fun hn => (by cases hn), fun hn => ⟨x, rfl, ?_, ?_⟩⟩, ?_⟩
    · have h0 := (hd 0 hn).1 0 hc0
      have hs : ∃ u, (cells ds[0])[0]? = some u := ⟨_, List.getElem?_eq_getElem (by rw [hlen]; exact hc0)⟩
      obtain ⟨u, hu⟩ := hs
      have := World.block_lt_of_cell? _ _ (h0.trans hu)
      rwa [add_block] at this
    · intro j u hu
      have hjl : j < (ds.flatMap cells).length := (List.getElem?_eq_some_iff.1 hu).1
      rw [hfl] at hjl
      have hk : j / c < ds.length := Nat.div_lt_of_lt_mul (by rw [Nat.mul_comm]; exact hjl)
      have hj6 : j % c < c := Nat.mod_lt _ hc0
      have e : j = j / c * c + j % c := by rw [Nat.mul_comm]; exact (Nat.div_add_mod j c).symm
      rw [e] at hu ⊢
      rw [(hd (j / c) hk).1 (j % c) hj6, ← hu, flat_at cells c ds (fun _ _ => hlen _) (j / c) (j % c) hk hj6]
    · intro d hdm
      obtain ⟨i, hi2, rfl⟩ := List.getElem_of_mem hdm
      exact (hd i hi2).2
set_option maxRecDepth 3000 in
theorem cellsPut : Tryz.prog.cellsOf 90 = 2 := by kernel_rfl
set_option maxRecDepth 3000 in
theorem open_pd {H : Type} {enc : TypeId × Value → H} {W : World} {n : Nat} {cs : List Value} {x : DataW H × List MemPlace} (h : DataW.trod enc Tryz.prog W 0 (fun _ => true) true n 90 cs = some x) :
    ∃ d : PD, cs = d.cells ∧ d.fit W := by
  obtain ⟨xs, m, _, _, hlen, hxl, hf⟩ := DataW.trod_struct Tryz.underlying90 h
  rw [cellsPut] at hlen
  match cs, hlen with
  | [c0, c1], _ =>
    match xs, hxl with
    | [y0, y1], _ =>
      have f0 := hf 0 _ rfl
      have f1 := hf 1 _ rfl
      change DataW.trod enc Tryz.prog W 0 (fun _ => true) true m 3 ((([c0, c1] : List Value).drop 0).take (Tryz.prog.cellsOf 3)) = some y0 at f0
      change DataW.trod enc Tryz.prog W 0 (fun _ => true) true m 53 ((([c0, c1] : List Value).drop 1).take (Tryz.prog.cellsOf 53)) = some y1 at f1
      rw [cellsInt] at f0
      rw [cellsBytes] at f1
      obtain ⟨a0, e0, _, w0⟩ := DataW.trod_int Tryz.underlying3 f0
      obtain ⟨l, hl⟩ := In.of_rd_ints (open_cell_ints Tryz.underlying53 Tryz.underlying5 (by kernel_rfl) (v := c1) f1)
      simp at e0
      subst e0
      have hb := bounds_i64 w0
      exact ⟨⟨a0, c1, l⟩, rfl, hl, by simp only; omega⟩
set_option maxRecDepth 3000 in
theorem open_cell_puts {H : Type} {enc : TypeId × Value → H} {W : World} {fuel : Nat} {v : Value} {x : DataW H × List MemPlace} (hf : DataW.trod enc Tryz.prog W 0 (fun _ => true) true fuel 37 [v] = some x) : ∃ ds, PDs W v ds :=
  open_cell_rows PD.cells 2 (fun d => d.fit W) Tryz.underlying37 cellsPut (by decide) (fun _ => rfl) (fun h => open_pd h) hf
end Go.Proofs.YtbdjlmdbnoghnaaGreat
namespace Go.Proofs.YtbdjlmdbnoghnaaGreat
open Go.ChangeShapes Go.WideShapes Go.ChangeAt Go.RowKit Go.Deep Go.Maps

structure GDo where
  kind : Int
  n : Int
  pv : Value
  ps : List PD
  odd : Bool
  kv : Value
  ks : List Int
def GDo.cells (d : GDo) : List Value := [.int .i64 d.kind, .int .i64 d.n, d.pv, .bool d.odd, d.kv]
structure GDo.fit (W : World) (d : GDo) : Prop where
  p : PDs W d.pv d.ps
  k : Rd W 1 d.kv d.ks.length (d.ks.map (Value.int .i64))
  kold : ∀ b, d.kv.ownBlock = some b → 0 < d.ks.length → b < W.heap.size
  nn : d.n < 9223372036854775808
def GDos (W : World) (v : Value) (ds : List GDo) : Prop := Rd W 5 v ds.length (ds.flatMap GDo.cells) ∧ ∀ d ∈ ds, d.fit W
set_option maxRecDepth 3000 in
theorem cells6Do : Tryz.prog.cellsOf 41 = 5 := by kernel_rfl
set_option maxRecDepth 3000 in
theorem open_gdo {H : Type} {enc : TypeId × Value → H} {W : World} {n : Nat} {cs : List Value} {x : DataW H × List MemPlace} (h : DataW.trod enc Tryz.prog W 0 (fun _ => true) true n 41 cs = some x) :
    ∃ d : GDo, cs = d.cells ∧ d.fit W := by
  obtain ⟨xs, m, _, _, hlen, hxl, hf⟩ := DataW.trod_struct Tryz.underlying41 h
  rw [cells6Do] at hlen
  match cs, hlen with
  | [c0, c1, c2, c3, c4], _ =>
    match xs, hxl with
    | [y0, y1, y2, y3, y4], _ =>
      have f0 := hf 0 _ rfl
      have f1 := hf 1 _ rfl
      have f2 := hf 2 _ rfl
      have f3 := hf 3 _ rfl
      have f4 := hf 4 _ rfl
      change DataW.trod enc Tryz.prog W 0 (fun _ => true) true m 3 ((([c0, c1, c2, c3, c4] : List Value).drop 0).take (Tryz.prog.cellsOf 3)) = some y0 at f0
      change DataW.trod enc Tryz.prog W 0 (fun _ => true) true m 3 ((([c0, c1, c2, c3, c4] : List Value).drop 1).take (Tryz.prog.cellsOf 3)) = some y1 at f1
      change DataW.trod enc Tryz.prog W 0 (fun _ => true) true m 37 ((([c0, c1, c2, c3, c4] : List Value).drop 2).take (Tryz.prog.cellsOf 37)) = some y2 at f2
      change DataW.trod enc Tryz.prog W 0 (fun _ => true) true m 4 ((([c0, c1, c2, c3, c4] : List Value).drop 3).take (Tryz.prog.cellsOf 4)) = some y3 at f3
      change DataW.trod enc Tryz.prog W 0 (fun _ => true) true m 39 ((([c0, c1, c2, c3, c4] : List Value).drop 4).take (Tryz.prog.cellsOf 39)) = some y4 at f4
      have cp : Tryz.prog.cellsOf 37 = 1 := by kernel_rfl
      rw [cellsInt] at f0 f1
      rw [cp] at f2
      rw [cellsBool] at f3
      rw [cellsInts] at f4
      obtain ⟨a0, e0, _, _⟩ := DataW.trod_int Tryz.underlying3 f0
      obtain ⟨a1, e1, _, w1⟩ := DataW.trod_int Tryz.underlying3 f1
      obtain ⟨ps, hp⟩ := open_cell_puts (v := c2) f2
      obtain ⟨a3, e3, _⟩ := DataW.trod_bool Tryz.underlying4 f3
      obtain ⟨nk, ks, k1, k2, _, k4⟩ := open_cell_ints Tryz.underlying39 Tryz.underlying3 cellsInt (v := c4) f4
      simp at e0 e1 e3
      subst e0 e1 e3 k2
      exact ⟨⟨a0, a1, c2, ps, a3, c4, ks⟩, rfl, hp, k1, k4, i64_wf w1⟩
set_option maxRecDepth 3000 in
theorem open_gdos {H : Type} {enc : TypeId × Value → H} {W : World} {base : Nat} {r : Reach} {v : Value} {d : DataW H} {p : List MemPlace} (hv : Value.okWide Tryz.prog W r base 22 v) (h : DataW.Trod enc Tryz.prog W 0 (fun _ => true) true 22 v d p) : ∃ ds, GDos W v ds := by
  obtain ⟨a, len, cap, rfl⟩ := okWide_slice Tryz.underlying22 hv
  obtain ⟨fuel, hf⟩ := h
  exact open_cell_rows GDo.cells 5 (fun d => d.fit W) Tryz.underlying22 cells6Do (by decide) (fun _ => rfl) (fun h => open_gdo h) (by simpa [Value.cells] using hf)
set_option maxRecDepth 3000 in
theorem GDos.at_ {W w : World} {A : Option Addr} {n c : Nat} {ds : List GDo} (h : GDos W (.slice A n c) ds) (hb : Below W.heap.size W w) {i : Nat} (hi : i < ds.length) : ∃ b o, A = some ⟨b, o, none⟩ ∧ b < W.heap.size ∧ w.cell? ⟨b, o + i * 5, none⟩ = some (.int .i64 ds[i].kind) ∧ w.cell? ⟨b, o + i * 5 + 1, none⟩ = some (.int .i64 ds[i].n) ∧ w.cell? ⟨b, o + i * 5 + 2, none⟩ = some ds[i].pv ∧ w.cell? ⟨b, o + i * 5 + 4, none⟩ = some ds[i].kv ∧ ds[i].fit W := by
  have hn : n = ds.length := by obtain ⟨A', c', e, _⟩ := h.1; injection e
  subst hn
  obtain ⟨b, o, rfl, hlt2, hc2⟩ := h.1.cells (by omega) (by decide)
  have H : ∀ j u, j < 5 → ds[i].cells[j]? = some u → w.cell? ⟨b, o + (i * 5 + j), none⟩ = some u := fun j u hj hu => by
    rw [World.cell?_of_block (hb.block b hlt2)]
    exact hc2 _ _ (by rw [flatM 5 GDo.cells (fun _ => rfl) ds i j hi hj]; exact hu)
  exact ⟨b, o, rfl, hlt2, by have := H 0 _ (by decide) rfl; rwa [Nat.add_zero] at this, by have := H 1 _ (by decide) rfl; rwa [← Nat.add_assoc] at this, by have := H 2 _ (by decide) rfl; rwa [← Nat.add_assoc] at this, by have := H 4 _ (by decide) rfl; rwa [← Nat.add_assoc] at this, h.2 _ (List.getElem_mem hi)⟩
set_option maxRecDepth 3000 in
theorem few_b8 {W : World} {ds : List PD} {n : Nat} {odd : Bool} (h : ∀ d ∈ ds, d.fit W) : ∀ p ∈ fewP ds n odd, ∀ x ∈ p.d, x < 256 := fun p hp x hx => by
  unfold fewP at hp
  obtain ⟨d, hd, rfl⟩ := List.mem_map.mp hp
  have hl := (h d (List.mem_of_mem_take hd)).1.lt
  unfold fewT at hx
  simp only at hx
  split at hx
  · exact hl x (List.mem_of_mem_take hx)
  · unfold sec at hx
    rcases List.mem_append.mp hx with h1 | h1
    · exact hl x (List.mem_of_mem_take h1)
    · rw [List.eq_of_mem_replicate h1]; decide
set_option maxRecDepth 3000 in
theorem advLow {W w w' : World} {G G' : Nat → Prop} (h : Adv Nul W Nul w) (k : Adv G w G' w') (hG : ∀ j, G j → W.heap.size ≤ j) : Adv Nul W Nul w' :=
  ⟨k.os.trans h.os, k.tape.trans h.tape, k.output.trans h.output, Nat.le_trans h.size k.size, fun j hj _ => (k.block j (Nat.lt_of_lt_of_le hj h.size) (fun x => by have := hG j x; omega)).trans (h.block j hj (fun x => x)), fun _ x => x.elim⟩
end Go.Proofs.YtbdjlmdbnoghnaaGreat
