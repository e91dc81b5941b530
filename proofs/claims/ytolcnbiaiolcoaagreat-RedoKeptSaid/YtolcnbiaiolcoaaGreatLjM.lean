/- Join: which record any pieces are (arithmetic). -/
import Derived.Test.YtolcnbiaiolcoaaGreatMgK
namespace Go.Proofs.YtolcnbiaiolcoaaGreat
open Go.RowKit

def allD (ps : List Pc) : List Nat := ps.flatMap (fun p => p.d)
theorem allD_cons (p : Pc) (ps : List Pc) : allD (p :: ps) = p.d ++ allD ps := by simp [allD]
def hdP (ps : List Pc) : Pc := ps.headD zeroP
def goodAt (n e0 c0 i : Nat) (p : Pc) : Prop := p.e ≤ 16777215 ∧ p.e = e0 ∧ p.c ≤ 1099511627775 ∧ p.c = c0 + i ∧ p.f = (i == 0) ∧ p.g = (i == n - 1) ∧ (p.d.length = 106 ∨ (i = n - 1 ∧ p.d.length < 106 ∧ (0 < p.d.length ∨ i = 0)))
/-- the document's -/
def JoinOk (ps : List Pc) : Prop := 0 < ps.length ∧ (∀ i (h : i < ps.length), goodAt ps.length (hdP ps).e (hdP ps).c i ps[i]) ∧ (allD ps).length ≤ 8192
instance (n e0 c0 i : Nat) (p : Pc) : Decidable (goodAt n e0 c0 i p) := by unfold goodAt; exact inferInstance
instance (ps : List Pc) : Decidable (JoinOk ps) := by unfold JoinOk; exact inferInstance
def joinV (ps : List Pc) : List Nat := if JoinOk ps then allD ps else []
def joinE (ps : List Pc) : Int := if JoinOk ps then 0 else 4
/-- the program's -/
def JoinP (ps : List Pc) : Prop := 0 < ps.length ∧ (allD ps).length ≤ 8192 ∧ cutE (hdP ps).e (hdP ps).c (allD ps).length = 0 ∧ cutP (hdP ps).e (hdP ps).c (allD ps) = ps

theorem allD_pieces (e c : Nat) (l : List Nat) : ∀ k, allD ((List.range k).map (pieceAt e c l)) = l.take (k * 106)
  | 0 => by simp [allD]
  | k + 1 => by
    have ih := allD_pieces e c l k
    unfold allD at ih ⊢
    rw [List.range_succ, List.map_append, List.flatMap_append, ih, show (k + 1) * 106 = k * 106 + 106 by omega, List.take_add]
    simp [pieceAt]
theorem allD_cut (e c : Nat) (l : List Nat) : allD (cutP e c l) = l := by
  rw [cutP, allD_pieces]
  exact List.take_of_length_le (needN_ge _)
theorem cutE_zero {e c m : Nat} : cutE e c m = 0 ↔ e ≤ 16777215 ∧ c ≤ 1099511627775 ∧ needN m - 1 ≤ 1099511627775 - c ∧ m ≤ 8192 := by
  unfold cutE
  constructor
  · intro h
    split at h
    · next h1 =>
      split at h
      · next h2 => exact ⟨h1.1, h1.2.1, h1.2.2, h2⟩
      · simp at h
    · simp at h
  · rintro ⟨h1, h2, h3, h4⟩
    rw [if_pos ⟨h1, h2, h3⟩, if_pos h4]
theorem joinP_cut {e c : Nat} {l : List Nat} (h : cutE e c l.length = 0) : JoinP (cutP e c l) := by
  have hn := needN_pos l.length
  have h0 : (cutP e c l).length = needN l.length := cutP_length e c l
  have hh : hdP (cutP e c l) = pieceAt e c l 0 := by
    obtain ⟨p, t, e1⟩ : ∃ p t, cutP e c l = p :: t := List.exists_cons_of_length_pos (by omega)
    have e2 := cutP_at e c l (i := 0) (by omega)
    rw [hdP, e1]
    simp only [e1, List.getElem_cons_zero] at e2
    simpa using e2
  refine ⟨by omega, ?_, ?_, ?_⟩
  · rw [allD_cut]; exact (cutE_zero.mp h).2.2.2
  · rw [hh, allD_cut]; simpa [pieceAt] using h
  · rw [hh, allD_cut]; simp [pieceAt]
theorem drop_all : ∀ (i : Nat) (ps : List Pc), i ≤ ps.length → (∀ j (h : j < ps.length), j < i → ps[j].d.length = 106) → (allD ps).drop (i * 106) = allD (ps.drop i)
  | 0, ps, _, _ => by simp
  | i + 1, [], h, _ => by simp at h
  | i + 1, p :: ps, h, hl => by
    have h0 : p.d.length = 106 := hl 0 (by simp) (by omega)
    rw [allD_cons, show (i + 1) * 106 = p.d.length + i * 106 by omega, ← List.drop_drop, List.drop_left]
    simpa using drop_all i ps (by simpa using h) (fun j hj hji => hl (j + 1) (by simpa using hj) (by omega))
theorem need_of {n m k : Nat} (hn : 0 < n) (e : m = (n - 1) * 106 + k) (hk : k = 106 ∨ (k < 106 ∧ (0 < k ∨ n - 1 = 0))) : needN m = n := by
  unfold needN
  omega
theorem join_iff (ps : List Pc) : JoinP ps ↔ JoinOk ps := by
  constructor
  · rintro ⟨h1, h2, h3, h4⟩
    obtain ⟨k1, k2, k3, k4⟩ := cutE_zero.mp h3
    have hn : ps.length = needN (allD ps).length := by rw [← cutP_length (hdP ps).e (hdP ps).c (allD ps), h4]
    refine ⟨h1, fun i hi => ?_, h2⟩
    have hat : ps[i] = pieceAt (hdP ps).e (hdP ps).c (allD ps) i := by
      have := cutP_at (hdP ps).e (hdP ps).c (allD ps) (i := i) (by omega)
      rw [← this]
      congr 1
      exact h4.symm
    rw [hat, hn]
    refine ⟨k1, rfl, ?_, rfl, rfl, rfl, ?_⟩
    · show (hdP ps).c + i ≤ _
      omega
    · have hl : (pieceAt (hdP ps).e (hdP ps).c (allD ps) i).d.length = min 106 ((allD ps).length - i * 106) := by simp [pieceAt]
      have hi' : i < needN (allD ps).length := by omega
      show (pieceAt (hdP ps).e (hdP ps).c (allD ps) i).d.length = 106 ∨ _
      rw [hl]
      unfold needN at hi' ⊢
      omega
  · rintro ⟨h1, h2, h3⟩
    have hfull : ∀ j (h : j < ps.length), j < ps.length - 1 → ps[j].d.length = 106 := fun j h hj => by
      rcases (h2 j h).2.2.2.2.2.2 with a | a
      · exact a
      · omega
    have hlast := (h2 (ps.length - 1) (by omega)).2.2.2.2.2.2
    have hd := drop_all (ps.length - 1) ps (by omega) hfull
    have hone : ps.drop (ps.length - 1) = [ps[ps.length - 1]] := by
      rw [List.drop_eq_getElem_cons (by omega), List.drop_of_length_le (by omega)]
    have hlen : (allD ps).length = (ps.length - 1) * 106 + ps[ps.length - 1].d.length := by
      have e := congrArg List.length hd
      rw [hone] at e
      simp only [List.length_drop, allD, List.flatMap_cons, List.flatMap_nil, List.append_nil] at e
      have hk : 0 < ps[ps.length - 1].d.length ∨ ps.length - 1 = 0 := by omega
      unfold allD
      omega
    have hneed : needN (allD ps).length = ps.length := need_of h1 hlen (by omega)
    have g0 := h2 0 h1
    have gl := h2 (ps.length - 1) (by omega)
    have hE : cutE (hdP ps).e (hdP ps).c (allD ps).length = 0 := by
      refine cutE_zero.mpr ⟨?_, ?_, ?_, h3⟩
      · rw [← g0.2.1]; exact g0.1
      · have a := g0.2.2.1
        have b := g0.2.2.2.1
        omega
      · have a := gl.2.2.1
        have b := gl.2.2.2.1
        omega
    refine ⟨h1, h3, hE, ?_⟩
    apply List.ext_getElem
    · rw [cutP_length]; exact hneed
    · intro i hi1 hi2
      rw [cutP_at _ _ _ (by omega)]
      obtain ⟨a1, a2, a3, a4, a5, a6, a7⟩ := h2 i hi2
      have hdi := drop_all i ps (by omega) (fun j h hj => hfull j h (by omega))
      have hpd : ((allD ps).drop (i * 106)).take 106 = ps[i].d := by
        rw [hdi, List.drop_eq_getElem_cons hi2, allD_cons]
        rcases Nat.lt_or_ge i (ps.length - 1) with c | c
        · rw [List.take_left' (hfull i hi2 c)]
        · rw [List.drop_of_length_le (by omega)]
          show (ps[i].d ++ []).take 106 = _
          rw [List.append_nil, List.take_of_length_le (by omega)]
      unfold pieceAt
      rw [hneed, hpd, ← a2, ← a4, ← a5, ← a6]
theorem allD_take_le (ps : List Pc) (k : Nat) : (allD (ps.take k)).length ≤ (allD ps).length := by
  have h : allD ps = allD (ps.take k) ++ allD (ps.drop k) := by
    unfold allD
    rw [← List.flatMap_append, List.take_append_drop]
  rw [h, List.length_append]
  omega
theorem allD_take_succ {ps : List Pc} {k : Nat} {p : Pc} (h : ps[k]? = some p) : allD (ps.take (k + 1)) = allD (ps.take k) ++ p.d := by
  rw [List.take_add_one, h]
  simp [allD]
theorem allD_lt {ps : List Pc} (h : ∀ p ∈ ps, ∀ x ∈ p.d, x < 256) : ∀ x ∈ allD ps, x < 256 := by
  intro x hx
  obtain ⟨p, hp, hx⟩ := List.mem_flatMap.mp hx
  exact h p hp x hx
theorem cutV_lt {e c : Nat} {l : List Nat} (h : ∀ x ∈ l, x < 256) : ∀ p ∈ cutV e c l, ∀ x ∈ p.d, x < 256 := by
  intro p hp x hx
  unfold cutV at hp
  split at hp
  · obtain ⟨i, _, rfl⟩ := List.mem_map.mp hp
    exact h x (List.mem_of_mem_drop (List.mem_of_mem_take hx))
  · simp at hp
end Go.Proofs.YtolcnbiaiolcoaaGreat
