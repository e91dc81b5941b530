/- Join: which record any pieces are (arithmetic). Transactions and their records (arithmetic). Puts in memory; whether they are a transaction. Whether puts are a transaction. Cut: the program's. -/
import Derived.Test.YtbdjlmdbnoghnaaGreatMh08
namespace Go.Proofs.YtbdjlmdbnoghnaaGreat
open Go.RowKit

def allD (ps : List Pc) : List Nat := ps.flatMap (fun p => p.d)
theorem allD_cons (p : Pc) (ps : List Pc) : allD (p :: ps) = p.d ++ allD ps := by simp [allD]
def hdP (ps : List Pc) : Pc := ps.headD zeroP
def goodAt (n e0 c0 i : Nat) (p : Pc) : Prop := p.e ≤ 16777215 ∧ p.e = e0 ∧ p.c ≤ 1099511627775 ∧ p.c = c0 + i ∧ p.f = (i == 0) ∧ p.g = (i == n - 1) ∧ (p.d.length = 106 ∨ (i = n - 1 ∧ p.d.length < 106 ∧ (0 < p.d.length ∨ i = 0)))
/-- the document's -/
def JoinOk (ps : List Pc) : Prop := 0 < ps.length ∧ (∀ i (h : i < ps.length), goodAt ps.length (hdP ps).e (hdP ps).c i ps[i]) ∧ (allD ps).length ≤ 8192
instance (n e0 c0 i : Nat) (p : Pc) : Decidable (goodAt n e0 c0 i p) := by unfold goodAt; exact inferInstance
instance (ps : List Pc) : Decidable (JoinOk ps) := by unfold JoinOk; exact inferInstance
def joinV (ps : List Pc) : List Nat := if JoinOk ps then allD ps else []
def joinE (ps : List Pc) : Int := if JoinOk ps then 0 else 4
/-- the program's -/
def JoinP (ps : List Pc) : Prop := 0 < ps.length ∧ (allD ps).length ≤ 8192 ∧ cutE (hdP ps).e (hdP ps).c (allD ps).length = 0 ∧ cutP (hdP ps).e (hdP ps).c (allD ps) = ps

theorem cutE_zero {e c m : Nat} : cutE e c m = 0 ↔ e ≤ 16777215 ∧ c ≤ 1099511627775 ∧ needN m - 1 ≤ 1099511627775 - c ∧ m ≤ 8192 := by
  unfold cutE
  constructor
  · intro h
    split at h
    · next h1 =>
      split at h
      · next h2 => exact ⟨h1.1, h1.2.1, h1.2.2, h2⟩
      · simp at h
    · simp at h
  · rintro ⟨h1, h2, h3, h4⟩
    rw [if_pos ⟨h1, h2, h3⟩, if_pos h4]
theorem drop_all : ∀ (i : Nat) (ps : List Pc), i ≤ ps.length → (∀ j (h : j < ps.length), j < i → ps[j].d.length = 106) → (allD ps).drop (i * 106) = allD (ps.drop i)
  | 0, ps, _, _ => by simp
  | i + 1, [], h, _ => by simp at h
  | i + 1, p :: ps, h, hl => by
    have h0 : p.d.length = 106 := hl 0 (by simp) (by omega)
    rw [allD_cons, show (i + 1) * 106 = p.d.length + i * 106 by omega, ← List.drop_drop, List.drop_left]
    simpa using drop_all i ps (by simpa using h) (fun j hj hji => hl (j + 1) (by simpa using hj) (by omega))
theorem need_of {n m k : Nat} (hn : 0 < n) (e : m = (n - 1) * 106 + k) (hk : k = 106 ∨ (k < 106 ∧ (0 < k ∨ n - 1 = 0))) : needN m = n := by
  unfold needN
  omega
theorem join_iff (ps : List Pc) : JoinP ps ↔ JoinOk ps := by
  constructor
  · rintro ⟨h1, h2, h3, h4⟩
    obtain ⟨k1, k2, k3, k4⟩ := cutE_zero.mp h3
    have hn : ps.length = needN (allD ps).length := by rw [← cutP_length (hdP ps).e (hdP ps).c (allD ps), h4]
    refine ⟨h1, fun i hi => ?_, h2⟩
    have hat : ps[i] = pieceAt (hdP ps).e (hdP ps).c (allD ps) i := by
      have := cutP_at (hdP ps).e (hdP ps).c (allD ps) (i := i) (by omega)
      rw [← this]
      congr 1
      exact h4.symm
    rw [hat, hn]
    refine ⟨k1, rfl, ?_, rfl, rfl, rfl, ?_⟩
    · show (hdP ps).c + i ≤ _
      omega
    · have hl : (pieceAt (hdP ps).e (hdP ps).c (allD ps) i).d.length = min 106 ((allD ps).length - i * 106) := by simp [pieceAt]
      have hi' : i < needN (allD ps).length := by omega
      show (pieceAt (hdP ps).e (hdP ps).c (allD ps) i).d.length = 106 ∨ _
      rw [hl]
      unfold needN at hi' ⊢
      omega
  · rintro ⟨h1, h2, h3⟩
    have hfull : ∀ j (h : j < ps.length), j < ps.length - 1 → ps[j].d.length = 106 := fun j h hj => by
      rcases (h2 j h).2.2.2.2.2.2 with a | a
      · exact a
      · omega
    have hlast := (h2 (ps.length - 1) (by omega)).2.2.2.2.2.2
    have hd := drop_all (ps.length - 1) ps (by omega) hfull
    have hone : ps.drop (ps.length - 1) = [ps[ps.length - 1]] := by
      rw [List.drop_eq_getElem_cons (by omega), List.drop_of_length_le (by omega)]
    have hlen : (allD ps).length = (ps.length - 1) * 106 + ps[ps.length - 1].d.length := by
      have e := congrArg List.length hd
      rw [hone] at e
      simp only [List.length_drop, allD, List.flatMap_cons, List.flatMap_nil, List.append_nil] at e
      have hk : 0 < ps[ps.length - 1].d.length ∨ ps.length - 1 = 0 := by omega
      unfold allD
      omega
    have hneed : needN (allD ps).length = ps.length := need_of h1 hlen (by omega)
    have g0 := h2 0 h1
    have gl := h2 (ps.length - 1) (by omega)
    have hE : cutE (hdP ps).e (hdP ps).c (allD ps).length = 0 := by
      refine cutE_zero.mpr ⟨?_, ?_, ?_, h3⟩
      · rw [← g0.2.1]; exact g0.1
      · have a := g0.2.2.1
        have b := g0.2.2.2.1
        omega
      · have a := gl.2.2.1
        have b := gl.2.2.2.1
        omega
    refine ⟨h1, h3, hE, ?_⟩
    apply List.ext_getElem
    · rw [cutP_length]; exact hneed
    · intro i hi1 hi2
      rw [cutP_at _ _ _ (by omega)]
      obtain ⟨a1, a2, a3, a4, a5, a6, a7⟩ := h2 i hi2
      have hdi := drop_all i ps (by omega) (fun j h hj => hfull j h (by omega))
      have hpd : ((allD ps).drop (i * 106)).take 106 = ps[i].d := by
        rw [hdi, List.drop_eq_getElem_cons hi2, allD_cons]
        rcases Nat.lt_or_ge i (ps.length - 1) with c | c
        · rw [List.take_left' (hfull i hi2 c)]
        · rw [List.drop_of_length_le (by omega)]
          show (ps[i].d ++ []).take 106 = _
          rw [List.append_nil, List.take_of_length_le (by omega)]
      unfold pieceAt
      rw [hneed, hpd, ← a2, ← a4, ← a5, ← a6]
theorem allD_take_le (ps : List Pc) (k : Nat) : (allD (ps.take k)).length ≤ (allD ps).length := by
  have h : allD ps = allD (ps.take k) ++ allD (ps.drop k) := by
    unfold allD
    rw [← List.flatMap_append, List.take_append_drop]
  rw [h, List.length_append]
  omega
theorem allD_take_succ {ps : List Pc} {k : Nat} {p : Pc} (h : ps[k]? = some p) : allD (ps.take (k + 1)) = allD (ps.take k) ++ p.d := by
  rw [List.take_add_one, h]
  simp [allD]
theorem allD_lt {ps : List Pc} (h : ∀ p ∈ ps, ∀ x ∈ p.d, x < 256) : ∀ x ∈ allD ps, x < 256 := by
  intro x hx
  obtain ⟨p, hp, hx⟩ := List.mem_flatMap.mp hx
  exact h p hp x hx
theorem cutV_lt {e c : Nat} {l : List Nat} (h : ∀ x ∈ l, x < 256) : ∀ p ∈ cutV e c l, ∀ x ∈ p.d, x < 256 := by
  intro p hp x hx
  unfold cutV at hp
  split at hp
  · obtain ⟨i, _, rfl⟩ := List.mem_map.mp hp
    exact h x (List.mem_of_mem_drop (List.mem_of_mem_take hx))
  · simp at hp
end Go.Proofs.YtbdjlmdbnoghnaaGreat
namespace Go.Proofs.YtbdjlmdbnoghnaaGreat
open Go.RowKit

/-- rows of numbers of so many bits -/
def wN (l : List (Nat × Nat)) : Nat := l.foldl (fun a d => a * 2 ^ d.2 + d.1) 0
def wL (l : List (Nat × Nat)) : Nat := l.foldl (fun a d => a + d.2) 0
theorem wN_snoc (l : List (Nat × Nat)) (d : Nat × Nat) : wN (l ++ [d]) = wN l * 2 ^ d.2 + d.1 := by simp [wN]
theorem wL_snoc (l : List (Nat × Nat)) (d : Nat × Nat) : wL (l ++ [d]) = wL l + d.2 := by simp [wL]
theorem wsnoc {α : Type} {motive : List α → Prop} (nil : motive []) (app : ∀ l a, motive l → motive (l ++ [a])) (l : List α) : motive l := by
  have h : ∀ m : List α, motive m.reverse := by
    intro m
    induction m with
    | nil => exact nil
    | cons a m ih => rw [List.reverse_cons]; exact app _ _ ih
  have := h l.reverse
  rwa [List.reverse_reverse] at this
theorem wL_append (l1 l2 : List (Nat × Nat)) : wL (l1 ++ l2) = wL l1 + wL l2 := by
  induction l2 using wsnoc with
  | nil => simp [wL]
  | app l2 d ih => rw [← List.append_assoc, wL_snoc, wL_snoc, ih, Nat.add_assoc]
theorem wN_append (l1 l2 : List (Nat × Nat)) : wN (l1 ++ l2) = wN l1 * 2 ^ wL l2 + wN l2 := by
  induction l2 using wsnoc with
  | nil => simp [wL, wN]
  | app l2 d ih => rw [← List.append_assoc, wN_snoc, wN_snoc, wL_snoc, ih, Nat.add_mul, Nat.pow_add, Nat.mul_assoc, Nat.add_assoc]
/-- A put: a home, its bytes. -/
structure Pt where
  a : Int
  d : List Nat
/-- whether they are a transaction of so many homes -/
def isTx (ps : List Pt) (h : Int) : Prop := (1 ≤ ps.length ∧ ps.length ≤ 24) ∧ ∀ i (hi : i < ps.length), (0 ≤ ps[i].a ∧ ps[i].a < h) ∧ ps[i].d.length = 128 ∧ ∀ k (hk : k < i), ps[k].a ≠ ps[i].a
instance (ps : List Pt) (h : Int) : Decidable (isTx ps h) := by unfold isTx; exact inferInstance
def bW (x : Nat) : Nat × Nat := (x, 8)
def pW (p : Pt) : List (Nat × Nat) := (p.a.toNat, 12) :: p.d.map bW
def recW (ps : List Pt) : List (Nat × Nat) := (ps.length, 8) :: ps.flatMap pW
def recB (ps : List Pt) : List Nat := rowOf (wN (recW ps)) (wL (recW ps))
theorem wL_bytes (l : List Nat) : wL (l.map bW) = 8 * l.length := by
  induction l using wsnoc with
  | nil => rfl
  | app l x ih => rw [List.map_append, List.map_singleton, wL_snoc, ih, List.length_append]; simp [bW]; omega
theorem wN_bytes (l : List Nat) : wN (l.map bW) = val l := by
  induction l using wsnoc with
  | nil => rfl
  | app l x ih => rw [List.map_append, List.map_singleton, wN_snoc, ih, val_snoc]; rfl
theorem wL_cons (d : Nat × Nat) (l : List (Nat × Nat)) : wL (d :: l) = d.2 + wL l := by
  have := wL_append [d] l
  simpa [wL] using this
theorem wL_put {p : Pt} (h : p.d.length = 128) : wL (pW p) = 1036 := by rw [pW, wL_cons, wL_bytes, h]
theorem wL_puts : ∀ (ps : List Pt), (∀ p ∈ ps, p.d.length = 128) → wL (ps.flatMap pW) = 1036 * ps.length
  | [], _ => rfl
  | p :: ps, h => by
    rw [List.flatMap_cons, wL_append, wL_put (h p (by simp)), wL_puts ps (fun q hq => h q (by simp [hq])), List.length_cons]; omega
theorem wL_rec {ps : List Pt} (h : ∀ p ∈ ps, p.d.length = 128) : wL (recW ps) = 8 + 1036 * ps.length := by rw [recW, wL_cons, wL_puts ps h]
theorem isTx.row {ps : List Pt} {h : Int} (k : isTx ps h) : ∀ p ∈ ps, (0 ≤ p.a ∧ p.a < h) ∧ p.d.length = 128 := fun p hp => by
  obtain ⟨i, hi, rfl⟩ := List.getElem_of_mem hp
  exact ⟨(k.2 i hi).1, (k.2 i hi).2.1⟩
theorem isTx.mono {ps : List Pt} {h h' : Int} (k : isTx ps h) (hh : h ≤ h') : isTx ps h' := ⟨k.1, fun i hi => ⟨⟨(k.2 i hi).1.1, by have := (k.2 i hi).1.2; omega⟩, (k.2 i hi).2⟩⟩
theorem recB_length {ps : List Pt} (h : ∀ p ∈ ps, p.d.length = 128) : (recB ps).length = qn (8 + 1036 * ps.length) := by rw [recB, rowOf, be_length, wL_rec h]
theorem recB_lt (ps : List Pt) : ∀ x ∈ recB ps, x < 256 := fun x hx => be_lt _ _ x hx
theorem recB_small {ps : List Pt} {h : Int} (k : isTx ps h) : (recB ps).length ≤ 3109 := by
  rw [recB_length (fun p hp => (k.row p hp).2), qn]
  have := k.1.2
  omega
/-- how many sectors a transaction takes -/
def needT (ps : List Pt) : Nat := needN (recB ps).length

/-- of a record: how many puts, which -/
def decN (l : List Nat) : Nat := bitsAt l.length (val l) 0 8
def decA (l : List Nat) (i : Nat) : Nat := bitsAt l.length (val l) (8 + 1036 * i) 12
def decX (l : List Nat) (i k : Nat) : Nat := bitsAt l.length (val l) (20 + 1036 * i + 8 * k) 8
def decT (l : List Nat) (i : Nat) : Pt := ⟨(decA l i : Int), (List.range 128).map (decX l i)⟩
def decP (l : List Nat) : List Pt := (List.range (decN l)).map (decT l)
def decE (l : List Nat) : Int := endE l.length (val l) (8 + 1036 * decN l)
end Go.Proofs.YtbdjlmdbnoghnaaGreat
namespace Go.Proofs.YtbdjlmdbnoghnaaGreat
open Go.RowKit

/-- A slice of puts that can be read, in none of the blocks of G. -/
def QRd (w : World) (G : Nat → Prop) (v : Value) (ps : List Pt) : Prop :=
  ∃ A k, v = .slice A ps.length k ∧ ps.length ≤ k ∧ k ≤ maxLen ∧ (0 < ps.length → ∃ b o, A = some ⟨b, o, none⟩ ∧ (b < w.heap.size ∧ ¬ G b) ∧ ∀ i (h : i < ps.length), ∃ a q,
    w.cell? ⟨b, o + (i * 2 + 0), none⟩ = some (.int .i64 ps[i].a) ∧ w.cell? ⟨b, o + (i * 2 + 1), none⟩ = some (.slice a ps[i].d.length q) ∧
    Rd w 1 (.slice a ps[i].d.length q) ps[i].d.length (ps[i].d.map u8) ∧ ∀ k, (Value.slice a ps[i].d.length q).ownBlock = some k → 0 < ps[i].d.length → ¬ G k)
theorem Rd.lt {w : World} {a : Option Addr} {n q : Nat} {xs : List Value} (h : Rd w 1 (.slice a n q) n xs) {k : Nat} (hk : (Value.slice a n q).ownBlock = some k) (hn : 0 < n) : k < w.heap.size := by
  obtain ⟨A, c, e, _, _, _, _, h5⟩ := h
  obtain ⟨ad, rfl, hb, _⟩ := h5 hn
  injection e with e _ _
  subst e
  have : ad.block = k := by simpa [Value.ownBlock] using hk
  omega
theorem QRd.adv {w w' : World} {G G' F F' : Nat → Prop} {v : Value} {ps : List Pt} (h : QRd w G v ps) (ha : Adv F w F' w') (hF : ∀ k, F k → G k) (hG : ∀ k, G' k → G k ∨ w.heap.size ≤ k) : QRd w' G' v ps := by
  obtain ⟨A, k, rfl, h1, h2, h3⟩ := h
  refine ⟨A, k, rfl, h1, h2, fun hn => ?_⟩
  obtain ⟨b, o, rfl, ⟨hb, hg⟩, hc⟩ := h3 hn
  have hk : w'.heap[b]? = w.heap[b]? := ha.block b hb (fun h => hg (hF b h))
  refine ⟨b, o, rfl, ⟨Nat.lt_of_lt_of_le hb ha.size, fun h => ?_⟩, fun i hi => ?_⟩
  · rcases hG b h with h | h
    · exact hg h
    · omega
  · obtain ⟨a, q, c0, c1, hr, hs⟩ := hc i hi
    have e : ∀ j, w'.cell? ⟨b, j, none⟩ = w.cell? ⟨b, j, none⟩ := fun j => World.cell?_of_block hk
    refine ⟨a, q, by rw [e]; exact c0, by rw [e]; exact c1, hr.far (fun j hj hn' hl => ha.block j hl (fun h => hs j hj hn' (hF j h))) ha.size, fun j hj hn' h => ?_⟩
    rcases hG j h with h | h
    · exact hs j hj hn' h
    · have := hr.lt hj hn'; omega
theorem QRd.step {w w' : World} {G F' : Nat → Prop} {v : Value} {ps : List Pt} (h : QRd w G v ps) (ha : Adv Nul w F' w') : QRd w' G v ps := h.adv ha (fun _ x => x.elim) (fun _ x => .inl x)
theorem QRd.row {w : World} {G : Nat → Prop} {A : Option Addr} {n k : Nat} {ps : List Pt} (h : QRd w G (.slice A n k) ps) {i : Nat} (hi : i < ps.length) : ∃ b o a q, A = some ⟨b, o, none⟩ ∧ (b < w.heap.size ∧ ¬ G b) ∧
    (w.cell? ⟨b, o + i * 2, none⟩ = some (.int .i64 ps[i].a) ∧ w.cell? ⟨b, o + i * 2 + 1, none⟩ = some (.slice a ps[i].d.length q)) ∧
    Rd w 1 (.slice a ps[i].d.length q) ps[i].d.length (ps[i].d.map u8) ∧ ∀ k, (Value.slice a ps[i].d.length q).ownBlock = some k → 0 < ps[i].d.length → ¬ G k := by
  obtain ⟨A', k', e, h1, h2, h3⟩ := h
  injection e with e1 e2 e3
  subst e1 e2 e3
  obtain ⟨b, o, rfl, hb, hc⟩ := h3 (by omega)
  obtain ⟨a, q, c0, c1, hr⟩ := hc i hi
  exact ⟨b, o, a, q, rfl, hb, ⟨c0, c1⟩, hr⟩
theorem QRd.len {w : World} {G : Nat → Prop} {A : Option Addr} {n k : Nat} {ps : List Pt} (h : QRd w G (.slice A n k) ps) : n = ps.length ∧ n ≤ k ∧ k ≤ maxLen := by
  obtain ⟨A', k', e, h1, h2, h3⟩ := h
  injection e with e1 e2 e3
  omega
theorem QRd.take {w : World} {G : Nat → Prop} {A : Option Addr} {n k : Nat} {ps : List Pt} (h : QRd w G (.slice A n k) ps) (i : Nat) (hi : i ≤ ps.length) : QRd w G (.slice A i k) (ps.take i) := by
  obtain ⟨A', k', e, h1, h2, h3⟩ := h
  injection e with e1 e2 e3
  subst e1 e2 e3
  have hl : (ps.take i).length = i := by rw [List.length_take]; exact Nat.min_eq_left hi
  refine ⟨A, k, by rw [hl], by omega, h2, fun hn => ?_⟩
  obtain ⟨b, o, rfl, hb, hc⟩ := h3 (by omega)
  refine ⟨b, o, rfl, hb, fun j hj => ?_⟩
  obtain ⟨a, q, r⟩ := hc j (by omega)
  have e : (ps.take i)[j] = ps[j]'(by omega) := List.getElem_take
  rw [e]
  exact ⟨a, q, r⟩

/-- after k puts none has this home -/
def IxL (w : World) (N : Nat) (ps : List Pt) (x : Int) (t : Value) (wr : World) : Prop := ∃ k : Nat, k ≤ N ∧ t = .int .i64 (k : Int) ∧ (∀ i (h : i < ps.length), i < k → ps[i].a ≠ x) ∧ Adv Nul w Nul wr
def IxR (w : World) (ps : List Pt) (x : Int) (e : Ending) (w' : World) : Prop := ∃ r : Int, e = .returned (.int .i64 r) ∧ (0 ≤ r ↔ ∃ p ∈ ps, p.a = x) ∧ -1 ≤ r ∧ Adv Nul w Nul w'

set_option maxRecDepth 3000 in
theorem istxf_any (x y : Int) (a : Value) (u : Nat) (w : World) (hu : w.cell? ⟨u, 0, none⟩ = some (.int .i64 y)) (hlt : u < w.heap.size) :
    Calls Tryz.prog 76 #[.agg #[.int .i64 x, a], .pointer (some ⟨u, 0, none⟩)] w fun e w' => e = .returned (.bool (x == y)) ∧ Adv Nul w Nul w' := by
  obtain ⟨V, hV⟩ : ∃ V, V = w.alloc (.cells #[.int .i64 x, a] 90) := ⟨_, rfl⟩
  have HU := Lib.hid (show V.cell? ⟨u, 0, none⟩ = some (.int .i64 y) by rw [hV, ← hu]; exact World.cell?_of_block (Below.heap_alloc w _ u hlt))
  have HZ := Lib.hid (show V.cell? ⟨w.heap.size, 0, none⟩ = some (.int .i64 x) by rw [hV]; exact (Blk.new w 90 #[.int .i64 x, a]).cell 0)
  have HA := Lib.hid (show Adv Nul w Nul V by rw [hV]; exact (Adv.refl _ _).alloc _)
  obtain ⟨z, hz⟩ : ∃ z, z = w.heap.size := ⟨_, rfl⟩
  rw [← hz] at HZ
  have HZZ := Lib.hid hz
  have HV := Lib.hid hV
  clear hu hlt hz hV
  go_enter Tryz.func76, Tryz.ntmps76
  go_upto_region 1 with (fail)
  rw [← HV.out, ← HZZ.out]
  have c0 := HZ.out
  have c1 := HU.out
  go_wp2_with fail
  go_ret
  exact ⟨rfl, HA.out⟩

set_option maxRecDepth 3000 in
set_option maxHeartbeats 3200000 in
theorem indexfn_any (A0 : Option Addr) (k0 u : Nat) (y : Int) (ps : List Pt) (G : Nat → Prop) (w : World) (h : QRd w G (.slice A0 ps.length k0) ps) (hu : w.cell? ⟨u, 0, none⟩ = some (.int .i64 y)) (hlt : u < w.heap.size) :
    Calls Tryz.prog 101 #[.slice A0 ps.length k0, .func (.func 76) #[] #[.pointer (some ⟨u, 0, none⟩)]] w (IxR w ps y) := by
  obtain ⟨N, hN⟩ : ∃ N, N = ps.length := ⟨_, rfl⟩
  rw [← hN] at h ⊢
  have hmx : N ≤ maxLen := by have := h.len; omega
  have hNI : (N : Int) ≤ 9223372036854775807 := by unfold maxLen at hmx; omega
  have HP := Lib.hid h
  have HN := Lib.hid hN
  have HU := Lib.hid (And.intro hu hlt)
  clear h hN hu hlt hmx
  go_enter Tryz.func101, Tryz.ntmps101
  go_wp2_with fail
  go_loopw [8] (IxL w N ps y) (fun t _ => N - (intOf t).toNat)
  case atStart => exact ⟨0, Nat.zero_le _, rfl, fun i _ hi => absurd hi (Nat.not_lt_zero _), Adv.refl _ _⟩
  case round =>
    obtain ⟨k, hk, rfl, hpre, ha⟩ := hrel
    have HPRE := Lib.hid hpre
    have HA := Lib.hid ha
    by_cases hlt : k < N
    · have hki : (k : Int) < (N : Int) := by omega
      have hkp : k < ps.length := by rw [← HN.out]; exact hlt
      obtain ⟨b, o, a, q, rfl, -, ⟨c0, c1⟩, -, -⟩ := (HP.out.step ha).row hkp
      obtain ⟨x, hx⟩ : ∃ x, x = ps[k].a := ⟨_, rfl⟩
      rw [← hx] at c0
      obtain ⟨m, hm⟩ : ∃ m, m = ps[k].d.length := ⟨_, rfl⟩
      rw [← hm] at c1
      have HX := Lib.hid hx
      have HLT := Lib.hid hlt
      have HUR := Lib.hid (show wr.cell? ⟨u, 0, none⟩ = some (.int .i64 y) ∧ u < wr.heap.size from ⟨by rw [← HU.out.1]; exact World.cell?_of_block (ha.block u HU.out.2 (fun x => x)), Nat.lt_of_lt_of_le HU.out.2 ha.size⟩)
      have HKP := Lib.hid hkp
      clear hpre ha hx hlt hk hm
      go_wp2_with fail
      refine (istxf_any x y _ u _ HUR.out.1 HUR.out.2).mono ?_
      rintro e w1 ⟨rfl, a1⟩
      have HA1 := Lib.hid (HA.out.trans a1)
      clear a1
      by_cases hxy : x = y
      · have hb : (x == y) = true := by rw [hxy]; exact beq_self_eq_true y
        have HXY := Lib.hid hxy
        clear hxy
        rw [hb]
        go_wp2_with fail
        go_ret
        exact ⟨(k : Int), rfl, ⟨fun _ => ⟨_, List.getElem_mem HKP.out, by rw [← HX.out]; exact HXY.out⟩, fun _ => by omega⟩, by omega, HA1.out⟩
      · have hb : (x == y) = false := by rw [beq_eq_false_iff_ne]; exact hxy
        have HXY := Lib.hid hxy
        clear hxy
        rw [hb]
        go_wp2_with fail
        have hlt := HLT.out
        refine ⟨⟨k + 1, by omega, by go_num, fun i h hi => ?_, HA1.out⟩, by simp [intOf]; omega⟩
        by_cases e : i = k
        · subst e; rw [← HX.out]; exact HXY.out
        · exact HPRE.out i h (by omega)
    · obtain rfl : k = N := by omega
      clear hpre ha hlt hk
      go_wp2_with fail
      go_ret
      refine ⟨-1, rfl, ⟨fun h => absurd h (by decide), fun ⟨p, hp, e⟩ => ?_⟩, by decide, HA.out⟩
      obtain ⟨i, hi, rfl⟩ := List.getElem_of_mem hp
      exact absurd e (HPRE.out i hi (by rw [HN.out]; exact hi))

set_option maxRecDepth 3000 in
theorem containsfn_any (A0 : Option Addr) (k0 u : Nat) (y : Int) (ps : List Pt) (G : Nat → Prop) (w : World) (h : QRd w G (.slice A0 ps.length k0) ps) (hu : w.cell? ⟨u, 0, none⟩ = some (.int .i64 y)) (hlt : u < w.heap.size) :
    Calls Tryz.prog 75 #[.slice A0 ps.length k0, .func (.func 76) #[] #[.pointer (some ⟨u, 0, none⟩)]] w fun e w' => e = .returned (.bool (decide (∃ p ∈ ps, p.a = y))) ∧ Adv Nul w Nul w' := by
  have HC := Lib.hid (indexfn_any A0 k0 u y ps G w h hu hlt)
  obtain ⟨B, hB⟩ : ∃ B, B = decide (∃ p ∈ ps, p.a = y) := ⟨_, rfl⟩
  rw [← hB]
  have HB := Lib.hid hB
  clear h hu hlt hB
  go_enter Tryz.func75, Tryz.ntmps75
  go_wp2_with fail
  refine HC.out.mono ?_
  rintro e w1 ⟨r, rfl, hr, hr1, a1⟩
  have HR := Lib.hid hr
  have HA := Lib.hid a1
  clear hr a1
  by_cases h0 : 0 ≤ r
  · obtain rfl : B = true := by rw [HB.out]; exact decide_eq_true (HR.out.mp h0)
    go_wp2_with fail
    go_ret
    exact ⟨rfl, HA.out⟩
  · obtain rfl : B = false := by rw [HB.out]; exact decide_eq_false (fun k => h0 (HR.out.mpr k))
    go_wp2_with fail
    go_ret
    exact ⟨by simp [h0], HA.out⟩
end Go.Proofs.YtbdjlmdbnoghnaaGreat
namespace Go.Proofs.YtbdjlmdbnoghnaaGreat
open Go.RowKit

def txAt (ps : List Pt) (H : Int) (i : Nat) (hi : i < ps.length) : Prop := (0 ≤ ps[i].a ∧ ps[i].a < H) ∧ ps[i].d.length = 128 ∧ ∀ k (hk : k < i), ps[k].a ≠ ps[i].a
def TxL (w : World) (N : Nat) (ps : List Pt) (H : Int) (t : Value) (wr : World) : Prop := ∃ k : Nat, k ≤ N ∧ t = .int .i64 (k : Int) ∧ (∀ i (h : i < ps.length), i < k → txAt ps H i h) ∧ Adv Nul w Nul wr
def TxR (w : World) (B : Bool) (e : Ending) (w' : World) : Prop := e = .returned (.bool B) ∧ Adv Nul w Nul w'
theorem take_ex {ps : List Pt} {k : Nat} {x : Int} (hk : k ≤ ps.length) : (∃ p ∈ ps.take k, p.a = x) ↔ ∃ (i : Nat) (h : i < k), (ps[i]'(by omega)).a = x := by
  constructor
  · rintro ⟨p, hp, rfl⟩
    obtain ⟨i, hi, rfl⟩ := List.getElem_of_mem hp
    have hi' : i < k := by rw [List.length_take] at hi; omega
    exact ⟨i, hi', by rw [List.getElem_take]⟩
  · rintro ⟨i, h, rfl⟩
    have hi : i < (ps.take k).length := by rw [List.length_take]; omega
    exact ⟨(ps.take k)[i], List.getElem_mem hi, by rw [List.getElem_take]⟩
theorem put2 {w : World} {z : Nat} {t : TypeId} {u v : Value} (h : Blk w z t #[u, v]) : w.cell? ⟨z, 0, none⟩ = some u ∧ w.cell? ⟨z, 1, none⟩ = some v := ⟨h.cell 0, h.cell 1⟩

set_option maxRecDepth 3000 in
set_option maxHeartbeats 6400000 in
theorem istx_any (A0 : Option Addr) (N k0 : Nat) (ps : List Pt) (H : Int) (G : Nat → Prop) (w : World) (h : QRd w G (.slice A0 N k0) ps) :
    Calls Tryz.prog 43 #[.slice A0 N k0, .int .i64 H] w (TxR w (decide (isTx ps H))) := by
  have hN := h.len.1
  have hmx : N ≤ maxLen := by have := h.len; omega
  have hkm : N ≤ k0 := h.len.2.1
  have hkx : k0 ≤ maxLen := h.len.2.2
  have hNI : (N : Int) ≤ 9223372036854775807 := by unfold maxLen at hmx; omega
  have hkI : (k0 : Int) ≤ 9223372036854775807 := by unfold maxLen at hkx; omega
  have hkN : (N : Int) ≤ (k0 : Int) := by omega
  obtain ⟨B, hB⟩ : ∃ B, B = decide (isTx ps H) := ⟨_, rfl⟩
  rw [← hB]
  have HB := Lib.hid hB
  have HP := Lib.hid h
  have HN := Lib.hid hN
  clear h hN hB hmx hkm hkx
  have hno : ¬ isTx ps H → B = false := fun k => by rw [HB.out]; exact decide_eq_false k
  have HNO := Lib.hid hno
  clear hno
  by_cases h1 : (N : Int) < 1
  · obtain rfl : B = false := HNO.out (fun k => by have := k.1.1; have := HN.out; omega)
    go_enter Tryz.func43, Tryz.ntmps43
    go_wp2_with fail
    go_ret
    exact ⟨rfl, Adv.refl _ _⟩
  · have h1' : 1 ≤ (N : Int) := by omega
    clear h1
    by_cases h2 : 24 < (N : Int)
    · obtain rfl : B = false := HNO.out (fun k => by have := k.1.2; have := HN.out; omega)
      go_enter Tryz.func43, Tryz.ntmps43
      go_wp2_with fail
      go_ret
      exact ⟨rfl, Adv.refl _ _⟩
    · have h2' : (N : Int) ≤ 24 := by omega
      clear h2
      have HLN := Lib.hid (show 1 ≤ ps.length ∧ ps.length ≤ 24 by have := HN.out; omega)
      go_enter Tryz.func43, Tryz.ntmps43
      go_wp2_with fail
      go_loopw [17] (TxL w N ps H) (fun t _ => N - (intOf t).toNat)
      case atStart => exact ⟨0, Nat.zero_le _, rfl, fun i _ hi => absurd hi (Nat.not_lt_zero _), Adv.refl _ _⟩
      case round =>
        obtain ⟨k, hk, rfl, hpre, ha⟩ := hrel
        have HPRE := Lib.hid hpre
        have HA := Lib.hid ha
        by_cases hlt : k < N
        · have hki : (k : Int) < (N : Int) := by omega
          have hkp : k < ps.length := by rw [← HN.out]; exact hlt
          obtain ⟨b, o, a, q, rfl, -, ⟨c0, c1⟩, -, -⟩ := (HP.out.step ha).row hkp
          obtain ⟨x, hx⟩ : ∃ x, x = ps[k].a := ⟨_, rfl⟩
          rw [← hx] at c0
          obtain ⟨m, hm⟩ : ∃ m, m = ps[k].d.length := ⟨_, rfl⟩
          rw [← hm] at c1
          obtain ⟨V, hV⟩ : ∃ V, V = wr.alloc (.cells #[.int .i64 x, .slice a m q] 90) := ⟨_, rfl⟩
          obtain ⟨z, hz⟩ : ∃ z, z = wr.heap.size := ⟨_, rfl⟩
          have HZB := Lib.hid (show Blk V z 90 #[.int .i64 x, .slice a m q] by rw [hV, hz]; exact Blk.new _ _ _)
          have HAV := Lib.hid (show Adv Nul w Nul V by rw [hV]; exact ha.alloc _)
          have HX := Lib.hid hx
          have HM := Lib.hid hm
          have HV := Lib.hid hV
          have HZ := Lib.hid hz
          have HLT := Lib.hid hlt
          have hk0 : (0 : Int) ≤ (k : Int) := by omega
          have hkk : (k : Int) ≤ (k0 : Int) := by omega
          have hq : QRd V G (.slice (some ⟨b, o, none⟩) k k0) (ps.take k) := (HP.out.step HAV.out).take k (by omega)
          obtain ⟨C, hC⟩ : ∃ C, C = decide (∃ p ∈ ps.take k, p.a = x) := ⟨_, rfl⟩
          have hcall : Calls Tryz.prog 75 #[.slice (some ⟨b, o, none⟩) k k0, .func (.func 76) #[] #[.pointer (some ⟨z, 0, none⟩)]] V fun e w' => e = .returned (.bool C) ∧ Adv Nul V Nul w' := by
            have e : (ps.take k).length = k := by rw [List.length_take]; omega
            have hq' : QRd V G (.slice (some ⟨b, o, none⟩) (ps.take k).length k0) (ps.take k) := by rw [e]; exact hq
            have := containsfn_any (some ⟨b, o, none⟩) k0 z x (ps.take k) G V hq' (HZB.out.cell 0) HZB.out.lt
            rw [e] at this
            rw [hC]
            exact this
          have HCALL := Lib.hid hcall
          have HC := Lib.hid hC
          have HKP := Lib.hid hkp
          clear hpre ha hx hm hV hz hlt hk hq hcall hC
          go_upto_region 6 with (fail)
          rw [← HV.out, ← HZ.out]
          clear c0 c1
          obtain ⟨z0, z1⟩ := put2 HZB.out
          have hbad : ¬ txAt ps H k HKP.out → B = false := fun h => HNO.out (fun t => h (t.2 k HKP.out))
          have HBAD := Lib.hid hbad
          clear hbad
          by_cases hx0 : x < 0
          · obtain rfl : B = false := HBAD.out (fun t => by have := t.1.1; rw [← HX.out] at this; omega)
            go_wp2_with fail
            go_ret
            exact ⟨rfl, HAV.out⟩
          · have hx0' : 0 ≤ x := by omega
            clear hx0
            by_cases hxH : H ≤ x
            · obtain rfl : B = false := HBAD.out (fun t => by have := t.1.2; rw [← HX.out] at this; omega)
              go_wp2_with fail
              go_ret
              exact ⟨rfl, HAV.out⟩
            · have hxH' : x < H := by omega
              clear hxH
              by_cases hm : m = 128
              · subst hm
                go_wp2_with fail
                refine HCALL.out.mono ?_
                rintro e w8 ⟨rfl, a8⟩
                have HA8 := Lib.hid (HAV.out.trans a8)
                clear a8
                cases C with
                | true =>
                  obtain rfl : B = false := HBAD.out (fun t => by
                    obtain ⟨i, hi, he⟩ := (take_ex (Nat.le_of_lt HKP.out)).mp (of_decide_eq_true HC.out.symm)
                    exact t.2.2 i hi (by rw [he, HX.out]))
                  go_wp2_with fail
                  go_ret
                  exact ⟨rfl, HA8.out⟩
                | false =>
                  have HG := Lib.hid (show txAt ps H k HKP.out from ⟨⟨by rw [← HX.out]; exact hx0', by rw [← HX.out]; exact hxH'⟩, HM.out.symm, fun i hi he =>
                    of_decide_eq_false HC.out.symm ((take_ex (Nat.le_of_lt HKP.out)).mpr ⟨i, hi, by rw [he, HX.out]⟩)⟩)
                  go_wp2_with fail
                  have hlt := HLT.out
                  refine ⟨⟨k + 1, by omega, by go_num, fun i h hi => ?_, HA8.out⟩, by simp [intOf]; omega⟩
                  by_cases e : i = k
                  · subst e; exact HG.out
                  · exact HPRE.out i h (by omega)
              · obtain rfl : B = false := HBAD.out (fun t => hm (by rw [HM.out]; exact t.2.1))
                have hmI : ((m : Int) != 128) = true := by rw [bne_iff_ne]; omega
                have hmJ : ((m : Int) == 128) = false := by rw [beq_eq_false_iff_ne]; omega
                clear hm
                go_wp2_with fail
                go_ret
                exact ⟨rfl, HAV.out⟩
        · obtain rfl : k = N := by omega
          obtain rfl : B = true := by rw [HB.out]; exact decide_eq_true ⟨HLN.out, fun i hi => HPRE.out i hi (by have := HN.out; omega)⟩
          clear hpre ha hlt hk
          go_wp2_with fail
          go_ret
          exact ⟨rfl, HA.out⟩
end Go.Proofs.YtbdjlmdbnoghnaaGreat
namespace Go.Proofs.YtbdjlmdbnoghnaaGreat
open Go.RowKit

theorem infoPiece : (Tryz.prog.info? 96).map (fun i => (i.zero, i.size, i.bytes)) = some (some (.agg #[.int .u64 0, .int .u64 0, .bool false, .bool false, .slice none 0 0]), 5, 48) := by kernel_rfl
theorem made_pieces (n : Nat) (hn : n ≤ 100) (w : World) : (Instr.makeSlice 93 (.int .i64 (n : Int)) (.int .i64 (n : Int))).run Tryz.prog w = .ok (.slice (some ⟨w.heap.size, 0, none⟩) n n) (w.alloc (.cells (madeCells #[.int .u64 0, .int .u64 0, .bool false, .bool false, .slice none 0 0] (n * 5)) 96)) := by
  obtain ⟨ie, hie, hz, hs, hb⟩ := info_parts infoPiece
  have h := run_make (P := Tryz.prog) w 93 96 ie _ Tryz.underlying93 hie hz .i64 .i64 n n (by omega) (Int.le_refl _) (by rw [hb]; omega) (by omega)
  simpa [hs, Value.cells] using h

/-- pieces while they are laid -/
structure CutI (W : World) (z n : Nat) (P : Nat → Pc) (k : Nat) (w : World) : Prop where
  blk : ∃ C, Blk w z 96 C ∧ C.size = n * 5
  at_ : ∀ i, i < k → ∃ a q, w.cell? ⟨z, i * 5 + 0, none⟩ = some (.int .u64 ((P i).e : Int)) ∧ w.cell? ⟨z, i * 5 + 1, none⟩ = some (.int .u64 ((P i).c : Int)) ∧ w.cell? ⟨z, i * 5 + 2, none⟩ = some (.bool (P i).f) ∧ w.cell? ⟨z, i * 5 + 3, none⟩ = some (.bool (P i).g) ∧
    w.cell? ⟨z, i * 5 + 4, none⟩ = some (.slice a (P i).d.length q) ∧ Rd w 1 (.slice a (P i).d.length q) (P i).d.length ((P i).d.map u8) ∧ ∀ g, (Value.slice a (P i).d.length q).ownBlock = some g → 0 < (P i).d.length → g ≠ z ∧ W.heap.size ≤ g
  adv : Adv Nul W (fun j => j = z) w
  hz : W.heap.size ≤ z
section
variable {W w w' : World} {z n k : Nat} {P : Nat → Pc}
theorem CutI.step {F' : Nat → Prop} (h : CutI W z n P k w) (ha : Adv Nul w F' w') : CutI W z n P k w' := by
  obtain ⟨C, hB, hC⟩ := h.blk
  have hk := ha.block z hB.lt (fun h => h)
  refine ⟨⟨C, hB.keep hk, hC⟩, fun i hi => ?_, h.adv.over ha, h.hz⟩
  obtain ⟨a, q, c0, c1, c2, c3, c4, hr, hz⟩ := h.at_ i hi
  have e : ∀ j, w'.cell? ⟨z, j, none⟩ = w.cell? ⟨z, j, none⟩ := fun j => World.cell?_of_block hk
  exact ⟨a, q, by rw [e]; exact c0, by rw [e]; exact c1, by rw [e]; exact c2, by rw [e]; exact c3, by rw [e]; exact c4, hr.far (fun _ _ _ h => ha.block _ h (fun h => h)) ha.size, hz⟩
theorem CutI.there (h : CutI W z n P k w) (hk : k < n) : w.there z (k * 5) 5 := fun j hj => by
  obtain ⟨C, hB, hC⟩ := h.blk
  have h1 := hB.there (k * 5 + j) (by omega)
  rw [Nat.zero_add] at h1
  exact h1
theorem CutI.put (h : CutI W z n P k w) (hk : k < n) {e d q : Nat} {cI : Int} {f g : Bool} {a : Option Addr} (e0 : e = (P k).e) (e1 : cI = ((P k).c : Int)) (e2 : f = (P k).f) (e3 : g = (P k).g) (e4 : d = (P k).d.length)
    (hr : Rd w 1 (.slice a d q) d ((P k).d.map u8)) (hne : ∀ b, (Value.slice a d q).ownBlock = some b → 0 < d → b ≠ z ∧ W.heap.size ≤ b) : CutI W z n P (k + 1) (w.setCells z (k * 5) (pc5 (e : Int) cI f g (.slice a d q)).toList) := by
  subst e0 e1 e2 e3 e4
  obtain ⟨D, hD⟩ : ∃ D, D = (pc5 ((P k).e : Int) ((P k).c : Int) (P k).f (P k).g (.slice a (P k).d.length q)).toList := ⟨_, rfl⟩
  have hDl : D.length = 5 := by rw [hD]; rfl
  rw [← hD]
  obtain ⟨C, hB, hC⟩ := h.blk
  obtain ⟨C', hB', hC'⟩ := Blk.lsetCells D (k * 5) w C hB
  have hrd : ∀ {a : Option Addr} {d q : Nat} {l : List Nat}, Rd w 1 (.slice a d q) d (l.map u8) → (∀ b, (Value.slice a d q).ownBlock = some b → 0 < d → b ≠ z ∧ W.heap.size ≤ b) → Rd (w.setCells z (k * 5) D) 1 (.slice a d q) d (l.map u8) := fun hr hz =>
    hr.far (fun b hb hn _ => lsetCells_heap z (hz b hb hn).1 D (k * 5) w) (Adv.lsetCells D (k * 5) _ (Adv.refl (fun k => k = z) w) (.inl rfl)).size
  refine ⟨⟨C', hB', by omega⟩, fun i hi => ?_, Adv.lsetCells D (k * 5) _ h.adv (.inr h.hz), h.hz⟩
  by_cases hik : i < k
  · obtain ⟨a, q, c0, c1, c2, c3, c4, hr, hz⟩ := h.at_ i hik
    have e : ∀ j, j < 5 → (w.setCells z (k * 5) D).cell? ⟨z, i * 5 + j, none⟩ = w.cell? ⟨z, i * 5 + j, none⟩ := fun j hj => World.cell?_setCells_out z D (k * 5) w _ (fun _ _ => .inl (by show i * 5 + j < k * 5; omega))
    exact ⟨a, q, by rw [e _ (by decide)]; exact c0, by rw [e _ (by decide)]; exact c1, by rw [e _ (by decide)]; exact c2, by rw [e _ (by decide)]; exact c3, by rw [e _ (by decide)]; exact c4, hrd hr hz, hz⟩
  · obtain rfl : i = k := by omega
    have e : ∀ j (hj : j < D.length), (w.setCells z (i * 5) D).cell? ⟨z, i * 5 + j, none⟩ = some D[j] := fun j hj => World.cell?_setCells_in z D (i * 5) w (fun j hj => (h.there hk j (by omega)).1) j hj
    subst hD
    exact ⟨a, q, e 0 (by simp [pc5]), e 1 (by simp [pc5]), e 2 (by simp [pc5]), e 3 (by simp [pc5]), e 4 (by simp [pc5]), hrd hr hne, hne⟩
theorem CutI.prd (h : CutI W z n P n w) (hn : n ≤ 100) : PRd w (.slice (some ⟨z, 0, none⟩) n n) ((List.range n).map P) := by
  obtain ⟨C, hB, hC⟩ := h.blk
  refine ⟨_, n, by simp, by simp, by unfold maxLen; omega, fun hp => ⟨z, 0, rfl, hB.lt, fun i hi => ?_⟩⟩
  have hi' : i < n := by simpa using hi
  obtain ⟨a, q, c0, c1, c2, c3, c4, hr, _⟩ := h.at_ i hi'
  have e : ((List.range n).map P)[i]'hi = P i := by simp
  rw [e]
  simp only [Nat.zero_add]
  exact ⟨a, q, c0, c1, c2, c3, c4, hr⟩
end
/-- .. in none of the blocks of G -/
def PRdG (w : World) (G : Nat → Prop) (v : Value) (ps : List Pc) : Prop :=
  ∃ A k, v = .slice A ps.length k ∧ ps.length ≤ k ∧ k ≤ maxLen ∧ (0 < ps.length → ∃ b o, A = some ⟨b, o, none⟩ ∧ (b < w.heap.size ∧ ¬ G b) ∧ ∀ i (h : i < ps.length), ∃ a q,
    w.cell? ⟨b, o + (i * 5 + 0), none⟩ = some (.int .u64 (ps[i].e : Int)) ∧ w.cell? ⟨b, o + (i * 5 + 1), none⟩ = some (.int .u64 (ps[i].c : Int)) ∧ w.cell? ⟨b, o + (i * 5 + 2), none⟩ = some (.bool ps[i].f) ∧ w.cell? ⟨b, o + (i * 5 + 3), none⟩ = some (.bool ps[i].g) ∧
    w.cell? ⟨b, o + (i * 5 + 4), none⟩ = some (.slice a ps[i].d.length q) ∧ Rd w 1 (.slice a ps[i].d.length q) ps[i].d.length (ps[i].d.map u8) ∧ ∀ g, (Value.slice a ps[i].d.length q).ownBlock = some g → 0 < ps[i].d.length → ¬ G g)
theorem PRdG.nil (w : World) (G : Nat → Prop) : PRdG w G (.slice none 0 0) [] := ⟨none, 0, rfl, Nat.le_refl _, Nat.zero_le _, fun h => absurd h (by decide)⟩
theorem PRdG.prd {w : World} {G : Nat → Prop} {v : Value} {ps : List Pc} (h : PRdG w G v ps) : PRd w v ps := by
  obtain ⟨A, k, rfl, h1, h2, h3⟩ := h
  refine ⟨A, k, rfl, h1, h2, fun hn => ?_⟩
  obtain ⟨b, o, rfl, hb, hc⟩ := h3 hn
  refine ⟨b, o, rfl, hb.1, fun i hi => ?_⟩
  obtain ⟨a, q, c0, c1, c2, c3, c4, hr, _⟩ := hc i hi
  exact ⟨a, q, c0, c1, c2, c3, c4, hr⟩
theorem CutI.prdg {W w : World} {z n : Nat} {P : Nat → Pc} {G : Nat → Prop} (h : CutI W z n P n w) (hn : n ≤ 100) (hG : Bd G W) : PRdG w G (.slice (some ⟨z, 0, none⟩) n n) ((List.range n).map P) := by
  obtain ⟨C, hB, hC⟩ := h.blk
  refine ⟨_, n, by simp, by simp, by unfold maxLen; omega, fun hp => ⟨z, 0, rfl, ⟨hB.lt, fun x => by have := hG z x; have := h.hz; omega⟩, fun i hi => ?_⟩⟩
  have hi' : i < n := by simpa using hi
  obtain ⟨a, q, c0, c1, c2, c3, c4, hr, hs⟩ := h.at_ i hi'
  have e : ((List.range n).map P)[i]'hi = P i := by simp
  rw [e]
  simp only [Nat.zero_add]
  exact ⟨a, q, c0, c1, c2, c3, c4, hr, fun g hg hn x => by have := hG g x; have := (hs g hg hn).2; omega⟩
def CutN (w : World) (e c : Nat) (l : List Nat) (x : Ending) (w' : World) : Prop := ∃ A n k, x = .returned (.tuple #[.slice A n k, .int .i64 (cutE e c l.length)]) ∧ (∀ G, Bd G w → PRdG w' G (.slice A n k) (cutV e c l)) ∧ Adv Nul w Nul w'
def CutR (w : World) (e c : Nat) (l : List Nat) (x : Ending) (w' : World) : Prop := ∃ A n k, x = .returned (.tuple #[.slice A n k, .int .i64 (cutE e c l.length)]) ∧ PRd w' (.slice A n k) (cutV e c l) ∧ Adv Nul w Nul w'
theorem CutN.cut {w w' : World} {e c : Nat} {l : List Nat} {x : Ending} (h : CutN w e c l x w') : CutR w e c l x w' := by
  obtain ⟨A, n, k, h1, h2, h3⟩ := h
  exact ⟨A, n, k, h1, (h2 Nul (fun _ x => x.elim)).prd, h3⟩
theorem CutN.none {w w' : World} {e c : Nat} {l : List Nat} {E : Int} (hE : cutE e c l.length = E) (h0 : E ≠ 0) (ha : Adv Nul w Nul w') : CutN w e c l (.returned (.tuple #[.slice none 0 0, .int .i64 E])) w' := by
  refine ⟨_, _, _, by rw [hE], fun G _ => ?_, ha⟩
  rw [cutV, if_neg (by rw [hE]; exact h0)]
  exact PRdG.nil _ _

set_option maxRecDepth 3000 in
theorem pcut_no (e c : Nat) (v : Value) (l : List Nat) (w : World) (hv : Rd w 1 v l.length (l.map u8)) (hl : l.length ≤ 100000) (h0 : cutE e c l.length ≠ 0) :
    Calls Tryz.prog 78 #[.int .u64 (e : Int), .int .u64 (c : Int), v] w (CutN w e c l) := by
  obtain ⟨A, q, rfl, _, _⟩ := hv.form
  obtain ⟨m, hm⟩ : ∃ m, m = l.length := ⟨_, rfl⟩
  rw [← hm] at hl h0 ⊢
  by_cases hst : e ≤ 16777215 ∧ c ≤ 1099511627775
  · have hcI : (c : Int) ≤ 1099511627775 := by omega
    have hmI : (m : Int) ≤ 100000 := by omega
    obtain ⟨n, hn⟩ : ∃ n, n = needN m := ⟨_, rfl⟩
    have hn1 : 1 ≤ n := by rw [hn]; exact needN_pos m
    have hn2 : n ≤ 10000 := by rw [hn]; unfold needN; omega
    have hn1I : (1 : Int) ≤ (n : Int) := by omega
    have hn2I : (n : Int) ≤ 10000 := by omega
    have HST := Lib.hid hst
    have HM := Lib.hid (show m ≤ 1000000000 by omega)
    have HN := Lib.hid hn
    by_cases hov : n - 1 ≤ 1099511627775 - c
    · have h5 : ¬ m ≤ 8192 := fun h => h0 (by rw [cutE, if_pos ⟨hst.1, hst.2, by rw [← hn]; exact hov⟩, if_pos h])
      have hm8 : (8192 : Int) < (m : Int) := by omega
      have hE : cutE e c m = 5 := by rw [cutE, if_pos ⟨hst.1, hst.2, by rw [← hn]; exact hov⟩, if_neg h5]
      have hovI : (n : Int) - 1 ≤ 1099511627775 - (c : Int) := by omega
      have HE := Lib.hid hE
      have HML := Lib.hid hm
      clear hst hov h5 hE hm h0 hn hl hn1 hn2 hv
      go_enter Tryz.func78, Tryz.ntmps78
      go_wp2_with (first
        | (go_at_call 105; refine (stampok e c HST.out.1 HST.out.2 _).mono ?_; rintro x w1 ⟨rfl, rfl⟩)
        | (go_at_call 106; refine (need_any m _ HM.out).mono ?_; rintro x w1 ⟨rfl, rfl⟩; rw [← HN.out])
        | fail)
      go_ret2
      exact CutN.none (by rw [← HML.out]; exact HE.out) (by decide) (Adv.refl _ _)
    · have hE : cutE e c m = 2 := by rw [cutE, if_neg (fun h => hov (by rw [hn]; exact h.2.2))]
      have hovI : 1099511627775 - (c : Int) < (n : Int) - 1 := by omega
      have HE := Lib.hid hE
      have HML := Lib.hid hm
      clear hst hov hE hm h0 hn hl hn1 hn2 hv
      go_enter Tryz.func78, Tryz.ntmps78
      go_wp2_with (first
        | (go_at_call 105; refine (stampok e c HST.out.1 HST.out.2 _).mono ?_; rintro x w1 ⟨rfl, rfl⟩)
        | (go_at_call 106; refine (need_any m _ HM.out).mono ?_; rintro x w1 ⟨rfl, rfl⟩; rw [← HN.out])
        | fail)
      go_ret2
      exact CutN.none (by rw [← HML.out]; exact HE.out) (by decide) (Adv.refl _ _)
  · have hE : cutE e c m = 2 := by rw [cutE, if_neg (fun h => hst ⟨h.1, h.2.1⟩)]
    have HE := Lib.hid hE
    have HML := Lib.hid hm
    have HST := Lib.hid hst
    clear hst hE hm h0 hl hv
    go_enter Tryz.func78, Tryz.ntmps78
    go_wp2_with (first
      | (go_at_call 105; refine (stampno e c HST.out _).mono ?_; rintro x w1 ⟨rfl, rfl⟩)
      | fail)
    go_ret2
    exact CutN.none (by rw [← HML.out]; exact HE.out) (by decide) (Adv.refl _ _)
end Go.Proofs.YtbdjlmdbnoghnaaGreat
