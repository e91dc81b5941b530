/- Transactions and their records (arithmetic). Puts in memory; whether they are a transaction. Whether puts are a transaction. -/
import Derived.Test.YtolcnbiaiolcoaaGreatMgHm
import Derived.Test.YtolcnbiaiolcoaaGreatLjM
namespace Go.Proofs.YtolcnbiaiolcoaaGreat
open Go.RowKit

/-- rows of numbers of so many bits -/
def wN (l : List (Nat × Nat)) : Nat := l.foldl (fun a d => a * 2 ^ d.2 + d.1) 0
def wL (l : List (Nat × Nat)) : Nat := l.foldl (fun a d => a + d.2) 0
def wFit (l : List (Nat × Nat)) : Prop := ∀ d ∈ l, d.1 < 2 ^ d.2
theorem wN_snoc (l : List (Nat × Nat)) (d : Nat × Nat) : wN (l ++ [d]) = wN l * 2 ^ d.2 + d.1 := by simp [wN]
theorem wL_snoc (l : List (Nat × Nat)) (d : Nat × Nat) : wL (l ++ [d]) = wL l + d.2 := by simp [wL]
theorem wsnoc {α : Type} {motive : List α → Prop} (nil : motive []) (app : ∀ l a, motive l → motive (l ++ [a])) (l : List α) : motive l := by
  have h : ∀ m : List α, motive m.reverse := by
    intro m
    induction m with
    | nil => exact nil
    | cons a m ih => rw [List.reverse_cons]; exact app _ _ ih
  have := h l.reverse
  rwa [List.reverse_reverse] at this
theorem wL_append (l1 l2 : List (Nat × Nat)) : wL (l1 ++ l2) = wL l1 + wL l2 := by
  induction l2 using wsnoc with
  | nil => simp [wL]
  | app l2 d ih => rw [← List.append_assoc, wL_snoc, wL_snoc, ih, Nat.add_assoc]
theorem wN_append (l1 l2 : List (Nat × Nat)) : wN (l1 ++ l2) = wN l1 * 2 ^ wL l2 + wN l2 := by
  induction l2 using wsnoc with
  | nil => simp [wL, wN]
  | app l2 d ih => rw [← List.append_assoc, wN_snoc, wN_snoc, wL_snoc, ih, Nat.add_mul, Nat.pow_add, Nat.mul_assoc, Nat.add_assoc]
theorem wN_lt (l : List (Nat × Nat)) (h : wFit l) : wN l < 2 ^ wL l := by
  induction l using wsnoc with
  | nil => simp [wN, wL]
  | app l d ih => rw [wN_snoc, wL_snoc]; exact put_lt _ _ _ _ (ih (fun x hx => h x (by simp [hx]))) (h d (by simp))
theorem bits_mid (N v k r m pd q V a T : Nat) (hr : r < 2 ^ m) (hv : v < 2 ^ k) (hT : 8 * q = T + pd) (ha : T = a + k + m) (hV : V = ((N * 2 ^ k + v) * 2 ^ m + r) * 2 ^ pd) : bitsAt q V a k = v := by
  unfold bitsAt
  rw [show 8 * q - a - k = m + pd from by omega, hV, Nat.pow_add, Nat.mul_comm (2 ^ m) (2 ^ pd), ← Nat.div_div_eq_div_mul, Nat.mul_div_cancel _ (Nat.two_pow_pos _), Nat.add_comm, Nat.add_mul_div_right _ _ (Nat.two_pow_pos _), Nat.div_eq_of_lt hr, Nat.zero_add, Nat.add_comm, Nat.add_mul_mod_self_right, Nat.mod_eq_of_lt hv]
/-- what stands behind l1 -/
theorem word_at (l1 l2 : List (Nat × Nat)) (d : Nat × Nat) (h : wFit (l1 ++ d :: l2)) :
    bitsAt (qn (wL (l1 ++ d :: l2))) (wN (l1 ++ d :: l2) * 2 ^ pad (wL (l1 ++ d :: l2))) (wL l1) d.2 = d.1 := by
  have e : l1 ++ d :: l2 = (l1 ++ [d]) ++ l2 := by simp
  have h1 := wN_append (l1 ++ [d]) l2
  rw [wN_snoc] at h1
  have h2 := wL_append (l1 ++ [d]) l2
  rw [wL_snoc] at h2
  rw [e]
  exact bits_mid (wN l1) d.1 d.2 (wN l2) (wL l2) (pad (wL ((l1 ++ [d]) ++ l2))) _ _ _ (wL ((l1 ++ [d]) ++ l2)) (wN_lt l2 (fun x hx => h x (by simp [hx]))) (h d (by simp)) (qn_pad _) h2 (by rw [h1])

/-- A put: a home, its bytes. -/
structure Pt where
  a : Int
  d : List Nat
/-- whether they are a transaction of so many homes -/
def isTx (ps : List Pt) (h : Int) : Prop := (1 ≤ ps.length ∧ ps.length ≤ 24) ∧ ∀ i (hi : i < ps.length), (0 ≤ ps[i].a ∧ ps[i].a < h) ∧ ps[i].d.length = 128 ∧ ∀ k (hk : k < i), ps[k].a ≠ ps[i].a
instance (ps : List Pt) (h : Int) : Decidable (isTx ps h) := by unfold isTx; exact inferInstance
def bW (x : Nat) : Nat × Nat := (x, 8)
def pW (p : Pt) : List (Nat × Nat) := (p.a.toNat, 12) :: p.d.map bW
def recW (ps : List Pt) : List (Nat × Nat) := (ps.length, 8) :: ps.flatMap pW
def recB (ps : List Pt) : List Nat := rowOf (wN (recW ps)) (wL (recW ps))
theorem wL_bytes (l : List Nat) : wL (l.map bW) = 8 * l.length := by
  induction l using wsnoc with
  | nil => rfl
  | app l x ih => rw [List.map_append, List.map_singleton, wL_snoc, ih, List.length_append]; simp [bW]; omega
theorem wN_bytes (l : List Nat) : wN (l.map bW) = val l := by
  induction l using wsnoc with
  | nil => rfl
  | app l x ih => rw [List.map_append, List.map_singleton, wN_snoc, ih, val_snoc]; rfl
theorem wL_cons (d : Nat × Nat) (l : List (Nat × Nat)) : wL (d :: l) = d.2 + wL l := by
  have := wL_append [d] l
  simpa [wL] using this
theorem wL_put {p : Pt} (h : p.d.length = 128) : wL (pW p) = 1036 := by rw [pW, wL_cons, wL_bytes, h]
theorem wL_puts : ∀ (ps : List Pt), (∀ p ∈ ps, p.d.length = 128) → wL (ps.flatMap pW) = 1036 * ps.length
  | [], _ => rfl
  | p :: ps, h => by
    rw [List.flatMap_cons, wL_append, wL_put (h p (by simp)), wL_puts ps (fun q hq => h q (by simp [hq])), List.length_cons]; omega
theorem wL_rec {ps : List Pt} (h : ∀ p ∈ ps, p.d.length = 128) : wL (recW ps) = 8 + 1036 * ps.length := by rw [recW, wL_cons, wL_puts ps h]
theorem isTx.row {ps : List Pt} {h : Int} (k : isTx ps h) : ∀ p ∈ ps, (0 ≤ p.a ∧ p.a < h) ∧ p.d.length = 128 := fun p hp => by
  obtain ⟨i, hi, rfl⟩ := List.getElem_of_mem hp
  exact ⟨(k.2 i hi).1, (k.2 i hi).2.1⟩
theorem isTx.mono {ps : List Pt} {h h' : Int} (k : isTx ps h) (hh : h ≤ h') : isTx ps h' := ⟨k.1, fun i hi => ⟨⟨(k.2 i hi).1.1, by have := (k.2 i hi).1.2; omega⟩, (k.2 i hi).2⟩⟩
theorem recB_length {ps : List Pt} (h : ∀ p ∈ ps, p.d.length = 128) : (recB ps).length = qn (8 + 1036 * ps.length) := by rw [recB, rowOf, be_length, wL_rec h]
theorem recB_lt (ps : List Pt) : ∀ x ∈ recB ps, x < 256 := fun x hx => be_lt _ _ x hx
theorem recB_small {ps : List Pt} {h : Int} (k : isTx ps h) : (recB ps).length ≤ 3109 := by
  rw [recB_length (fun p hp => (k.row p hp).2), qn]
  have := k.1.2
  omega
/-- how many sectors a transaction takes -/
def needT (ps : List Pt) : Nat := needN (recB ps).length

/-- of a record: how many puts, which -/
def decN (l : List Nat) : Nat := bitsAt l.length (val l) 0 8
def decA (l : List Nat) (i : Nat) : Nat := bitsAt l.length (val l) (8 + 1036 * i) 12
def decX (l : List Nat) (i k : Nat) : Nat := bitsAt l.length (val l) (20 + 1036 * i + 8 * k) 8
def decT (l : List Nat) (i : Nat) : Pt := ⟨(decA l i : Int), (List.range 128).map (decX l i)⟩
def decP (l : List Nat) : List Pt := (List.range (decN l)).map (decT l)
def decE (l : List Nat) : Int := endE l.length (val l) (8 + 1036 * decN l)
theorem wFit_bytes {l : List Nat} (h : ∀ x ∈ l, x < 256) : wFit (l.map bW) := fun d hd => by
  obtain ⟨x, hx, rfl⟩ := List.mem_map.mp hd
  exact h x hx
theorem wFit_put {p : Pt} (h0 : 0 ≤ p.a) (h1 : p.a < 4096) (hd : ∀ x ∈ p.d, x < 256) : wFit (pW p) := fun d hm => by
  rcases List.mem_cons.mp hm with rfl | hm
  · show p.a.toNat < 4096
    omega
  · exact wFit_bytes hd d hm
theorem wFit_rec {ps : List Pt} {h : Int} (k : isTx ps h) (hh : h ≤ 4096) (hd : ∀ p ∈ ps, ∀ x ∈ p.d, x < 256) : wFit (recW ps) := fun d hm => by
  rcases List.mem_cons.mp hm with rfl | hm
  · show ps.length < 256
    have := k.1.2
    omega
  · obtain ⟨p, hp, hm⟩ := List.mem_flatMap.mp hm
    have := (k.row p hp).1
    exact wFit_put this.1 (by omega) (hd p hp) d hm
theorem rec_val {ps : List Pt} (h : wFit (recW ps)) : val (recB ps) = wN (recW ps) * 2 ^ pad (wL (recW ps)) := by
  rw [recB, rowOf, val_be]
  refine Nat.mod_eq_of_lt ?_
  have e : (256 : Nat) ^ qn (wL (recW ps)) = 2 ^ wL (recW ps) * 2 ^ pad (wL (recW ps)) := by
    rw [show (256 : Nat) = 2 ^ 8 from rfl, ← Nat.pow_mul, qn_pad, Nat.pow_add]
  rw [e]
  exact Nat.mul_lt_mul_of_pos_right (wN_lt _ h) (Nat.two_pow_pos _)
theorem rec_split {ps : List Pt} {i : Nat} (hi : i < ps.length) : recW ps = ((ps.length, 8) :: (ps.take i).flatMap pW) ++ (pW ps[i] ++ (ps.drop (i + 1)).flatMap pW) := by
  have e : ps = ps.take i ++ (ps[i] :: ps.drop (i + 1)) := by rw [List.getElem_cons_drop, List.take_append_drop]
  have e2 : ps.flatMap pW = (ps.take i).flatMap pW ++ (pW ps[i] ++ (ps.drop (i + 1)).flatMap pW) := by
    have := congrArg (List.flatMap pW) e
    rwa [List.flatMap_append, List.flatMap_cons] at this
  rw [recW, e2, List.cons_append]
theorem rec_bits {ps : List Pt} (h : wFit (recW ps)) {l1 l2 : List (Nat × Nat)} {d : Nat × Nat} (e : recW ps = l1 ++ d :: l2) : bitsAt (recB ps).length (val (recB ps)) (wL l1) d.2 = d.1 := by
  have h1 := word_at l1 l2 d (by rw [← e]; exact h)
  rw [← e] at h1
  rw [rec_val h, recB, rowOf, be_length]
  exact h1
/-- what was put is got -/
theorem rec_back {ps : List Pt} {h : Int} (k : isTx ps h) (hh : h ≤ 4096) (hd : ∀ p ∈ ps, ∀ x ∈ p.d, x < 256) : decP (recB ps) = ps ∧ decE (recB ps) = 0 := by
  have hf := wFit_rec k hh hd
  have hr : ∀ p ∈ ps, p.d.length = 128 := fun p hp => (k.row p hp).2
  have hn : decN (recB ps) = ps.length := rec_bits hf (l1 := []) (l2 := ps.flatMap pW) (d := (ps.length, 8)) rfl
  constructor
  · unfold decP
    rw [hn]
    apply List.ext_getElem
    · simp
    · intro i hi1 hi2
      have hp0 := (k.row ps[i] (List.getElem_mem hi2)).1
      have hp1 := hr ps[i] (List.getElem_mem hi2)
      have hpre : wL ((ps.length, 8) :: (ps.take i).flatMap pW) = 8 + 1036 * i := by
        rw [wL_cons, wL_puts _ (fun p hp => hr p (List.mem_of_mem_take hp)), List.length_take, Nat.min_eq_left (by omega)]
      have hsp := rec_split hi2
      have ha : decA (recB ps) i = ps[i].a.toNat := by
        have := rec_bits hf (l1 := (ps.length, 8) :: (ps.take i).flatMap pW) (d := (ps[i].a.toNat, 12)) (l2 := ps[i].d.map bW ++ (ps.drop (i + 1)).flatMap pW) (by rw [hsp, pW]; rfl)
        rw [hpre] at this
        exact this
      have hx : (List.range 128).map (decX (recB ps) i) = ps[i].d := by
        apply List.ext_getElem
        · simp [hp1]
        · intro j hj1 hj2
          simp only [List.getElem_map, List.getElem_range]
          have hsp2 : ps[i].d = ps[i].d.take j ++ (ps[i].d[j] :: ps[i].d.drop (j + 1)) := by rw [List.getElem_cons_drop, List.take_append_drop]
          have := rec_bits hf (l1 := ((ps.length, 8) :: (ps.take i).flatMap pW) ++ ((ps[i].a.toNat, 12) :: (ps[i].d.take j).map bW)) (d := bW ps[i].d[j]) (l2 := (ps[i].d.drop (j + 1)).map bW ++ (ps.drop (i + 1)).flatMap pW) (by
            have e3 : ps[i].d.map bW = (ps[i].d.take j).map bW ++ (bW ps[i].d[j] :: (ps[i].d.drop (j + 1)).map bW) := by
              have := congrArg (List.map bW) hsp2
              rwa [List.map_append, List.map_cons] at this
            rw [hsp, pW, e3]
            simp only [List.append_assoc, List.cons_append])
          rw [wL_append, hpre, wL_cons, wL_bytes, List.length_take, Nat.min_eq_left (by omega)] at this
          have e4 : 8 + 1036 * i + (12 + 8 * j) = 20 + 1036 * i + 8 * j := by omega
          have e5 : ((ps[i].a.toNat, 12) : Nat × Nat).2 = 12 := rfl
          rw [e5, e4] at this
          exact this
      simp only [List.getElem_map, List.getElem_range]
      unfold decT
      rw [ha, hx, Int.toNat_of_nonneg hp0.1]
  · have hq : (recB ps).length = qn (wL (recW ps)) := by rw [recB, rowOf, be_length]
    have hw := wL_rec hr
    have h1 := qn_pad (wL (recW ps))
    have hp := pad_lt (wL (recW ps))
    unfold decE endE
    rw [hn, ← hw, if_pos (by rw [hq]; omega), rec_val hf, hq]
    unfold endOf
    rw [show 8 * qn (wL (recW ps)) - wL (recW ps) = pad (wL (recW ps)) from by omega, if_pos ⟨hp, Nat.mul_mod_left _ _⟩]
end Go.Proofs.YtolcnbiaiolcoaaGreat
namespace Go.Proofs.YtolcnbiaiolcoaaGreat
open Go.RowKit

/-- A slice of puts that can be read, in none of the blocks of G. -/
def QRd (w : World) (G : Nat → Prop) (v : Value) (ps : List Pt) : Prop :=
  ∃ A k, v = .slice A ps.length k ∧ ps.length ≤ k ∧ k ≤ maxLen ∧ (0 < ps.length → ∃ b o, A = some ⟨b, o, none⟩ ∧ (b < w.heap.size ∧ ¬ G b) ∧ ∀ i (h : i < ps.length), ∃ a q,
    w.cell? ⟨b, o + (i * 2 + 0), none⟩ = some (.int .i64 ps[i].a) ∧ w.cell? ⟨b, o + (i * 2 + 1), none⟩ = some (.slice a ps[i].d.length q) ∧
    Rd w 1 (.slice a ps[i].d.length q) ps[i].d.length (ps[i].d.map u8) ∧ ∀ k, (Value.slice a ps[i].d.length q).ownBlock = some k → 0 < ps[i].d.length → ¬ G k)
theorem QRd.nil (w : World) (G : Nat → Prop) : QRd w G (.slice none 0 0) [] := ⟨none, 0, rfl, Nat.le_refl _, Nat.zero_le _, fun h => absurd h (by decide)⟩
theorem Rd.lt {w : World} {a : Option Addr} {n q : Nat} {xs : List Value} (h : Rd w 1 (.slice a n q) n xs) {k : Nat} (hk : (Value.slice a n q).ownBlock = some k) (hn : 0 < n) : k < w.heap.size := by
  obtain ⟨A, c, e, _, _, _, _, h5⟩ := h
  obtain ⟨ad, rfl, hb, _⟩ := h5 hn
  injection e with e _ _
  subst e
  have : ad.block = k := by simpa [Value.ownBlock] using hk
  omega
theorem QRd.adv {w w' : World} {G G' F F' : Nat → Prop} {v : Value} {ps : List Pt} (h : QRd w G v ps) (ha : Adv F w F' w') (hF : ∀ k, F k → G k) (hG : ∀ k, G' k → G k ∨ w.heap.size ≤ k) : QRd w' G' v ps := by
  obtain ⟨A, k, rfl, h1, h2, h3⟩ := h
  refine ⟨A, k, rfl, h1, h2, fun hn => ?_⟩
  obtain ⟨b, o, rfl, ⟨hb, hg⟩, hc⟩ := h3 hn
  have hk : w'.heap[b]? = w.heap[b]? := ha.block b hb (fun h => hg (hF b h))
  refine ⟨b, o, rfl, ⟨Nat.lt_of_lt_of_le hb ha.size, fun h => ?_⟩, fun i hi => ?_⟩
  · rcases hG b h with h | h
    · exact hg h
    · omega
  · obtain ⟨a, q, c0, c1, hr, hs⟩ := hc i hi
    have e : ∀ j, w'.cell? ⟨b, j, none⟩ = w.cell? ⟨b, j, none⟩ := fun j => World.cell?_of_block hk
    refine ⟨a, q, by rw [e]; exact c0, by rw [e]; exact c1, hr.far (fun j hj hn' hl => ha.block j hl (fun h => hs j hj hn' (hF j h))) ha.size, fun j hj hn' h => ?_⟩
    rcases hG j h with h | h
    · exact hs j hj hn' h
    · have := hr.lt hj hn'; omega
theorem QRd.step {w w' : World} {G F' : Nat → Prop} {v : Value} {ps : List Pt} (h : QRd w G v ps) (ha : Adv Nul w F' w') : QRd w' G v ps := h.adv ha (fun _ x => x.elim) (fun _ x => .inl x)
theorem QRd.row {w : World} {G : Nat → Prop} {A : Option Addr} {n k : Nat} {ps : List Pt} (h : QRd w G (.slice A n k) ps) {i : Nat} (hi : i < ps.length) : ∃ b o a q, A = some ⟨b, o, none⟩ ∧ (b < w.heap.size ∧ ¬ G b) ∧
    (w.cell? ⟨b, o + i * 2, none⟩ = some (.int .i64 ps[i].a) ∧ w.cell? ⟨b, o + i * 2 + 1, none⟩ = some (.slice a ps[i].d.length q)) ∧
    Rd w 1 (.slice a ps[i].d.length q) ps[i].d.length (ps[i].d.map u8) ∧ ∀ k, (Value.slice a ps[i].d.length q).ownBlock = some k → 0 < ps[i].d.length → ¬ G k := by
  obtain ⟨A', k', e, h1, h2, h3⟩ := h
  injection e with e1 e2 e3
  subst e1 e2 e3
  obtain ⟨b, o, rfl, hb, hc⟩ := h3 (by omega)
  obtain ⟨a, q, c0, c1, hr⟩ := hc i hi
  exact ⟨b, o, a, q, rfl, hb, ⟨c0, c1⟩, hr⟩
theorem QRd.len {w : World} {G : Nat → Prop} {A : Option Addr} {n k : Nat} {ps : List Pt} (h : QRd w G (.slice A n k) ps) : n = ps.length ∧ n ≤ k ∧ k ≤ maxLen := by
  obtain ⟨A', k', e, h1, h2, h3⟩ := h
  injection e with e1 e2 e3
  omega
theorem QRd.take {w : World} {G : Nat → Prop} {A : Option Addr} {n k : Nat} {ps : List Pt} (h : QRd w G (.slice A n k) ps) (i : Nat) (hi : i ≤ ps.length) : QRd w G (.slice A i k) (ps.take i) := by
  obtain ⟨A', k', e, h1, h2, h3⟩ := h
  injection e with e1 e2 e3
  subst e1 e2 e3
  have hl : (ps.take i).length = i := by rw [List.length_take]; exact Nat.min_eq_left hi
  refine ⟨A, k, by rw [hl], by omega, h2, fun hn => ?_⟩
  obtain ⟨b, o, rfl, hb, hc⟩ := h3 (by omega)
  refine ⟨b, o, rfl, hb, fun j hj => ?_⟩
  obtain ⟨a, q, r⟩ := hc j (by omega)
  have e : (ps.take i)[j] = ps[j]'(by omega) := List.getElem_take
  rw [e]
  exact ⟨a, q, r⟩

theorem getE_take {ps : List Pt} {i j : Nat} (h : j < i) : (ps.take i)[j]? = ps[j]? := by rw [List.getElem?_take, if_pos h]

/-- after k puts none has this home -/
def IxL (w : World) (N : Nat) (ps : List Pt) (x : Int) (t : Value) (wr : World) : Prop := ∃ k : Nat, k ≤ N ∧ t = .int .i64 (k : Int) ∧ (∀ i (h : i < ps.length), i < k → ps[i].a ≠ x) ∧ Adv Nul w Nul wr
def IxR (w : World) (ps : List Pt) (x : Int) (e : Ending) (w' : World) : Prop := ∃ r : Int, e = .returned (.int .i64 r) ∧ (0 ≤ r ↔ ∃ p ∈ ps, p.a = x) ∧ -1 ≤ r ∧ Adv Nul w Nul w'

set_option maxRecDepth 3000 in
theorem istxf_any (x y : Int) (a : Value) (u : Nat) (w : World) (hu : w.cell? ⟨u, 0, none⟩ = some (.int .i64 y)) (hlt : u < w.heap.size) :
    Calls Tryz.prog 81 #[.agg #[.int .i64 x, a], .pointer (some ⟨u, 0, none⟩)] w fun e w' => e = .returned (.bool (x == y)) ∧ Adv Nul w Nul w' := by
  obtain ⟨V, hV⟩ : ∃ V, V = w.alloc (.cells #[.int .i64 x, a] 94) := ⟨_, rfl⟩
  have HU := Lib.hid (show V.cell? ⟨u, 0, none⟩ = some (.int .i64 y) by rw [hV, ← hu]; exact World.cell?_of_block (Below.heap_alloc w _ u hlt))
  have HZ := Lib.hid (show V.cell? ⟨w.heap.size, 0, none⟩ = some (.int .i64 x) by rw [hV]; exact (Blk.new w 94 #[.int .i64 x, a]).cell 0)
  have HA := Lib.hid (show Adv Nul w Nul V by rw [hV]; exact (Adv.refl _ _).alloc _)
  obtain ⟨z, hz⟩ : ∃ z, z = w.heap.size := ⟨_, rfl⟩
  rw [← hz] at HZ
  have HZZ := Lib.hid hz
  have HV := Lib.hid hV
  clear hu hlt hz hV
  go_enter Tryz.func81, Tryz.ntmps81
  go_upto_region 1 with (fail)
  rw [← HV.out, ← HZZ.out]
  have c0 := HZ.out
  have c1 := HU.out
  go_wp2_with fail
  go_ret
  exact ⟨rfl, HA.out⟩

set_option maxRecDepth 3000 in
set_option maxHeartbeats 3200000 in
theorem indexfn_any (A0 : Option Addr) (k0 u : Nat) (y : Int) (ps : List Pt) (G : Nat → Prop) (w : World) (h : QRd w G (.slice A0 ps.length k0) ps) (hu : w.cell? ⟨u, 0, none⟩ = some (.int .i64 y)) (hlt : u < w.heap.size) :
    Calls Tryz.prog 106 #[.slice A0 ps.length k0, .func (.func 81) #[] #[.pointer (some ⟨u, 0, none⟩)]] w (IxR w ps y) := by
  obtain ⟨N, hN⟩ : ∃ N, N = ps.length := ⟨_, rfl⟩
  rw [← hN] at h ⊢
  have hmx : N ≤ maxLen := by have := h.len; omega
  have hNI : (N : Int) ≤ 9223372036854775807 := by unfold maxLen at hmx; omega
  have HP := Lib.hid h
  have HN := Lib.hid hN
  have HU := Lib.hid (And.intro hu hlt)
  clear h hN hu hlt hmx
  go_enter Tryz.func106, Tryz.ntmps106
  go_wp2_with fail
  go_loopw [8] (IxL w N ps y) (fun t _ => N - (intOf t).toNat)
  case atStart => exact ⟨0, Nat.zero_le _, rfl, fun i _ hi => absurd hi (Nat.not_lt_zero _), Adv.refl _ _⟩
  case round =>
    obtain ⟨k, hk, rfl, hpre, ha⟩ := hrel
    have HPRE := Lib.hid hpre
    have HA := Lib.hid ha
    by_cases hlt : k < N
    · have hki : (k : Int) < (N : Int) := by omega
      have hkp : k < ps.length := by rw [← HN.out]; exact hlt
      obtain ⟨b, o, a, q, rfl, -, ⟨c0, c1⟩, -, -⟩ := (HP.out.step ha).row hkp
      obtain ⟨x, hx⟩ : ∃ x, x = ps[k].a := ⟨_, rfl⟩
      rw [← hx] at c0
      obtain ⟨m, hm⟩ : ∃ m, m = ps[k].d.length := ⟨_, rfl⟩
      rw [← hm] at c1
      have HX := Lib.hid hx
      have HLT := Lib.hid hlt
      have HUR := Lib.hid (show wr.cell? ⟨u, 0, none⟩ = some (.int .i64 y) ∧ u < wr.heap.size from ⟨by rw [← HU.out.1]; exact World.cell?_of_block (ha.block u HU.out.2 (fun x => x)), Nat.lt_of_lt_of_le HU.out.2 ha.size⟩)
      have HKP := Lib.hid hkp
      clear hpre ha hx hlt hk hm
      go_wp2_with fail
      refine (istxf_any x y _ u _ HUR.out.1 HUR.out.2).mono ?_
      rintro e w1 ⟨rfl, a1⟩
      have HA1 := Lib.hid (HA.out.trans a1)
      clear a1
      by_cases hxy : x = y
      · have hb : (x == y) = true := by rw [hxy]; exact beq_self_eq_true y
        have HXY := Lib.hid hxy
        clear hxy
        rw [hb]
        go_wp2_with fail
        go_ret
        exact ⟨(k : Int), rfl, ⟨fun _ => ⟨_, List.getElem_mem HKP.out, by rw [← HX.out]; exact HXY.out⟩, fun _ => by omega⟩, by omega, HA1.out⟩
      · have hb : (x == y) = false := by rw [beq_eq_false_iff_ne]; exact hxy
        have HXY := Lib.hid hxy
        clear hxy
        rw [hb]
        go_wp2_with fail
        have hlt := HLT.out
        refine ⟨⟨k + 1, by omega, by go_num, fun i h hi => ?_, HA1.out⟩, by simp [intOf]; omega⟩
        by_cases e : i = k
        · subst e; rw [← HX.out]; exact HXY.out
        · exact HPRE.out i h (by omega)
    · obtain rfl : k = N := by omega
      clear hpre ha hlt hk
      go_wp2_with fail
      go_ret
      refine ⟨-1, rfl, ⟨fun h => absurd h (by decide), fun ⟨p, hp, e⟩ => ?_⟩, by decide, HA.out⟩
      obtain ⟨i, hi, rfl⟩ := List.getElem_of_mem hp
      exact absurd e (HPRE.out i hi (by rw [HN.out]; exact hi))

set_option maxRecDepth 3000 in
theorem containsfn_any (A0 : Option Addr) (k0 u : Nat) (y : Int) (ps : List Pt) (G : Nat → Prop) (w : World) (h : QRd w G (.slice A0 ps.length k0) ps) (hu : w.cell? ⟨u, 0, none⟩ = some (.int .i64 y)) (hlt : u < w.heap.size) :
    Calls Tryz.prog 80 #[.slice A0 ps.length k0, .func (.func 81) #[] #[.pointer (some ⟨u, 0, none⟩)]] w fun e w' => e = .returned (.bool (decide (∃ p ∈ ps, p.a = y))) ∧ Adv Nul w Nul w' := by
  have HC := Lib.hid (indexfn_any A0 k0 u y ps G w h hu hlt)
  obtain ⟨B, hB⟩ : ∃ B, B = decide (∃ p ∈ ps, p.a = y) := ⟨_, rfl⟩
  rw [← hB]
  have HB := Lib.hid hB
  clear h hu hlt hB
  go_enter Tryz.func80, Tryz.ntmps80
  go_wp2_with fail
  refine HC.out.mono ?_
  rintro e w1 ⟨r, rfl, hr, hr1, a1⟩
  have HR := Lib.hid hr
  have HA := Lib.hid a1
  clear hr a1
  by_cases h0 : 0 ≤ r
  · obtain rfl : B = true := by rw [HB.out]; exact decide_eq_true (HR.out.mp h0)
    go_wp2_with fail
    go_ret
    exact ⟨rfl, HA.out⟩
  · obtain rfl : B = false := by rw [HB.out]; exact decide_eq_false (fun k => h0 (HR.out.mpr k))
    go_wp2_with fail
    go_ret
    exact ⟨by simp [h0], HA.out⟩
end Go.Proofs.YtolcnbiaiolcoaaGreat
namespace Go.Proofs.YtolcnbiaiolcoaaGreat
open Go.RowKit

def txAt (ps : List Pt) (H : Int) (i : Nat) (hi : i < ps.length) : Prop := (0 ≤ ps[i].a ∧ ps[i].a < H) ∧ ps[i].d.length = 128 ∧ ∀ k (hk : k < i), ps[k].a ≠ ps[i].a
def TxL (w : World) (N : Nat) (ps : List Pt) (H : Int) (t : Value) (wr : World) : Prop := ∃ k : Nat, k ≤ N ∧ t = .int .i64 (k : Int) ∧ (∀ i (h : i < ps.length), i < k → txAt ps H i h) ∧ Adv Nul w Nul wr
def TxR (w : World) (B : Bool) (e : Ending) (w' : World) : Prop := e = .returned (.bool B) ∧ Adv Nul w Nul w'
theorem take_ex {ps : List Pt} {k : Nat} {x : Int} (hk : k ≤ ps.length) : (∃ p ∈ ps.take k, p.a = x) ↔ ∃ (i : Nat) (h : i < k), (ps[i]'(by omega)).a = x := by
  constructor
  · rintro ⟨p, hp, rfl⟩
    obtain ⟨i, hi, rfl⟩ := List.getElem_of_mem hp
    have hi' : i < k := by rw [List.length_take] at hi; omega
    exact ⟨i, hi', by rw [List.getElem_take]⟩
  · rintro ⟨i, h, rfl⟩
    have hi : i < (ps.take k).length := by rw [List.length_take]; omega
    exact ⟨(ps.take k)[i], List.getElem_mem hi, by rw [List.getElem_take]⟩
theorem put2 {w : World} {z : Nat} {t : TypeId} {u v : Value} (h : Blk w z t #[u, v]) : w.cell? ⟨z, 0, none⟩ = some u ∧ w.cell? ⟨z, 1, none⟩ = some v := ⟨h.cell 0, h.cell 1⟩

set_option maxRecDepth 3000 in
set_option maxHeartbeats 6400000 in
theorem istx_any (A0 : Option Addr) (N k0 : Nat) (ps : List Pt) (H : Int) (G : Nat → Prop) (w : World) (h : QRd w G (.slice A0 N k0) ps) :
    Calls Tryz.prog 48 #[.slice A0 N k0, .int .i64 H] w (TxR w (decide (isTx ps H))) := by
  have hN := h.len.1
  have hmx : N ≤ maxLen := by have := h.len; omega
  have hkm : N ≤ k0 := h.len.2.1
  have hkx : k0 ≤ maxLen := h.len.2.2
  have hNI : (N : Int) ≤ 9223372036854775807 := by unfold maxLen at hmx; omega
  have hkI : (k0 : Int) ≤ 9223372036854775807 := by unfold maxLen at hkx; omega
  have hkN : (N : Int) ≤ (k0 : Int) := by omega
  obtain ⟨B, hB⟩ : ∃ B, B = decide (isTx ps H) := ⟨_, rfl⟩
  rw [← hB]
  have HB := Lib.hid hB
  have HP := Lib.hid h
  have HN := Lib.hid hN
  clear h hN hB hmx hkm hkx
  have hno : ¬ isTx ps H → B = false := fun k => by rw [HB.out]; exact decide_eq_false k
  have HNO := Lib.hid hno
  clear hno
  by_cases h1 : (N : Int) < 1
  · obtain rfl : B = false := HNO.out (fun k => by have := k.1.1; have := HN.out; omega)
    go_enter Tryz.func48, Tryz.ntmps48
    go_wp2_with fail
    go_ret
    exact ⟨rfl, Adv.refl _ _⟩
  · have h1' : 1 ≤ (N : Int) := by omega
    clear h1
    by_cases h2 : 24 < (N : Int)
    · obtain rfl : B = false := HNO.out (fun k => by have := k.1.2; have := HN.out; omega)
      go_enter Tryz.func48, Tryz.ntmps48
      go_wp2_with fail
      go_ret
      exact ⟨rfl, Adv.refl _ _⟩
    · have h2' : (N : Int) ≤ 24 := by omega
      clear h2
      have HLN := Lib.hid (show 1 ≤ ps.length ∧ ps.length ≤ 24 by have := HN.out; omega)
      go_enter Tryz.func48, Tryz.ntmps48
      go_wp2_with fail
      go_loopw [17] (TxL w N ps H) (fun t _ => N - (intOf t).toNat)
      case atStart => exact ⟨0, Nat.zero_le _, rfl, fun i _ hi => absurd hi (Nat.not_lt_zero _), Adv.refl _ _⟩
      case round =>
        obtain ⟨k, hk, rfl, hpre, ha⟩ := hrel
        have HPRE := Lib.hid hpre
        have HA := Lib.hid ha
        by_cases hlt : k < N
        · have hki : (k : Int) < (N : Int) := by omega
          have hkp : k < ps.length := by rw [← HN.out]; exact hlt
          obtain ⟨b, o, a, q, rfl, -, ⟨c0, c1⟩, -, -⟩ := (HP.out.step ha).row hkp
          obtain ⟨x, hx⟩ : ∃ x, x = ps[k].a := ⟨_, rfl⟩
          rw [← hx] at c0
          obtain ⟨m, hm⟩ : ∃ m, m = ps[k].d.length := ⟨_, rfl⟩
          rw [← hm] at c1
          obtain ⟨V, hV⟩ : ∃ V, V = wr.alloc (.cells #[.int .i64 x, .slice a m q] 94) := ⟨_, rfl⟩
          obtain ⟨z, hz⟩ : ∃ z, z = wr.heap.size := ⟨_, rfl⟩
          have HZB := Lib.hid (show Blk V z 94 #[.int .i64 x, .slice a m q] by rw [hV, hz]; exact Blk.new _ _ _)
          have HAV := Lib.hid (show Adv Nul w Nul V by rw [hV]; exact ha.alloc _)
          have HX := Lib.hid hx
          have HM := Lib.hid hm
          have HV := Lib.hid hV
          have HZ := Lib.hid hz
          have HLT := Lib.hid hlt
          have hk0 : (0 : Int) ≤ (k : Int) := by omega
          have hkk : (k : Int) ≤ (k0 : Int) := by omega
          have hq : QRd V G (.slice (some ⟨b, o, none⟩) k k0) (ps.take k) := (HP.out.step HAV.out).take k (by omega)
          obtain ⟨C, hC⟩ : ∃ C, C = decide (∃ p ∈ ps.take k, p.a = x) := ⟨_, rfl⟩
          have hcall : Calls Tryz.prog 80 #[.slice (some ⟨b, o, none⟩) k k0, .func (.func 81) #[] #[.pointer (some ⟨z, 0, none⟩)]] V fun e w' => e = .returned (.bool C) ∧ Adv Nul V Nul w' := by
            have e : (ps.take k).length = k := by rw [List.length_take]; omega
            have hq' : QRd V G (.slice (some ⟨b, o, none⟩) (ps.take k).length k0) (ps.take k) := by rw [e]; exact hq
            have := containsfn_any (some ⟨b, o, none⟩) k0 z x (ps.take k) G V hq' (HZB.out.cell 0) HZB.out.lt
            rw [e] at this
            rw [hC]
            exact this
          have HCALL := Lib.hid hcall
          have HC := Lib.hid hC
          have HKP := Lib.hid hkp
          clear hpre ha hx hm hV hz hlt hk hq hcall hC
          go_upto_region 6 with (fail)
          rw [← HV.out, ← HZ.out]
          clear c0 c1
          obtain ⟨z0, z1⟩ := put2 HZB.out
          have hbad : ¬ txAt ps H k HKP.out → B = false := fun h => HNO.out (fun t => h (t.2 k HKP.out))
          have HBAD := Lib.hid hbad
          clear hbad
          by_cases hx0 : x < 0
          · obtain rfl : B = false := HBAD.out (fun t => by have := t.1.1; rw [← HX.out] at this; omega)
            go_wp2_with fail
            go_ret
            exact ⟨rfl, HAV.out⟩
          · have hx0' : 0 ≤ x := by omega
            clear hx0
            by_cases hxH : H ≤ x
            · obtain rfl : B = false := HBAD.out (fun t => by have := t.1.2; rw [← HX.out] at this; omega)
              go_wp2_with fail
              go_ret
              exact ⟨rfl, HAV.out⟩
            · have hxH' : x < H := by omega
              clear hxH
              by_cases hm : m = 128
              · subst hm
                go_wp2_with fail
                refine HCALL.out.mono ?_
                rintro e w8 ⟨rfl, a8⟩
                have HA8 := Lib.hid (HAV.out.trans a8)
                clear a8
                cases C with
                | true =>
                  obtain rfl : B = false := HBAD.out (fun t => by
                    obtain ⟨i, hi, he⟩ := (take_ex (Nat.le_of_lt HKP.out)).mp (of_decide_eq_true HC.out.symm)
                    exact t.2.2 i hi (by rw [he, HX.out]))
                  go_wp2_with fail
                  go_ret
                  exact ⟨rfl, HA8.out⟩
                | false =>
                  have HG := Lib.hid (show txAt ps H k HKP.out from ⟨⟨by rw [← HX.out]; exact hx0', by rw [← HX.out]; exact hxH'⟩, HM.out.symm, fun i hi he =>
                    of_decide_eq_false HC.out.symm ((take_ex (Nat.le_of_lt HKP.out)).mpr ⟨i, hi, by rw [he, HX.out]⟩)⟩)
                  go_wp2_with fail
                  have hlt := HLT.out
                  refine ⟨⟨k + 1, by omega, by go_num, fun i h hi => ?_, HA8.out⟩, by simp [intOf]; omega⟩
                  by_cases e : i = k
                  · subst e; exact HG.out
                  · exact HPRE.out i h (by omega)
              · obtain rfl : B = false := HBAD.out (fun t => hm (by rw [HM.out]; exact t.2.1))
                have hmI : ((m : Int) != 128) = true := by rw [bne_iff_ne]; omega
                have hmJ : ((m : Int) == 128) = false := by rw [beq_eq_false_iff_ne]; omega
                clear hm
                go_wp2_with fail
                go_ret
                exact ⟨rfl, HAV.out⟩
        · obtain rfl : k = N := by omega
          obtain rfl : B = true := by rw [HB.out]; exact decide_eq_true ⟨HLN.out, fun i hi => HPRE.out i hi (by have := HN.out; omega)⟩
          clear hpre ha hlt hk
          go_wp2_with fail
          go_ret
          exact ⟨rfl, HA.out⟩
end Go.Proofs.YtolcnbiaiolcoaaGreat
