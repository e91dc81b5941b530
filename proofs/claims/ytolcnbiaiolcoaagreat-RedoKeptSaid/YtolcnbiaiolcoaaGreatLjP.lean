/- Two lists of pieces that grow side by side; pieces that came in. -/
import Derived.Test.YtolcnbiaiolcoaaGreatLjR
import Derived.Test.YtolcnbiaiolcoaaGreatMgT
import Derived.Deep.Slices
import Derived.Deep.Fields
import Derived.ChangeArms
namespace Go.Proofs.YtolcnbiaiolcoaaGreat
open Go.ChangeShapes Go.WideShapes Go.ChangeAt Go.RowKit Go.Deep

/-- what one list's elements have -/
def PAt (w : World) (P : Nat → Pc) (Av : Nat → Prop) (qs : List (Pc × Value)) : Prop :=
  ∀ i (h : i < qs.length), qs[i].1 = P i ∧ ∃ a q, qs[i].2 = .slice a (P i).d.length q ∧ Rd w 1 (.slice a (P i).d.length q) (P i).d.length ((P i).d.map u8) ∧ ∀ g, (Value.slice a (P i).d.length q).ownBlock = some g → 0 < (P i).d.length → ¬ Av g
structure TwoL (ta tc : TypeId) (W : World) (P : Nat → Pc) (ka kc : Nat) (va vc : Value) (Fa Fc : Nat → Prop) (qa qc : List (Pc × Value)) (w : World) : Prop where
  la : qa.length = ka
  lc : qc.length = kc
  sa : Sl w Fa ta 5 va ka (qa.flatMap rcells)
  sc : Sl w Fc tc 5 vc kc (qc.flatMap rcells)
  da : PAt w P (fun g => Fa g ∨ Fc g) qa
  dc : PAt w P (fun g => Fc g ∨ Fa g) qc
  sep : Sep Fa Fc
  adv : Adv Nul W (fun g => Fa g ∨ Fc g) w
section
variable {ta tc : TypeId} {W w w' : World} {P : Nat → Pc} {ka kc : Nat} {va vc : Value} {Fa Fc : Nat → Prop} {qa qc : List (Pc × Value)}
set_option maxRecDepth 3000 in
theorem PAt.step {F' Av : Nat → Prop} (h : PAt w P Av qa) (ha : Adv Nul w F' w') : PAt w' P Av qa := fun i hi => by
  obtain ⟨e, a, q, e2, hr, hn⟩ := h i hi
  exact ⟨e, a, q, e2, hr.far (fun _ _ _ hl => ha.block _ hl (fun x => x)) ha.size, hn⟩
set_option maxRecDepth 3000 in
theorem TwoL.nil (ta tc : TypeId) (W : World) (P : Nat → Pc) : TwoL ta tc W P 0 0 (.slice none 0 0) (.slice none 0 0) Nul Nul [] [] W :=
  ⟨rfl, rfl, Sl.nil _ _ _, Sl.nil _ _ _, fun i h => absurd h (by simp), fun i h => absurd h (by simp), fun _ h => h.elim, (Adv.refl Nul W).sub (fun _ h => by rcases h with h | h <;> exact h.elim)⟩
set_option maxRecDepth 3000 in
theorem TwoL.swap (h : TwoL ta tc W P ka kc va vc Fa Fc qa qc w) : TwoL tc ta W P kc ka vc va Fc Fa qc qa w :=
  ⟨h.lc, h.la, h.sc, h.sa, h.dc, h.da, fun k a b => h.sep k b a, h.adv.sub (fun _ x => x.symm)⟩
set_option maxRecDepth 3000 in
theorem TwoL.step {F' : Nat → Prop} (h : TwoL ta tc W P ka kc va vc Fa Fc qa qc w) (ha : Adv Nul w F' w') : TwoL ta tc W P ka kc va vc Fa Fc qa qc w' :=
  ⟨h.la, h.lc, h.sa.far ha (fun _ h _ => h), h.sc.far ha (fun _ h _ => h), h.da.step ha, h.dc.step ha, h.sep, h.adv.over ha⟩
set_option maxRecDepth 3000 in
theorem TwoL.push {va' : Value} {a : Option Addr} {q : Nat} (h : TwoL ta tc W P ka kc va vc Fa Fc qa qc w) (hr : Rd w 1 (.slice a (P ka).d.length q) (P ka).d.length ((P ka).d.map u8)) (hnF : ∀ g, (Value.slice a (P ka).d.length q).ownBlock = some g → 0 < (P ka).d.length → ¬ (Fa g ∨ Fc g))
    (hown : w'.ownsRow 0 ta 5 va' (ka + 1) (qa.flatMap rcells ++ rcells (P ka, .slice a (P ka).d.length q))) (hg : w.grownBy w' va.ownBlock) (hat : va'.ownBlock = va.ownBlock ∨ va'.ownBlock = some w.heap.size) :
    TwoL ta tc W P (ka + 1) kc va' vc (fun j => Fa j ∨ va'.ownBlock = some j) Fc (qa ++ [(P ka, .slice a (P ka).d.length q)]) qc w' := by
  obtain ⟨g1, g2⟩ := lsl_grown h.sa hown hg hat (Nat.le_refl _)
  have hsep : Sep (fun j => Fa j ∨ va'.ownBlock = some j) Fc := by
    rintro j (h1 | h1) h2
    · exact h.sep j h1 h2
    · rcases hat with e | e
      · exact h.sep j (h.sa.inF j (by rw [← e]; exact h1)) h2
      · rw [e] at h1; injection h1 with h1
        have := h.sc.bd j h2
        omega
  have hF' : ∀ g, g < w.heap.size → ¬ (Fa g ∨ Fc g) → ¬ ((Fa g ∨ va'.ownBlock = some g) ∨ Fc g) := fun g hlt hn hor => by
    rcases hor with (h1 | h1) | h1
    · exact hn (.inl h1)
    · rcases hat with e | e
      · exact hn (.inl (h.sa.inF g (by rw [← e]; exact h1)))
      · rw [e] at h1; injection h1 with h1; omega
    · exact hn (.inr h1)
  have hblt : ∀ {a : Option Addr} {d q : Nat} {l : List Nat}, Rd w 1 (.slice a d q) d (l.map u8) → ∀ g, (Value.slice a d q).ownBlock = some g → 0 < d → g < w.heap.size := fun hr g hg hd => by
    obtain ⟨b, o, c, e, hb, _, _⟩ := hr.adr hd
    injection e with e1 _ _
    subst e1
    simp [Value.ownBlock] at hg
    omega
  have keep : ∀ {a : Option Addr} {d q : Nat} {l : List Nat}, Rd w 1 (.slice a d q) d (l.map u8) → (∀ g, (Value.slice a d q).ownBlock = some g → 0 < d → ¬ (Fa g ∨ Fc g)) → Rd w' 1 (.slice a d q) d (l.map u8) ∧ ∀ g, (Value.slice a d q).ownBlock = some g → 0 < d → ¬ ((Fa g ∨ va'.ownBlock = some g) ∨ Fc g) := fun hr hn =>
    ⟨hr.far (fun g hg hd hl => g2.block g hl (fun h => hn g hg hd (.inl h))) g2.size, fun g hg hd => hF' g (hblt hr g hg hd) (hn g hg hd)⟩
  have hl := h.la
  refine ⟨by simp [hl], h.lc, by simpa using g1, h.sc.far g2 h.sep, fun i hi => ?_, fun i hi => ?_, hsep, ?_⟩
  · rw [List.length_append, List.length_singleton] at hi
    by_cases hik : i < qa.length
    · rw [List.getElem_append_left hik]
      obtain ⟨e, a', q', e2, hr', hn'⟩ := h.da i hik
      obtain ⟨k1, k2⟩ := keep hr' hn'
      exact ⟨e, a', q', e2, k1, k2⟩
    · obtain rfl : i = qa.length := by omega
      rw [List.getElem_append_right (Nat.le_refl _)]
      simp only [Nat.sub_self, List.getElem_cons_zero, hl]
      obtain ⟨k1, k2⟩ := keep hr hnF
      exact ⟨trivial, a, q, rfl, k1, k2⟩
  · obtain ⟨e, a', q', e2, hr', hn'⟩ := h.dc i hi
    obtain ⟨k1, k2⟩ := keep hr' (fun g hg hd x => hn' g hg hd x.symm)
    exact ⟨e, a', q', e2, k1, fun g hg hd x => k2 g hg hd x.symm⟩
  · have hA := h.adv
    refine ⟨g2.os.trans hA.os, g2.tape.trans hA.tape, g2.output.trans hA.output, Nat.le_trans hA.size g2.size, fun k hk hn => ?_, fun k hk => ?_⟩
    · refine (g2.block k (Nat.lt_of_lt_of_le hk hA.size) (fun hf => ?_)).trans (hA.block k hk hn)
      rcases hA.into k (.inl hf) with h1 | h1
      · exact hn h1
      · omega
    · rcases hk with hk | hk
      · rcases g2.into k hk with h1 | h1
        · exact hA.into k (.inl h1)
        · right; have := hA.size; omega
      · exact hA.into k (.inr hk)
set_option maxRecDepth 3000 in
theorem TwoL.prd (h : TwoL ta tc W P ka kc va vc Fa Fc qa qc w) : PRd w va ((List.range ka).map P) ∧ ∃ A k, va = .slice A ka k := by
  have hl := h.la
  obtain ⟨A, c, rfl, hkc, hcm⟩ := h.sa.form0
  refine ⟨⟨A, c, by simp, by simpa using hkc, hcm, fun hk => ?_⟩, A, c, rfl⟩
  have hk' : 0 < ka := by simpa using hk
  obtain ⟨g, c', e, hFg, _⟩ := h.sa.form hk'
  injection e with e1 _ _
  subst e1
  refine ⟨g, 0, rfl, h.sa.bd g hFg, fun i hi => ?_⟩
  have hi' : i < ka := by simpa using hi
  obtain ⟨e, a, q, e2, hr, _⟩ := h.da i (by omega)
  have e3 : ((List.range ka).map P)[i]'hi = P i := by simp
  rw [e3]
  have H : ∀ j u, j < 5 → (rcells (qa[i]'(by omega)))[j]? = some u → w.cell? ⟨g, 0 + (i * 5 + j), none⟩ = some u := fun j u hj hu => by
    rw [Nat.zero_add, h.sa.own.cellAt (i * 5 + j) (by omega), flat5 rcells (fun _ => rfl) qa i j (by omega) hj]
    exact hu
  refine ⟨a, q, H 0 _ (by decide) ?_, H 1 _ (by decide) ?_, H 2 _ (by decide) ?_, H 3 _ (by decide) ?_, H 4 _ (by decide) ?_, hr⟩ <;> simp [rcells, e, e2]
end

/-- pieces that came in -/
structure PsIn (W : World) (v : Value) (qs : List (Pc × Value)) : Prop where
  rd : Rd W 5 v qs.length (qs.flatMap rcells)
  fit : ∀ q ∈ qs, In W q.2 q.1.d ∧ q.1.e < 18446744073709551616 ∧ q.1.c < 18446744073709551616
set_option maxRecDepth 3000 in
theorem open_rpieces {H : Type} {enc : TypeId × Value → H} {W : World} {base : Nat} {r : Reach} {v : Value} {d : DataW H} {p : List MemPlace} (hv : Value.okWide Tryz.prog W r base 83 v) (h : DataW.Trod enc Tryz.prog W 0 (fun _ => true) true 83 v d p) : ∃ qs, PsIn W v qs := by
  obtain ⟨a, len, cap, rfl⟩ := okWide_slice Tryz.underlying83 hv
  obtain ⟨fuel, hf⟩ := h
  rcases open_slice Tryz.underlying83 hf with ⟨hcs, _⟩ | ⟨x, l, c, m, n, D, Pl, hcs, _, hl, hm, hmm, _, hi⟩
  · simp [Value.cells] at hcs
    obtain ⟨rfl, rfl, rfl⟩ := hcs
    exact ⟨[], ⟨⟨none, 0, rfl, Nat.le_refl _, Nat.zero_le _, rfl, fun _ => rfl, fun hn => absurd hn (by simp)⟩, fun _ hz => by simp at hz⟩⟩
  · simp [Value.cells] at hcs
    obtain ⟨rfl, rfl, rfl⟩ := hcs
    simp only [if_true] at hmm
    have H1 : ∀ i, i < len → ∃ d : Pc × Value, (∀ j, j < 5 → W.cell? (x.add (i * 5 + j)) = (rcells d)[j]?) ∧ In W d.2 d.1.d ∧ d.1.e < 18446744073709551616 ∧ d.1.c < 18446744073709551616 := by
      intro i hil
      obtain ⟨cs', hc, ht⟩ := hi i (by omega)
      rw [cellsRPiece] at hc
      obtain ⟨e, c, f, g, v, l, h1, h2, h3, h4⟩ := open_rpiece ht
      obtain ⟨_, _, hat⟩ := World.cells?_some hc
      refine ⟨(⟨e, c, f, g, l⟩, v), fun j hj => ?_, h2, h3, h4⟩
      rw [show rcells (⟨e, c, f, g, l⟩, v) = cs' from h1.symm, ← hat j hj, Go.Deep.add_add]
    obtain ⟨ds, hdl, hd⟩ : ∃ ds : List (Pc × Value), ds.length = len ∧ ∀ i (h : i < ds.length), (∀ j, j < 5 → W.cell? (x.add (i * 5 + j)) = (rcells ds[i])[j]?) ∧ In W ds[i].2 ds[i].1.d ∧ ds[i].1.e < 18446744073709551616 ∧ ds[i].1.c < 18446744073709551616 := by
      clear hi hf
      have : ∀ n : Nat, (∀ i, i < n → ∃ d : Pc × Value, (∀ j, j < 5 → W.cell? (x.add (i * 5 + j)) = (rcells d)[j]?) ∧ In W d.2 d.1.d ∧ d.1.e < 18446744073709551616 ∧ d.1.c < 18446744073709551616) → ∃ ds : List (Pc × Value), ds.length = n ∧ ∀ i (h : i < ds.length), (∀ j, j < 5 → W.cell? (x.add (i * 5 + j)) = (rcells ds[i])[j]?) ∧ In W ds[i].2 ds[i].1.d ∧ ds[i].1.e < 18446744073709551616 ∧ ds[i].1.c < 18446744073709551616 := by
        intro n
        induction n with
        | zero => exact fun _ => ⟨[], rfl, fun i h => absurd h (by simp)⟩
        | succ n ih =>
          intro H
          obtain ⟨ds, hl, hd⟩ := ih (fun i hi => H i (by omega))
          obtain ⟨d, hq⟩ := H n (by omega)
          refine ⟨ds ++ [d], by simp [hl], fun i h => ?_⟩
          rw [List.length_append, List.length_singleton] at h
          by_cases hi : i < ds.length
          · rw [List.getElem_append_left hi]; exact hd i hi
          · have e : i = n := by omega
            subst e
            rw [List.getElem_append_right (by omega)]
            simpa [hl] using hq
      exact this len H1
    have hfl : (ds.flatMap rcells).length = ds.length * 5 := flat5_len rcells (fun _ => rfl) ds
    refine ⟨ds, ⟨⟨some x, cap, by rw [hdl], by omega, hm, hfl, fun hn => (by cases hn), fun hn => ⟨x, rfl, ?_, ?_⟩⟩, ?_⟩⟩
    · have h0 := (hd 0 hn).1 0 (by decide)
      have := World.block_lt_of_cell? _ _ (h0.trans rfl)
      rwa [add_block] at this
    · intro j u hu
      have hjl : j < (ds.flatMap rcells).length := (List.getElem?_eq_some_iff.1 hu).1
      rw [hfl] at hjl
      have hk : j / 5 < ds.length := by omega
      have hj6 : j % 5 < 5 := by omega
      have e : j = j / 5 * 5 + j % 5 := by omega
      rw [e] at hu ⊢
      rw [(hd (j / 5) hk).1 (j % 5) hj6, ← hu, flat5 rcells (fun _ => rfl) ds (j / 5) (j % 5) hk hj6]
    · intro d hdm
      obtain ⟨i, hi2, rfl⟩ := List.getElem_of_mem hdm
      exact (hd i hi2).2
end Go.Proofs.YtolcnbiaiolcoaaGreat
