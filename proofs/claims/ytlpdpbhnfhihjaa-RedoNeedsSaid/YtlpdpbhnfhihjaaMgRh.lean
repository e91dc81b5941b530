/- The document's Is; Few: puts that came in, cut to a transaction's form. Few; puts that came in. The document's Record. Puts that came in: opened. RedoNeeds. -/
import Derived.Test.YtlpdpbhnfhihjaaMgRg
import Derived.Test.YtlpdpbhnfhihjaaMgC
import Derived.Test.YtlpdpbhnfhihjaaDkA
namespace Go.Proofs.Ytlpdpbhnfhihjaa
open Go.RowKit Go.Maps

def IsM (w : World) (ps : List Pt) (x : Int) (k : Nat) (t : Value) (wr : World) : Prop := ∃ j : Nat, j ≤ k ∧ t = .int .i64 (j : Int) ∧ (∀ i (h : i < ps.length), i < j → ps[i].a ≠ x) ∧ Adv Nul w Nul wr

set_option maxRecDepth 3000 in
set_option maxHeartbeats 6400000 in
theorem ris_any (A0 : Option Addr) (N k0 : Nat) (ps : List Pt) (H : Int) (G : Nat → Prop) (w : World) (h : QRd w G (.slice A0 N k0) ps) :
    Calls Try.prog 8 #[.slice A0 N k0, .int .i64 H] w (TxR w (decide (isTx ps H))) := by
  have hN := h.len.1
  have hmx : N ≤ maxLen := by have := h.len; omega
  have hNI : (N : Int) ≤ 9223372036854775807 := by unfold maxLen at hmx; omega
  obtain ⟨B, hB⟩ : ∃ B, B = decide (isTx ps H) := ⟨_, rfl⟩
  rw [← hB]
  have HB := Lib.hid hB
  have HP := Lib.hid h
  have HN := Lib.hid hN
  clear h hN hB hmx
  have hno : ¬ isTx ps H → B = false := fun k => by rw [HB.out]; exact decide_eq_false k
  have HNO := Lib.hid hno
  clear hno
  by_cases h1 : (N : Int) < 1
  · obtain rfl : B = false := HNO.out (fun k => by have := k.1.1; have := HN.out; omega)
    go_enter Try.func8, Try.ntmps8
    go_wp2_with fail
    go_ret
    exact ⟨rfl, Adv.refl _ _⟩
  · have h1' : 1 ≤ (N : Int) := by omega
    clear h1
    by_cases h2 : 24 < (N : Int)
    · obtain rfl : B = false := HNO.out (fun k => by have := k.1.2; have := HN.out; omega)
      go_enter Try.func8, Try.ntmps8
      go_wp2_with fail
      go_ret
      exact ⟨rfl, Adv.refl _ _⟩
    · have h2' : (N : Int) ≤ 24 := by omega
      clear h2
      have HLN := Lib.hid (show 1 ≤ ps.length ∧ ps.length ≤ 24 by have := HN.out; omega)
      go_enter Try.func8, Try.ntmps8
      go_wp2_with fail
      go_loopw [5] (TxL w N ps H) (fun t _ => N - (intOf t).toNat)
      case atStart => exact ⟨0, Nat.zero_le _, rfl, fun i _ hi => absurd hi (Nat.not_lt_zero _), Adv.refl _ _⟩
      case round =>
        obtain ⟨k, hk, rfl, hpre, ha⟩ := hrel
        have HPRE := Lib.hid hpre
        have HA := Lib.hid ha
        by_cases hlt : k < N
        · have hki : (k : Int) < (N : Int) := by omega
          have hkp : k < ps.length := by rw [← HN.out]; exact hlt
          obtain ⟨b, o, a, q, rfl, -, ⟨c0, c1⟩, -, -⟩ := (HP.out.step ha).row hkp
          obtain ⟨x, hx⟩ : ∃ x, x = ps[k].a := ⟨_, rfl⟩
          rw [← hx] at c0
          obtain ⟨m, hm⟩ : ∃ m, m = ps[k].d.length := ⟨_, rfl⟩
          rw [← hm] at c1
          have HX := Lib.hid hx
          have HM := Lib.hid hm
          have HLT := Lib.hid hlt
          have HKP := Lib.hid hkp
          have hbad : ¬ txAt ps H k hkp → B = false := fun h => HNO.out (fun t => h (t.2 k hkp))
          have HBAD := Lib.hid hbad
          clear hpre ha hx hm hlt hk hbad
          by_cases hx0 : x < 0
          · obtain rfl : B = false := HBAD.out (fun t => by have := t.1.1; rw [← HX.out] at this; omega)
            go_wp2_with fail
            go_ret
            exact ⟨rfl, HA.out⟩
          · have hx0' : 0 ≤ x := by omega
            clear hx0
            by_cases hxH : H ≤ x
            · obtain rfl : B = false := HBAD.out (fun t => by have := t.1.2; rw [← HX.out] at this; omega)
              go_wp2_with fail
              go_ret
              exact ⟨rfl, HA.out⟩
            · have hxH' : x < H := by omega
              clear hxH
              by_cases hm : m = 128
              · subst hm
                have hxf : (H ≤ x) = False := eq_false (by omega)
                have hxg : (x < 0) = False := eq_false (by omega)
                go_wp2_with fail
                go_loopw [6] (IsM w ps x k) (fun t _ => k - (intOf t).toNat)
                case atStart => exact ⟨0, Nat.zero_le _, rfl, fun i _ hi => absurd hi (Nat.not_lt_zero _), HA.out⟩
                case round =>
                  obtain ⟨j, hj, rfl, hpre2, ha2⟩ := hrel
                  have HA2 := Lib.hid ha2
                  have HPRE2 := Lib.hid hpre2
                  by_cases hlt2 : j < k
                  · have hji : (j : Int) < (k : Int) := by omega
                    have hjn : (j : Int) < (N : Int) := by omega
                    have hj0 : (0 : Int) ≤ (j : Int) := by omega
                    have hk0 : (0 : Int) ≤ (k : Int) := by omega
                    have hjp : j < ps.length := by omega
                    obtain ⟨bj, oj, aj, qj, ej, -, ⟨d0, -⟩, -, -⟩ := (HP.out.step ha2).row hjp
                    injection ej with ej
                    injection ej with e1 e2 _
                    subst e1 e2
                    obtain ⟨bk, ok, ak, qk, ek, -, ⟨e0, -⟩, -, -⟩ := (HP.out.step ha2).row HKP.out
                    injection ek with ek
                    injection ek with e1 e2 _
                    subst e1 e2
                    rw [← HX.out] at e0
                    obtain ⟨y, hy⟩ : ∃ y, y = ps[j].a := ⟨_, rfl⟩
                    rw [← hy] at d0
                    have HY := Lib.hid hy
                    have HLT2 := Lib.hid hlt2
                    have HJP := Lib.hid hjp
                    clear hpre2 ha2 hlt2 hj hy c0 c1
                    by_cases hxy : y = x
                    · have hb : ((y : Int) == x) = true := by rw [hxy]; exact beq_self_eq_true x
                      obtain rfl : B = false := HBAD.out (fun t => t.2.2 j HLT2.out (by rw [← HX.out, ← HY.out]; exact hxy))
                      clear hxy
                      go_wp2_with fail
                      go_quiet (fail)
                      go_wp2
                      go_ret
                      exact ⟨rfl, HA2.out.drewN _⟩
                    · have hb : ((y : Int) == x) = false := by rw [beq_eq_false_iff_ne]; exact hxy
                      have HXY := Lib.hid hxy
                      clear hxy
                      go_wp2_with fail
                      go_quiet (fail)
                      go_wp2
                      have hlt2 := HLT2.out
                      refine ⟨⟨j + 1, by omega, by go_num, fun i h hi => ?_, HA2.out.drewN _⟩, by simp [intOf] <;> omega⟩
                      by_cases e : i = j
                      · subst e; rw [← HY.out]; exact HXY.out
                      · exact HPRE2.out i h (by omega)
                  · obtain rfl : j = k := by omega
                    have HG := Lib.hid (show txAt ps H j HKP.out from ⟨⟨by rw [← HX.out]; exact hx0', by rw [← HX.out]; exact hxH'⟩, HM.out.symm, fun i hi he => HPRE2.out i (by have := HKP.out; omega) hi (by rw [he, HX.out])⟩)
                    clear hpre2 ha2 hlt2 hj c0 c1
                    go_wp2_with fail
                    have hlt := HLT.out
                    refine ⟨⟨j + 1, by omega, by go_num, fun i h hi => ?_, HA2.out⟩, by simp [intOf] <;> omega⟩
                    by_cases e : i = j
                    · subst e; exact HG.out
                    · exact HPRE.out i h (by omega)
              · obtain rfl : B = false := HBAD.out (fun t => hm (by rw [HM.out]; exact t.2.1))
                have hmI : ((m : Int) != 128) = true := by rw [bne_iff_ne]; omega
                have hmJ : ((m : Int) == 128) = false := by rw [beq_eq_false_iff_ne]; omega
                clear hm
                go_wp2_with fail
                go_ret
                exact ⟨rfl, HA.out⟩
        · obtain rfl : k = N := by omega
          obtain rfl : B = true := by rw [HB.out]; exact decide_eq_true ⟨HLN.out, fun i hi => HPRE.out i hi (by have := HN.out; omega)⟩
          clear hpre ha hlt hk
          go_wp2_with fail
          go_ret
          exact ⟨rfl, HA.out⟩
end Go.Proofs.Ytlpdpbhnfhihjaa
namespace Go.Proofs.Ytlpdpbhnfhihjaa
open Go.RowKit Go.Maps

theorem flatM {α : Type} (m : Nat) (f : α → List Value) (hf : ∀ x, (f x).length = m) : ∀ (l : List α) (i j : Nat) (hi : i < l.length), j < m → (l.flatMap f)[i * m + j]? = (f l[i])[j]?
  | x :: l, 0, j, _, hj => by
    rw [List.flatMap_cons, Nat.zero_mul, Nat.zero_add, List.getElem?_append_left (by rw [hf]; omega)]; simp
  | x :: l, i + 1, j, hi, hj => by
    have e : (i + 1) * m + j = m + (i * m + j) := by rw [Nat.succ_mul]; omega
    rw [List.flatMap_cons, List.getElem?_append_right (by rw [hf]; omega), e, hf, Nat.add_sub_cancel_left]
    exact flatM m f hf l i j (by simpa using hi) hj
/-- a put that came in -/
structure PD where
  a : Int
  v : Value
  l : List Nat
def PD.cells (d : PD) : List Value := [.int .i64 d.a, d.v]
def PD.fit (d : PD) (W : World) : Prop := In W d.v d.l ∧ (-9223372036854775808 ≤ d.a ∧ d.a < 9223372036854775808)
def PDs (W : World) (v : Value) (ds : List PD) : Prop := Rd W 2 v ds.length (ds.flatMap PD.cells) ∧ ∀ d ∈ ds, d.fit W
def fewT (odd : Bool) (d : PD) : Pt := ⟨d.a, if odd then d.l.take 130 else sec d.l⟩
def fewP (ds : List PD) (n : Nat) (odd : Bool) : List Pt := (ds.take n).map (fewT odd)
theorem PDs.at_ {W w : World} {A : Option Addr} {n c : Nat} {ds : List PD} (h : PDs W (.slice A n c) ds) (hb : Below W.heap.size W w) {i : Nat} (hi : i < ds.length) : ∃ b o, A = some ⟨b, o, none⟩ ∧ w.cell? ⟨b, o + i * 2, none⟩ = some (.int .i64 ds[i].a) ∧ w.cell? ⟨b, o + i * 2 + 1, none⟩ = some ds[i].v ∧ In w ds[i].v ds[i].l := by
  have hn : n = ds.length := by obtain ⟨A', c', e, _⟩ := h.1; injection e
  subst hn
  obtain ⟨b, o, rfl, hlt2, hc2⟩ := h.1.cells (by omega) (by decide)
  have H : ∀ j u, j < 2 → ds[i].cells[j]? = some u → w.cell? ⟨b, o + (i * 2 + j), none⟩ = some u := fun j u hj hu => by
    rw [World.cell?_of_block (hb.block b hlt2)]
    exact hc2 _ _ (by rw [flatM 2 PD.cells (fun _ => rfl) ds i j hi hj]; exact hu)
  exact ⟨b, o, rfl, by have := H 0 _ (by decide) rfl; rwa [Nat.add_zero] at this, by have := H 1 _ (by decide) rfl; rwa [← Nat.add_assoc] at this, ((h.2 _ (List.getElem_mem hi)).1).far hb⟩
theorem PDs.len {W : World} {A : Option Addr} {n c : Nat} {ds : List PD} (h : PDs W (.slice A n c) ds) : n = ds.length ∧ n ≤ c ∧ c ≤ maxLen := by
  obtain ⟨A', c', e, hnc, hcm, _, _, _⟩ := h.1
  injection e with e1 e2 e3
  omega

def qcells (q : Pt × Value) : List Value := [.int .i64 q.1.a, q.2]
/-- puts in a slice of one's own -/
structure QW (W : World) (P : Nat → Pt) (k : Nat) (vo : Value) (F : Nat → Prop) (qs : List (Pt × Value)) (w : World) : Prop where
  len : qs.length = k
  sl : Sl w F 44 2 vo k (qs.flatMap qcells)
  at_ : ∀ i (h : i < qs.length), qs[i].1 = P i ∧ ∃ a q, qs[i].2 = .slice a (P i).d.length q ∧ Rd w 1 (.slice a (P i).d.length q) (P i).d.length ((P i).d.map u8) ∧ ∀ g, (Value.slice a (P i).d.length q).ownBlock = some g → 0 < (P i).d.length → ¬ F g ∧ W.heap.size ≤ g
  adv : Adv Nul W F w
section
variable {W w w' : World} {P : Nat → Pt} {k : Nat} {vo : Value}
theorem QW.nil (W : World) (P : Nat → Pt) : QW W P 0 (.slice none 0 0) Nul [] W := ⟨rfl, Sl.nil _ _ _, fun i h => absurd h (by simp), Adv.refl _ _⟩
theorem QW.step {F F' : Nat → Prop} {qs : List (Pt × Value)} (h : QW W P k vo F qs w) (ha : Adv Nul w F' w') : QW W P k vo F qs w' :=
  ⟨h.len, h.sl.far ha (fun _ h _ => h), fun i hi => by
    obtain ⟨e, a, q, e2, hr, hn⟩ := h.at_ i hi
    exact ⟨e, a, q, e2, hr.far (fun _ _ _ hl => ha.block _ hl (fun x => x)) ha.size, hn⟩, h.adv.over ha⟩
theorem QW.push {F : Nat → Prop} {qs : List (Pt × Value)} {vo' : Value} {a : Option Addr} {q : Nat} {p : Pt} (h : QW W P k vo F qs w) (hp : P k = p) (hr : Rd w 1 (.slice a p.d.length q) p.d.length (p.d.map u8)) (hnF : ∀ g, (Value.slice a p.d.length q).ownBlock = some g → 0 < p.d.length → ¬ F g ∧ W.heap.size ≤ g)
    (hown : w'.ownsRow 0 44 2 vo' (k + 1) (qs.flatMap qcells ++ [.int .i64 p.a, .slice a p.d.length q])) (hg : w.grownBy w' vo.ownBlock) (hat : vo'.ownBlock = vo.ownBlock ∨ vo'.ownBlock = some w.heap.size) : ∃ F' qs', QW W P (k + 1) vo' F' qs' w' := by
  obtain ⟨g1, g2⟩ := lsl_grown h.sl hown hg hat (Nat.le_refl _)
  have hF' : ∀ g, g < w.heap.size → ¬ F g → ¬ (F g ∨ vo'.ownBlock = some g) := fun g hlt hn hor => by
    rcases hor with h1 | h1
    · exact hn h1
    · rcases hat with e | e
      · exact hn (h.sl.inF g (by rw [← e]; exact h1))
      · rw [e] at h1; injection h1 with h1; omega
  have keep : ∀ {a : Option Addr} {d q : Nat} {l : List Nat}, Rd w 1 (.slice a d q) d (l.map u8) → (∀ g, (Value.slice a d q).ownBlock = some g → 0 < d → ¬ F g ∧ W.heap.size ≤ g) → Rd w' 1 (.slice a d q) d (l.map u8) ∧ ∀ g, (Value.slice a d q).ownBlock = some g → 0 < d → ¬ (F g ∨ vo'.ownBlock = some g) ∧ W.heap.size ≤ g := fun hr hn =>
    ⟨hr.far (fun g hg hd hl => g2.block g hl (hn g hg hd).1) g2.size, fun g hg hd => ⟨hF' g (hr.lt hg hd) (hn g hg hd).1, (hn g hg hd).2⟩⟩
  have hl := h.len
  refine ⟨_, qs ++ [(p, .slice a p.d.length q)], by simp [hl], by simpa [qcells] using g1, fun i hi => ?_, h.adv.trans g2⟩
  rw [List.length_append, List.length_singleton] at hi
  by_cases hik : i < qs.length
  · rw [List.getElem_append_left hik]
    obtain ⟨e, a', q', e2, hr', hn'⟩ := h.at_ i hik
    obtain ⟨k1, k2⟩ := keep hr' hn'
    exact ⟨e, a', q', e2, k1, k2⟩
  · obtain rfl : i = qs.length := by omega
    rw [List.getElem_append_right (Nat.le_refl _)]
    simp only [Nat.sub_self, List.getElem_cons_zero, hl]
    rw [hp]
    obtain ⟨k1, k2⟩ := keep hr hnF
    exact ⟨rfl, a, q, rfl, k1, k2⟩
theorem QW.qrd {F G : Nat → Prop} {qs : List (Pt × Value)} (h : QW W P k vo F qs w) (hG : Bd G W) : QRd w G vo ((List.range k).map P) := by
  have hl := h.len
  obtain ⟨A, c, rfl, hkc, hcm⟩ := h.sl.form0
  refine ⟨A, c, by simp, by simpa using hkc, hcm, fun hk => ?_⟩
  have hk' : 0 < k := by simpa using hk
  obtain ⟨g, c', e, hFg, _⟩ := h.sl.form hk'
  injection e with e1 _ _
  subst e1
  have hGg : ∀ j, W.heap.size ≤ j → ¬ G j := fun j hj x => by have := hG j x; omega
  refine ⟨g, 0, rfl, ⟨h.sl.bd g hFg, hGg g (by rcases h.adv.into g hFg with x | x; exact x.elim; exact x)⟩, fun i hi => ?_⟩
  have hi' : i < k := by simpa using hi
  obtain ⟨e, a, q, e2, hr, hn⟩ := h.at_ i (by omega)
  have e3 : ((List.range k).map P)[i]'hi = P i := by simp
  rw [e3]
  have H : ∀ j u, j < 2 → (qcells (qs[i]'(by omega)))[j]? = some u → w.cell? ⟨g, 0 + (i * 2 + j), none⟩ = some u := fun j u hj hu => by
    rw [Nat.zero_add, h.sl.own.cellAt (i * 2 + j) (by omega), flatM 2 qcells (fun _ => rfl) qs i j (by omega) hj]
    exact hu
  refine ⟨a, q, H 0 _ (by decide) ?_, H 1 _ (by decide) ?_, hr, fun j hj hn' => hGg j (hn j hj hn').2⟩ <;> simp [qcells, e, e2]
end
theorem qnew_at {T : TypeId} {w : World} {x : Int} {v : Value} (j : Nat) (u : Value) (h : [Value.int .i64 x, v][j]? = some u) : (w.alloc (.cells #[.int .i64 x, v] T)).cell? ((⟨w.heap.size, 0, none⟩ : Addr).add j) = some u := by
  rw [add_none, Nat.zero_add, (Blk.new w T #[.int .i64 x, v]).cell j, List.getElem?_toArray]
  exact h
theorem qone {x : Int} {a : Option Addr} {d q : Nat} : ∀ u ∈ [Value.int .i64 x, .slice a d q], u.oneCell' = true := by
  intro u hu
  simp at hu
  rcases hu with rfl | rfl <;> rfl
theorem qw_new {W w wc : World} {P : Nat → Pt} {k : Nat} {vo v : Value} {F Fc : Nat → Prop} {qs : List (Pt × Value)} {e : TypeId} {size d : Nat} {xs : List Value} (h : QW W P k vo F qs w) (hc : Sl wc Fc e size v d xs) (ac : Adv Nul w Fc wc) : ∀ g, v.ownBlock = some g → 0 < d → ¬ F g ∧ W.heap.size ≤ g := fun g hg _ => by
  rcases ac.into g (hc.inF g hg) with h1 | h1
  · exact h1.elim
  · exact ⟨fun hF => by have := h.sl.bd g hF; omega, Nat.le_trans h.adv.size h1⟩

def FewR (w : World) (ps : List Pt) (e : Ending) (w' : World) : Prop := ∃ A q, e = .returned (.slice A ps.length q) ∧ (∀ G, Bd G w → QRd w' G (.slice A ps.length q) ps) ∧ Adv Nul w Nul w'
def FwL (w : World) (P : Nat → Pt) (M : Nat) (t8 t7 : Value) (wr : World) : Prop := ∃ k A q F qs, k ≤ M ∧ t8 = .int .i64 (k : Int) ∧ t7 = .slice A k q ∧ QW w P k (.slice A k q) F qs wr
theorem few_eq {ds : List PD} {n : Nat} {odd : Bool} {P : Nat → Pt} (hP : ∀ i (h : i < ds.length), P i = fewT odd ds[i]) : (List.range (min ds.length n)).map P = fewP ds n odd := by
  unfold fewP
  apply List.ext_getElem
  · simp; omega
  · intro i h1 h2
    have hi : i < ds.length := by simp at h1; omega
    simp only [List.getElem_map, List.getElem_range, List.getElem_take]
    exact hP i hi

set_option maxRecDepth 3000 in
set_option maxHeartbeats 12800000 in
theorem few6_any (W w : World) (v : Value) (ds : List PD) (n : Nat) (odd : Bool) (h : PDs W v ds) (hb : Below W.heap.size W w) (hn : n ≤ 1000) :
    Calls Try.prog 4 #[v, .int .i64 (n : Int), .bool odd] w (FewR w (fewP ds n odd)) := by
  obtain ⟨A0, c0, rfl, _, _⟩ := h.1.form
  obtain ⟨N, hN⟩ : ∃ N, N = ds.length := ⟨_, rfl⟩
  rw [← hN] at h ⊢
  have hmx : N ≤ maxLen := by have := h.len; omega
  have hNI : (N : Int) ≤ 9223372036854775807 := by unfold maxLen at hmx; omega
  have hnI : (n : Int) ≤ 1000 := by omega
  obtain ⟨P, hP⟩ : ∃ P : Nat → Pt, ∀ i (h : i < ds.length), P i = fewT odd ds[i] := ⟨fun i => if h : i < ds.length then fewT odd ds[i] else ⟨0, []⟩, fun i h => by simp [h]⟩
  have HP := Lib.hid hP
  have HFE := Lib.hid (few_eq (n := n) hP)
  have HD := Lib.hid h
  have HB := Lib.hid hb
  have HN := Lib.hid hN
  have HN1 := Lib.hid hn
  obtain ⟨M, hM⟩ : ∃ M, M = min ds.length n := ⟨_, rfl⟩
  have HM := Lib.hid hM
  rw [← hM] at HFE
  clear h hb hN hn hmx hP hM
  go_enter Try.func4, Try.ntmps4
  go_wp2_with fail
  go_loopw [8, 7] (FwL w P M) (fun t _ _ => M - (intOf t).toNat)
  case atStart => exact ⟨0, none, 0, Nul, [], Nat.zero_le _, rfl, rfl, QW.nil _ _⟩
  case round =>
    obtain ⟨k, A, q, F, qs, hk, rfl, rfl, hw⟩ := hrel
    have HW := Lib.hid hw
    by_cases hlt : k < M
    · have hkl : k < ds.length := by have := HM.out; omega
      have hki : (k : Int) < (N : Int) := by have := HN.out; omega
      have hkn : (k : Int) < (n : Int) := by have := HM.out; omega
      have hbw := HB.out.trans (hw.adv.toBelow.mono HB.out.size)
      obtain ⟨b, o, rfl, d0, d1, hin⟩ := HD.out.at_ hbw hkl
      have hpk := HP.out k hkl
      obtain ⟨d, hd⟩ : ∃ d, d = ds[k] := ⟨_, rfl⟩
      rw [← hd] at d0 d1 hin hpk
      obtain ⟨x, dv, dl⟩ := d
      simp only at d0 d1 hin
      obtain ⟨Ad, cd, rfl, _, _⟩ := hin.rd.form
      obtain ⟨dn, hdn⟩ : ∃ y, y = dl.length := ⟨_, rfl⟩
      rw [← hdn] at d1 hin
      have HSEC := Lib.hid (sector_any _ dl wr hin)
      have HIN := Lib.hid hin
      have HLT := Lib.hid hlt
      have HPK := Lib.hid hpk
      have HD0 := Lib.hid d0
      have HD1 := Lib.hid d1
      have HLB := Lib.hid (show b < wr.heap.size from by
        rcases Nat.lt_or_ge b wr.heap.size with h | h
        · exact h
        · rw [World.cell?, Array.getElem?_eq_none h] at d0; cases d0)
      clear hlt hkl hbw hin hpk hd hdn hw hk
      go_wp2_with fail
      refine HSEC.out.mono ?_
      rintro e w2 ⟨v2, F2, rfl, s2, a2⟩
      obtain ⟨A2, c2, rfl, _, _⟩ := s2.form0
      have d0' : w2.cell? ⟨b, o + k * 2, none⟩ = some (.int .i64 x) := by rw [← HD0.out]; exact World.cell?_of_block (a2.block b HLB.out (fun x => x))
      have d1' : w2.cell? ⟨b, o + k * 2 + 1, none⟩ = some (.slice Ad dn cd) := by rw [← HD1.out]; exact World.cell?_of_block (a2.block b HLB.out (fun x => x))
      have HNF2 := Lib.hid (qw_new HW.out s2 a2)
      have HW2 := Lib.hid (HW.out.step a2)
      have HS2 := Lib.hid s2
      have HA2 := Lib.hid a2
      clear d0 d1 s2 a2
      cases odd with
      | false =>
        have HLZ := Lib.hid (sec_length dl)
        have HWZ := HW2
        have HRZ := Lib.hid HS2.out.rd
        have HNF := HNF2
        have HU := Lib.hid (HWZ.out.step ((Adv.refl Nul w2).alloc (.cells #[.int .i64 x, .slice A2 128 c2] 44)))
        have HRU := Lib.hid (HRZ.out.up (.cells #[.int .i64 x, .slice A2 128 c2] 44))
        have HK1 := Lib.hid (show k + 1 ≤ maxLen by have := HLT.out; have := HM.out; have := HN1.out; unfold maxLen; omega)
        have HK2 := Lib.hid (show (k + 1) * 32 ≤ 140737488355328 by have := HLT.out; have := HM.out; have := HN1.out; omega)
        go_wp2_with (first
          | (at_builtin; refine lop_append_own rfl (.tmp 35) (.tmp 43) 22 44 rfl Try.underlying22 infoPut rfl (by decide) rfl HU.out.sl.own ⟨w2.heap.size, 0, none⟩ 1 1 rfl [.int .i64 x, .slice A2 128 c2] rfl qnew_at qone HK1.out HK2.out ?_; intro v' w8 hown hg2 hat; obtain ⟨a8, k8, rfl⟩ := (slice_of hown); have HOWN := Lib.hid hown; have HG2 := Lib.hid hg2; have HAT := Lib.hid hat; clear hown hg2 hat)
          | fail)
        obtain ⟨F8, qs8, hpu⟩ := HU.out.push (p := ⟨x, sec dl⟩) HPK.out (by simp only; rw [HLZ.out]; exact HRU.out) (by simp only; rw [HLZ.out]; exact HNF.out) (by simp only; rw [HLZ.out]; exact HOWN.out) HG2.out HAT.out
        have hlt := HLT.out
        exact ⟨⟨k + 1, a8, k8, F8, qs8, by omega, by go_num, rfl, hpu⟩, by simp [intOf] <;> omega⟩
      | true =>
        have HCT := Lib.hid (cut_any (.slice Ad dn cd) dl 130 w2 (HIN.out.far HA2.out.toBelow) (by decide))
        go_wp2_with fail
        refine HCT.out.mono ?_
        rintro e w3 ⟨v3, rfl, h3, rfl⟩
        obtain ⟨A3, c3, rfl, _, _⟩ := h3.rd.form
        obtain ⟨m3, hm3⟩ : ∃ y, y = (dl.take 130).length := ⟨_, rfl⟩
        have hl3 : m3 ≤ 130 := by rw [hm3, List.length_take]; omega
        have HCP := Lib.hid (copy_any _ m3 (dl.take 130) w2 (by rw [hm3]; exact h3.rd) (by omega))
        rw [← hm3] at HCP ⊢
        have HM3 := Lib.hid hm3
        clear h3 hm3 hl3
        go_wp2_with fail
        refine HCP.out.mono ?_
        rintro e w4 ⟨v4, F4, rfl, s4, a4⟩
        obtain ⟨A4, c4, rfl, _, _⟩ := s4.form0
        have d0 : w4.cell? ⟨b, o + k * 2, none⟩ = some (.int .i64 x) := by rw [← d0']; exact World.cell?_of_block (a4.block b (Nat.lt_of_lt_of_le HLB.out HA2.out.size) (fun x => x))
        have HLZ := Lib.hid HM3.out.symm
        have HNF := Lib.hid (qw_new HW2.out s4 a4)
        have HWZ := Lib.hid (HW2.out.step a4)
        have HRZ := Lib.hid s4.rd
        clear s4 a4 d0' d1'
        have HU := Lib.hid (HWZ.out.step ((Adv.refl Nul w4).alloc (.cells #[.int .i64 x, .slice A4 m3 c4] 44)))
        have HRU := Lib.hid (HRZ.out.up (.cells #[.int .i64 x, .slice A4 m3 c4] 44))
        have HK1 := Lib.hid (show k + 1 ≤ maxLen by have := HLT.out; have := HM.out; have := HN1.out; unfold maxLen; omega)
        have HK2 := Lib.hid (show (k + 1) * 32 ≤ 140737488355328 by have := HLT.out; have := HM.out; have := HN1.out; omega)
        go_wp2_with (first
          | (at_builtin; refine lop_append_own rfl (.tmp 35) (.tmp 43) 22 44 rfl Try.underlying22 infoPut rfl (by decide) rfl HU.out.sl.own ⟨w4.heap.size, 0, none⟩ 1 1 rfl [.int .i64 x, .slice A4 m3 c4] rfl qnew_at qone HK1.out HK2.out ?_; intro v' w8 hown hg2 hat; obtain ⟨a8, k8, rfl⟩ := (slice_of hown); have HOWN := Lib.hid hown; have HG2 := Lib.hid hg2; have HAT := Lib.hid hat; clear hown hg2 hat)
          | fail)
        obtain ⟨F8, qs8, hpu⟩ := HU.out.push (p := ⟨x, dl.take 130⟩) HPK.out (by simp only; rw [HLZ.out]; exact HRU.out) (by simp only; rw [HLZ.out]; exact HNF.out) (by simp only; rw [HLZ.out]; exact HOWN.out) HG2.out HAT.out
        have hlt := HLT.out
        exact ⟨⟨k + 1, a8, k8, F8, qs8, by omega, by go_num, rfl, hpu⟩, by simp [intOf] <;> omega⟩
    · obtain rfl : k = M := by omega
      have HF := Lib.hid (show FewR w (fewP ds n odd) (.returned (.slice A k q)) wr from by
        have hl : (fewP ds n odd).length = k := by rw [← HFE.out]; simp
        refine ⟨A, q, by rw [hl], fun G hG => ?_, HW.out.adv.sub (fun _ x => x.elim)⟩
        rw [hl, ← HFE.out]
        exact HW.out.qrd hG)
      by_cases hkl : k < ds.length
      · have hki : (k : Int) < (N : Int) := by have := HN.out; omega
        have hkn : (n : Int) ≤ (k : Int) := by have := HM.out; omega
        clear hlt hk hw hkl
        go_wp2_with fail
        go_ret
        exact HF.out
      · have hki : (N : Int) ≤ (k : Int) := by have := HN.out; omega
        clear hlt hk hw hkl
        go_wp2_with fail
        go_ret
        exact HF.out
end Go.Proofs.Ytlpdpbhnfhihjaa
namespace Go.Proofs.Ytlpdpbhnfhihjaa
open Go.RowKit Go.Maps

theorem byN_val (l : List Nat) : byN l = val l := rfl
def RecR (w : World) (ps : List Pt) (e : Ending) (w' : World) : Prop := ∃ v F, e = .returned v ∧ Sl w' F 5 1 v (recB ps).length ((recB ps).map u8) ∧ Adv Nul w F w'
def RcL (W : World) (N : Nat) (ps : List Pt) (t4 t3 : Value) (wr : World) : Prop :=
  ∃ k A q F l, k ≤ N ∧ t4 = .int .i64 (k : Int) ∧ t3 = .slice A (wL (preW ps k)) q ∧ Sl wr F 5 1 (.slice A (wL (preW ps k)) q) (wL (preW ps k)) (l.map u8) ∧ Bl l (wN (preW ps k)) (wL (preW ps k)) ∧ Adv Nul W F wr
theorem pre_succ {ps : List Pt} {k : Nat} (h : k < ps.length) (hd : ps[k].d.length = 128) : wN (preW ps (k + 1)) = (wN (preW ps k) * 2 ^ 12 + ps[k].a.toNat) * 2 ^ (8 * 128) + val ps[k].d ∧ wL (preW ps (k + 1)) = wL (preW ps k) + 12 + 8 * 128 := by
  have e : preW ps (k + 1) = (preW ps k ++ [(ps[k].a.toNat, 12)]) ++ ps[k].d.map bW := by
    unfold preW
    rw [List.take_succ_eq_append_getElem h, List.flatMap_append]
    simp [pW]
  rw [e, wN_append, wL_append, wN_snoc, wL_snoc, wN_bytes, wL_bytes, hd]
  exact ⟨rfl, rfl⟩

set_option maxRecDepth 3000 in
set_option maxHeartbeats 6400000 in
theorem record_any (A0 : Option Addr) (N k0 : Nat) (ps : List Pt) (G : Nat → Prop) (w : World) (h : QRd w G (.slice A0 N k0) ps) (ht : isTx ps 4096) (h8 : ∀ p ∈ ps, ∀ x ∈ p.d, x < 256) :
    Calls Try.prog 9 #[.slice A0 N k0] w (RecR w ps) := by
  have hN := h.len.1
  have hN24 : N ≤ 24 := by have := ht.1.2; omega
  have hNI : (N : Int) ≤ 24 := by omega
  have hwN : IntKind.u64.wrap (N : Int) = (N : Int) := wrapU (by omega)
  have HPW := Lib.hid (show QRd w (fun j => w.heap.size ≤ j) (.slice A0 N k0) ps from h.adv (Adv.refl Nul w) (fun _ x => x.elim) (fun _ x => .inr x))
  have HN := Lib.hid hN
  have HT := Lib.hid ht
  have H8 := Lib.hid h8
  have HD := Lib.hid (fun p hp => (ht.row p hp).2)
  have HN24 := Lib.hid hN24
  have HB8 := Lib.hid (bits_any N 8 w (by omega) (by decide))
  clear h hN ht h8 hN24
  go_enter Try.func9, Try.ntmps9
  go_wp2_with fail
  refine HB8.out.mono ?_
  rintro e w1 ⟨v1, rfl, F1, l1, s1, bl1, a1⟩
  obtain ⟨A1, q1, rfl, _, _⟩ := s1.form0
  have HI := Lib.hid (show Sl w1 F1 5 1 (.slice A1 8 q1) 8 (l1.map u8) ∧ Bl l1 (wN (preW ps 0)) (wL (preW ps 0)) ∧ Adv Nul w F1 w1 from ⟨s1, by
    have e1 : wN (preW ps 0) = N := by rw [HN.out]; simp [preW, wN]
    have e2 : wL (preW ps 0) = 8 := by simp [preW, wL]
    rw [e1, e2]; exact bl1, a1⟩)
  clear s1 bl1 a1
  go_wp2_with fail
  go_loopw [4, 3] (RcL w N ps) (fun t _ _ => N - (intOf t).toNat)
  case atStart =>
    have e2 : wL (preW ps 0) = 8 := by simp [preW, wL]
    exact ⟨0, A1, q1, F1, l1, Nat.zero_le _, rfl, by rw [e2], by rw [e2]; exact HI.out.1, HI.out.2.1, HI.out.2.2⟩
  case round =>
    obtain ⟨k, A, q, F, l, hk, rfl, rfl, hs, hbl, ha⟩ := hrel
    by_cases hlt : k < N
    · have hki : (k : Int) < (N : Int) := by omega
      have hkp : k < ps.length := by rw [← HN.out]; exact hlt
      have hstep : Adv Nul w Nul wr := ha.sub (fun _ x => x.elim)
      obtain ⟨b, o, a, c, rfl, hb, ⟨c0, c1⟩, hr, hro⟩ := ((HPW.out.step hstep)).row hkp
      have hbo := hb.2
      have hdl := HD.out _ (List.getElem_mem hkp)
      have hrow := (HT.out.row _ (List.getElem_mem hkp)).1
      have hb8 := H8.out _ (List.getElem_mem hkp)
      have hps := pre_succ hkp hdl
      have hml : wL (preW ps k) ≤ 100000 := by rw [wL_preW HD.out (Nat.le_of_lt hkp)]; have := HN24.out; omega
      obtain ⟨p, hp⟩ : ∃ p, p = ps[k] := ⟨_, rfl⟩
      rw [← hp] at c0 c1 hr hro hdl hrow hb8 hps
      clear hp
      obtain ⟨pa, pd⟩ := p
      simp only at c0 c1 hr hro hdl hrow hb8 hps
      obtain ⟨x, rfl⟩ := Int.eq_ofNat_of_zero_le hrow.1
      have hx : x < 2 ^ 12 := by have := hrow.2; omega
      have hwx : IntKind.u64.wrap (x : Int) = (x : Int) := wrapU (by omega)
      rw [hdl] at c1 hr hro
      obtain ⟨m, hm⟩ : ∃ m, m = wL (preW ps k) := ⟨_, rfl⟩
      obtain ⟨Nn, hNn⟩ : ∃ m, m = wN (preW ps k) := ⟨_, rfl⟩
      rw [← hm] at hs hbl hps hml ⊢
      rw [← hNn] at hbl hps
      have HS := Lib.hid hs
      have HBL := Lib.hid hbl
      have HAD := Lib.hid ha
      have HPS := Lib.hid hps
      have HML := Lib.hid hml
      have HR := Lib.hid hr
      have HB12 := Lib.hid (bits_any x 12 wr hx (by decide))
      have HLT := Lib.hid hlt
      have HC1 := Lib.hid c1
      have HBB := Lib.hid hb.1
      have HNF := Lib.hid (show ¬ F b from fun x => hbo (by rcases ha.into b x with h | h; exact h.elim; exact h))
      have HNR := Lib.hid (show ∀ j, (Value.slice a 128 c).ownBlock = some j → 0 < 128 → ¬ F j from fun j hj hn x => hro j hj hn (by rcases ha.into j x with h | h; exact h.elim; exact h))
      have HP8 := Lib.hid hb8
      have HDL := Lib.hid hdl
      clear hbo hro hs hbl ha hps hml hr hlt hkp hstep hb hdl hrow hb8 hx hm hNn hk
      go_wp2_with fail
      refine HB12.out.mono ?_
      rintro e w2 ⟨v2, rfl, F2, l2, s2, bl2, a2⟩
      obtain ⟨A2, q2, rfl, _, _⟩ := s2.form0
      have HS1 := Lib.hid (HS.out.far a2 (fun _ x _ => x))
      have HS2 := Lib.hid s2
      have HBL2 := Lib.hid (HBL.out.append bl2)
      have HA2 := Lib.hid a2
      have HKB1 := Lib.hid (show m + 12 ≤ 1000000000 by have := HML.out; omega)
      clear s2 bl2 a2 c0 c1
      go_upto_region 6 with (first
        | (at_builtin; refine wpList_append_rd rfl (.tmp 15) (.tmp 22) rfl rfl rfl HS1.out.own HS2.out.rd (u8_one _) HKB1.out ?_; intro v' w3 hown hg hat; obtain ⟨a3, k3, rfl⟩ := (slice_of hown); have HOWN := Lib.hid hown; have HG3 := Lib.hid hg; have HAT3 := Lib.hid hat; clear hown hg hat)
        | fail)
      obtain ⟨g1, g2⟩ := lsl_grown HS1.out HOWN.out HG3.out HAT3.out (Nat.le_refl _)
      have HS3 := Lib.hid g1
      have had3 := (HAD.out.over HA2.out).trans g2
      have HA3 := Lib.hid had3
      have hfar : ∀ j, j < wr.heap.size → (∀ i, F i → i ≠ j) → w3.heap[j]? = wr.heap[j]? := fun j hj hn => (g2.block j (Nat.lt_of_lt_of_le hj HA2.out.size) (fun x => hn j x rfl)).trans (HA2.out.block j hj (fun x => x))
      have HFAR := Lib.hid hfar
      have HFS := Lib.hid g2.size
      clear g1 g2 had3 hfar
      have hb3 : w3.heap[b]? = wr.heap[b]? := HFAR.out b HBB.out (fun i hi e => HNF.out (by rw [← e]; exact hi))
      have c1 : w3.cell? ⟨b, o + k * 2 + 1, none⟩ = some (.slice a 128 c) := by rw [← HC1.out]; exact World.cell?_of_block hb3
      have hr3 : Rd w3 1 (.slice a 128 c) 128 (pd.map u8) := HR.out.far (fun j hj hn hl => HFAR.out j hl (fun i hi e => HNR.out j hj hn (by rw [← e]; exact hi))) (Nat.le_trans HA2.out.size (HFS.out))
      have HOF := Lib.hid (of_any (.slice a 128 c) 128 pd w3 ((In.of_rd (by rw [HDL.out]; exact hr3) HP8.out).num HDL.out.symm) (by decide))
      clear hb3 hr3
      go_wp2_with fail
      refine HOF.out.mono ?_
      rintro e w4 ⟨v4, F4, bl4, rfl, s4, bb4, a4⟩
      obtain ⟨A4, q4, rfl, _, _⟩ := s4.form0
      have HS4 := Lib.hid (HS3.out.far a4 (fun _ x _ => x))
      have HS5 := Lib.hid s4
      have HBL4 := Lib.hid (HBL2.out.append bb4)
      have HA4 := Lib.hid a4
      have HKB2 := Lib.hid (show m + 12 + 8 * 128 ≤ 1000000000 by have := HML.out; omega)
      clear s4 bb4 a4 c1
      go_wp2_with (first
        | (at_builtin; refine wpList_append_rd rfl (.tmp 24) (.tmp 30) rfl rfl rfl HS4.out.own HS5.out.rd (u8_one _) HKB2.out ?_; intro v' w5 hown hg hat; obtain ⟨a5, k5, rfl⟩ := (slice_of hown); have HOWN5 := Lib.hid hown; have HG5 := Lib.hid hg; have HAT5 := Lib.hid hat; clear hown hg hat)
        | fail)
      obtain ⟨g3, g4⟩ := lsl_grown HS4.out HOWN5.out HG5.out HAT5.out (Nat.le_refl _)
      have hlt := HLT.out
      have hps := HPS.out
      refine ⟨⟨k + 1, a5, k5, _, (l ++ l2) ++ bl4, by omega, by go_num, ?_, ?_, ?_, (HA3.out.over HA4.out).trans g4⟩, by simp [intOf] <;> omega⟩
      · rw [hps.2]
      · rw [hps.2, List.map_append, List.map_append]; exact g3
      · rw [hps.1, hps.2, ← byN_val]; exact HBL4.out
    · obtain rfl : k = N := by omega
      have hk' : preW ps k = recW ps := by unfold preW recW; rw [HN.out, List.take_length]
      rw [hk'] at hs hbl ⊢
      have hq : (recB ps).length = qn (wL (recW ps)) := by rw [recB, rowOf, be_length]
      have hml : wL (recW ps) ≤ 1000000000 := by rw [wL_rec HD.out]; have := HN.out; have := HN24.out; omega
      have HBY := Lib.hid (bytes_any _ _ _ l F wr hs hbl hml)
      have HQ := Lib.hid hq
      have HAD := Lib.hid ha
      obtain ⟨m, hm⟩ : ∃ m, m = wL (recW ps) := ⟨_, rfl⟩
      rw [← hm] at HBY ⊢
      have HM := Lib.hid hm
      clear hs hbl ha hk hlt hk' hq hml hm
      go_wp2_with fail
      refine HBY.out.mono ?_
      rintro e w9 ⟨v9, rfl, F9, s9, a9⟩
      have HF := Lib.hid (show RecR w ps (.returned v9) w9 from ⟨v9, F9, rfl, by rw [HQ.out, ← HM.out]; rw [HM.out] at s9 ⊢; exact s9, (HAD.out.sub (G := Nul) (fun _ x => x.elim)).trans a9⟩)
      clear s9 a9
      go_wp2_with fail
      go_ret
      exact HF.out
end Go.Proofs.Ytlpdpbhnfhihjaa
namespace Go.Proofs.Ytlpdpbhnfhihjaa
open Go.ChangeShapes Go.WideShapes Go.ChangeAt Go.RowKit Go.Deep

set_option maxRecDepth 3000 in
theorem open_cell_rows {α : Type} {H : Type} {enc : TypeId × Value → H} {W : World} (cells : α → List Value) (c : Nat) (fit : α → Prop) {t e : TypeId} (ht : Try.prog.underlying t = some (.slice e)) (hce : Try.prog.cellsOf e = c) (hc0 : 0 < c) (hlen : ∀ x, (cells x).length = c)
    (hel : ∀ {n : Nat} {cs : List Value} {x : DataW H × List MemPlace}, DataW.trod enc Try.prog W 0 (fun _ => true) true n e cs = some x → ∃ d, cs = cells d ∧ fit d) {fuel : Nat} {v : Value} {x : DataW H × List MemPlace} (hf : DataW.trod enc Try.prog W 0 (fun _ => true) true fuel t [v] = some x) :
    ∃ ds : List α, Rd W c v ds.length (ds.flatMap cells) ∧ ∀ d ∈ ds, fit d := by
  rcases open_slice ht hf with ⟨hcs, _⟩ | ⟨x, l, cp, m, n, D, Pl, hcs, _, hl, hm, hmm, _, hi⟩
  · simp at hcs
    subst hcs
    exact ⟨[], ⟨none, 0, rfl, Nat.le_refl _, Nat.zero_le _, by simp, fun _ => rfl, fun hn => absurd hn (by simp)⟩, fun _ hz => by simp at hz⟩
  · simp at hcs
    subst hcs
    simp only [if_true] at hmm
    have H1 : ∀ i, i < l → ∃ d : α, (∀ j, j < c → W.cell? (x.add (i * c + j)) = (cells d)[j]?) ∧ fit d := by
      intro i hil
      obtain ⟨cs', hc, ht'⟩ := hi i (by omega)
      rw [hce] at hc
      obtain ⟨d, rfl, h1⟩ := hel ht'
      obtain ⟨_, _, hat⟩ := World.cells?_some hc
      refine ⟨d, fun j hj => ?_, h1⟩
      rw [← hat j hj, Go.Deep.add_add]
    obtain ⟨ds, hdl, hd⟩ : ∃ ds : List α, ds.length = l ∧ ∀ i (h : i < ds.length), (∀ j, j < c → W.cell? (x.add (i * c + j)) = (cells ds[i])[j]?) ∧ fit ds[i] := by
      clear hi hf
      have : ∀ n : Nat, (∀ i, i < n → ∃ d : α, (∀ j, j < c → W.cell? (x.add (i * c + j)) = (cells d)[j]?) ∧ fit d) → ∃ ds : List α, ds.length = n ∧ ∀ i (h : i < ds.length), (∀ j, j < c → W.cell? (x.add (i * c + j)) = (cells ds[i])[j]?) ∧ fit ds[i] := by
        intro n
        induction n with
        | zero => exact fun _ => ⟨[], rfl, fun i h => absurd h (by simp)⟩
        | succ n ih =>
          intro H
          obtain ⟨ds, hl, hd⟩ := ih (fun i hi => H i (by omega))
          obtain ⟨d, hq⟩ := H n (by omega)
          refine ⟨ds ++ [d], by simp [hl], fun i h => ?_⟩
          rw [List.length_append, List.length_singleton] at h
          by_cases hi : i < ds.length
          · rw [List.getElem_append_left hi]; exact hd i hi
          · have e : i = n := by omega
            subst e
            rw [List.getElem_append_right (by omega)]
            simpa [hl] using hq
      exact this l H1
    have hfl : (ds.flatMap cells).length = ds.length * c := flat_length cells c ds (fun _ _ => hlen _)
    refine ⟨ds, ⟨some x, cp, by rw [hdl], by omega, hm, hfl, fun hn => (by cases hn), fun hn => ⟨x, rfl, ?_, ?_⟩⟩, ?_⟩
    · have h0 := (hd 0 hn).1 0 hc0
      have hs : ∃ u, (cells ds[0])[0]? = some u := ⟨_, List.getElem?_eq_getElem (by rw [hlen]; exact hc0)⟩
      obtain ⟨u, hu⟩ := hs
      have := World.block_lt_of_cell? _ _ (h0.trans hu)
      rwa [add_block] at this
    · intro j u hu
      have hjl : j < (ds.flatMap cells).length := (List.getElem?_eq_some_iff.1 hu).1
      rw [hfl] at hjl
      have hk : j / c < ds.length := Nat.div_lt_of_lt_mul (by rw [Nat.mul_comm]; exact hjl)
      have hj6 : j % c < c := Nat.mod_lt _ hc0
      have e : j = j / c * c + j % c := by rw [Nat.mul_comm]; exact (Nat.div_add_mod j c).symm
      rw [e] at hu ⊢
      rw [(hd (j / c) hk).1 (j % c) hj6, ← hu, flat_at cells c ds (fun _ _ => hlen _) (j / c) (j % c) hk hj6]
    · intro d hdm
      obtain ⟨i, hi2, rfl⟩ := List.getElem_of_mem hdm
      exact (hd i hi2).2
set_option maxRecDepth 3000 in
theorem cellsPut : Try.prog.cellsOf 44 = 2 := by kernel_rfl
set_option maxRecDepth 3000 in
theorem open_pd {H : Type} {enc : TypeId × Value → H} {W : World} {n : Nat} {cs : List Value} {x : DataW H × List MemPlace} (h : DataW.trod enc Try.prog W 0 (fun _ => true) true n 44 cs = some x) :
    ∃ d : PD, cs = d.cells ∧ d.fit W := by
  obtain ⟨xs, m, _, _, hlen, hxl, hf⟩ := DataW.trod_struct Try.underlying44 h
  rw [cellsPut] at hlen
  match cs, hlen with
  | [c0, c1], _ =>
    match xs, hxl with
    | [y0, y1], _ =>
      have f0 := hf 0 _ rfl
      have f1 := hf 1 _ rfl
      change DataW.trod enc Try.prog W 0 (fun _ => true) true m 3 ((([c0, c1] : List Value).drop 0).take (Try.prog.cellsOf 3)) = some y0 at f0
      change DataW.trod enc Try.prog W 0 (fun _ => true) true m 33 ((([c0, c1] : List Value).drop 1).take (Try.prog.cellsOf 33)) = some y1 at f1
      rw [cellsInt] at f0
      rw [cellsBytes] at f1
      obtain ⟨a0, e0, _, w0⟩ := DataW.trod_int Try.underlying3 f0
      obtain ⟨l, hl⟩ := In.of_rd_ints (open_cell_ints Try.underlying33 Try.underlying5 (by kernel_rfl) (v := c1) f1)
      simp at e0
      subst e0
      have hb := bounds_i64 w0
      exact ⟨⟨a0, c1, l⟩, rfl, hl, by simp only; omega⟩
set_option maxRecDepth 3000 in
theorem open_cell_puts {H : Type} {enc : TypeId × Value → H} {W : World} {fuel : Nat} {v : Value} {x : DataW H × List MemPlace} (hf : DataW.trod enc Try.prog W 0 (fun _ => true) true fuel 22 [v] = some x) : ∃ ds, PDs W v ds :=
  open_cell_rows PD.cells 2 (fun d => d.fit W) Try.underlying22 cellsPut (by decide) (fun _ => rfl) (fun h => open_pd h) hf
set_option maxRecDepth 3000 in
theorem open_puts {H : Type} {enc : TypeId × Value → H} {W : World} {base : Nat} {r : Reach} {v : Value} {d : DataW H} {p : List MemPlace} (hv : Value.okWide Try.prog W r base 22 v) (h : DataW.Trod enc Try.prog W 0 (fun _ => true) true 22 v d p) : ∃ ds, PDs W v ds := by
  obtain ⟨a, len, cap, rfl⟩ := okWide_slice Try.underlying22 hv
  obtain ⟨fuel, hf⟩ := h
  exact open_cell_puts (by simpa [Value.cells] using hf)
end Go.Proofs.Ytlpdpbhnfhihjaa
namespace Go.Proofs.Ytlpdpbhnfhihjaa
open Go.RowKit Go.Maps

def zer : List Nat := List.replicate 128 0
theorem new_zero {N i : Nat} (h : i < N) : isS (newS N) i = zer := by
  unfold isS newS lays zer
  simp [List.getD_eq_getElem?_getD, h]
theorem topE_new {N : Nat} : ∀ k, k ≤ N → topE (newS N) k = 0
  | 0, _ => rfl
  | k + 1, h => by
    have h1 := topE_new (N := N) k (by omega)
    have e1 : endX zer = 0 := by kernel_rfl
    have e2 : endY zer = 0 := by kernel_rfl
    unfold topE
    rw [h1, new_zero (by omega), e1, e2]
    rfl
theorem SB_new (N : Nat) : SB (newS N) N := fun i hi x hx => by
  rw [new_zero hi] at hx
  rw [List.eq_of_mem_replicate hx]
  decide
theorem unO_zer (k : Nat) : unO zer k = none := unO_none (by kernel_rfl)
theorem headO_new {N : Nat} (h : 2 ≤ N) : headO (newS N) = ⟨0, 0, 1⟩ := by
  have e0 : isS (newS N) (0 + 0) = zer := new_zero (by omega)
  have e1 : isS (newS N) (0 + 1) = zer := new_zero (by omega)
  have e : curAt (newS N) 0 2 = none := by
    show nx (nx none (unO (isS (newS N) (0 + 0)) 0)) (unO (isS (newS N) (0 + 1)) 1) = none
    rw [e0, e1, unO_zer, unO_zer]; rfl
  unfold headO
  rw [e]; rfl
theorem dec_zer : (dec zer).c = 0 ∧ (dec zer).g = false := by constructor <;> kernel_rfl
theorem scan_new {N m : Nat} (h : 2 ≤ m) (hN : m + 2 ≤ N) : scanV (newS N) m 0 = [] := by
  have hr : ∀ c, rdP (newS N) m c = zer := fun c => new_zero (by have := Nat.mod_lt c (show 0 < m by omega); omega)
  have h1 : scan (newS N) m m 1 = none := scan_no (fun hg => by
    have := hg.2
    rw [hr, dec_zer.1] at this
    omega)
  unfold scanV
  unfold scan
  split
  · rw [hr, if_neg (by rw [dec_zer.2]; decide), Nat.zero_add, h1]; rfl
  · rfl
theorem openS_new {N m : Nat} (h : 2 ≤ m) (hN : m + 3 ≤ N) : openS (newS N) m N = ⟨⟨0, 0, 1⟩, 0, 1, fun _ => none, 0⟩ := by
  have e : openL (newS N) m = ⟨⟨0, 0, 1⟩, 0, 1, fun _ => none, 0⟩ := by unfold openL; rw [headO_new (by omega), topE_new _ (by omega)]
  unfold openS
  rw [e]
  have hno : ¬ RecOk (newS N) m ((N - 2 - m : Nat) : Int) (r0G ⟨⟨0, 0, 1⟩, 0, 1, fun _ => none, 0⟩) := fun k => by
    have := k.1.1
    rw [show (r0G ⟨⟨0, 0, 1⟩, 0, 1, fun _ => none, 0⟩).next = 0 from rfl, scan_new h (by omega)] at this
    simp at this
  have e2 : saysR (newS N) m ((N - 2 - m : Nat) : Int) (m + 1) (r0G ⟨⟨0, 0, 1⟩, 0, 1, fun _ => none, 0⟩) = r0G ⟨⟨0, 0, 1⟩, 0, 1, fun _ => none, 0⟩ := if_neg hno
  rw [e2]
  rfl
theorem layAll_live {n N : Nat} (hn : n + 2 ≤ N) (h1 : 1 ≤ n) : ∀ {ps : List Pc} {s : DS}, s.fuse = none → s.L.length = N → (∀ p ∈ ps, p.ok) → (layAll s n ps).2 = 0
  | [], _, _, _, _ => rfl
  | p :: ps, s, hf, hl, hp => by
    have hlt := Nat.mod_lt p.c h1
    have hst : stepS s = (s, true) := by unfold stepS; rw [hf]
    have e : writeS s ((2 + p.c % n : Nat) : Int) (sealL p) = ({ s with Q := s.Q ++ [(2 + p.c % n, sealL p)] }, 0) := by
      unfold writeS
      rw [if_neg (by have := sealL_length (hp p (by simp)).2.2; omega), hst]
      simp only [if_true, Int.toNat_natCast]
    unfold layAll
    rw [e]
    simp only [if_true]
    exact layAll_live hn h1 (ps := ps) (s := { s with Q := s.Q ++ [(2 + p.c % n, sealL p)] }) hf hl (fun q hq => hp q (by simp [hq]))
theorem need_eq {ps : List Pt} {h : Int} (ht : isTx ps h) : ((recB ps).length + 105) / 106 = needT ps := by
  have h1 : 1 ≤ (recB ps).length := by
    rw [recB_length (fun p hp => (ht.row p hp).2)]
    unfold qn
    omega
  unfold needT needN
  omega
theorem cutE_new {ps : List Pt} {h : Int} (ht : isTx ps h) : cutE 1 0 (recB ps).length = 0 := by
  have hl := recB_small ht
  have hn : needN (recB ps).length ≤ 30 := needN_le (by decide) (by omega)
  unfold cutE
  rw [if_pos (by omega), if_pos (by omega)]
theorem few_bytes {W : World} {ds : List PD} {n : Nat} {odd : Bool} (h : ∀ d ∈ ds, d.fit W) : ∀ p ∈ fewP ds n odd, ∀ x ∈ p.d, x < 256 := fun p hp x hx => by
  unfold fewP at hp
  obtain ⟨d, hd, rfl⟩ := List.mem_map.mp hp
  have hl := (h d (List.mem_of_mem_take hd)).1.lt
  unfold fewT at hx
  simp only at hx
  split at hx
  · exact hl x (List.mem_of_mem_take hx)
  · unfold sec at hx
    rcases List.mem_append.mp hx with h1 | h1
    · exact hl x (List.mem_of_mem_take h1)
    · rw [List.eq_of_mem_replicate h1]; decide
theorem adv_low {W w w' : World} {G G' : Nat → Prop} (h : Adv Nul W Nul w) (k : Adv G w G' w') (hG : ∀ j, G j → W.heap.size ≤ j) : Adv Nul W Nul w' :=
  ⟨k.os.trans h.os, k.tape.trans h.tape, k.output.trans h.output, Nat.le_trans h.size k.size, fun j hj _ => (k.block j (Nat.lt_of_lt_of_le hj h.size) (fun x => by have := hG j x; omega)).trans (h.block j hj (fun x => x)), fun _ x => x.elim⟩

set_option maxRecDepth 3000 in
set_option maxHeartbeats 12800000 in
theorem rneeds_walk (W : World) (n : Int) (_ : (Lit.int .i64 n).wf = true) (v : Value) (hv : ∃ ds, PDs W v ds) (odd : Bool) :
    Calls Try.prog 3 #[.int .i64 n, v, .bool odd] W fun e w' => e = .returned (.bool true) ∧ Below W.heap.size W w' := by
  obtain ⟨ds, hds⟩ := hv
  have HFEW := Lib.hid (few6_any W W v ds 26 odd hds (Below.refl _ _) (by decide))
  have H8 := Lib.hid (few_bytes (n := 26) (odd := odd) hds.2)
  obtain ⟨ps, hps⟩ : ∃ ps, ps = fewP ds 26 odd := ⟨_, rfl⟩
  rw [← hps] at HFEW H8
  clear hds hps
  go_enter Try.func3, Try.ntmps3
  go_wp2_with fail
  refine HFEW.out.mono ?_
  rintro e w1 ⟨A, q, rfl, hq1, a1⟩
  obtain ⟨M, hM⟩ : ∃ M, M = ps.length := ⟨_, rfl⟩
  rw [← hM] at hq1 ⊢
  have HQ1 := Lib.hid (hq1 Nul (fun _ x => x.elim))
  have HA1 := Lib.hid a1
  have HWI := Lib.hid (within_any n 2 40 w1 (by decide))
  clear hq1 a1 hM
  go_wp2_with fail
  refine HWI.out.mono ?_
  rintro e w1' ⟨y, rfl, hy1, hy2, -, rfl⟩
  obtain ⟨m, rfl⟩ := Int.eq_ofNat_of_zero_le (show 0 ≤ y by omega)
  have hm2 : 2 ≤ m := by omega
  have hm40 : m ≤ 40 := by omega
  have hw1 : IntKind.i64.wrap ((m : Int) + 30) = ((m + 30 : Nat) : Int) := by rw [IntKind.wrap_i64]; omega
  have HM := Lib.hid (And.intro hm2 hm40)
  have HNEW := Lib.hid (new_r (m + 30) (by omega) (by omega) w1)
  have hmI : (m : Int) ≤ 40 := by omega
  have hmI2 : (2 : Int) ≤ (m : Int) := by omega
  obtain ⟨N, hN⟩ : ∃ N, N = m + 30 := ⟨_, rfl⟩
  rw [← hN] at hw1 HNEW
  have HN := Lib.hid hN
  clear hy1 hy2 hm2 hm40 hN
  go_wp2_with fail
  refine HNEW.out.mono ?_
  rintro e w2 ⟨d, F, rfl, k2, a2⟩
  have HF2 := Lib.hid (show ∀ j, F j → w1.heap.size ≤ j from fun j hj => by
    rcases a2.into j hj with h | h
    · exact h.elim
    · exact h)
  have HA2 := Lib.hid (a2.sub (G := Nul) (fun _ x => x.elim))
  have HOP := Lib.hid (gopen_dk d N F (newS N) (m : Int) w2 k2 (SB_new N) (by have := HN.out; have := HM.out; omega) (by omega) (by have := HM.out; omega))
  clear k2 a2
  go_wp2_with fail
  refine HOP.out.mono ?_
  intro e w3 h3
  have htop : topE (newS N) (2 + (m : Int).toNat) = 0 := topE_new _ (by have := HN.out; have := HM.out; omega)
  rcases h3 with ⟨hb, -⟩ | ⟨-, ht, -⟩ | ⟨-, -, l, b, rfl, rs3, nw3, a3⟩
  · exact absurd (by have := HN.out; have := HM.out; omega) hb
  · rw [htop] at ht; exact absurd ht (by decide)
  have rs3' : Rs w3 F d l b m N (newS N) ⟨⟨0, 0, 1⟩, 0, 1, fun _ => none, 0⟩ := by
    have := rs3
    rw [Int.toNat_natCast, openS_new HM.out.1 (by have := HN.out; omega)] at this
    exact this
  obtain ⟨g0, hg0⟩ : ∃ g, g = (⟨⟨0, 0, 1⟩, 0, 1, fun _ => none, 0⟩ : LS) := ⟨_, rfl⟩
  rw [← hg0] at rs3'
  have HG0 := Lib.hid hg0
  have HS3 := Lib.hid rs3'
  have HA3 := Lib.hid (HA2.out.trans a3)
  have HLOW := Lib.hid (show ∀ j, UF F l b j → w1.heap.size ≤ j from fun j hj => by
    rcases hj with hj | hj | hj
    · exact HF2.out j hj
    · rw [hj]; exact Nat.le_trans HA2.out.size nw3.1
    · rw [hj]; exact Nat.le_trans HA2.out.size nw3.2)
  have HOK := Lib.hid (show GOk m N (newS N) g0 by
    rw [hg0]
    exact ⟨by have := HN.out; have := HM.out; omega, by show [].length ≤ _; decide, Nat.le_refl _, Nat.zero_le _, Nat.zero_le _, by decide⟩)
  have HQ3 := Lib.hid (show QRd w3 (UF F l b) (.slice A M q) ps from HQ1.out.adv HA3.out (fun _ x => x) (fun j x => .inr (HLOW.out j x)))
  have HN28 := Lib.hid (show ((N - 2 - m : Nat) : Int) = 28 by have := HN.out; omega)
  clear htop rs3 rs3' nw3 a3 hg0
  have HIS := Lib.hid (ris_any A M q ps 4096 _ w3 HQ3.out)
  by_cases ht : isTx ps 4096
  · have HT := Lib.hid ht
    rw [decide_eq_true ht] at HIS
    have HREC := Lib.hid (fun w' (a : Adv Nul w3 Nul w') => record_any A M q ps _ w' (HQ3.out.step a) ht H8.out)
    have HND := Lib.hid (need_eq ht)
    obtain ⟨D, hD⟩ : ∃ D, D = needT ps := ⟨_, rfl⟩
    rw [← hD] at HND
    have HD := Lib.hid hD
    obtain ⟨R, hR⟩ : ∃ R, R = (recB ps).length := ⟨_, rfl⟩
    have HRI := Lib.hid (show (R : Int) ≤ 3109 by rw [hR]; have := recB_small ht; omega)
    have HR := Lib.hid hR
    rw [← hR] at HND
    have hq1 : IntKind.i64.wrap ((R : Int) + 105) = (R : Int) + 105 := by rw [IntKind.wrap_i64]; have := HRI.out; omega
    have hq2 : ((R : Int) + 105).tdiv 106 = (D : Int) := by rw [← HND.out]; rfl
    have hq2' : ((R : Int) + 105) / 106 = (D : Int) := by rw [← HND.out]; rfl
    have hq3 : IntKind.i64.wrap (D : Int) = (D : Int) := by rw [IntKind.wrap_i64]; have := HND.out; have := HRI.out; omega
    clear ht hD hR
    go_wp2_with fail
    refine HIS.out.mono ?_
    rintro e w4 ⟨rfl, a4⟩
    have HA4 := Lib.hid a4
    have HRC := Lib.hid (HREC.out w4 a4)
    clear a4
    go_wp2_with fail
    refine HRC.out.mono ?_
    rintro e w5 ⟨v5, F5, rfl, s5, a5⟩
    obtain ⟨A5, c5, rfl, _, _⟩ := s5.form0
    rw [← HR.out]
    have HA5 := Lib.hid (HA4.out.trans (a5.sub (G := Nul) (fun _ x => x.elim)))
    have HWR := Lib.hid (gwrite_lg l b d m N g0 F (newS N) A M q ps w5 (HS3.out.over HA5.out) HOK.out (HQ3.out.step HA5.out) H8.out)
    clear s5 a5
    by_cases h2 : isTx ps 28
    · have HT2 := Lib.hid h2
      have hcut : cutE g0.ep g0.next (recB ps).length = 0 := by rw [HG0.out]; exact cutE_new h2
      have HCUT := Lib.hid hcut
      have HFR := Lib.hid (show freeG m g0 = m by rw [HG0.out]; rfl)
      have HE0 := Lib.hid (show g0.err = 0 by rw [HG0.out])
      clear hcut h2
      by_cases hle : D ≤ m
      · have hwr : writeG (newS N) m N g0 ps = (((layAll (newS N) m (cutP g0.ep g0.next (recB ps))).1, g0.putAll ps (needT ps)), 0) := by
          unfold writeG
          rw [if_pos HE0.out, HN28.out, if_pos HT2.out, if_pos ⟨HCUT.out, by rw [HFR.out, ← HD.out]; exact hle⟩, if_pos (layAll_live (N := N) (by have := HN.out; omega) (by have := HM.out; omega) rfl (by simp [newS]) (cutP_ok HCUT.out))]
        rw [hwr] at HWR
        obtain ⟨s', hs'⟩ : ∃ s', s' = (layAll (newS N) m (cutP g0.ep g0.next (recB ps))).1 := ⟨_, rfl⟩
        obtain ⟨g', hg'⟩ : ∃ g', g' = g0.putAll ps (needT ps) := ⟨_, rfl⟩
        rw [← hs', ← hg'] at HWR
        have HFR2 := Lib.hid (show g'.h.t = 0 ∧ g'.next = D by
          rw [hg', HG0.out, ← HD.out]
          exact ⟨rfl, Nat.zero_add _⟩)
        have HLE := Lib.hid hle
        have hleI : (D : Int) ≤ (m : Int) := by omega
        have hleF : ((m : Int) < (D : Int)) = False := eq_false (by omega)
        clear hwr hs' hg' hle
        go_wp2_with fail
        refine HWR.out.mono ?_
        rintro e w6 ⟨rfl, F6, rs6, a6⟩
        have rs6' : Rs w6 F6 d l b m N s' g' := rs6
        have HS6 := Lib.hid rs6'
        have HA6 := Lib.hid (adv_low (HA3.out.trans HA5.out) a6 HLOW.out)
        have HQ6 := Lib.hid (HQ1.out.step HA6.out)
        have HIS2 := Lib.hid (ris_any A M q ps 28 _ w6 HQ6.out)
        rw [decide_eq_true HT2.out] at HIS2
        clear rs6 rs6' a6
        go_wp2_with fail
        refine HIS2.out.mono ?_
        rintro e w7 ⟨rfl, a7⟩
        have HA7 := Lib.hid a7
        have HNEED := Lib.hid (gneed_any A M q ps _ w7 (HQ6.out.step a7) H8.out)
        rw [if_pos HT.out, ← HD.out] at HNEED
        clear a7
        go_wp2_with fail
        refine HNEED.out.mono ?_
        rintro e w8 ⟨rfl, a8⟩
        have HA8 := Lib.hid (HA7.out.trans a8)
        have HS8 := Lib.hid (HS6.out.over HA8.out)
        clear a8
        have HFREE := Lib.hid (gfree_lg HS8.out.lg (by have := HM.out; omega) (by rw [HFR2.out.1]; exact Nat.zero_le _) (by rw [HFR2.out.1, HFR2.out.2]; exact HLE.out))
        rw [HFR2.out.1, HFR2.out.2] at HFREE
        have e9 : ((m - (D - 0) : Nat) : Int) = (m : Int) - (D : Int) := by have := HLE.out; omega
        have hwf : IntKind.i64.wrap ((m : Int) - (D : Int)) = (m : Int) - (D : Int) := by rw [IntKind.wrap_i64]; have := HLE.out; have := HM.out; omega
        rw [e9] at HFREE
        clear e9
        go_wp2_with fail
        refine HFREE.out.mono ?_
        rintro e w9 ⟨rfl, k9, rfl⟩
        have HA9 := Lib.hid (HA8.out.drewN k9)
        have HLV := Lib.hid (glives_any (w8.drewN k9))
        go_wp2_with fail
        refine HLV.out.mono ?_
        rintro e w10 ⟨rfl, a10⟩
        have HFIN := Lib.hid (HA1.out.trans (HA6.out.trans (HA9.out.trans a10)))
        clear a10
        go_wp2_with fail
        go_ret
        exact ⟨by simp, HFIN.out.toBelow⟩
      · have hwr : writeG (newS N) m N g0 ps = ((newS N, g0), 8) := by
          unfold writeG
          rw [if_pos HE0.out, HN28.out, if_pos HT2.out, if_neg (fun k => hle (by have := k.2; rwa [HFR.out, ← HD.out] at this))]
        rw [hwr] at HWR
        have hltI : (m : Int) < (D : Int) := by omega
        clear hwr hle
        go_wp2_with fail
        refine HWR.out.mono ?_
        rintro e w6 ⟨rfl, F6, rs6, a6⟩
        have rs6' : Rs w6 F6 d l b m N (newS N) g0 := rs6
        have HS6 := Lib.hid rs6'
        have HA6 := Lib.hid (adv_low (HA3.out.trans HA5.out) a6 HLOW.out)
        have HQ6 := Lib.hid (HQ1.out.step HA6.out)
        have HIS2 := Lib.hid (ris_any A M q ps 28 _ w6 HQ6.out)
        rw [decide_eq_true HT2.out] at HIS2
        clear rs6 rs6' a6
        go_wp2_with fail
        refine HIS2.out.mono ?_
        rintro e w7 ⟨rfl, a7⟩
        have HA7 := Lib.hid a7
        have HNEED := Lib.hid (gneed_any A M q ps _ w7 (HQ6.out.step a7) H8.out)
        rw [if_pos HT.out, ← HD.out] at HNEED
        clear a7
        go_wp2_with fail
        refine HNEED.out.mono ?_
        rintro e w8 ⟨rfl, a8⟩
        have HA8 := Lib.hid (HA7.out.trans a8)
        have HS8 := Lib.hid (HS6.out.over HA8.out)
        clear a8
        have HFREE := Lib.hid (gfree_lg HS8.out.lg (by have := HM.out; omega) HOK.out.tn HOK.out.fr)
        have e9 : ((m - (g0.next - g0.h.t) : Nat) : Int) = (m : Int) := by rw [HG0.out]; rfl
        rw [e9] at HFREE
        clear e9
        go_wp2_with fail
        refine HFREE.out.mono ?_
        rintro e w9' ⟨rfl, k9, rfl⟩
        have HS9 := Lib.hid (HS8.out.over ((Adv.refl Nul w8).drewN k9))
        have HWT := Lib.hid (waits_dk d N F6 (newS N) (w8.drewN k9) HS9.out.dk (by show [].length ≤ _; decide))
        go_wp2_with fail
        refine HWT.out.mono ?_
        rintro e w9 ⟨z9, rfl, -, a9⟩
        rw [show (newS N).Q.length = 0 from rfl]
        have HA9 := Lib.hid ((HA8.out.drewN k9).trans (a9.sub (G := Nul) (fun _ x => x.elim)))
        clear a9
        have HLV := Lib.hid (glives_any w9)
        go_wp2_with fail
        refine HLV.out.mono ?_
        rintro e w10 ⟨rfl, a10⟩
        have HFIN := Lib.hid (HA1.out.trans (HA6.out.trans (HA9.out.trans a10)))
        clear a10
        go_wp2_with fail
        go_ret
        exact ⟨by simp, HFIN.out.toBelow⟩
    · have hwr : writeG (newS N) m N g0 ps = ((newS N, g0), 2) := by
        unfold writeG
        rw [if_pos (show g0.err = 0 by rw [HG0.out]), HN28.out, if_neg h2]
      rw [hwr] at HWR
      have HT2 := Lib.hid h2
      clear hwr h2
      go_wp2_with fail
      refine HWR.out.mono ?_
      rintro e w6 ⟨rfl, F6, rs6, a6⟩
      have rs6' : Rs w6 F6 d l b m N (newS N) g0 := rs6
      have HS6 := Lib.hid rs6'
      have HA6 := Lib.hid (adv_low (HA3.out.trans HA5.out) a6 HLOW.out)
      have HQ6 := Lib.hid (HQ1.out.step HA6.out)
      have HIS2 := Lib.hid (ris_any A M q ps 28 _ w6 HQ6.out)
      rw [decide_eq_false HT2.out] at HIS2
      clear rs6 rs6' a6
      go_wp2_with fail
      refine HIS2.out.mono ?_
      rintro e w7 ⟨rfl, a7⟩
      have HA7 := Lib.hid a7
      have HNEED := Lib.hid (gneed_any A M q ps _ w7 (HQ6.out.step a7) H8.out)
      rw [if_pos HT.out, ← HD.out] at HNEED
      clear a7
      go_wp2_with fail
      refine HNEED.out.mono ?_
      rintro e w8 ⟨rfl, a8⟩
      have HA8 := Lib.hid (HA7.out.trans a8)
      have HS8 := Lib.hid (HS6.out.over HA8.out)
      clear a8
      have HFREE := Lib.hid (gfree_lg HS8.out.lg (by have := HM.out; omega) HOK.out.tn HOK.out.fr)
      have e9 : ((m - (g0.next - g0.h.t) : Nat) : Int) = (m : Int) := by rw [HG0.out]; rfl
      rw [e9] at HFREE
      clear e9
      go_wp2_with fail
      refine HFREE.out.mono ?_
      rintro e w9' ⟨rfl, k9, rfl⟩
      have HS9 := Lib.hid (HS8.out.over ((Adv.refl Nul w8).drewN k9))
      have HWT := Lib.hid (waits_dk d N F6 (newS N) (w8.drewN k9) HS9.out.dk (by show [].length ≤ _; decide))
      go_wp2_with fail
      refine HWT.out.mono ?_
      rintro e w9 ⟨z9, rfl, -, a9⟩
      rw [show (newS N).Q.length = 0 from rfl]
      have HA9 := Lib.hid ((HA8.out.drewN k9).trans (a9.sub (G := Nul) (fun _ x => x.elim)))
      clear a9
      have HLV := Lib.hid (glives_any w9)
      go_wp2_with fail
      refine HLV.out.mono ?_
      rintro e w10 ⟨rfl, a10⟩
      have HFIN := Lib.hid (HA1.out.trans (HA6.out.trans (HA9.out.trans a10)))
      clear a10
      go_wp2_with fail
      go_ret
      exact ⟨by simp, HFIN.out.toBelow⟩
  · have HT := Lib.hid ht
    rw [decide_eq_false ht] at HIS
    have h2 : ¬ isTx ps 28 := fun k => ht (k.mono (by decide))
    have HT2 := Lib.hid h2
    have hwr : writeG (newS N) m N g0 ps = ((newS N, g0), 2) := by
      unfold writeG
      rw [if_pos (show g0.err = 0 by rw [HG0.out]), HN28.out, if_neg h2]
    have HWR0 := Lib.hid (fun w5 (a : Adv Nul w3 Nul w5) => gwrite_lg l b d m N g0 F (newS N) A M q ps w5 (HS3.out.over a) HOK.out (HQ3.out.step a) H8.out)
    rw [hwr] at HWR0
    clear ht h2 hwr
    go_wp2_with fail
    refine HIS.out.mono ?_
    rintro e w5 ⟨rfl, a5⟩
    have HA5 := Lib.hid a5
    have HWR := Lib.hid (HWR0.out w5 a5)
    clear a5
    go_wp2_with fail
    refine HWR.out.mono ?_
    rintro e w6 ⟨rfl, F6, rs6, a6⟩
    have rs6' : Rs w6 F6 d l b m N (newS N) g0 := rs6
    have HS6 := Lib.hid rs6'
    have HA6 := Lib.hid (adv_low (HA3.out.trans HA5.out) a6 HLOW.out)
    have HQ6 := Lib.hid (HQ1.out.step HA6.out)
    have HIS2 := Lib.hid (ris_any A M q ps 28 _ w6 HQ6.out)
    rw [decide_eq_false HT2.out] at HIS2
    clear rs6 rs6' a6
    go_wp2_with fail
    refine HIS2.out.mono ?_
    rintro e w7 ⟨rfl, a7⟩
    have HA7 := Lib.hid a7
    have HNEED := Lib.hid (gneed_any A M q ps _ w7 (HQ6.out.step a7) H8.out)
    rw [if_neg HT.out] at HNEED
    clear a7
    go_wp2_with fail
    refine HNEED.out.mono ?_
    rintro e w8 ⟨rfl, a8⟩
    have HA8 := Lib.hid (HA7.out.trans a8)
    have HS8 := Lib.hid (HS6.out.over HA8.out)
    clear a8
    have HFREE := Lib.hid (gfree_lg HS8.out.lg (by have := HM.out; omega) HOK.out.tn HOK.out.fr)
    have e9 : ((m - (g0.next - g0.h.t) : Nat) : Int) = (m : Int) := by rw [HG0.out]; rfl
    rw [e9] at HFREE
    clear e9
    go_wp2_with fail
    refine HFREE.out.mono ?_
    rintro e w9' ⟨rfl, k9, rfl⟩
    have HS9 := Lib.hid (HS8.out.over ((Adv.refl Nul w8).drewN k9))
    have HWT := Lib.hid (waits_dk d N F6 (newS N) (w8.drewN k9) HS9.out.dk (by show [].length ≤ _; decide))
    go_wp2_with fail
    refine HWT.out.mono ?_
    rintro e w9 ⟨z9, rfl, -, a9⟩
    rw [show (newS N).Q.length = 0 from rfl]
    have HA9 := Lib.hid ((HA8.out.drewN k9).trans (a9.sub (G := Nul) (fun _ x => x.elim)))
    clear a9
    have HLV := Lib.hid (glives_any w9)
    go_wp2_with fail
    refine HLV.out.mono ?_
    rintro e w10 ⟨rfl, a10⟩
    have HFIN := Lib.hid (HA1.out.trans (HA6.out.trans (HA9.out.trans a10)))
    clear a10
    go_wp2_with fail
    go_ret
    exact ⟨by simp, HFIN.out.toBelow⟩
end Go.Proofs.Ytlpdpbhnfhihjaa
