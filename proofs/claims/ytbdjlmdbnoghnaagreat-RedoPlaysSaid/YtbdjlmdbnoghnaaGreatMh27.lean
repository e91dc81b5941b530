/- The document's Is; Few: puts that came in, cut to a transaction's form. Few; puts that came in. The little play that each statement asks for. The reader's Text. The document's own answers: Fits, Bits. The document's own answers: Same, Bytes. -/
import Derived.Test.YtbdjlmdbnoghnaaGreatMh23
import Derived.Test.YtbdjlmdbnoghnaaGreatMh07
import Derived.Laws.IdiomStrings
import Derived.Test.YtbdjlmdbnoghnaaGreatMh01
namespace Go.Proofs.YtbdjlmdbnoghnaaGreat
open Go.RowKit Go.Maps

def IsM (w : World) (ps : List Pt) (x : Int) (k : Nat) (t : Value) (wr : World) : Prop := ∃ j : Nat, j ≤ k ∧ t = .int .i64 (j : Int) ∧ (∀ i (h : i < ps.length), i < j → ps[i].a ≠ x) ∧ Adv Nul w Nul wr

set_option maxRecDepth 3000 in
set_option maxHeartbeats 6400000 in
theorem ris_any (A0 : Option Addr) (N k0 : Nat) (ps : List Pt) (H : Int) (G : Nat → Prop) (w : World) (h : QRd w G (.slice A0 N k0) ps) :
    Calls Tryz.prog 48 #[.slice A0 N k0, .int .i64 H] w (TxR w (decide (isTx ps H))) := by
  have hN := h.len.1
  have hmx : N ≤ maxLen := by have := h.len; omega
  have hNI : (N : Int) ≤ 9223372036854775807 := by unfold maxLen at hmx; omega
  obtain ⟨B, hB⟩ : ∃ B, B = decide (isTx ps H) := ⟨_, rfl⟩
  rw [← hB]
  have HB := Lib.hid hB
  have HP := Lib.hid h
  have HN := Lib.hid hN
  clear h hN hB hmx
  have hno : ¬ isTx ps H → B = false := fun k => by rw [HB.out]; exact decide_eq_false k
  have HNO := Lib.hid hno
  clear hno
  by_cases h1 : (N : Int) < 1
  · obtain rfl : B = false := HNO.out (fun k => by have := k.1.1; have := HN.out; omega)
    go_enter Tryz.func48, Tryz.ntmps48
    go_wp2_with fail
    go_ret
    exact ⟨rfl, Adv.refl _ _⟩
  · have h1' : 1 ≤ (N : Int) := by omega
    clear h1
    by_cases h2 : 24 < (N : Int)
    · obtain rfl : B = false := HNO.out (fun k => by have := k.1.2; have := HN.out; omega)
      go_enter Tryz.func48, Tryz.ntmps48
      go_wp2_with fail
      go_ret
      exact ⟨rfl, Adv.refl _ _⟩
    · have h2' : (N : Int) ≤ 24 := by omega
      clear h2
      have HLN := Lib.hid (show 1 ≤ ps.length ∧ ps.length ≤ 24 by have := HN.out; omega)
      go_enter Tryz.func48, Tryz.ntmps48
      go_wp2_with fail
      go_loopw [5] (TxL w N ps H) (fun t _ => N - (intOf t).toNat)
      case atStart => exact ⟨0, Nat.zero_le _, rfl, fun i _ hi => absurd hi (Nat.not_lt_zero _), Adv.refl _ _⟩
      case round =>
        obtain ⟨k, hk, rfl, hpre, ha⟩ := hrel
        have HPRE := Lib.hid hpre
        have HA := Lib.hid ha
        by_cases hlt : k < N
        · have hki : (k : Int) < (N : Int) := by omega
          have hkp : k < ps.length := by rw [← HN.out]; exact hlt
          obtain ⟨b, o, a, q, rfl, -, ⟨c0, c1⟩, -, -⟩ := (HP.out.step ha).row hkp
          obtain ⟨x, hx⟩ : ∃ x, x = ps[k].a := ⟨_, rfl⟩
          rw [← hx] at c0
          obtain ⟨m, hm⟩ : ∃ m, m = ps[k].d.length := ⟨_, rfl⟩
          rw [← hm] at c1
          have HX := Lib.hid hx
          have HM := Lib.hid hm
          have HLT := Lib.hid hlt
          have HKP := Lib.hid hkp
          have hbad : ¬ txAt ps H k hkp → B = false := fun h => HNO.out (fun t => h (t.2 k hkp))
          have HBAD := Lib.hid hbad
          clear hpre ha hx hm hlt hk hbad
          by_cases hx0 : x < 0
          · obtain rfl : B = false := HBAD.out (fun t => by have := t.1.1; rw [← HX.out] at this; omega)
            go_wp2_with fail
            go_ret
            exact ⟨rfl, HA.out⟩
          · have hx0' : 0 ≤ x := by omega
            clear hx0
            by_cases hxH : H ≤ x
            · obtain rfl : B = false := HBAD.out (fun t => by have := t.1.2; rw [← HX.out] at this; omega)
              go_wp2_with fail
              go_ret
              exact ⟨rfl, HA.out⟩
            · have hxH' : x < H := by omega
              clear hxH
              by_cases hm : m = 128
              · subst hm
                have hxf : (H ≤ x) = False := eq_false (by omega)
                have hxg : (x < 0) = False := eq_false (by omega)
                go_wp2_with fail
                go_loopw [6] (IsM w ps x k) (fun t _ => k - (intOf t).toNat)
                case atStart => exact ⟨0, Nat.zero_le _, rfl, fun i _ hi => absurd hi (Nat.not_lt_zero _), HA.out⟩
                case round =>
                  obtain ⟨j, hj, rfl, hpre2, ha2⟩ := hrel
                  have HA2 := Lib.hid ha2
                  have HPRE2 := Lib.hid hpre2
                  by_cases hlt2 : j < k
                  · have hji : (j : Int) < (k : Int) := by omega
                    have hjn : (j : Int) < (N : Int) := by omega
                    have hj0 : (0 : Int) ≤ (j : Int) := by omega
                    have hk0 : (0 : Int) ≤ (k : Int) := by omega
                    have hjp : j < ps.length := by omega
                    obtain ⟨bj, oj, aj, qj, ej, -, ⟨d0, -⟩, -, -⟩ := (HP.out.step ha2).row hjp
                    injection ej with ej
                    injection ej with e1 e2 _
                    subst e1 e2
                    obtain ⟨bk, ok, ak, qk, ek, -, ⟨e0, -⟩, -, -⟩ := (HP.out.step ha2).row HKP.out
                    injection ek with ek
                    injection ek with e1 e2 _
                    subst e1 e2
                    rw [← HX.out] at e0
                    obtain ⟨y, hy⟩ : ∃ y, y = ps[j].a := ⟨_, rfl⟩
                    rw [← hy] at d0
                    have HY := Lib.hid hy
                    have HLT2 := Lib.hid hlt2
                    have HJP := Lib.hid hjp
                    clear hpre2 ha2 hlt2 hj hy c0 c1
                    by_cases hxy : y = x
                    · have hb : ((y : Int) == x) = true := by rw [hxy]; exact beq_self_eq_true x
                      obtain rfl : B = false := HBAD.out (fun t => t.2.2 j HLT2.out (by rw [← HX.out, ← HY.out]; exact hxy))
                      clear hxy
                      go_wp2_with fail
                      go_quiet (fail)
                      go_wp2
                      go_ret
                      exact ⟨rfl, HA2.out.drewN _⟩
                    · have hb : ((y : Int) == x) = false := by rw [beq_eq_false_iff_ne]; exact hxy
                      have HXY := Lib.hid hxy
                      clear hxy
                      go_wp2_with fail
                      go_quiet (fail)
                      go_wp2
                      have hlt2 := HLT2.out
                      refine ⟨⟨j + 1, by omega, by go_num, fun i h hi => ?_, HA2.out.drewN _⟩, by simp [intOf] <;> omega⟩
                      by_cases e : i = j
                      · subst e; rw [← HY.out]; exact HXY.out
                      · exact HPRE2.out i h (by omega)
                  · obtain rfl : j = k := by omega
                    have HG := Lib.hid (show txAt ps H j HKP.out from ⟨⟨by rw [← HX.out]; exact hx0', by rw [← HX.out]; exact hxH'⟩, HM.out.symm, fun i hi he => HPRE2.out i (by have := HKP.out; omega) hi (by rw [he, HX.out])⟩)
                    clear hpre2 ha2 hlt2 hj c0 c1
                    go_wp2_with fail
                    have hlt := HLT.out
                    refine ⟨⟨j + 1, by omega, by go_num, fun i h hi => ?_, HA2.out⟩, by simp [intOf] <;> omega⟩
                    by_cases e : i = j
                    · subst e; exact HG.out
                    · exact HPRE.out i h (by omega)
              · obtain rfl : B = false := HBAD.out (fun t => hm (by rw [HM.out]; exact t.2.1))
                have hmI : ((m : Int) != 128) = true := by rw [bne_iff_ne]; omega
                have hmJ : ((m : Int) == 128) = false := by rw [beq_eq_false_iff_ne]; omega
                clear hm
                go_wp2_with fail
                go_ret
                exact ⟨rfl, HA.out⟩
        · obtain rfl : k = N := by omega
          obtain rfl : B = true := by rw [HB.out]; exact decide_eq_true ⟨HLN.out, fun i hi => HPRE.out i hi (by have := HN.out; omega)⟩
          clear hpre ha hlt hk
          go_wp2_with fail
          go_ret
          exact ⟨rfl, HA.out⟩
end Go.Proofs.YtbdjlmdbnoghnaaGreat
namespace Go.Proofs.YtbdjlmdbnoghnaaGreat
open Go.RowKit Go.Maps

theorem flatM {α : Type} (m : Nat) (f : α → List Value) (hf : ∀ x, (f x).length = m) : ∀ (l : List α) (i j : Nat) (hi : i < l.length), j < m → (l.flatMap f)[i * m + j]? = (f l[i])[j]?
  | x :: l, 0, j, _, hj => by
    rw [List.flatMap_cons, Nat.zero_mul, Nat.zero_add, List.getElem?_append_left (by rw [hf]; omega)]; simp
  | x :: l, i + 1, j, hi, hj => by
    have e : (i + 1) * m + j = m + (i * m + j) := by rw [Nat.succ_mul]; omega
    rw [List.flatMap_cons, List.getElem?_append_right (by rw [hf]; omega), e, hf, Nat.add_sub_cancel_left]
    exact flatM m f hf l i j (by simpa using hi) hj
/-- a put that came in -/
structure PD where
  a : Int
  v : Value
  l : List Nat
def PD.cells (d : PD) : List Value := [.int .i64 d.a, d.v]
def PD.fit (d : PD) (W : World) : Prop := In W d.v d.l ∧ (-9223372036854775808 ≤ d.a ∧ d.a < 9223372036854775808)
def PDs (W : World) (v : Value) (ds : List PD) : Prop := Rd W 2 v ds.length (ds.flatMap PD.cells) ∧ ∀ d ∈ ds, d.fit W
def fewT (odd : Bool) (d : PD) : Pt := ⟨d.a, if odd then d.l.take 130 else sec d.l⟩
def fewP (ds : List PD) (n : Nat) (odd : Bool) : List Pt := (ds.take n).map (fewT odd)
theorem PDs.at_ {W w : World} {A : Option Addr} {n c : Nat} {ds : List PD} (h : PDs W (.slice A n c) ds) (hb : Below W.heap.size W w) {i : Nat} (hi : i < ds.length) : ∃ b o, A = some ⟨b, o, none⟩ ∧ w.cell? ⟨b, o + i * 2, none⟩ = some (.int .i64 ds[i].a) ∧ w.cell? ⟨b, o + i * 2 + 1, none⟩ = some ds[i].v ∧ In w ds[i].v ds[i].l := by
  have hn : n = ds.length := by obtain ⟨A', c', e, _⟩ := h.1; injection e
  subst hn
  obtain ⟨b, o, rfl, hlt2, hc2⟩ := h.1.cells (by omega) (by decide)
  have H : ∀ j u, j < 2 → ds[i].cells[j]? = some u → w.cell? ⟨b, o + (i * 2 + j), none⟩ = some u := fun j u hj hu => by
    rw [World.cell?_of_block (hb.block b hlt2)]
    exact hc2 _ _ (by rw [flatM 2 PD.cells (fun _ => rfl) ds i j hi hj]; exact hu)
  exact ⟨b, o, rfl, by have := H 0 _ (by decide) rfl; rwa [Nat.add_zero] at this, by have := H 1 _ (by decide) rfl; rwa [← Nat.add_assoc] at this, ((h.2 _ (List.getElem_mem hi)).1).far hb⟩
theorem PDs.len {W : World} {A : Option Addr} {n c : Nat} {ds : List PD} (h : PDs W (.slice A n c) ds) : n = ds.length ∧ n ≤ c ∧ c ≤ maxLen := by
  obtain ⟨A', c', e, hnc, hcm, _, _, _⟩ := h.1
  injection e with e1 e2 e3
  omega

def qcells (q : Pt × Value) : List Value := [.int .i64 q.1.a, q.2]
/-- puts in a slice of one's own -/
structure QW (W : World) (P : Nat → Pt) (k : Nat) (vo : Value) (F : Nat → Prop) (qs : List (Pt × Value)) (w : World) : Prop where
  len : qs.length = k
  sl : Sl w F 90 2 vo k (qs.flatMap qcells)
  at_ : ∀ i (h : i < qs.length), qs[i].1 = P i ∧ ∃ a q, qs[i].2 = .slice a (P i).d.length q ∧ Rd w 1 (.slice a (P i).d.length q) (P i).d.length ((P i).d.map u8) ∧ ∀ g, (Value.slice a (P i).d.length q).ownBlock = some g → 0 < (P i).d.length → ¬ F g ∧ W.heap.size ≤ g
  adv : Adv Nul W F w
section
variable {W w w' : World} {P : Nat → Pt} {k : Nat} {vo : Value}
theorem QW.nil (W : World) (P : Nat → Pt) : QW W P 0 (.slice none 0 0) Nul [] W := ⟨rfl, Sl.nil _ _ _, fun i h => absurd h (by simp), Adv.refl _ _⟩
theorem QW.step {F F' : Nat → Prop} {qs : List (Pt × Value)} (h : QW W P k vo F qs w) (ha : Adv Nul w F' w') : QW W P k vo F qs w' :=
  ⟨h.len, h.sl.far ha (fun _ h _ => h), fun i hi => by
    obtain ⟨e, a, q, e2, hr, hn⟩ := h.at_ i hi
    exact ⟨e, a, q, e2, hr.far (fun _ _ _ hl => ha.block _ hl (fun x => x)) ha.size, hn⟩, h.adv.over ha⟩
theorem QW.push1 {F : Nat → Prop} {qs : List (Pt × Value)} {vo' : Value} {a : Option Addr} {q : Nat} {p : Pt} (h : QW W P k vo F qs w) (hp : P k = p) (hr : Rd w 1 (.slice a p.d.length q) p.d.length (p.d.map u8)) (hnF : ∀ g, (Value.slice a p.d.length q).ownBlock = some g → 0 < p.d.length → ¬ F g ∧ W.heap.size ≤ g)
    (hown : w'.ownsRow 0 90 2 vo' (k + 1) (qs.flatMap qcells ++ [.int .i64 p.a, .slice a p.d.length q])) (hg : w.grownBy w' vo.ownBlock) (hat : vo'.ownBlock = vo.ownBlock ∨ vo'.ownBlock = some w.heap.size) : QW W P (k + 1) vo' (fun g => F g ∨ vo'.ownBlock = some g) (qs ++ [(p, .slice a p.d.length q)]) w' := by
  obtain ⟨g1, g2⟩ := lsl_grown h.sl hown hg hat (Nat.le_refl _)
  have hF' : ∀ g, g < w.heap.size → ¬ F g → ¬ (F g ∨ vo'.ownBlock = some g) := fun g hlt hn hor => by
    rcases hor with h1 | h1
    · exact hn h1
    · rcases hat with e | e
      · exact hn (h.sl.inF g (by rw [← e]; exact h1))
      · rw [e] at h1; injection h1 with h1; omega
  have keep : ∀ {a : Option Addr} {d q : Nat} {l : List Nat}, Rd w 1 (.slice a d q) d (l.map u8) → (∀ g, (Value.slice a d q).ownBlock = some g → 0 < d → ¬ F g ∧ W.heap.size ≤ g) → Rd w' 1 (.slice a d q) d (l.map u8) ∧ ∀ g, (Value.slice a d q).ownBlock = some g → 0 < d → ¬ (F g ∨ vo'.ownBlock = some g) ∧ W.heap.size ≤ g := fun hr hn =>
    ⟨hr.far (fun g hg hd hl => g2.block g hl (hn g hg hd).1) g2.size, fun g hg hd => ⟨hF' g (hr.lt hg hd) (hn g hg hd).1, (hn g hg hd).2⟩⟩
  have hl := h.len
  refine ⟨by simp [hl], by simpa [qcells] using g1, fun i hi => ?_, h.adv.trans g2⟩
  rw [List.length_append, List.length_singleton] at hi
  by_cases hik : i < qs.length
  · rw [List.getElem_append_left hik]
    obtain ⟨e, a', q', e2, hr', hn'⟩ := h.at_ i hik
    obtain ⟨k1, k2⟩ := keep hr' hn'
    exact ⟨e, a', q', e2, k1, k2⟩
  · obtain rfl : i = qs.length := by omega
    rw [List.getElem_append_right (Nat.le_refl _)]
    simp only [Nat.sub_self, List.getElem_cons_zero, hl]
    rw [hp]
    obtain ⟨k1, k2⟩ := keep hr hnF
    exact ⟨rfl, a, q, rfl, k1, k2⟩
theorem QW.push {F : Nat → Prop} {qs : List (Pt × Value)} {vo' : Value} {a : Option Addr} {q : Nat} {p : Pt} (h : QW W P k vo F qs w) (hp : P k = p) (hr : Rd w 1 (.slice a p.d.length q) p.d.length (p.d.map u8)) (hnF : ∀ g, (Value.slice a p.d.length q).ownBlock = some g → 0 < p.d.length → ¬ F g ∧ W.heap.size ≤ g)
    (hown : w'.ownsRow 0 90 2 vo' (k + 1) (qs.flatMap qcells ++ [.int .i64 p.a, .slice a p.d.length q])) (hg : w.grownBy w' vo.ownBlock) (hat : vo'.ownBlock = vo.ownBlock ∨ vo'.ownBlock = some w.heap.size) : ∃ F' qs', QW W P (k + 1) vo' F' qs' w' :=
  ⟨_, _, h.push1 hp hr hnF hown hg hat⟩
theorem QW.qrd {F G : Nat → Prop} {qs : List (Pt × Value)} (h : QW W P k vo F qs w) (hG : Bd G W) : QRd w G vo ((List.range k).map P) := by
  have hl := h.len
  obtain ⟨A, c, rfl, hkc, hcm⟩ := h.sl.form0
  refine ⟨A, c, by simp, by simpa using hkc, hcm, fun hk => ?_⟩
  have hk' : 0 < k := by simpa using hk
  obtain ⟨g, c', e, hFg, _⟩ := h.sl.form hk'
  injection e with e1 _ _
  subst e1
  have hGg : ∀ j, W.heap.size ≤ j → ¬ G j := fun j hj x => by have := hG j x; omega
  refine ⟨g, 0, rfl, ⟨h.sl.bd g hFg, hGg g (by rcases h.adv.into g hFg with x | x; exact x.elim; exact x)⟩, fun i hi => ?_⟩
  have hi' : i < k := by simpa using hi
  obtain ⟨e, a, q, e2, hr, hn⟩ := h.at_ i (by omega)
  have e3 : ((List.range k).map P)[i]'hi = P i := by simp
  rw [e3]
  have H : ∀ j u, j < 2 → (qcells (qs[i]'(by omega)))[j]? = some u → w.cell? ⟨g, 0 + (i * 2 + j), none⟩ = some u := fun j u hj hu => by
    rw [Nat.zero_add, h.sl.own.cellAt (i * 2 + j) (by omega), flatM 2 qcells (fun _ => rfl) qs i j (by omega) hj]
    exact hu
  refine ⟨a, q, H 0 _ (by decide) ?_, H 1 _ (by decide) ?_, hr, fun j hj hn' => hGg j (hn j hj hn').2⟩ <;> simp [qcells, e, e2]
end
theorem qnew_at {T : TypeId} {w : World} {x : Int} {v : Value} (j : Nat) (u : Value) (h : [Value.int .i64 x, v][j]? = some u) : (w.alloc (.cells #[.int .i64 x, v] T)).cell? ((⟨w.heap.size, 0, none⟩ : Addr).add j) = some u := by
  rw [add_none, Nat.zero_add, (Blk.new w T #[.int .i64 x, v]).cell j, List.getElem?_toArray]
  exact h
theorem qone {x : Int} {a : Option Addr} {d q : Nat} : ∀ u ∈ [Value.int .i64 x, .slice a d q], u.oneCell' = true := by
  intro u hu
  simp at hu
  rcases hu with rfl | rfl <;> rfl
theorem qw_new {W w wc : World} {P : Nat → Pt} {k : Nat} {vo v : Value} {F Fc : Nat → Prop} {qs : List (Pt × Value)} {e : TypeId} {size d : Nat} {xs : List Value} (h : QW W P k vo F qs w) (hc : Sl wc Fc e size v d xs) (ac : Adv Nul w Fc wc) : ∀ g, v.ownBlock = some g → 0 < d → ¬ F g ∧ W.heap.size ≤ g := fun g hg _ => by
  rcases ac.into g (hc.inF g hg) with h1 | h1
  · exact h1.elim
  · exact ⟨fun hF => by have := h.sl.bd g hF; omega, Nat.le_trans h.adv.size h1⟩

def FewR (w : World) (ps : List Pt) (e : Ending) (w' : World) : Prop := ∃ A q, e = .returned (.slice A ps.length q) ∧ (∀ G, Bd G w → QRd w' G (.slice A ps.length q) ps) ∧ Adv Nul w Nul w'
def FwL (w : World) (P : Nat → Pt) (M : Nat) (t8 t7 : Value) (wr : World) : Prop := ∃ k A q F qs, k ≤ M ∧ t8 = .int .i64 (k : Int) ∧ t7 = .slice A k q ∧ QW w P k (.slice A k q) F qs wr
theorem few_eq {ds : List PD} {n : Nat} {odd : Bool} {P : Nat → Pt} (hP : ∀ i (h : i < ds.length), P i = fewT odd ds[i]) : (List.range (min ds.length n)).map P = fewP ds n odd := by
  unfold fewP
  apply List.ext_getElem
  · simp; omega
  · intro i h1 h2
    have hi : i < ds.length := by simp at h1; omega
    simp only [List.getElem_map, List.getElem_range, List.getElem_take]
    exact hP i hi

set_option maxRecDepth 3000 in
set_option maxHeartbeats 12800000 in
theorem few6_any (W w : World) (v : Value) (ds : List PD) (n : Nat) (odd : Bool) (h : PDs W v ds) (hb : Below W.heap.size W w) (hn : n ≤ 1000) :
    Calls Tryz.prog 9 #[v, .int .i64 (n : Int), .bool odd] w (FewR w (fewP ds n odd)) := by
  obtain ⟨A0, c0, rfl, _, _⟩ := h.1.form
  obtain ⟨N, hN⟩ : ∃ N, N = ds.length := ⟨_, rfl⟩
  rw [← hN] at h ⊢
  have hmx : N ≤ maxLen := by have := h.len; omega
  have hNI : (N : Int) ≤ 9223372036854775807 := by unfold maxLen at hmx; omega
  have hnI : (n : Int) ≤ 1000 := by omega
  obtain ⟨P, hP⟩ : ∃ P : Nat → Pt, ∀ i (h : i < ds.length), P i = fewT odd ds[i] := ⟨fun i => if h : i < ds.length then fewT odd ds[i] else ⟨0, []⟩, fun i h => by simp [h]⟩
  have HP := Lib.hid hP
  have HFE := Lib.hid (few_eq (n := n) hP)
  have HD := Lib.hid h
  have HB := Lib.hid hb
  have HN := Lib.hid hN
  have HN1 := Lib.hid hn
  obtain ⟨M, hM⟩ : ∃ M, M = min ds.length n := ⟨_, rfl⟩
  have HM := Lib.hid hM
  rw [← hM] at HFE
  clear h hb hN hn hmx hP hM
  go_enter Tryz.func9, Tryz.ntmps9
  go_wp2_with fail
  go_loopw [8, 7] (FwL w P M) (fun t _ _ => M - (intOf t).toNat)
  case atStart => exact ⟨0, none, 0, Nul, [], Nat.zero_le _, rfl, rfl, QW.nil _ _⟩
  case round =>
    obtain ⟨k, A, q, F, qs, hk, rfl, rfl, hw⟩ := hrel
    have HW := Lib.hid hw
    by_cases hlt : k < M
    · have hkl : k < ds.length := by have := HM.out; omega
      have hki : (k : Int) < (N : Int) := by have := HN.out; omega
      have hkn : (k : Int) < (n : Int) := by have := HM.out; omega
      have hbw := HB.out.trans (hw.adv.toBelow.mono HB.out.size)
      obtain ⟨b, o, rfl, d0, d1, hin⟩ := HD.out.at_ hbw hkl
      have hpk := HP.out k hkl
      obtain ⟨d, hd⟩ : ∃ d, d = ds[k] := ⟨_, rfl⟩
      rw [← hd] at d0 d1 hin hpk
      obtain ⟨x, dv, dl⟩ := d
      simp only at d0 d1 hin
      obtain ⟨Ad, cd, rfl, _, _⟩ := hin.rd.form
      obtain ⟨dn, hdn⟩ : ∃ y, y = dl.length := ⟨_, rfl⟩
      rw [← hdn] at d1 hin
      have HSEC := Lib.hid (sector_any _ dl wr hin)
      have HIN := Lib.hid hin
      have HLT := Lib.hid hlt
      have HPK := Lib.hid hpk
      have HD0 := Lib.hid d0
      have HD1 := Lib.hid d1
      have HLB := Lib.hid (show b < wr.heap.size from by
        rcases Nat.lt_or_ge b wr.heap.size with h | h
        · exact h
        · rw [World.cell?, Array.getElem?_eq_none h] at d0; cases d0)
      clear hlt hkl hbw hin hpk hd hdn hw hk
      go_wp2_with fail
      refine HSEC.out.mono ?_
      rintro e w2 ⟨v2, F2, rfl, s2, a2⟩
      obtain ⟨A2, c2, rfl, _, _⟩ := s2.form0
      have d0' : w2.cell? ⟨b, o + k * 2, none⟩ = some (.int .i64 x) := by rw [← HD0.out]; exact World.cell?_of_block (a2.block b HLB.out (fun x => x))
      have d1' : w2.cell? ⟨b, o + k * 2 + 1, none⟩ = some (.slice Ad dn cd) := by rw [← HD1.out]; exact World.cell?_of_block (a2.block b HLB.out (fun x => x))
      have HNF2 := Lib.hid (qw_new HW.out s2 a2)
      have HW2 := Lib.hid (HW.out.step a2)
      have HS2 := Lib.hid s2
      have HA2 := Lib.hid a2
      clear d0 d1 s2 a2
      cases odd with
      | false =>
        have HLZ := Lib.hid (sec_length dl)
        have HWZ := HW2
        have HRZ := Lib.hid HS2.out.rd
        have HNF := HNF2
        have HU := Lib.hid (HWZ.out.step ((Adv.refl Nul w2).alloc (.cells #[.int .i64 x, .slice A2 128 c2] 90)))
        have HRU := Lib.hid (HRZ.out.up (.cells #[.int .i64 x, .slice A2 128 c2] 90))
        have HK1 := Lib.hid (show k + 1 ≤ maxLen by have := HLT.out; have := HM.out; have := HN1.out; unfold maxLen; omega)
        have HK2 := Lib.hid (show (k + 1) * 32 ≤ 140737488355328 by have := HLT.out; have := HM.out; have := HN1.out; omega)
        go_wp2_with (first
          | (at_builtin; refine lop_append_own rfl (.tmp 35) (.tmp 43) 37 90 rfl Tryz.underlying37 infoPut rfl (by decide) rfl HU.out.sl.own ⟨w2.heap.size, 0, none⟩ 1 1 rfl [.int .i64 x, .slice A2 128 c2] rfl qnew_at qone HK1.out HK2.out ?_; intro v' w8 hown hg2 hat; obtain ⟨a8, k8, rfl⟩ := (slice_of hown); have HOWN := Lib.hid hown; have HG2 := Lib.hid hg2; have HAT := Lib.hid hat; clear hown hg2 hat)
          | fail)
        obtain ⟨F8, qs8, hpu⟩ := HU.out.push (p := ⟨x, sec dl⟩) HPK.out (by simp only; rw [HLZ.out]; exact HRU.out) (by simp only; rw [HLZ.out]; exact HNF.out) (by simp only; rw [HLZ.out]; exact HOWN.out) HG2.out HAT.out
        have hlt := HLT.out
        exact ⟨⟨k + 1, a8, k8, F8, qs8, by omega, by go_num, rfl, hpu⟩, by simp [intOf] <;> omega⟩
      | true =>
        have HCT := Lib.hid (cut_any (.slice Ad dn cd) dl 130 w2 (HIN.out.far HA2.out.toBelow) (by decide))
        go_wp2_with fail
        refine HCT.out.mono ?_
        rintro e w3 ⟨v3, rfl, h3, rfl⟩
        obtain ⟨A3, c3, rfl, _, _⟩ := h3.rd.form
        obtain ⟨m3, hm3⟩ : ∃ y, y = (dl.take 130).length := ⟨_, rfl⟩
        have hl3 : m3 ≤ 130 := by rw [hm3, List.length_take]; omega
        have HCP := Lib.hid (copy_any _ m3 (dl.take 130) w2 (by rw [hm3]; exact h3.rd) (by omega))
        rw [← hm3] at HCP ⊢
        have HM3 := Lib.hid hm3
        clear h3 hm3 hl3
        go_wp2_with fail
        refine HCP.out.mono ?_
        rintro e w4 ⟨v4, F4, rfl, s4, a4⟩
        obtain ⟨A4, c4, rfl, _, _⟩ := s4.form0
        have d0 : w4.cell? ⟨b, o + k * 2, none⟩ = some (.int .i64 x) := by rw [← d0']; exact World.cell?_of_block (a4.block b (Nat.lt_of_lt_of_le HLB.out HA2.out.size) (fun x => x))
        have HLZ := Lib.hid HM3.out.symm
        have HNF := Lib.hid (qw_new HW2.out s4 a4)
        have HWZ := Lib.hid (HW2.out.step a4)
        have HRZ := Lib.hid s4.rd
        clear s4 a4 d0' d1'
        have HU := Lib.hid (HWZ.out.step ((Adv.refl Nul w4).alloc (.cells #[.int .i64 x, .slice A4 m3 c4] 90)))
        have HRU := Lib.hid (HRZ.out.up (.cells #[.int .i64 x, .slice A4 m3 c4] 90))
        have HK1 := Lib.hid (show k + 1 ≤ maxLen by have := HLT.out; have := HM.out; have := HN1.out; unfold maxLen; omega)
        have HK2 := Lib.hid (show (k + 1) * 32 ≤ 140737488355328 by have := HLT.out; have := HM.out; have := HN1.out; omega)
        go_wp2_with (first
          | (at_builtin; refine lop_append_own rfl (.tmp 35) (.tmp 43) 37 90 rfl Tryz.underlying37 infoPut rfl (by decide) rfl HU.out.sl.own ⟨w4.heap.size, 0, none⟩ 1 1 rfl [.int .i64 x, .slice A4 m3 c4] rfl qnew_at qone HK1.out HK2.out ?_; intro v' w8 hown hg2 hat; obtain ⟨a8, k8, rfl⟩ := (slice_of hown); have HOWN := Lib.hid hown; have HG2 := Lib.hid hg2; have HAT := Lib.hid hat; clear hown hg2 hat)
          | fail)
        obtain ⟨F8, qs8, hpu⟩ := HU.out.push (p := ⟨x, dl.take 130⟩) HPK.out (by simp only; rw [HLZ.out]; exact HRU.out) (by simp only; rw [HLZ.out]; exact HNF.out) (by simp only; rw [HLZ.out]; exact HOWN.out) HG2.out HAT.out
        have hlt := HLT.out
        exact ⟨⟨k + 1, a8, k8, F8, qs8, by omega, by go_num, rfl, hpu⟩, by simp [intOf] <;> omega⟩
    · obtain rfl : k = M := by omega
      have HF := Lib.hid (show FewR w (fewP ds n odd) (.returned (.slice A k q)) wr from by
        have hl : (fewP ds n odd).length = k := by rw [← HFE.out]; simp
        refine ⟨A, q, by rw [hl], fun G hG => ?_, HW.out.adv.sub (fun _ x => x.elim)⟩
        rw [hl, ← HFE.out]
        exact HW.out.qrd hG)
      by_cases hkl : k < ds.length
      · have hki : (k : Int) < (N : Int) := by have := HN.out; omega
        have hkn : (n : Int) ≤ (k : Int) := by have := HM.out; omega
        clear hlt hk hw hkl
        go_wp2_with fail
        go_ret
        exact HF.out
      · have hki : (N : Int) ≤ (k : Int) := by have := HN.out; omega
        clear hlt hk hw hkl
        go_wp2_with fail
        go_ret
        exact HF.out
end Go.Proofs.YtbdjlmdbnoghnaaGreat
namespace Go.Proofs.YtbdjlmdbnoghnaaGreat
open Go.RowKit
end Go.Proofs.YtbdjlmdbnoghnaaGreat
namespace Go.Proofs.YtbdjlmdbnoghnaaGreat
open Go.RowKit

theorem addr_none (b o j : Nat) : (⟨b, o, none⟩ : Addr).add j = ⟨b, o + j, none⟩ := by unfold Addr.add; split <;> simp_all
end Go.Proofs.YtbdjlmdbnoghnaaGreat
namespace Go.Proofs.YtbdjlmdbnoghnaaGreat
open Go.RowKit

def nval (l : List Nat) : Nat := l.foldl (fun a b => a * 2 + b) 0
theorem nval_snoc (l : List Nat) (b : Nat) : nval (l ++ [b]) = nval l * 2 + b := by simp [nval]

/-- A row of noughts and ones: the number N of m bits. -/
structure Bl (l : List Nat) (N m : Nat) : Prop where
  len : l.length = m
  bit : ∀ b ∈ l, b < 2
  val : nval l = N

theorem Bl.nil : Bl [] 0 0 := ⟨rfl, by simp, rfl⟩
theorem Bl.snoc {l : List Nat} {N m b : Nat} (h : Bl l N m) (hb : b < 2) : Bl (l ++ [b]) (N * 2 + b) (m + 1) :=
  ⟨by simp [h.len], fun c hc => by
    rcases List.mem_append.1 hc with h1 | h1
    · exact h.bit c h1
    · simp at h1; omega, by rw [nval_snoc, h.val]⟩
theorem Bl.append {l m : List Nat} {N a M b : Nat} (h : Bl l N a) (k : Bl m M b) : Bl (l ++ m) (N * 2 ^ b + M) (a + b) := by
  refine ⟨by simp [h.len, k.len], fun c hc => by
    rcases List.mem_append.1 hc with h1 | h1
    · exact h.bit c h1
    · exact k.bit c h1, ?_⟩
  have H : ∀ (m : List Nat) (s : Nat), m.foldl (fun a b => a * 2 + b) s = s * 2 ^ m.length + nval m := by
    intro m
    induction m with
    | nil => intro s; simp [nval]
    | cons c m ih =>
      intro s
      have e : nval (c :: m) = c * 2 ^ m.length + nval m := by
        show m.foldl _ (0 * 2 + c) = _
        rw [ih]; simp
      rw [e, List.foldl_cons, ih, List.length_cons, Nat.pow_succ, Nat.add_mul, Nat.mul_assoc, Nat.mul_comm 2, Nat.add_assoc]
  unfold nval
  rw [List.foldl_append, H, ← k.len, ← k.val, ← h.val]
  rfl

def BitsRel (w : World) (x n : Nat) (t5 t6 : Value) (wr : World) : Prop :=
  ∃ k l F, t6 = .int .i64 ((n : Int) - 1 - ((k : Nat) : Int)) ∧ k ≤ n ∧ Bl l (x / 2 ^ (n - k)) k ∧ Sl wr F 5 1 t5 k (l.map u8) ∧ Adv Nul w F wr

set_option maxRecDepth 3000 in
set_option maxHeartbeats 1000000 in
theorem bits_any (x n : Nat) (w : World) (hx : x < 2 ^ n) (hn : n ≤ 64) :
    Calls Tryz.prog 82 #[.int .u64 x, .int .i64 n] w fun e w' => ∃ v, e = .returned v ∧ ∃ F l, Sl w' F 5 1 v n (l.map u8) ∧ Bl l x n ∧ Adv Nul w F w' := by
  obtain ⟨i0, hi, hz0, hz1, hz2⟩ := info_parts Tryz.infoU8
  have hx64 := pow_lt64 hx hn
  have HX := Lib.hid hx
  clear hx
  go_enter Tryz.func82, Tryz.ntmps82
  go_wp2_with fail
  go_loopw [5, 6] (BitsRel w x n) (fun _ t _ => (intOf t + 1).toNat)
  case atStart => exact ⟨0, [], Nul, by simp, by omega, by rw [Nat.sub_zero, Nat.div_eq_of_lt HX.out]; exact Bl.nil, Sl.nil _ _ _, Adv.refl _ _⟩
  case round =>
    obtain ⟨k, l, F, rfl, hk, hl, hS, hA⟩ := hrel
    obtain ⟨a5, c5, rfl, _, _⟩ := hS.form0
    have HS := Lib.hid hS
    have HA := Lib.hid hA
    have HL := Lib.hid hl
    have hown := hS.own
    clear hS hA hl
    by_cases hlt : k < n
    · obtain ⟨j, hj⟩ : ∃ j, j = n - 1 - k := ⟨_, rfl⟩
      have hji : (n : Int) - 1 - k = j := by omega
      rw [hji]
      have HJ := Lib.hid hj
      have hj64 : j < 64 := by omega
      have hn64 : (n : Int) ≤ 64 := by omega
      have hb : bits BinOp.and IntKind.u64 ((x : Int) / 2 ^ j) 1 = ((x / 2 ^ j % 2 : Nat) : Int) := by
        have e : (x : Int) / 2 ^ j = ((x / 2 ^ j : Nat) : Int) := by rw [Int.natCast_ediv, Int.natCast_pow]; rfl
        have h : x / 2 ^ j ≤ x := Nat.div_le_self _ _
        rw [e, and_one_u64 _ (Int.natCast_nonneg _) (by omega)]
        rfl
      clear hji hj
      go_wp2_with (first
        | (at_builtin; refine wpList_append_own_at _ rfl (.tmp 17) (.tmp 24) 53 rfl 0 5 i0 (.int .u8 0) 1 1 Tryz.underlying53 hi hz0 hz1 hz2 rfl (by decide) (.slice a5 k c5) k _ rfl (hown.alloc _) ⟨wr.heap.size, 0, none⟩ 1 1 [_] rfl rfl (cell_one_new _ _ _) ?c2 ?c3 ?c4 (Nat.zero_le _) ?c5)
        | fail)
      case c2 => intro u hu; simp at hu; subst hu; rfl
      case c3 => unfold maxLen; omega
      case c4 => omega
      case c5 =>
        intro v' w1 hown1 hg1 _ hat1
        obtain ⟨h1, h2⟩ := one_grown HS.out HA.out hown1 hg1 hat1 (by omega)
        have H1 := Lib.hid h1
        have H2 := Lib.hid h2
        clear h1 h2 hown1 hg1 hat1 hown hb
        go_wp2
        refine ⟨⟨k + 1, l ++ [x / 2 ^ j % 2], _, ?_, by omega, ?_, ?_, H2.out⟩, by simp [intOf] <;> omega⟩
        · have := HJ.out
          rw [show ((j : Int) - 1) = (n : Int) - 1 - ((k + 1 : Nat) : Int) from by omega]
        · have h := HL.out.snoc (b := x / 2 ^ j % 2) (Nat.mod_lt _ (by decide))
          have hj := HJ.out
          rw [show n - k = j + 1 from by omega, Nat.pow_succ, ← Nat.div_div_eq_div_mul, Nat.div_add_mod'] at h
          rwa [show n - (k + 1) = j from by omega]
        · rw [List.map_append]
          exact H1.out
    · obtain rfl : k = n := by omega
      have hneg : decide ((0 : Int) ≤ (k : Int) - 1 - k) = false := by simp; omega
      go_wp2
      go_ret
      have h := HL.out
      rw [Nat.sub_self, Nat.pow_zero, Nat.div_one] at h
      exact ⟨_, rfl, F, l, HS.out, h, HA.out⟩
end Go.Proofs.YtbdjlmdbnoghnaaGreat
namespace Go.Proofs.YtbdjlmdbnoghnaaGreat
open Go.RowKit

/-- the bytes behind k bits, the last one's bits moved up by j -/
def part (N k j : Nat) : List Nat := if k = 0 then [] else be ((k - 1) / 8) (N / 2 ^ (k - 8 * ((k - 1) / 8))) ++ [(N % 2 ^ (k - 8 * ((k - 1) / 8))) * 2 ^ j]
theorem part_at (N a r j : Nat) (hr : 0 < r) (hr8 : r ≤ 8) : part N (8 * a + r) j = be a (N / 2 ^ r) ++ [(N % 2 ^ r) * 2 ^ j] := by
  unfold part
  rw [if_neg (by omega), show (8 * a + r - 1) / 8 = a from by omega, show 8 * a + r - 8 * a = r from by omega]
theorem part_whole (N a : Nat) : part N (8 * a) 0 = be a N := by
  cases a with
  | zero => rfl
  | succ a =>
    rw [show 8 * (a + 1) = 8 * a + 8 from by omega, part_at N a 8 0 (by omega) (by omega)]
    simp [be]
theorem part_first (N a b : Nat) (hb : b < 2) : be a N ++ [0 * 2 + b] = part (N * 2 + b) (8 * a + 1) 0 := by
  rw [part_at _ a 1 0 (by omega) (by omega)]
  rw [show (N * 2 + b) / 2 ^ 1 = N from by omega, show (N * 2 + b) % 2 ^ 1 = b from by omega]
  simp
theorem part_next (N a r b : Nat) (hb : b < 2) (hr : 0 < r) (hr8 : r < 8) : be a (N / 2 ^ r) ++ [N % 2 ^ r * 2 + b] = part (N * 2 + b) (8 * a + r + 1) 0 := by
  rw [show 8 * a + r + 1 = 8 * a + (r + 1) from by omega, part_at _ a (r + 1) 0 (by omega) (by omega)]
  have h1 : (N * 2 + b) / 2 ^ (r + 1) = N / 2 ^ r := by
    rw [Nat.pow_succ, Nat.mul_comm (2 ^ r) 2, ← Nat.div_div_eq_div_mul, show (N * 2 + b) / 2 = N from by omega]
  have h2 : (N * 2 + b) % 2 ^ (r + 1) = N % 2 ^ r * 2 + b := by
    rw [Nat.pow_succ, Nat.mul_comm (2 ^ r) 2, Nat.mod_mul, show (N * 2 + b) % 2 = b from by omega, show (N * 2 + b) / 2 = N from by omega]
    omega
  rw [h1, h2]
  simp
theorem part_end (N m : Nat) : part N m (pad m) = rowOf N m := by
  unfold rowOf
  by_cases h0 : m = 0
  · subst h0; rfl
  · obtain ⟨a, r, hm, hr, hr8⟩ : ∃ a r, m = 8 * a + r ∧ 0 < r ∧ r ≤ 8 := ⟨(m - 1) / 8, m - 8 * ((m - 1) / 8), by omega, by omega, by omega⟩
    have hp : r + pad m = 8 := by unfold pad; omega
    have hq : qn m = a + 1 := by unfold qn; omega
    rw [hq, hm, part_at N a r _ hr hr8, ← hm]
    have h256 : (256 : Nat) = 2 ^ r * 2 ^ pad m := by rw [← Nat.pow_add, hp]
    simp only [be]
    rw [h256, Nat.mul_div_mul_right _ _ (Nat.two_pow_pos _), Nat.mul_mod_mul_right]
theorem part_length (N k j : Nat) : (part N k j).length = qn k := by
  unfold part qn
  split
  · subst_vars; rfl
  · simp [be_length]; omega
end Go.Proofs.YtbdjlmdbnoghnaaGreat
