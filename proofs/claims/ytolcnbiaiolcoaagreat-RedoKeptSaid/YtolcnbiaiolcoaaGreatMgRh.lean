/- The document's Is; Few: puts that came in, cut to a transaction's form. Few; puts that came in. The statements' lists of calls on a disk. Puts that came in: opened. -/
import Derived.Test.YtolcnbiaiolcoaaGreatMgRg
import Derived.Test.YtolcnbiaiolcoaaGreatDkM
import Derived.Test.YtolcnbiaiolcoaaGreatR01
import Derived.Deep.Slices
import Derived.Deep.Fields
import Derived.ChangeArms
namespace Go.Proofs.YtolcnbiaiolcoaaGreat
open Go.RowKit Go.Maps

def IsM (w : World) (ps : List Pt) (x : Int) (k : Nat) (t : Value) (wr : World) : Prop := ∃ j : Nat, j ≤ k ∧ t = .int .i64 (j : Int) ∧ (∀ i (h : i < ps.length), i < j → ps[i].a ≠ x) ∧ Adv Nul w Nul wr

set_option maxRecDepth 3000 in
set_option maxHeartbeats 6400000 in
theorem ris_any (A0 : Option Addr) (N k0 : Nat) (ps : List Pt) (H : Int) (G : Nat → Prop) (w : World) (h : QRd w G (.slice A0 N k0) ps) :
    Calls Tryz.prog 53 #[.slice A0 N k0, .int .i64 H] w (TxR w (decide (isTx ps H))) := by
  have hN := h.len.1
  have hmx : N ≤ maxLen := by have := h.len; omega
  have hNI : (N : Int) ≤ 9223372036854775807 := by unfold maxLen at hmx; omega
  obtain ⟨B, hB⟩ : ∃ B, B = decide (isTx ps H) := ⟨_, rfl⟩
  rw [← hB]
  have HB := Lib.hid hB
  have HP := Lib.hid h
  have HN := Lib.hid hN
  clear h hN hB hmx
  have hno : ¬ isTx ps H → B = false := fun k => by rw [HB.out]; exact decide_eq_false k
  have HNO := Lib.hid hno
  clear hno
  by_cases h1 : (N : Int) < 1
  · obtain rfl : B = false := HNO.out (fun k => by have := k.1.1; have := HN.out; omega)
    go_enter Tryz.func53, Tryz.ntmps53
    go_wp2_with fail
    go_ret
    exact ⟨rfl, Adv.refl _ _⟩
  · have h1' : 1 ≤ (N : Int) := by omega
    clear h1
    by_cases h2 : 24 < (N : Int)
    · obtain rfl : B = false := HNO.out (fun k => by have := k.1.2; have := HN.out; omega)
      go_enter Tryz.func53, Tryz.ntmps53
      go_wp2_with fail
      go_ret
      exact ⟨rfl, Adv.refl _ _⟩
    · have h2' : (N : Int) ≤ 24 := by omega
      clear h2
      have HLN := Lib.hid (show 1 ≤ ps.length ∧ ps.length ≤ 24 by have := HN.out; omega)
      go_enter Tryz.func53, Tryz.ntmps53
      go_wp2_with fail
      go_loopw [5] (TxL w N ps H) (fun t _ => N - (intOf t).toNat)
      case atStart => exact ⟨0, Nat.zero_le _, rfl, fun i _ hi => absurd hi (Nat.not_lt_zero _), Adv.refl _ _⟩
      case round =>
        obtain ⟨k, hk, rfl, hpre, ha⟩ := hrel
        have HPRE := Lib.hid hpre
        have HA := Lib.hid ha
        by_cases hlt : k < N
        · have hki : (k : Int) < (N : Int) := by omega
          have hkp : k < ps.length := by rw [← HN.out]; exact hlt
          obtain ⟨b, o, a, q, rfl, -, ⟨c0, c1⟩, -, -⟩ := (HP.out.step ha).row hkp
          obtain ⟨x, hx⟩ : ∃ x, x = ps[k].a := ⟨_, rfl⟩
          rw [← hx] at c0
          obtain ⟨m, hm⟩ : ∃ m, m = ps[k].d.length := ⟨_, rfl⟩
          rw [← hm] at c1
          have HX := Lib.hid hx
          have HM := Lib.hid hm
          have HLT := Lib.hid hlt
          have HKP := Lib.hid hkp
          have hbad : ¬ txAt ps H k hkp → B = false := fun h => HNO.out (fun t => h (t.2 k hkp))
          have HBAD := Lib.hid hbad
          clear hpre ha hx hm hlt hk hbad
          by_cases hx0 : x < 0
          · obtain rfl : B = false := HBAD.out (fun t => by have := t.1.1; rw [← HX.out] at this; omega)
            go_wp2_with fail
            go_ret
            exact ⟨rfl, HA.out⟩
          · have hx0' : 0 ≤ x := by omega
            clear hx0
            by_cases hxH : H ≤ x
            · obtain rfl : B = false := HBAD.out (fun t => by have := t.1.2; rw [← HX.out] at this; omega)
              go_wp2_with fail
              go_ret
              exact ⟨rfl, HA.out⟩
            · have hxH' : x < H := by omega
              clear hxH
              by_cases hm : m = 128
              · subst hm
                have hxf : (H ≤ x) = False := eq_false (by omega)
                have hxg : (x < 0) = False := eq_false (by omega)
                go_wp2_with fail
                go_loopw [6] (IsM w ps x k) (fun t _ => k - (intOf t).toNat)
                case atStart => exact ⟨0, Nat.zero_le _, rfl, fun i _ hi => absurd hi (Nat.not_lt_zero _), HA.out⟩
                case round =>
                  obtain ⟨j, hj, rfl, hpre2, ha2⟩ := hrel
                  have HA2 := Lib.hid ha2
                  have HPRE2 := Lib.hid hpre2
                  by_cases hlt2 : j < k
                  · have hji : (j : Int) < (k : Int) := by omega
                    have hjn : (j : Int) < (N : Int) := by omega
                    have hj0 : (0 : Int) ≤ (j : Int) := by omega
                    have hk0 : (0 : Int) ≤ (k : Int) := by omega
                    have hjp : j < ps.length := by omega
                    obtain ⟨bj, oj, aj, qj, ej, -, ⟨d0, -⟩, -, -⟩ := (HP.out.step ha2).row hjp
                    injection ej with ej
                    injection ej with e1 e2 _
                    subst e1 e2
                    obtain ⟨bk, ok, ak, qk, ek, -, ⟨e0, -⟩, -, -⟩ := (HP.out.step ha2).row HKP.out
                    injection ek with ek
                    injection ek with e1 e2 _
                    subst e1 e2
                    rw [← HX.out] at e0
                    obtain ⟨y, hy⟩ : ∃ y, y = ps[j].a := ⟨_, rfl⟩
                    rw [← hy] at d0
                    have HY := Lib.hid hy
                    have HLT2 := Lib.hid hlt2
                    have HJP := Lib.hid hjp
                    clear hpre2 ha2 hlt2 hj hy c0 c1
                    by_cases hxy : y = x
                    · have hb : ((y : Int) == x) = true := by rw [hxy]; exact beq_self_eq_true x
                      obtain rfl : B = false := HBAD.out (fun t => t.2.2 j HLT2.out (by rw [← HX.out, ← HY.out]; exact hxy))
                      clear hxy
                      go_wp2_with fail
                      go_quiet (fail)
                      go_wp2
                      go_ret
                      exact ⟨rfl, HA2.out.drewN _⟩
                    · have hb : ((y : Int) == x) = false := by rw [beq_eq_false_iff_ne]; exact hxy
                      have HXY := Lib.hid hxy
                      clear hxy
                      go_wp2_with fail
                      go_quiet (fail)
                      go_wp2
                      have hlt2 := HLT2.out
                      refine ⟨⟨j + 1, by omega, by go_num, fun i h hi => ?_, HA2.out.drewN _⟩, by simp [intOf] <;> omega⟩
                      by_cases e : i = j
                      · subst e; rw [← HY.out]; exact HXY.out
                      · exact HPRE2.out i h (by omega)
                  · obtain rfl : j = k := by omega
                    have HG := Lib.hid (show txAt ps H j HKP.out from ⟨⟨by rw [← HX.out]; exact hx0', by rw [← HX.out]; exact hxH'⟩, HM.out.symm, fun i hi he => HPRE2.out i (by have := HKP.out; omega) hi (by rw [he, HX.out])⟩)
                    clear hpre2 ha2 hlt2 hj c0 c1
                    go_wp2_with fail
                    have hlt := HLT.out
                    refine ⟨⟨j + 1, by omega, by go_num, fun i h hi => ?_, HA2.out⟩, by simp [intOf] <;> omega⟩
                    by_cases e : i = j
                    · subst e; exact HG.out
                    · exact HPRE.out i h (by omega)
              · obtain rfl : B = false := HBAD.out (fun t => hm (by rw [HM.out]; exact t.2.1))
                have hmI : ((m : Int) != 128) = true := by rw [bne_iff_ne]; omega
                have hmJ : ((m : Int) == 128) = false := by rw [beq_eq_false_iff_ne]; omega
                clear hm
                go_wp2_with fail
                go_ret
                exact ⟨rfl, HA.out⟩
        · obtain rfl : k = N := by omega
          obtain rfl : B = true := by rw [HB.out]; exact decide_eq_true ⟨HLN.out, fun i hi => HPRE.out i hi (by have := HN.out; omega)⟩
          clear hpre ha hlt hk
          go_wp2_with fail
          go_ret
          exact ⟨rfl, HA.out⟩
end Go.Proofs.YtolcnbiaiolcoaaGreat
namespace Go.Proofs.YtolcnbiaiolcoaaGreat
open Go.RowKit Go.Maps

theorem flatM {α : Type} (m : Nat) (f : α → List Value) (hf : ∀ x, (f x).length = m) : ∀ (l : List α) (i j : Nat) (hi : i < l.length), j < m → (l.flatMap f)[i * m + j]? = (f l[i])[j]?
  | x :: l, 0, j, _, hj => by
    rw [List.flatMap_cons, Nat.zero_mul, Nat.zero_add, List.getElem?_append_left (by rw [hf]; omega)]; simp
  | x :: l, i + 1, j, hi, hj => by
    have e : (i + 1) * m + j = m + (i * m + j) := by rw [Nat.succ_mul]; omega
    rw [List.flatMap_cons, List.getElem?_append_right (by rw [hf]; omega), e, hf, Nat.add_sub_cancel_left]
    exact flatM m f hf l i j (by simpa using hi) hj
/-- a put that came in -/
structure PD where
  a : Int
  v : Value
  l : List Nat
def PD.cells (d : PD) : List Value := [.int .i64 d.a, d.v]
def PD.fit (d : PD) (W : World) : Prop := In W d.v d.l ∧ (-9223372036854775808 ≤ d.a ∧ d.a < 9223372036854775808)
def PDs (W : World) (v : Value) (ds : List PD) : Prop := Rd W 2 v ds.length (ds.flatMap PD.cells) ∧ ∀ d ∈ ds, d.fit W
def fewT (odd : Bool) (d : PD) : Pt := ⟨d.a, if odd then d.l.take 130 else sec d.l⟩
def fewP (ds : List PD) (n : Nat) (odd : Bool) : List Pt := (ds.take n).map (fewT odd)
theorem PDs.at_ {W w : World} {A : Option Addr} {n c : Nat} {ds : List PD} (h : PDs W (.slice A n c) ds) (hb : Below W.heap.size W w) {i : Nat} (hi : i < ds.length) : ∃ b o, A = some ⟨b, o, none⟩ ∧ w.cell? ⟨b, o + i * 2, none⟩ = some (.int .i64 ds[i].a) ∧ w.cell? ⟨b, o + i * 2 + 1, none⟩ = some ds[i].v ∧ In w ds[i].v ds[i].l := by
  have hn : n = ds.length := by obtain ⟨A', c', e, _⟩ := h.1; injection e
  subst hn
  obtain ⟨b, o, rfl, hlt2, hc2⟩ := h.1.cells (by omega) (by decide)
  have H : ∀ j u, j < 2 → ds[i].cells[j]? = some u → w.cell? ⟨b, o + (i * 2 + j), none⟩ = some u := fun j u hj hu => by
    rw [World.cell?_of_block (hb.block b hlt2)]
    exact hc2 _ _ (by rw [flatM 2 PD.cells (fun _ => rfl) ds i j hi hj]; exact hu)
  exact ⟨b, o, rfl, by have := H 0 _ (by decide) rfl; rwa [Nat.add_zero] at this, by have := H 1 _ (by decide) rfl; rwa [← Nat.add_assoc] at this, ((h.2 _ (List.getElem_mem hi)).1).far hb⟩
theorem PDs.len {W : World} {A : Option Addr} {n c : Nat} {ds : List PD} (h : PDs W (.slice A n c) ds) : n = ds.length ∧ n ≤ c ∧ c ≤ maxLen := by
  obtain ⟨A', c', e, hnc, hcm, _, _, _⟩ := h.1
  injection e with e1 e2 e3
  omega

def qcells (q : Pt × Value) : List Value := [.int .i64 q.1.a, q.2]
/-- puts in a slice of one's own -/
structure QW (W : World) (P : Nat → Pt) (k : Nat) (vo : Value) (F : Nat → Prop) (qs : List (Pt × Value)) (w : World) : Prop where
  len : qs.length = k
  sl : Sl w F 94 2 vo k (qs.flatMap qcells)
  at_ : ∀ i (h : i < qs.length), qs[i].1 = P i ∧ ∃ a q, qs[i].2 = .slice a (P i).d.length q ∧ Rd w 1 (.slice a (P i).d.length q) (P i).d.length ((P i).d.map u8) ∧ ∀ g, (Value.slice a (P i).d.length q).ownBlock = some g → 0 < (P i).d.length → ¬ F g ∧ W.heap.size ≤ g
  adv : Adv Nul W F w
section
variable {W w w' : World} {P : Nat → Pt} {k : Nat} {vo : Value}
theorem QW.nil (W : World) (P : Nat → Pt) : QW W P 0 (.slice none 0 0) Nul [] W := ⟨rfl, Sl.nil _ _ _, fun i h => absurd h (by simp), Adv.refl _ _⟩
theorem QW.step {F F' : Nat → Prop} {qs : List (Pt × Value)} (h : QW W P k vo F qs w) (ha : Adv Nul w F' w') : QW W P k vo F qs w' :=
  ⟨h.len, h.sl.far ha (fun _ h _ => h), fun i hi => by
    obtain ⟨e, a, q, e2, hr, hn⟩ := h.at_ i hi
    exact ⟨e, a, q, e2, hr.far (fun _ _ _ hl => ha.block _ hl (fun x => x)) ha.size, hn⟩, h.adv.over ha⟩
theorem QW.push {F : Nat → Prop} {qs : List (Pt × Value)} {vo' : Value} {a : Option Addr} {q : Nat} {p : Pt} (h : QW W P k vo F qs w) (hp : P k = p) (hr : Rd w 1 (.slice a p.d.length q) p.d.length (p.d.map u8)) (hnF : ∀ g, (Value.slice a p.d.length q).ownBlock = some g → 0 < p.d.length → ¬ F g ∧ W.heap.size ≤ g)
    (hown : w'.ownsRow 0 94 2 vo' (k + 1) (qs.flatMap qcells ++ [.int .i64 p.a, .slice a p.d.length q])) (hg : w.grownBy w' vo.ownBlock) (hat : vo'.ownBlock = vo.ownBlock ∨ vo'.ownBlock = some w.heap.size) : ∃ F' qs', QW W P (k + 1) vo' F' qs' w' := by
  obtain ⟨g1, g2⟩ := lsl_grown h.sl hown hg hat (Nat.le_refl _)
  have hF' : ∀ g, g < w.heap.size → ¬ F g → ¬ (F g ∨ vo'.ownBlock = some g) := fun g hlt hn hor => by
    rcases hor with h1 | h1
    · exact hn h1
    · rcases hat with e | e
      · exact hn (h.sl.inF g (by rw [← e]; exact h1))
      · rw [e] at h1; injection h1 with h1; omega
  have keep : ∀ {a : Option Addr} {d q : Nat} {l : List Nat}, Rd w 1 (.slice a d q) d (l.map u8) → (∀ g, (Value.slice a d q).ownBlock = some g → 0 < d → ¬ F g ∧ W.heap.size ≤ g) → Rd w' 1 (.slice a d q) d (l.map u8) ∧ ∀ g, (Value.slice a d q).ownBlock = some g → 0 < d → ¬ (F g ∨ vo'.ownBlock = some g) ∧ W.heap.size ≤ g := fun hr hn =>
    ⟨hr.far (fun g hg hd hl => g2.block g hl (hn g hg hd).1) g2.size, fun g hg hd => ⟨hF' g (hr.lt hg hd) (hn g hg hd).1, (hn g hg hd).2⟩⟩
  have hl := h.len
  refine ⟨_, qs ++ [(p, .slice a p.d.length q)], by simp [hl], by simpa [qcells] using g1, fun i hi => ?_, h.adv.trans g2⟩
  rw [List.length_append, List.length_singleton] at hi
  by_cases hik : i < qs.length
  · rw [List.getElem_append_left hik]
    obtain ⟨e, a', q', e2, hr', hn'⟩ := h.at_ i hik
    obtain ⟨k1, k2⟩ := keep hr' hn'
    exact ⟨e, a', q', e2, k1, k2⟩
  · obtain rfl : i = qs.length := by omega
    rw [List.getElem_append_right (Nat.le_refl _)]
    simp only [Nat.sub_self, List.getElem_cons_zero, hl]
    rw [hp]
    obtain ⟨k1, k2⟩ := keep hr hnF
    exact ⟨rfl, a, q, rfl, k1, k2⟩
theorem QW.qrd {F G : Nat → Prop} {qs : List (Pt × Value)} (h : QW W P k vo F qs w) (hG : Bd G W) : QRd w G vo ((List.range k).map P) := by
  have hl := h.len
  obtain ⟨A, c, rfl, hkc, hcm⟩ := h.sl.form0
  refine ⟨A, c, by simp, by simpa using hkc, hcm, fun hk => ?_⟩
  have hk' : 0 < k := by simpa using hk
  obtain ⟨g, c', e, hFg, _⟩ := h.sl.form hk'
  injection e with e1 _ _
  subst e1
  have hGg : ∀ j, W.heap.size ≤ j → ¬ G j := fun j hj x => by have := hG j x; omega
  refine ⟨g, 0, rfl, ⟨h.sl.bd g hFg, hGg g (by rcases h.adv.into g hFg with x | x; exact x.elim; exact x)⟩, fun i hi => ?_⟩
  have hi' : i < k := by simpa using hi
  obtain ⟨e, a, q, e2, hr, hn⟩ := h.at_ i (by omega)
  have e3 : ((List.range k).map P)[i]'hi = P i := by simp
  rw [e3]
  have H : ∀ j u, j < 2 → (qcells (qs[i]'(by omega)))[j]? = some u → w.cell? ⟨g, 0 + (i * 2 + j), none⟩ = some u := fun j u hj hu => by
    rw [Nat.zero_add, h.sl.own.cellAt (i * 2 + j) (by omega), flatM 2 qcells (fun _ => rfl) qs i j (by omega) hj]
    exact hu
  refine ⟨a, q, H 0 _ (by decide) ?_, H 1 _ (by decide) ?_, hr, fun j hj hn' => hGg j (hn j hj hn').2⟩ <;> simp [qcells, e, e2]
end
theorem qnew_at {T : TypeId} {w : World} {x : Int} {v : Value} (j : Nat) (u : Value) (h : [Value.int .i64 x, v][j]? = some u) : (w.alloc (.cells #[.int .i64 x, v] T)).cell? ((⟨w.heap.size, 0, none⟩ : Addr).add j) = some u := by
  rw [add_none, Nat.zero_add, (Blk.new w T #[.int .i64 x, v]).cell j, List.getElem?_toArray]
  exact h
theorem qone {x : Int} {a : Option Addr} {d q : Nat} : ∀ u ∈ [Value.int .i64 x, .slice a d q], u.oneCell' = true := by
  intro u hu
  simp at hu
  rcases hu with rfl | rfl <;> rfl
theorem qw_new {W w wc : World} {P : Nat → Pt} {k : Nat} {vo v : Value} {F Fc : Nat → Prop} {qs : List (Pt × Value)} {e : TypeId} {size d : Nat} {xs : List Value} (h : QW W P k vo F qs w) (hc : Sl wc Fc e size v d xs) (ac : Adv Nul w Fc wc) : ∀ g, v.ownBlock = some g → 0 < d → ¬ F g ∧ W.heap.size ≤ g := fun g hg _ => by
  rcases ac.into g (hc.inF g hg) with h1 | h1
  · exact h1.elim
  · exact ⟨fun hF => by have := h.sl.bd g hF; omega, Nat.le_trans h.adv.size h1⟩

def FewR (w : World) (ps : List Pt) (e : Ending) (w' : World) : Prop := ∃ A q, e = .returned (.slice A ps.length q) ∧ (∀ G, Bd G w → QRd w' G (.slice A ps.length q) ps) ∧ Adv Nul w Nul w'
def FwL (w : World) (P : Nat → Pt) (M : Nat) (t8 t7 : Value) (wr : World) : Prop := ∃ k A q F qs, k ≤ M ∧ t8 = .int .i64 (k : Int) ∧ t7 = .slice A k q ∧ QW w P k (.slice A k q) F qs wr
theorem few_eq {ds : List PD} {n : Nat} {odd : Bool} {P : Nat → Pt} (hP : ∀ i (h : i < ds.length), P i = fewT odd ds[i]) : (List.range (min ds.length n)).map P = fewP ds n odd := by
  unfold fewP
  apply List.ext_getElem
  · simp; omega
  · intro i h1 h2
    have hi : i < ds.length := by simp at h1; omega
    simp only [List.getElem_map, List.getElem_range, List.getElem_take]
    exact hP i hi

set_option maxRecDepth 3000 in
set_option maxHeartbeats 12800000 in
theorem few6_any (W w : World) (v : Value) (ds : List PD) (n : Nat) (odd : Bool) (h : PDs W v ds) (hb : Below W.heap.size W w) (hn : n ≤ 1000) :
    Calls Tryz.prog 10 #[v, .int .i64 (n : Int), .bool odd] w (FewR w (fewP ds n odd)) := by
  obtain ⟨A0, c0, rfl, _, _⟩ := h.1.form
  obtain ⟨N, hN⟩ : ∃ N, N = ds.length := ⟨_, rfl⟩
  rw [← hN] at h ⊢
  have hmx : N ≤ maxLen := by have := h.len; omega
  have hNI : (N : Int) ≤ 9223372036854775807 := by unfold maxLen at hmx; omega
  have hnI : (n : Int) ≤ 1000 := by omega
  obtain ⟨P, hP⟩ : ∃ P : Nat → Pt, ∀ i (h : i < ds.length), P i = fewT odd ds[i] := ⟨fun i => if h : i < ds.length then fewT odd ds[i] else ⟨0, []⟩, fun i h => by simp [h]⟩
  have HP := Lib.hid hP
  have HFE := Lib.hid (few_eq (n := n) hP)
  have HD := Lib.hid h
  have HB := Lib.hid hb
  have HN := Lib.hid hN
  have HN1 := Lib.hid hn
  obtain ⟨M, hM⟩ : ∃ M, M = min ds.length n := ⟨_, rfl⟩
  have HM := Lib.hid hM
  rw [← hM] at HFE
  clear h hb hN hn hmx hP hM
  go_enter Tryz.func10, Tryz.ntmps10
  go_wp2_with fail
  go_loopw [8, 7] (FwL w P M) (fun t _ _ => M - (intOf t).toNat)
  case atStart => exact ⟨0, none, 0, Nul, [], Nat.zero_le _, rfl, rfl, QW.nil _ _⟩
  case round =>
    obtain ⟨k, A, q, F, qs, hk, rfl, rfl, hw⟩ := hrel
    have HW := Lib.hid hw
    by_cases hlt : k < M
    · have hkl : k < ds.length := by have := HM.out; omega
      have hki : (k : Int) < (N : Int) := by have := HN.out; omega
      have hkn : (k : Int) < (n : Int) := by have := HM.out; omega
      have hbw := HB.out.trans (hw.adv.toBelow.mono HB.out.size)
      obtain ⟨b, o, rfl, d0, d1, hin⟩ := HD.out.at_ hbw hkl
      have hpk := HP.out k hkl
      obtain ⟨d, hd⟩ : ∃ d, d = ds[k] := ⟨_, rfl⟩
      rw [← hd] at d0 d1 hin hpk
      obtain ⟨x, dv, dl⟩ := d
      simp only at d0 d1 hin
      obtain ⟨Ad, cd, rfl, _, _⟩ := hin.rd.form
      obtain ⟨dn, hdn⟩ : ∃ y, y = dl.length := ⟨_, rfl⟩
      rw [← hdn] at d1 hin
      have HSEC := Lib.hid (sector_any _ dl wr hin)
      have HIN := Lib.hid hin
      have HLT := Lib.hid hlt
      have HPK := Lib.hid hpk
      have HD0 := Lib.hid d0
      have HD1 := Lib.hid d1
      have HLB := Lib.hid (show b < wr.heap.size from by
        rcases Nat.lt_or_ge b wr.heap.size with h | h
        · exact h
        · rw [World.cell?, Array.getElem?_eq_none h] at d0; cases d0)
      clear hlt hkl hbw hin hpk hd hdn hw hk
      go_wp2_with fail
      refine HSEC.out.mono ?_
      rintro e w2 ⟨v2, F2, rfl, s2, a2⟩
      obtain ⟨A2, c2, rfl, _, _⟩ := s2.form0
      have d0' : w2.cell? ⟨b, o + k * 2, none⟩ = some (.int .i64 x) := by rw [← HD0.out]; exact World.cell?_of_block (a2.block b HLB.out (fun x => x))
      have d1' : w2.cell? ⟨b, o + k * 2 + 1, none⟩ = some (.slice Ad dn cd) := by rw [← HD1.out]; exact World.cell?_of_block (a2.block b HLB.out (fun x => x))
      have HNF2 := Lib.hid (qw_new HW.out s2 a2)
      have HW2 := Lib.hid (HW.out.step a2)
      have HS2 := Lib.hid s2
      have HA2 := Lib.hid a2
      clear d0 d1 s2 a2
      cases odd with
      | false =>
        have HLZ := Lib.hid (sec_length dl)
        have HWZ := HW2
        have HRZ := Lib.hid HS2.out.rd
        have HNF := HNF2
        have HU := Lib.hid (HWZ.out.step ((Adv.refl Nul w2).alloc (.cells #[.int .i64 x, .slice A2 128 c2] 94)))
        have HRU := Lib.hid (HRZ.out.up (.cells #[.int .i64 x, .slice A2 128 c2] 94))
        have HK1 := Lib.hid (show k + 1 ≤ maxLen by have := HLT.out; have := HM.out; have := HN1.out; unfold maxLen; omega)
        have HK2 := Lib.hid (show (k + 1) * 32 ≤ 140737488355328 by have := HLT.out; have := HM.out; have := HN1.out; omega)
        go_wp2_with (first
          | (at_builtin; refine lop_append_own rfl (.tmp 35) (.tmp 43) 37 94 rfl Tryz.underlying37 infoPut rfl (by decide) rfl HU.out.sl.own ⟨w2.heap.size, 0, none⟩ 1 1 rfl [.int .i64 x, .slice A2 128 c2] rfl qnew_at qone HK1.out HK2.out ?_; intro v' w8 hown hg2 hat; obtain ⟨a8, k8, rfl⟩ := (slice_of hown); have HOWN := Lib.hid hown; have HG2 := Lib.hid hg2; have HAT := Lib.hid hat; clear hown hg2 hat)
          | fail)
        obtain ⟨F8, qs8, hpu⟩ := HU.out.push (p := ⟨x, sec dl⟩) HPK.out (by simp only; rw [HLZ.out]; exact HRU.out) (by simp only; rw [HLZ.out]; exact HNF.out) (by simp only; rw [HLZ.out]; exact HOWN.out) HG2.out HAT.out
        have hlt := HLT.out
        exact ⟨⟨k + 1, a8, k8, F8, qs8, by omega, by go_num, rfl, hpu⟩, by simp [intOf] <;> omega⟩
      | true =>
        have HCT := Lib.hid (cut_any (.slice Ad dn cd) dl 130 w2 (HIN.out.far HA2.out.toBelow) (by decide))
        go_wp2_with fail
        refine HCT.out.mono ?_
        rintro e w3 ⟨v3, rfl, h3, rfl⟩
        obtain ⟨A3, c3, rfl, _, _⟩ := h3.rd.form
        obtain ⟨m3, hm3⟩ : ∃ y, y = (dl.take 130).length := ⟨_, rfl⟩
        have hl3 : m3 ≤ 130 := by rw [hm3, List.length_take]; omega
        have HCP := Lib.hid (copy_any _ m3 (dl.take 130) w2 (by rw [hm3]; exact h3.rd) (by omega))
        rw [← hm3] at HCP ⊢
        have HM3 := Lib.hid hm3
        clear h3 hm3 hl3
        go_wp2_with fail
        refine HCP.out.mono ?_
        rintro e w4 ⟨v4, F4, rfl, s4, a4⟩
        obtain ⟨A4, c4, rfl, _, _⟩ := s4.form0
        have d0 : w4.cell? ⟨b, o + k * 2, none⟩ = some (.int .i64 x) := by rw [← d0']; exact World.cell?_of_block (a4.block b (Nat.lt_of_lt_of_le HLB.out HA2.out.size) (fun x => x))
        have HLZ := Lib.hid HM3.out.symm
        have HNF := Lib.hid (qw_new HW2.out s4 a4)
        have HWZ := Lib.hid (HW2.out.step a4)
        have HRZ := Lib.hid s4.rd
        clear s4 a4 d0' d1'
        have HU := Lib.hid (HWZ.out.step ((Adv.refl Nul w4).alloc (.cells #[.int .i64 x, .slice A4 m3 c4] 94)))
        have HRU := Lib.hid (HRZ.out.up (.cells #[.int .i64 x, .slice A4 m3 c4] 94))
        have HK1 := Lib.hid (show k + 1 ≤ maxLen by have := HLT.out; have := HM.out; have := HN1.out; unfold maxLen; omega)
        have HK2 := Lib.hid (show (k + 1) * 32 ≤ 140737488355328 by have := HLT.out; have := HM.out; have := HN1.out; omega)
        go_wp2_with (first
          | (at_builtin; refine lop_append_own rfl (.tmp 35) (.tmp 43) 37 94 rfl Tryz.underlying37 infoPut rfl (by decide) rfl HU.out.sl.own ⟨w4.heap.size, 0, none⟩ 1 1 rfl [.int .i64 x, .slice A4 m3 c4] rfl qnew_at qone HK1.out HK2.out ?_; intro v' w8 hown hg2 hat; obtain ⟨a8, k8, rfl⟩ := (slice_of hown); have HOWN := Lib.hid hown; have HG2 := Lib.hid hg2; have HAT := Lib.hid hat; clear hown hg2 hat)
          | fail)
        obtain ⟨F8, qs8, hpu⟩ := HU.out.push (p := ⟨x, dl.take 130⟩) HPK.out (by simp only; rw [HLZ.out]; exact HRU.out) (by simp only; rw [HLZ.out]; exact HNF.out) (by simp only; rw [HLZ.out]; exact HOWN.out) HG2.out HAT.out
        have hlt := HLT.out
        exact ⟨⟨k + 1, a8, k8, F8, qs8, by omega, by go_num, rfl, hpu⟩, by simp [intOf] <;> omega⟩
    · obtain rfl : k = M := by omega
      have HF := Lib.hid (show FewR w (fewP ds n odd) (.returned (.slice A k q)) wr from by
        have hl : (fewP ds n odd).length = k := by rw [← HFE.out]; simp
        refine ⟨A, q, by rw [hl], fun G hG => ?_, HW.out.adv.sub (fun _ x => x.elim)⟩
        rw [hl, ← HFE.out]
        exact HW.out.qrd hG)
      by_cases hkl : k < ds.length
      · have hki : (k : Int) < (N : Int) := by have := HN.out; omega
        have hkn : (n : Int) ≤ (k : Int) := by have := HM.out; omega
        clear hlt hk hw hkl
        go_wp2_with fail
        go_ret
        exact HF.out
      · have hki : (N : Int) ≤ (k : Int) := by have := HN.out; omega
        clear hlt hk hw hkl
        go_wp2_with fail
        go_ret
        exact HF.out
end Go.Proofs.YtolcnbiaiolcoaaGreat
namespace Go.Proofs.YtolcnbiaiolcoaaGreat
open Go.ChangeShapes Go.WideShapes Go.ChangeAt Go.RowKit Go.Deep

structure DkDo where
  kind : Int
  a : Int
  n : Int
  bv : Value
  b : List Nat
  short : Bool
  kv : Value
  ks : List Int
def DkDo.cells (d : DkDo) : List Value := [.int .i64 d.kind, .int .i64 d.a, .int .i64 d.n, d.bv, .bool d.short, d.kv]
structure DkDo.fit (W : World) (d : DkDo) : Prop where
  b : In W d.bv d.b
  k : Rd W 1 d.kv d.ks.length (d.ks.map (Value.int .i64))
  kold : ∀ b, d.kv.ownBlock = some b → 0 < d.ks.length → b < W.heap.size
  na : d.a < 9223372036854775808
  nn : d.n < 9223372036854775808
structure DkDosIn (W : World) (v : Value) (ds : List DkDo) : Prop where
  rd : Rd W 6 v ds.length (ds.flatMap DkDo.cells)
  fit : ∀ d ∈ ds, d.fit W

set_option maxRecDepth 3000 in
theorem Rd.far_old {W w : World} {size n : Nat} {v : Value} {xs : List Value} (h : Rd W size v n xs) (hb : Below W.heap.size W w) : Rd w size v n xs := h.below hb (fun _ _ _ hl => hl)
set_option maxRecDepth 3000 in
theorem DkDo.fit.far {W w : World} {d : DkDo} (h : d.fit W) (hb : Below W.heap.size W w) : d.fit w :=
  ⟨h.b.far hb, h.k.far_old hb, fun b hb' hn => Nat.lt_of_lt_of_le (h.kold b hb' hn) hb.size, h.na, h.nn⟩
set_option maxRecDepth 3000 in
theorem DkDosIn.far {W w : World} {v : Value} {ds : List DkDo} (h : DkDosIn W v ds) (hb : Below W.heap.size W w) : DkDosIn w v ds := ⟨h.rd.far_old hb, fun d hd => (h.fit d hd).far hb⟩

set_option maxRecDepth 3000 in
theorem DkDosIn.at_ {W : World} {v : Value} {ds : List DkDo} (h : DkDosIn W v ds) {k : Nat} (hk : k < ds.length) :
    ∃ b o c, v = .slice (some ⟨b, o, none⟩) ds.length c ∧ b < W.heap.size ∧ W.cell? ⟨b, o + k * 6, none⟩ = some (.int .i64 ds[k].kind) ∧ W.cell? ⟨b, o + k * 6 + 1, none⟩ = some (.int .i64 ds[k].a) ∧ W.cell? ⟨b, o + k * 6 + 2, none⟩ = some (.int .i64 ds[k].n) ∧
      W.cell? ⟨b, o + k * 6 + 3, none⟩ = some ds[k].bv ∧ W.cell? ⟨b, o + k * 6 + 4, none⟩ = some (.bool ds[k].short) ∧ W.cell? ⟨b, o + k * 6 + 5, none⟩ = some ds[k].kv := by
  obtain ⟨A, c, rfl, _, _⟩ := h.rd.form
  obtain ⟨b, o, rfl, hb, hc⟩ := h.rd.cells (by omega) (by decide)
  have H : ∀ j u, j < 6 → (ds[k].cells)[j]? = some u → W.cell? ⟨b, o + k * 6 + j, none⟩ = some u := fun j u hj hu => by
    rw [Nat.add_assoc]
    refine hc _ _ ?_
    rw [flat_at DkDo.cells 6 ds (fun _ _ => rfl) k j hk hj]
    exact hu
  exact ⟨b, o, c, rfl, hb, H 0 _ (by decide) rfl, H 1 _ (by decide) rfl, H 2 _ (by decide) rfl, H 3 _ (by decide) rfl, H 4 _ (by decide) rfl, H 5 _ (by decide) rfl⟩

set_option maxRecDepth 3000 in
/-- a slice of integers in a struct's field -/
theorem open_cell_ints {H : Type} {enc : TypeId × Value → H} {P : Program} {W : World} {t e : TypeId} {k : IntKind} {fuel : Nat} {v : Value} {x : DataW H × List MemPlace} (ht : P.underlying t = some (.slice e)) (he : P.underlying e = some (.int k)) (hc : P.cellsOf e = 1)
    (hf : DataW.trod enc P W 0 (fun _ => true) true fuel t [v] = some x) :
    ∃ (n : Nat) (zs : List Int), Rd W 1 v n (zs.map (Value.int k)) ∧ zs.length = n ∧ (∀ z ∈ zs, (Lit.int k z).wf = true) ∧ (∀ b, v.ownBlock = some b → 0 < n → b < W.heap.size) := by
  rcases open_ints ht he hc hf with ⟨hcs, _⟩ | ⟨x, l, c, zs, hcs, _, hl, hm, hz, _, hcell, hwz⟩
  · simp at hcs
    subst hcs
    exact ⟨0, [], ⟨none, 0, rfl, Nat.le_refl _, Nat.zero_le _, rfl, fun _ => rfl, fun hn => absurd hn (by omega)⟩, rfl, fun _ hz => by simp at hz, fun b hb => by simp [Value.ownBlock] at hb⟩
  · simp at hcs
    subst hcs
    have hz' : zs.length = c := by simpa using hz
    have hlt : 0 < l → x.block < W.heap.size := fun hn => by
      have h := World.block_lt_of_cell? _ _ (hcell 0 (by omega))
      rwa [add_block] at h
    refine ⟨l, zs.take l, ⟨some x, c, rfl, hl, hm, by simp; omega, fun hn => (by cases hn), fun hn => ⟨x, rfl, hlt hn, fun j u hu => ?_⟩⟩, by simp; omega, fun z hzz => hwz z (List.mem_of_mem_take hzz), fun b hb hn => ?_⟩
    · obtain ⟨h1, h2, rfl⟩ := getD_map_int k zs l j u hu
      exact hcell j (by omega)
    · have : x.block = b := by simpa [Value.ownBlock] using hb
      rw [← this]; exact hlt hn

set_option maxRecDepth 3000 in
theorem cellsInt : Tryz.prog.cellsOf 3 = 1 := by kernel_rfl
set_option maxRecDepth 3000 in
theorem cellsBytes : Tryz.prog.cellsOf 53 = 1 := by kernel_rfl
set_option maxRecDepth 3000 in
theorem cellsBool : Tryz.prog.cellsOf 4 = 1 := by kernel_rfl
set_option maxRecDepth 3000 in
theorem cellsInts : Tryz.prog.cellsOf 39 = 1 := by kernel_rfl
set_option maxRecDepth 3000 in
theorem i64_wf {x : Int} (h : (Lit.int .i64 x).wf = true) : x < 9223372036854775808 := by
  have hb := bounds_i64 h
  omega

set_option maxRecDepth 3000 in
theorem open_keep {H : Type} {enc : TypeId × Value → H} {W : World} {base : Nat} {r : Reach} {v : Value} {d : DataW H} {p : List MemPlace} (hv : Value.okWide Tryz.prog W r base 39 v) (h : DataW.Trod enc Tryz.prog W 0 (fun _ => true) true 39 v d p) :
    ∃ ks : List Int, Rd W 1 v ks.length (ks.map (Value.int .i64)) ∧ (∀ b, v.ownBlock = some b → 0 < ks.length → b < W.heap.size) := by
  obtain ⟨n, zs, h1, h2, _, h4⟩ := open_rd_ints Tryz.underlying39 Tryz.underlying3 cellsInt hv h
  subst h2
  exact ⟨zs, h1, h4⟩
end Go.Proofs.YtolcnbiaiolcoaaGreat
namespace Go.Proofs.YtolcnbiaiolcoaaGreat
open Go.ChangeShapes Go.WideShapes Go.ChangeAt Go.RowKit Go.Deep

set_option maxRecDepth 3000 in
theorem open_cell_rows {α : Type} {H : Type} {enc : TypeId × Value → H} {W : World} (cells : α → List Value) (c : Nat) (fit : α → Prop) {t e : TypeId} (ht : Tryz.prog.underlying t = some (.slice e)) (hce : Tryz.prog.cellsOf e = c) (hc0 : 0 < c) (hlen : ∀ x, (cells x).length = c)
    (hel : ∀ {n : Nat} {cs : List Value} {x : DataW H × List MemPlace}, DataW.trod enc Tryz.prog W 0 (fun _ => true) true n e cs = some x → ∃ d, cs = cells d ∧ fit d) {fuel : Nat} {v : Value} {x : DataW H × List MemPlace} (hf : DataW.trod enc Tryz.prog W 0 (fun _ => true) true fuel t [v] = some x) :
    ∃ ds : List α, Rd W c v ds.length (ds.flatMap cells) ∧ ∀ d ∈ ds, fit d := by
  rcases open_slice ht hf with ⟨hcs, _⟩ | ⟨x, l, cp, m, n, D, Pl, hcs, _, hl, hm, hmm, _, hi⟩
  · simp at hcs
    subst hcs
    exact ⟨[], ⟨none, 0, rfl, Nat.le_refl _, Nat.zero_le _, by simp, fun _ => rfl, fun hn => absurd hn (by simp)⟩, fun _ hz => by simp at hz⟩
  · simp at hcs
    subst hcs
    simp only [if_true] at hmm
    have H1 : ∀ i, i < l → ∃ d : α, (∀ j, j < c → W.cell? (x.add (i * c + j)) = (cells d)[j]?) ∧ fit d := by
      intro i hil
      obtain ⟨cs', hc, ht'⟩ := hi i (by omega)
      rw [hce] at hc
      obtain ⟨d, rfl, h1⟩ := hel ht'
      obtain ⟨_, _, hat⟩ := World.cells?_some hc
      refine ⟨d, fun j hj => ?_, h1⟩
      rw [← hat j hj, Go.Deep.add_add]
    obtain ⟨ds, hdl, hd⟩ : ∃ ds : List α, ds.length = l ∧ ∀ i (h : i < ds.length), (∀ j, j < c → W.cell? (x.add (i * c + j)) = (cells ds[i])[j]?) ∧ fit ds[i] := by
      clear hi hf
      have : ∀ n : Nat, (∀ i, i < n → ∃ d : α, (∀ j, j < c → W.cell? (x.add (i * c + j)) = (cells d)[j]?) ∧ fit d) → ∃ ds : List α, ds.length = n ∧ ∀ i (h : i < ds.length), (∀ j, j < c → W.cell? (x.add (i * c + j)) = (cells ds[i])[j]?) ∧ fit ds[i] := by
        intro n
        induction n with
        | zero => exact fun _ => ⟨[], rfl, fun i h => absurd h (by simp)⟩
        | succ n ih =>
          intro H
          obtain ⟨ds, hl, hd⟩ := ih (fun i hi => H i (by omega))
          obtain ⟨d, hq⟩ := H n (by omega)
          refine ⟨ds ++ [d], by simp [hl], fun i h => ?_⟩
          rw [List.length_append, List.length_singleton] at h
          by_cases hi : i < ds.length
          · rw [List.getElem_append_left hi]; exact hd i hi
          · have e : i = n := by omega
            subst e
            rw [List.getElem_append_right (by omega)]
            simpa [hl] using hq
      exact this l H1
    have hfl : (ds.flatMap cells).length = ds.length * c := flat_length cells c ds (fun _ _ => hlen _)
    refine ⟨ds, ⟨some x, cp, by rw [hdl], by omega, hm, hfl, fun hn => (by cases hn), fun hn => ⟨x, rfl, ?_, ?_⟩⟩, ?_⟩
    · have h0 := (hd 0 hn).1 0 hc0
      have hs : ∃ u, (cells ds[0])[0]? = some u := ⟨_, List.getElem?_eq_getElem (by rw [hlen]; exact hc0)⟩
      obtain ⟨u, hu⟩ := hs
      have := World.block_lt_of_cell? _ _ (h0.trans hu)
      rwa [add_block] at this
    · intro j u hu
      have hjl : j < (ds.flatMap cells).length := (List.getElem?_eq_some_iff.1 hu).1
      rw [hfl] at hjl
      have hk : j / c < ds.length := Nat.div_lt_of_lt_mul (by rw [Nat.mul_comm]; exact hjl)
      have hj6 : j % c < c := Nat.mod_lt _ hc0
      have e : j = j / c * c + j % c := by rw [Nat.mul_comm]; exact (Nat.div_add_mod j c).symm
      rw [e] at hu ⊢
      rw [(hd (j / c) hk).1 (j % c) hj6, ← hu, flat_at cells c ds (fun _ _ => hlen _) (j / c) (j % c) hk hj6]
    · intro d hdm
      obtain ⟨i, hi2, rfl⟩ := List.getElem_of_mem hdm
      exact (hd i hi2).2
set_option maxRecDepth 3000 in
theorem cellsPut : Tryz.prog.cellsOf 94 = 2 := by kernel_rfl
set_option maxRecDepth 3000 in
theorem open_pd {H : Type} {enc : TypeId × Value → H} {W : World} {n : Nat} {cs : List Value} {x : DataW H × List MemPlace} (h : DataW.trod enc Tryz.prog W 0 (fun _ => true) true n 94 cs = some x) :
    ∃ d : PD, cs = d.cells ∧ d.fit W := by
  obtain ⟨xs, m, _, _, hlen, hxl, hf⟩ := DataW.trod_struct Tryz.underlying94 h
  rw [cellsPut] at hlen
  match cs, hlen with
  | [c0, c1], _ =>
    match xs, hxl with
    | [y0, y1], _ =>
      have f0 := hf 0 _ rfl
      have f1 := hf 1 _ rfl
      change DataW.trod enc Tryz.prog W 0 (fun _ => true) true m 3 ((([c0, c1] : List Value).drop 0).take (Tryz.prog.cellsOf 3)) = some y0 at f0
      change DataW.trod enc Tryz.prog W 0 (fun _ => true) true m 53 ((([c0, c1] : List Value).drop 1).take (Tryz.prog.cellsOf 53)) = some y1 at f1
      rw [cellsInt] at f0
      rw [cellsBytes] at f1
      obtain ⟨a0, e0, _, w0⟩ := DataW.trod_int Tryz.underlying3 f0
      obtain ⟨l, hl⟩ := In.of_rd_ints (open_cell_ints Tryz.underlying53 Tryz.underlying5 (by kernel_rfl) (v := c1) f1)
      simp at e0
      subst e0
      have hb := bounds_i64 w0
      exact ⟨⟨a0, c1, l⟩, rfl, hl, by simp only; omega⟩
set_option maxRecDepth 3000 in
theorem open_cell_puts {H : Type} {enc : TypeId × Value → H} {W : World} {fuel : Nat} {v : Value} {x : DataW H × List MemPlace} (hf : DataW.trod enc Tryz.prog W 0 (fun _ => true) true fuel 37 [v] = some x) : ∃ ds, PDs W v ds :=
  open_cell_rows PD.cells 2 (fun d => d.fit W) Tryz.underlying37 cellsPut (by decide) (fun _ => rfl) (fun h => open_pd h) hf
set_option maxRecDepth 3000 in
theorem open_puts {H : Type} {enc : TypeId × Value → H} {W : World} {base : Nat} {r : Reach} {v : Value} {d : DataW H} {p : List MemPlace} (hv : Value.okWide Tryz.prog W r base 37 v) (h : DataW.Trod enc Tryz.prog W 0 (fun _ => true) true 37 v d p) : ∃ ds, PDs W v ds := by
  obtain ⟨a, len, cap, rfl⟩ := okWide_slice Tryz.underlying37 hv
  obtain ⟨fuel, hf⟩ := h
  exact open_cell_puts (by simpa [Value.cells] using hf)
end Go.Proofs.YtolcnbiaiolcoaaGreat
