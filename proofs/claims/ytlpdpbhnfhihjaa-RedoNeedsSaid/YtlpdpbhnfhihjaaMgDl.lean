/- The disk: Waits. The document's Sector; bytes compared; the sectors' lives. The disk's calls on its state; lives. -/
import Derived.Test.YtlpdpbhnfhihjaaDkD
import Derived.Test.YtlpdpbhnfhihjaaDkX
import Derived.Deep.QuietTactic
import Derived.BigQuiet
import Derived.Test.YtlpdpbhnfhihjaaMgDk
namespace Go.Proofs.Ytlpdpbhnfhihjaa
open Go.RowKit

theorem infoInt : (Try.prog.info? 3).map (fun i => (i.zero, i.size, i.bytes)) = some (some (.int .i64 0), 1, 8) := by kernel_rfl
theorem made_one (z : Value) (hz : z.cells = #[z]) (n : Nat) : (madeCells z.cells (n * 1)).toList = List.replicate n z := by
  rw [hz, Nat.mul_one]
  apply List.ext_getElem?
  intro k
  rw [List.getElem?_replicate]
  by_cases hk : k < n
  · rw [if_pos hk, Array.getElem?_toList]
    have h1 : (Array.range n)[k]? = some k := by rw [Array.getElem?_eq_getElem (by simpa using hk)]; simp
    simp only [madeCells, Array.getElem?_map, h1, Option.map_some]
    have : k % (#[z] : Array Value).size = 0 := by simp [Nat.mod_one]
    rw [this]; rfl
  · rw [if_neg hk, Array.getElem?_toList, Array.getElem?_eq_none (by rw [size_madeCells]; omega)]

def atOf (q : Nat × List Nat) : Value := .int .i64 (q.1 : Int)
def waOf (Q : List (Nat × List Nat)) (k : Nat) : List Value := (Q.take k).map atOf ++ List.replicate (Q.length - k) (.int .i64 0)
theorem waOf_set (Q : List (Nat × List Nat)) (k : Nat) (hk : k < Q.length) : (waOf Q k).set k (.int .i64 ((Q.getD k (0, [])).1 : Int)) = waOf Q (k + 1) := by
  unfold waOf
  have e : Q.length - k = Q.length - (k + 1) + 1 := by omega
  have hl : ((Q.take k).map atOf).length = k := by simp; omega
  rw [e, List.replicate_succ, List.set_append_right _ _ (by omega), hl, Nat.sub_self, List.set_cons_zero, List.take_succ_eq_append_getElem hk, List.map_append, List.append_assoc]
  have e2 : Q.getD k (0, []) = Q[k] := by rw [List.getD_eq_getElem?_getD, List.getElem?_eq_getElem hk]; rfl
  rw [e2]; rfl
theorem waOf_all (Q : List (Nat × List Nat)) : waOf Q Q.length = Q.map atOf := by simp [waOf]

def WaRel (w : World) (z : Nat) (Q : List (Nat × List Nat)) (t : Value) (wr : World) : Prop :=
  ∃ k, t = .int .i64 ((k : Nat) : Int) ∧ k ≤ Q.length ∧ Sl wr (fun j => j = z) 3 1 (.slice (some ⟨z, 0, none⟩) Q.length Q.length) Q.length (waOf Q k) ∧ Adv Nul w (fun j => j = z) wr

set_option maxRecDepth 3000 in
set_option maxHeartbeats 1600000 in
theorem waits_r (d gl gr n : Nat) (vQ : Value) (F : Nat → Prop) (R : List (List Nat)) (s : DS) (w : World) (h : DkR w F d gl gr vQ n R s) (hql : s.Q.length ≤ 1000000) :
    Calls Try.prog 13 #[.pointer (some ⟨d, 0, none⟩)] w fun e w' => ∃ z, e = .returned (.slice (some ⟨z, 0, none⟩) s.Q.length s.Q.length) ∧ Sl w' (fun j => j = z) 3 1 (.slice (some ⟨z, 0, none⟩) s.Q.length s.Q.length) s.Q.length (s.Q.map atOf) ∧ Adv Nul w (fun j => j = z) w' := by
  have c0 := h.c0
  have c2 := h.c2
  obtain ⟨aq, cq, rfl, hqc, hqm⟩ := h.b.waits.form0
  obtain ⟨ie, hie, hz, hs, hby⟩ := info_parts infoInt
  have H := Lib.hid h
  have HIE := Lib.hid hie
  have HZ := Lib.hid hz
  have HSZ := Lib.hid hs
  have HBY := Lib.hid hby
  clear h hqm hie hz hs hby
  go_enter Try.func13, Try.ntmps13
  go_wp2_with (first
    | (go_at_call 33; refine (made_r _ _ _ _ c0).mono ?_; rintro e w1 ⟨rfl, rfl⟩)
    | (at_make; refine wpList_make_full _ rfl _ _ 38 rfl 0 3 ie (.int .i64 0) 1 Try.underlying38 HIE.out HZ.out HSZ.out .i64 .i64 _ _ s.Q.length rfl rfl rfl rfl (by rw [HBY.out]; omega) (by unfold maxLen; omega) (Nat.zero_le _) ?_; intro w1 hown hg; have hown2 := own_base hown; rw [made_one _ rfl] at hown2; have hadv : Adv Nul w Nul w1 := ((Adv.refl Nul w).grown hg (fun k hk => by cases hk)); have HOWN := Lib.hid hown2; have HADV := Lib.hid hadv; have HW1 := Lib.hid hg; have c21 := (H.out.far hadv (fun _ h _ => h)).c2; clear hown hown2 hg hadv)
    | fail)
  obtain ⟨z, hz⟩ : ∃ z, z = w.heap.size := ⟨_, rfl⟩
  rw [← hz] at HOWN ⊢
  have hsl : Sl w1 (fun j => j = z) 3 1 (.slice (some ⟨z, 0, none⟩) s.Q.length s.Q.length) s.Q.length (waOf s.Q 0) := by
    have e : waOf s.Q 0 = List.replicate s.Q.length (.int .i64 0) := by simp [waOf]
    rw [e]
    exact ⟨HOWN.out, fun k hk => by simp [Value.ownBlock] at hk; exact hk.symm, fun k hk => by rw [hk]; exact (HOWN.out.lt z rfl).2⟩
  have hav : Adv Nul w (fun j => j = z) w1 := ⟨HADV.out.os, HADV.out.tape, HADV.out.output, HADV.out.size, HADV.out.block, fun k hk => .inr (by omega)⟩
  have HSL := Lib.hid hsl
  have HAV := Lib.hid hav
  clear hsl hav hz HOWN HADV HW1
  go_loopw [20] (WaRel w z s.Q) (fun t _ => s.Q.length - (intOf t).toNat)
  case atStart => exact ⟨0, rfl, Nat.zero_le _, HSL.out, HAV.out⟩
  case round =>
    obtain ⟨k, rfl, hkk, hsl, ha⟩ := hrel
    clear c21 c2
    have hr := H.out.far ha (fun _ h _ => h)
    by_cases hlt : k < s.Q.length
    · obtain ⟨g, c, e, hFg, hrg, hq1, hq2⟩ := hr.b.wait_at hlt
      injection e with e1 e2 e3
      subst e1
      clear e2 e3
      have hset := waOf_set s.Q k hlt
      obtain ⟨q, hq⟩ : ∃ q, q = s.Q.getD k (0, []) := ⟨_, rfl⟩
      rw [← hq] at hrg hq1 hq2 hset
      have hnew := Blk.new wr 72 (wcells q).toArray
      have k0 : (wr.alloc (.cells (wcells q).toArray 72)).cell? ⟨wr.heap.size, 0, none⟩ = some (.int .i64 (q.1 : Int)) := hnew.cell 0
      have hs2 : Sl (wr.alloc (.cells (wcells q).toArray 72)) (fun j => j = z) 3 1 (.slice (some ⟨z, 0, none⟩) s.Q.length s.Q.length) s.Q.length (waOf s.Q k) := hsl.keepH (fun j hj => Below.heap_alloc _ _ _ (hsl.bd j hj)) (by simp)
      have ha2 := ha.alloc (.cells (wcells q).toArray 72)
      have hold : ∃ u, (wr.alloc (.cells (wcells q).toArray 72)).cell? ⟨z, k, none⟩ = some u := by
        rw [hs2.own.cellAt k (by omega)]
        exact ⟨_, List.getElem?_eq_getElem (by rw [hs2.own.1]; omega)⟩
      obtain ⟨u, hold⟩ := hold
      have hfr : (wr.alloc (.cells (wcells q).toArray 72)).frozen? ⟨z, k, none⟩ = false := hs2.own.frozenAt k
      have hst := (hs2.own.stored k (.int .i64 (q.1 : Int))).1
      rw [hset] at hst
      have HRG := Lib.hid hrg
      have HQ2 := Lib.hid hq2
      have HST := Lib.hid hst
      have HS2 := Lib.hid hs2
      have HA2 := Lib.hid ha2
      clear hr hsl ha hrg hq1 hq2 hnew hq hset hs2 ha2 hst
      go_wp2_with (first
        | (refine op_load_write rfl _ rfl g (k * 129) q HQ2.out HRG.out rfl ?_)
        | (refine op_alloc_write rfl rfl ?_)
        | (refine op_store_write rfl _ _ rfl _ rfl q HQ2.out rfl rfl ?_)
        | fail)
      refine ⟨⟨k + 1, by simp, by omega, ⟨HST.out, HS2.out.inF, fun j hj => ?_⟩, ?_⟩, by simp [intOf]; omega⟩
      · have := HS2.out.bd j hj
        simpa [World.setCell] using this
      · have h1 := HA2.out
        refine ⟨h1.os, h1.tape, h1.output, by simpa [World.setCell] using h1.size, fun j hj hn => ?_, h1.into⟩
        rw [heap_setCell_other _ _ _ _ (by
          intro e
          have := (h1.into z rfl)
          rcases this with h | h
          · exact h
          · have e' : j = z := e
            omega)]
        exact h1.block j hj hn
    · obtain rfl : k = s.Q.length := by omega
      rw [waOf_all] at hsl
      have HSL2 := Lib.hid hsl
      have HA2 := Lib.hid ha
      clear hr hsl ha
      go_wp2_with fail
      go_ret
      exact ⟨z, rfl, HSL2.out, HA2.out⟩
end Go.Proofs.Ytlpdpbhnfhihjaa
namespace Go.Proofs.Ytlpdpbhnfhihjaa
open Go.RowKit

/-- bytes cut, or with noughts behind -/
def sec (l : List Nat) : List Nat := l.take 128 ++ List.replicate (128 - l.length) 0
theorem sec_length (l : List Nat) : (sec l).length = 128 := by simp [sec]; omega

def SecRel (w : World) (b : List Nat) (t : Value) (wr : World) : Prop :=
  ∃ k F, b.length ≤ k ∧ k ≤ 128 ∧ Sl wr F 5 1 t k ((b ++ List.replicate (k - b.length) 0).map u8) ∧ Adv Nul w F wr

def lenOfV : Value → Nat
  | .slice _ n _ => n
  | _ => 0

set_option maxRecDepth 3000 in
set_option maxHeartbeats 800000 in
theorem sector_any (v : Value) (l : List Nat) (w : World) (h : In w v l) :
    Calls Try.prog 15 #[v] w fun e w' => ∃ v' F, e = .returned v' ∧ Sl w' F 5 1 v' 128 ((sec l).map u8) ∧ Adv Nul w F w' := by
  obtain ⟨i0, hi, hz0, hz1, hz2⟩ := info_parts Try.infoU8
  have HH := Lib.hid h
  clear h
  go_enter Try.func15, Try.ntmps15
  go_wp2_with (first
    | (go_at_call 17; refine (cut_any v l 128 _ HH.out (by decide)).mono ?_; rintro e w1 ⟨v1, rfl, h1, rfl⟩; have H1 := Lib.hid h1; clear h1)
    | (go_at_call 16; refine (copy_any v1 _ (l.take 128) _ H1.out.rd (by simp; omega)).mono ?_; rintro e w2 ⟨v2, F2, rfl, h2, a2⟩; have H2 := Lib.hid h2; have A2 := Lib.hid a2; clear h2 a2)
    | fail)
  have hb : (l.take 128).length ≤ 128 := by simp; omega
  have hse : l.take 128 ++ List.replicate (128 - (l.take 128).length) 0 = sec l := by
    unfold sec
    rw [List.length_take]
    congr 2
    omega
  obtain ⟨b, hbe⟩ : ∃ b, b = l.take 128 := ⟨_, rfl⟩
  rw [← hbe] at H2 hb hse
  have HB := Lib.hid hb
  have HSE := Lib.hid hse
  clear hb hse hbe
  go_loopw [3] (SecRel w b) (fun t _ => 128 - lenOfV t)
  case atStart => exact ⟨_, F2, Nat.le_refl _, HB.out, by simpa using H2.out, A2.out⟩
  case round =>
    obtain ⟨k, F, hlo, hk, hS, hA⟩ := hrel
    obtain ⟨a5, c5, rfl, _, _⟩ := hS.form0
    have HS := Lib.hid hS
    have HA := Lib.hid hA
    have hown := hS.own
    have HLO := Lib.hid hlo
    clear hS hA hlo
    by_cases hlt : k < 128
    · have hki : (k : Int) < 128 := by omega
      have HLT := Lib.hid hlt
      have HK := Lib.hid hk
      clear hlt hk
      go_wp2_with (first
        | (at_builtin; refine wpList_append_own_at _ rfl (.tmp 10) (.tmp 11) 33 rfl 0 5 i0 (.int .u8 0) 1 1 Try.underlying33 hi hz0 hz1 hz2 rfl (by decide) (.slice a5 k c5) k _ rfl (hown.alloc _) ⟨wr.heap.size, 0, none⟩ 1 1 [_] rfl rfl (cell_one_new _ _ _) ?c2 ?c3 ?c4 (Nat.zero_le _) ?c5)
        | fail)
      case c2 => intro u hu; simp at hu; subst hu; rfl
      case c3 => have := HLT.out; unfold maxLen; omega
      case c4 => have := HLT.out; omega
      case c5 =>
        intro v' w1 hown1 hg1 _ hat1
        obtain ⟨h1, h2⟩ := one_grown HS.out HA.out hown1 hg1 hat1 (by omega)
        obtain ⟨a6, c6, rfl, _, _⟩ := h1.form0
        have H1 := Lib.hid h1
        have H2 := Lib.hid h2
        clear h1 h2 hown1 hg1 hat1 hown
        go_wp2
        have hlt := HLT.out
        refine ⟨⟨k + 1, _, by have := HLO.out; omega, by omega, ?_, H2.out⟩, by simp [lenOfV]; omega⟩
        have e : k + 1 - b.length = (k - b.length) + 1 := by have := HLO.out; omega
        rw [e, List.replicate_succ']
        simp only [List.map_append, List.map_replicate, List.map_cons, List.map_nil]
        exact H1.out
    · obtain rfl : k = 128 := by omega
      clear hown
      go_wp2
      go_ret
      have h := HS.out
      rw [HSE.out] at h
      exact ⟨_, F, rfl, h, HA.out⟩
end Go.Proofs.Ytlpdpbhnfhihjaa
namespace Go.Proofs.Ytlpdpbhnfhihjaa
open Go.RowKit

/-- Read -/
theorem read_dk (d n : Nat) (F : Nat → Prop) (s : DS) (i : Nat) (w : World) (h : Dk w F d n s) (hi : i < n) :
    Calls Try.prog 36 #[.pointer (some ⟨d, 0, none⟩), .int .i64 (i : Int)] w fun e w' => ∃ z, e = .returned (.tuple #[.slice (some ⟨z, 0, none⟩) 128 128, .int .i64 0]) ∧ Blk w' z 70 ((isS s i).map u8).toArray ∧ (isS s i).length = 128 ∧ Adv Nul w (fun k => k = z) w' := by
  obtain ⟨ho, gl, gr, vQ, hr⟩ := h
  exact read_r d gl gr n vQ F _ s i w hr hi
theorem read_none (d n : Nat) (F : Nat → Prop) (s : DS) (i : Int) (w : World) (h : Dk w F d n s) (hi : ¬ (0 ≤ i ∧ i < (n : Int))) :
    Calls Try.prog 36 #[.pointer (some ⟨d, 0, none⟩), .int .i64 i] w fun e w' => e = .returned (.tuple #[.slice none 0 0, .int .i64 2]) ∧ w = w' := by
  obtain ⟨ho, gl, gr, vQ, hr⟩ := h
  exact read_bad d gl n i w hr.c0 hi
theorem size_dk (d n : Nat) (F : Nat → Prop) (s : DS) (w : World) (h : Dk w F d n s) :
    Calls Try.prog 18 #[.pointer (some ⟨d, 0, none⟩)] w fun e w' => e = .returned (.int .i64 (n : Int)) ∧ w = w' := by
  obtain ⟨ho, gl, gr, vQ, hr⟩ := h
  exact size_r d gl n w hr.c0
theorem waits_dk (d n : Nat) (F : Nat → Prop) (s : DS) (w : World) (h : Dk w F d n s) (hql : s.Q.length ≤ 1000000) :
    Calls Try.prog 13 #[.pointer (some ⟨d, 0, none⟩)] w fun e w' => ∃ z, e = .returned (.slice (some ⟨z, 0, none⟩) s.Q.length s.Q.length) ∧ Sl w' (fun j => j = z) 3 1 (.slice (some ⟨z, 0, none⟩) s.Q.length s.Q.length) s.Q.length (s.Q.map atOf) ∧ Adv Nul w (fun j => j = z) w' := by
  obtain ⟨ho, gl, gr, vQ, hr⟩ := h
  exact waits_r d gl gr n vQ F _ s w hr hql

/-- what is new lies behind what there was -/
theorem Adv.new_at {G : Nat → Prop} {w w' : World} (h : Adv Nul w G w') {k : Nat} (hk : G k) : w.heap.size ≤ k := by
  rcases h.into k hk with h1 | h1
  · exact h1.elim
  · exact h1
theorem Sl.new_sep {F G : Nat → Prop} {w w' : World} {e : TypeId} {size n : Nat} {v : Value} {xs : List Value} (h : Sl w' G e size v n xs) (ha : Adv Nul w G w') (hb : Bd F w) : ∀ k, v.ownBlock = some k → ¬ F k := fun k hk hF => by
  have h1 := ha.new_at (h.inF k hk)
  have h2 := hb k hF
  omega
/-- a sector that was read can be read -/
theorem Blk.rd8 {w : World} {z : Nat} {t : TypeId} {l : List Nat} (h : Blk w z t (l.map u8).toArray) (hl : l.length = 128) : Rd w 1 (.slice (some ⟨z, 0, none⟩) 128 128) 128 (l.map u8) :=
  ⟨_, 128, rfl, Nat.le_refl _, by decide, by simpa using hl, fun h => (by cases h), fun _ => ⟨_, rfl, h.lt, fun j u hu => by rw [add_none, h.cell, Nat.zero_add, List.getElem?_toArray]; exact hu⟩⟩

theorem writeS_plain {s : DS} (hf : s.fuse = none) {i : Nat} (hi : i < s.L.length) {b : List Nat} (hb : b.length = 128) : writeS s (i : Int) b = ({ s with Q := s.Q ++ [(i, b)] }, 0) := by
  have hs : stepS s = (s, true) := by unfold stepS; rw [hf]
  unfold writeS
  rw [if_neg (by omega), hs]
  simp
theorem flushS_plain {s : DS} (hf : s.fuse = none) : flushS s = ({ s with L := lays s.L s.Q, Q := [] }, 0) := by
  have hs : stepS s = (s, true) := by unfold stepS; rw [hf]
  unfold flushS
  rw [hs]
  simp
end Go.Proofs.Ytlpdpbhnfhihjaa
