/- The disk: Waits. -/
import Derived.Test.YtickabjhapghbaaDkD
namespace Go.Proofs.Ytickabjhapghbaa
open Go.RowKit

theorem infoInt : (Try.prog.info? 3).map (fun i => (i.zero, i.size, i.bytes)) = some (some (.int .i64 0), 1, 8) := by kernel_rfl
theorem made_one (z : Value) (hz : z.cells = #[z]) (n : Nat) : (madeCells z.cells (n * 1)).toList = List.replicate n z := by
  rw [hz, Nat.mul_one]
  apply List.ext_getElem?
  intro k
  rw [List.getElem?_replicate]
  by_cases hk : k < n
  · rw [if_pos hk, Array.getElem?_toList]
    have h1 : (Array.range n)[k]? = some k := by rw [Array.getElem?_eq_getElem (by simpa using hk)]; simp
    simp only [madeCells, Array.getElem?_map, h1, Option.map_some]
    have : k % (#[z] : Array Value).size = 0 := by simp [Nat.mod_one]
    rw [this]; rfl
  · rw [if_neg hk, Array.getElem?_toList, Array.getElem?_eq_none (by rw [size_madeCells]; omega)]

def atOf (q : Nat × List Nat) : Value := .int .i64 (q.1 : Int)
def waOf (Q : List (Nat × List Nat)) (k : Nat) : List Value := (Q.take k).map atOf ++ List.replicate (Q.length - k) (.int .i64 0)
theorem waOf_set (Q : List (Nat × List Nat)) (k : Nat) (hk : k < Q.length) : (waOf Q k).set k (.int .i64 ((Q.getD k (0, [])).1 : Int)) = waOf Q (k + 1) := by
  unfold waOf
  have e : Q.length - k = Q.length - (k + 1) + 1 := by omega
  have hl : ((Q.take k).map atOf).length = k := by simp; omega
  rw [e, List.replicate_succ, List.set_append_right _ _ (by omega), hl, Nat.sub_self, List.set_cons_zero, List.take_succ_eq_append_getElem hk, List.map_append, List.append_assoc]
  have e2 : Q.getD k (0, []) = Q[k] := by rw [List.getD_eq_getElem?_getD, List.getElem?_eq_getElem hk]; rfl
  rw [e2]; rfl
theorem waOf_all (Q : List (Nat × List Nat)) : waOf Q Q.length = Q.map atOf := by simp [waOf]

def WaRel (w : World) (z : Nat) (Q : List (Nat × List Nat)) (t : Value) (wr : World) : Prop :=
  ∃ k, t = .int .i64 ((k : Nat) : Int) ∧ k ≤ Q.length ∧ Sl wr (fun j => j = z) 3 1 (.slice (some ⟨z, 0, none⟩) Q.length Q.length) Q.length (waOf Q k) ∧ Adv Nul w (fun j => j = z) wr

set_option maxRecDepth 3000 in
set_option maxHeartbeats 1600000 in
theorem waits_r (d gl gr n : Nat) (vQ : Value) (F : Nat → Prop) (R : List (List Nat)) (s : DS) (w : World) (h : DkR w F d gl gr vQ n R s) (hql : s.Q.length ≤ 1000000) :
    Calls Try.prog 48 #[.pointer (some ⟨d, 0, none⟩)] w fun e w' => ∃ z, e = .returned (.slice (some ⟨z, 0, none⟩) s.Q.length s.Q.length) ∧ Sl w' (fun j => j = z) 3 1 (.slice (some ⟨z, 0, none⟩) s.Q.length s.Q.length) s.Q.length (s.Q.map atOf) ∧ Adv Nul w (fun j => j = z) w' := by
  have c0 := h.c0
  have c2 := h.c2
  obtain ⟨aq, cq, rfl, hqc, hqm⟩ := h.b.waits.form0
  obtain ⟨ie, hie, hz, hs, hby⟩ := info_parts infoInt
  have H := Lib.hid h
  have HIE := Lib.hid hie
  have HZ := Lib.hid hz
  have HSZ := Lib.hid hs
  have HBY := Lib.hid hby
  clear h hqm hie hz hs hby
  go_enter Try.func48, Try.ntmps48
  go_wp2_with (first
    | (go_at_call 41; refine (made_r _ _ _ _ c0).mono ?_; rintro e w1 ⟨rfl, rfl⟩)
    | (at_make; refine wpList_make_full _ rfl _ _ 32 rfl 0 3 ie (.int .i64 0) 1 Try.underlying32 HIE.out HZ.out HSZ.out .i64 .i64 _ _ s.Q.length rfl rfl rfl rfl (by rw [HBY.out]; omega) (by unfold maxLen; omega) (Nat.zero_le _) ?_; intro w1 hown hg; have hown2 := own_base hown; rw [made_one _ rfl] at hown2; have hadv : Adv Nul w Nul w1 := ((Adv.refl Nul w).grown hg (fun k hk => by cases hk)); have HOWN := Lib.hid hown2; have HADV := Lib.hid hadv; have HW1 := Lib.hid hg; have c21 := (H.out.far hadv (fun _ h _ => h)).c2; clear hown hown2 hg hadv)
    | fail)
  obtain ⟨z, hz⟩ : ∃ z, z = w.heap.size := ⟨_, rfl⟩
  rw [← hz] at HOWN ⊢
  have hsl : Sl w1 (fun j => j = z) 3 1 (.slice (some ⟨z, 0, none⟩) s.Q.length s.Q.length) s.Q.length (waOf s.Q 0) := by
    have e : waOf s.Q 0 = List.replicate s.Q.length (.int .i64 0) := by simp [waOf]
    rw [e]
    exact ⟨HOWN.out, fun k hk => by simp [Value.ownBlock] at hk; exact hk.symm, fun k hk => by rw [hk]; exact (HOWN.out.lt z rfl).2⟩
  have hav : Adv Nul w (fun j => j = z) w1 := ⟨HADV.out.os, HADV.out.tape, HADV.out.output, HADV.out.size, HADV.out.block, fun k hk => .inr (by omega)⟩
  have HSL := Lib.hid hsl
  have HAV := Lib.hid hav
  clear hsl hav hz HOWN HADV HW1
  go_loopw [20] (WaRel w z s.Q) (fun t _ => s.Q.length - (intOf t).toNat)
  case atStart => exact ⟨0, rfl, Nat.zero_le _, HSL.out, HAV.out⟩
  case round =>
    obtain ⟨k, rfl, hkk, hsl, ha⟩ := hrel
    clear c21 c2
    have hr := H.out.far ha (fun _ h _ => h)
    by_cases hlt : k < s.Q.length
    · obtain ⟨g, c, e, hFg, hrg, hq1, hq2⟩ := hr.b.wait_at hlt
      injection e with e1 e2 e3
      subst e1
      clear e2 e3
      have hset := waOf_set s.Q k hlt
      obtain ⟨q, hq⟩ : ∃ q, q = s.Q.getD k (0, []) := ⟨_, rfl⟩
      rw [← hq] at hrg hq1 hq2 hset
      have hnew := Blk.new wr 94 (wcells q).toArray
      have k0 : (wr.alloc (.cells (wcells q).toArray 94)).cell? ⟨wr.heap.size, 0, none⟩ = some (.int .i64 (q.1 : Int)) := hnew.cell 0
      have hs2 : Sl (wr.alloc (.cells (wcells q).toArray 94)) (fun j => j = z) 3 1 (.slice (some ⟨z, 0, none⟩) s.Q.length s.Q.length) s.Q.length (waOf s.Q k) := hsl.keepH (fun j hj => Below.heap_alloc _ _ _ (hsl.bd j hj)) (by simp)
      have ha2 := ha.alloc (.cells (wcells q).toArray 94)
      have hold : ∃ u, (wr.alloc (.cells (wcells q).toArray 94)).cell? ⟨z, k, none⟩ = some u := by
        rw [hs2.own.cellAt k (by omega)]
        exact ⟨_, List.getElem?_eq_getElem (by rw [hs2.own.1]; omega)⟩
      obtain ⟨u, hold⟩ := hold
      have hfr : (wr.alloc (.cells (wcells q).toArray 94)).frozen? ⟨z, k, none⟩ = false := hs2.own.frozenAt k
      have hst := (hs2.own.stored k (.int .i64 (q.1 : Int))).1
      rw [hset] at hst
      have HRG := Lib.hid hrg
      have HQ2 := Lib.hid hq2
      have HST := Lib.hid hst
      have HS2 := Lib.hid hs2
      have HA2 := Lib.hid ha2
      clear hr hsl ha hrg hq1 hq2 hnew hq hset hs2 ha2 hst
      go_wp2_with (first
        | (refine op_load_write rfl _ rfl g (k * 129) q HQ2.out HRG.out rfl ?_)
        | (refine op_alloc_write rfl rfl ?_)
        | (refine op_store_write rfl _ _ rfl _ rfl q HQ2.out rfl rfl ?_)
        | fail)
      refine ⟨⟨k + 1, by simp, by omega, ⟨HST.out, HS2.out.inF, fun j hj => ?_⟩, ?_⟩, by simp [intOf]; omega⟩
      · have := HS2.out.bd j hj
        simpa [World.setCell] using this
      · have h1 := HA2.out
        refine ⟨h1.os, h1.tape, h1.output, by simpa [World.setCell] using h1.size, fun j hj hn => ?_, h1.into⟩
        rw [heap_setCell_other _ _ _ _ (by
          intro e
          have := (h1.into z rfl)
          rcases this with h | h
          · exact h
          · have e' : j = z := e
            omega)]
        exact h1.block j hj hn
    · obtain rfl : k = s.Q.length := by omega
      rw [waOf_all] at hsl
      have HSL2 := Lib.hid hsl
      have HA2 := Lib.hid ha
      clear hr hsl ha
      go_wp2_with fail
      go_ret
      exact ⟨z, rfl, HSL2.out, HA2.out⟩
end Go.Proofs.Ytickabjhapghbaa
