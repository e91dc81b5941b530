/- Puts in memory; whether they are a transaction. Whether puts are a transaction. Cut: the program's. Cut: the program's, of a record that may be. Cut: the document's. Which pieces any record has. -/
import Derived.Test.YtcglfknkkeaegaaGreatDoorMq05
import Derived.Test.YtcglfknkkeaegaaGreatDoorMq04
import Derived.Deep.DeepCutAuto
namespace Go.Proofs.YtcglfknkkeaegaaGreatDoor
open Go.RowKit

/-- A slice of puts that can be read, in none of the blocks of G. -/
def QRd (w : World) (G : Nat → Prop) (v : Value) (ps : List Pt) : Prop :=
  ∃ A k, v = .slice A ps.length k ∧ ps.length ≤ k ∧ k ≤ maxLen ∧ (0 < ps.length → ∃ b o, A = some ⟨b, o, none⟩ ∧ (b < w.heap.size ∧ ¬ G b) ∧ ∀ i (h : i < ps.length), ∃ a q,
    w.cell? ⟨b, o + (i * 2 + 0), none⟩ = some (.int .i64 ps[i].a) ∧ w.cell? ⟨b, o + (i * 2 + 1), none⟩ = some (.slice a ps[i].d.length q) ∧
    Rd w 1 (.slice a ps[i].d.length q) ps[i].d.length (ps[i].d.map u8) ∧ ∀ k, (Value.slice a ps[i].d.length q).ownBlock = some k → 0 < ps[i].d.length → ¬ G k)
theorem Rd.lt {w : World} {a : Option Addr} {n q : Nat} {xs : List Value} (h : Rd w 1 (.slice a n q) n xs) {k : Nat} (hk : (Value.slice a n q).ownBlock = some k) (hn : 0 < n) : k < w.heap.size := by
  obtain ⟨A, c, e, _, _, _, _, h5⟩ := h
  obtain ⟨ad, rfl, hb, _⟩ := h5 hn
  injection e with e _ _
  subst e
  have : ad.block = k := by simpa [Value.ownBlock] using hk
  omega
theorem QRd.adv {w w' : World} {G G' F F' : Nat → Prop} {v : Value} {ps : List Pt} (h : QRd w G v ps) (ha : Adv F w F' w') (hF : ∀ k, F k → G k) (hG : ∀ k, G' k → G k ∨ w.heap.size ≤ k) : QRd w' G' v ps := by
  obtain ⟨A, k, rfl, h1, h2, h3⟩ := h
  refine ⟨A, k, rfl, h1, h2, fun hn => ?_⟩
  obtain ⟨b, o, rfl, ⟨hb, hg⟩, hc⟩ := h3 hn
  have hk : w'.heap[b]? = w.heap[b]? := ha.block b hb (fun h => hg (hF b h))
  refine ⟨b, o, rfl, ⟨Nat.lt_of_lt_of_le hb ha.size, fun h => ?_⟩, fun i hi => ?_⟩
  · rcases hG b h with h | h
    · exact hg h
    · omega
  · obtain ⟨a, q, c0, c1, hr, hs⟩ := hc i hi
    have e : ∀ j, w'.cell? ⟨b, j, none⟩ = w.cell? ⟨b, j, none⟩ := fun j => World.cell?_of_block hk
    refine ⟨a, q, by rw [e]; exact c0, by rw [e]; exact c1, hr.far (fun j hj hn' hl => ha.block j hl (fun h => hs j hj hn' (hF j h))) ha.size, fun j hj hn' h => ?_⟩
    rcases hG j h with h | h
    · exact hs j hj hn' h
    · have := hr.lt hj hn'; omega
theorem QRd.step {w w' : World} {G F' : Nat → Prop} {v : Value} {ps : List Pt} (h : QRd w G v ps) (ha : Adv Nul w F' w') : QRd w' G v ps := h.adv ha (fun _ x => x.elim) (fun _ x => .inl x)
theorem QRd.row {w : World} {G : Nat → Prop} {A : Option Addr} {n k : Nat} {ps : List Pt} (h : QRd w G (.slice A n k) ps) {i : Nat} (hi : i < ps.length) : ∃ b o a q, A = some ⟨b, o, none⟩ ∧ (b < w.heap.size ∧ ¬ G b) ∧
    (w.cell? ⟨b, o + i * 2, none⟩ = some (.int .i64 ps[i].a) ∧ w.cell? ⟨b, o + i * 2 + 1, none⟩ = some (.slice a ps[i].d.length q)) ∧
    Rd w 1 (.slice a ps[i].d.length q) ps[i].d.length (ps[i].d.map u8) ∧ ∀ k, (Value.slice a ps[i].d.length q).ownBlock = some k → 0 < ps[i].d.length → ¬ G k := by
  obtain ⟨A', k', e, h1, h2, h3⟩ := h
  injection e with e1 e2 e3
  subst e1 e2 e3
  obtain ⟨b, o, rfl, hb, hc⟩ := h3 (by omega)
  obtain ⟨a, q, c0, c1, hr⟩ := hc i hi
  exact ⟨b, o, a, q, rfl, hb, ⟨c0, c1⟩, hr⟩
theorem QRd.len {w : World} {G : Nat → Prop} {A : Option Addr} {n k : Nat} {ps : List Pt} (h : QRd w G (.slice A n k) ps) : n = ps.length ∧ n ≤ k ∧ k ≤ maxLen := by
  obtain ⟨A', k', e, h1, h2, h3⟩ := h
  injection e with e1 e2 e3
  omega
theorem QRd.take {w : World} {G : Nat → Prop} {A : Option Addr} {n k : Nat} {ps : List Pt} (h : QRd w G (.slice A n k) ps) (i : Nat) (hi : i ≤ ps.length) : QRd w G (.slice A i k) (ps.take i) := by
  obtain ⟨A', k', e, h1, h2, h3⟩ := h
  injection e with e1 e2 e3
  subst e1 e2 e3
  have hl : (ps.take i).length = i := by rw [List.length_take]; exact Nat.min_eq_left hi
  refine ⟨A, k, by rw [hl], by omega, h2, fun hn => ?_⟩
  obtain ⟨b, o, rfl, hb, hc⟩ := h3 (by omega)
  refine ⟨b, o, rfl, hb, fun j hj => ?_⟩
  obtain ⟨a, q, r⟩ := hc j (by omega)
  have e : (ps.take i)[j] = ps[j]'(by omega) := List.getElem_take
  rw [e]
  exact ⟨a, q, r⟩

/-- after k puts none has this home -/
def IxL (w : World) (N : Nat) (ps : List Pt) (x : Int) (t : Value) (wr : World) : Prop := ∃ k : Nat, k ≤ N ∧ t = .int .i64 (k : Int) ∧ (∀ i (h : i < ps.length), i < k → ps[i].a ≠ x) ∧ Adv Nul w Nul wr
def IxR (w : World) (ps : List Pt) (x : Int) (e : Ending) (w' : World) : Prop := ∃ r : Int, e = .returned (.int .i64 r) ∧ (0 ≤ r ↔ ∃ p ∈ ps, p.a = x) ∧ -1 ≤ r ∧ Adv Nul w Nul w'

set_option maxRecDepth 3000 in
theorem istxf_any (x y : Int) (a : Value) (u : Nat) (w : World) (hu : w.cell? ⟨u, 0, none⟩ = some (.int .i64 y)) (hlt : u < w.heap.size) :
    Calls Tryz.prog 150 #[.agg #[.int .i64 x, a], .pointer (some ⟨u, 0, none⟩)] w fun e w' => e = .returned (.bool (x == y)) ∧ Adv Nul w Nul w' := by
  obtain ⟨V, hV⟩ : ∃ V, V = w.alloc (.cells #[.int .i64 x, a] 133) := ⟨_, rfl⟩
  have HU := Lib.hid (show V.cell? ⟨u, 0, none⟩ = some (.int .i64 y) by rw [hV, ← hu]; exact World.cell?_of_block (Below.heap_alloc w _ u hlt))
  have HZ := Lib.hid (show V.cell? ⟨w.heap.size, 0, none⟩ = some (.int .i64 x) by rw [hV]; exact (Blk.new w 133 #[.int .i64 x, a]).cell 0)
  have HA := Lib.hid (show Adv Nul w Nul V by rw [hV]; exact (Adv.refl _ _).alloc _)
  obtain ⟨z, hz⟩ : ∃ z, z = w.heap.size := ⟨_, rfl⟩
  rw [← hz] at HZ
  have HZZ := Lib.hid hz
  have HV := Lib.hid hV
  clear hu hlt hz hV
  go_enter Tryz.func150, Tryz.ntmps150
  go_upto_region 1 with (fail)
  rw [← HV.out, ← HZZ.out]
  have c0 := HZ.out
  have c1 := HU.out
  go_wp2_with fail
  go_ret
  exact ⟨rfl, HA.out⟩

set_option maxRecDepth 3000 in
set_option maxHeartbeats 3200000 in
theorem indexfn_any (A0 : Option Addr) (k0 u : Nat) (y : Int) (ps : List Pt) (G : Nat → Prop) (w : World) (h : QRd w G (.slice A0 ps.length k0) ps) (hu : w.cell? ⟨u, 0, none⟩ = some (.int .i64 y)) (hlt : u < w.heap.size) :
    Calls Tryz.prog 178 #[.slice A0 ps.length k0, .func (.func 150) #[] #[.pointer (some ⟨u, 0, none⟩)]] w (IxR w ps y) := by
  obtain ⟨N, hN⟩ : ∃ N, N = ps.length := ⟨_, rfl⟩
  rw [← hN] at h ⊢
  have hmx : N ≤ maxLen := by have := h.len; omega
  have hNI : (N : Int) ≤ 9223372036854775807 := by unfold maxLen at hmx; omega
  have HP := Lib.hid h
  have HN := Lib.hid hN
  have HU := Lib.hid (And.intro hu hlt)
  clear h hN hu hlt hmx
  go_enter Tryz.func178, Tryz.ntmps178
  go_wp2_with fail
  go_loopw [8] (IxL w N ps y) (fun t _ => N - (intOf t).toNat)
  case atStart => exact ⟨0, Nat.zero_le _, rfl, fun i _ hi => absurd hi (Nat.not_lt_zero _), Adv.refl _ _⟩
  case round =>
    obtain ⟨k, hk, rfl, hpre, ha⟩ := hrel
    have HPRE := Lib.hid hpre
    have HA := Lib.hid ha
    by_cases hlt : k < N
    · have hki : (k : Int) < (N : Int) := by omega
      have hkp : k < ps.length := by rw [← HN.out]; exact hlt
      obtain ⟨b, o, a, q, rfl, -, ⟨c0, c1⟩, -, -⟩ := (HP.out.step ha).row hkp
      obtain ⟨x, hx⟩ : ∃ x, x = ps[k].a := ⟨_, rfl⟩
      rw [← hx] at c0
      obtain ⟨m, hm⟩ : ∃ m, m = ps[k].d.length := ⟨_, rfl⟩
      rw [← hm] at c1
      have HX := Lib.hid hx
      have HLT := Lib.hid hlt
      have HUR := Lib.hid (show wr.cell? ⟨u, 0, none⟩ = some (.int .i64 y) ∧ u < wr.heap.size from ⟨by rw [← HU.out.1]; exact World.cell?_of_block (ha.block u HU.out.2 (fun x => x)), Nat.lt_of_lt_of_le HU.out.2 ha.size⟩)
      have HKP := Lib.hid hkp
      clear hpre ha hx hlt hk hm
      go_wp2_with fail
      refine (istxf_any x y _ u _ HUR.out.1 HUR.out.2).mono ?_
      rintro e w1 ⟨rfl, a1⟩
      have HA1 := Lib.hid (HA.out.trans a1)
      clear a1
      by_cases hxy : x = y
      · have hb : (x == y) = true := by rw [hxy]; exact beq_self_eq_true y
        have HXY := Lib.hid hxy
        clear hxy
        rw [hb]
        go_wp2_with fail
        go_ret
        exact ⟨(k : Int), rfl, ⟨fun _ => ⟨_, List.getElem_mem HKP.out, by rw [← HX.out]; exact HXY.out⟩, fun _ => by omega⟩, by omega, HA1.out⟩
      · have hb : (x == y) = false := by rw [beq_eq_false_iff_ne]; exact hxy
        have HXY := Lib.hid hxy
        clear hxy
        rw [hb]
        go_wp2_with fail
        have hlt := HLT.out
        refine ⟨⟨k + 1, by omega, by go_num, fun i h hi => ?_, HA1.out⟩, by simp [intOf]; omega⟩
        by_cases e : i = k
        · subst e; rw [← HX.out]; exact HXY.out
        · exact HPRE.out i h (by omega)
    · obtain rfl : k = N := by omega
      clear hpre ha hlt hk
      go_wp2_with fail
      go_ret
      refine ⟨-1, rfl, ⟨fun h => absurd h (by decide), fun ⟨p, hp, e⟩ => ?_⟩, by decide, HA.out⟩
      obtain ⟨i, hi, rfl⟩ := List.getElem_of_mem hp
      exact absurd e (HPRE.out i hi (by rw [HN.out]; exact hi))

set_option maxRecDepth 3000 in
theorem containsfn_any (A0 : Option Addr) (k0 u : Nat) (y : Int) (ps : List Pt) (G : Nat → Prop) (w : World) (h : QRd w G (.slice A0 ps.length k0) ps) (hu : w.cell? ⟨u, 0, none⟩ = some (.int .i64 y)) (hlt : u < w.heap.size) :
    Calls Tryz.prog 149 #[.slice A0 ps.length k0, .func (.func 150) #[] #[.pointer (some ⟨u, 0, none⟩)]] w fun e w' => e = .returned (.bool (decide (∃ p ∈ ps, p.a = y))) ∧ Adv Nul w Nul w' := by
  have HC := Lib.hid (indexfn_any A0 k0 u y ps G w h hu hlt)
  obtain ⟨B, hB⟩ : ∃ B, B = decide (∃ p ∈ ps, p.a = y) := ⟨_, rfl⟩
  rw [← hB]
  have HB := Lib.hid hB
  clear h hu hlt hB
  go_enter Tryz.func149, Tryz.ntmps149
  go_wp2_with fail
  refine HC.out.mono ?_
  rintro e w1 ⟨r, rfl, hr, hr1, a1⟩
  have HR := Lib.hid hr
  have HA := Lib.hid a1
  clear hr a1
  by_cases h0 : 0 ≤ r
  · obtain rfl : B = true := by rw [HB.out]; exact decide_eq_true (HR.out.mp h0)
    go_wp2_with fail
    go_ret
    exact ⟨rfl, HA.out⟩
  · obtain rfl : B = false := by rw [HB.out]; exact decide_eq_false (fun k => h0 (HR.out.mpr k))
    go_wp2_with fail
    go_ret
    exact ⟨by simp [h0], HA.out⟩
end Go.Proofs.YtcglfknkkeaegaaGreatDoor
namespace Go.Proofs.YtcglfknkkeaegaaGreatDoor
open Go.RowKit

def txAt (ps : List Pt) (H : Int) (i : Nat) (hi : i < ps.length) : Prop := (0 ≤ ps[i].a ∧ ps[i].a < H) ∧ ps[i].d.length = 128 ∧ ∀ k (hk : k < i), ps[k].a ≠ ps[i].a
def TxL (w : World) (N : Nat) (ps : List Pt) (H : Int) (t : Value) (wr : World) : Prop := ∃ k : Nat, k ≤ N ∧ t = .int .i64 (k : Int) ∧ (∀ i (h : i < ps.length), i < k → txAt ps H i h) ∧ Adv Nul w Nul wr
def TxR (w : World) (B : Bool) (e : Ending) (w' : World) : Prop := e = .returned (.bool B) ∧ Adv Nul w Nul w'
theorem take_ex {ps : List Pt} {k : Nat} {x : Int} (hk : k ≤ ps.length) : (∃ p ∈ ps.take k, p.a = x) ↔ ∃ (i : Nat) (h : i < k), (ps[i]'(by omega)).a = x := by
  constructor
  · rintro ⟨p, hp, rfl⟩
    obtain ⟨i, hi, rfl⟩ := List.getElem_of_mem hp
    have hi' : i < k := by rw [List.length_take] at hi; omega
    exact ⟨i, hi', by rw [List.getElem_take]⟩
  · rintro ⟨i, h, rfl⟩
    have hi : i < (ps.take k).length := by rw [List.length_take]; omega
    exact ⟨(ps.take k)[i], List.getElem_mem hi, by rw [List.getElem_take]⟩
theorem put2 {w : World} {z : Nat} {t : TypeId} {u v : Value} (h : Blk w z t #[u, v]) : w.cell? ⟨z, 0, none⟩ = some u ∧ w.cell? ⟨z, 1, none⟩ = some v := ⟨h.cell 0, h.cell 1⟩

set_option maxRecDepth 3000 in
set_option maxHeartbeats 6400000 in
theorem istx_any (A0 : Option Addr) (N k0 : Nat) (ps : List Pt) (H : Int) (G : Nat → Prop) (w : World) (h : QRd w G (.slice A0 N k0) ps) :
    Calls Tryz.prog 112 #[.slice A0 N k0, .int .i64 H] w (TxR w (decide (isTx ps H))) := by
  have hN := h.len.1
  have hmx : N ≤ maxLen := by have := h.len; omega
  have hkm : N ≤ k0 := h.len.2.1
  have hkx : k0 ≤ maxLen := h.len.2.2
  have hNI : (N : Int) ≤ 9223372036854775807 := by unfold maxLen at hmx; omega
  have hkI : (k0 : Int) ≤ 9223372036854775807 := by unfold maxLen at hkx; omega
  have hkN : (N : Int) ≤ (k0 : Int) := by omega
  obtain ⟨B, hB⟩ : ∃ B, B = decide (isTx ps H) := ⟨_, rfl⟩
  rw [← hB]
  have HB := Lib.hid hB
  have HP := Lib.hid h
  have HN := Lib.hid hN
  clear h hN hB hmx hkm hkx
  have hno : ¬ isTx ps H → B = false := fun k => by rw [HB.out]; exact decide_eq_false k
  have HNO := Lib.hid hno
  clear hno
  by_cases h1 : (N : Int) < 1
  · obtain rfl : B = false := HNO.out (fun k => by have := k.1.1; have := HN.out; omega)
    go_enter Tryz.func112, Tryz.ntmps112
    go_wp2_with fail
    go_ret
    exact ⟨rfl, Adv.refl _ _⟩
  · have h1' : 1 ≤ (N : Int) := by omega
    clear h1
    by_cases h2 : 24 < (N : Int)
    · obtain rfl : B = false := HNO.out (fun k => by have := k.1.2; have := HN.out; omega)
      go_enter Tryz.func112, Tryz.ntmps112
      go_wp2_with fail
      go_ret
      exact ⟨rfl, Adv.refl _ _⟩
    · have h2' : (N : Int) ≤ 24 := by omega
      clear h2
      have HLN := Lib.hid (show 1 ≤ ps.length ∧ ps.length ≤ 24 by have := HN.out; omega)
      go_enter Tryz.func112, Tryz.ntmps112
      go_wp2_with fail
      go_loopw [17] (TxL w N ps H) (fun t _ => N - (intOf t).toNat)
      case atStart => exact ⟨0, Nat.zero_le _, rfl, fun i _ hi => absurd hi (Nat.not_lt_zero _), Adv.refl _ _⟩
      case round =>
        obtain ⟨k, hk, rfl, hpre, ha⟩ := hrel
        have HPRE := Lib.hid hpre
        have HA := Lib.hid ha
        by_cases hlt : k < N
        · have hki : (k : Int) < (N : Int) := by omega
          have hkp : k < ps.length := by rw [← HN.out]; exact hlt
          obtain ⟨b, o, a, q, rfl, -, ⟨c0, c1⟩, -, -⟩ := (HP.out.step ha).row hkp
          obtain ⟨x, hx⟩ : ∃ x, x = ps[k].a := ⟨_, rfl⟩
          rw [← hx] at c0
          obtain ⟨m, hm⟩ : ∃ m, m = ps[k].d.length := ⟨_, rfl⟩
          rw [← hm] at c1
          obtain ⟨V, hV⟩ : ∃ V, V = wr.alloc (.cells #[.int .i64 x, .slice a m q] 133) := ⟨_, rfl⟩
          obtain ⟨z, hz⟩ : ∃ z, z = wr.heap.size := ⟨_, rfl⟩
          have HZB := Lib.hid (show Blk V z 133 #[.int .i64 x, .slice a m q] by rw [hV, hz]; exact Blk.new _ _ _)
          have HAV := Lib.hid (show Adv Nul w Nul V by rw [hV]; exact ha.alloc _)
          have HX := Lib.hid hx
          have HM := Lib.hid hm
          have HV := Lib.hid hV
          have HZ := Lib.hid hz
          have HLT := Lib.hid hlt
          have hk0 : (0 : Int) ≤ (k : Int) := by omega
          have hkk : (k : Int) ≤ (k0 : Int) := by omega
          have hq : QRd V G (.slice (some ⟨b, o, none⟩) k k0) (ps.take k) := (HP.out.step HAV.out).take k (by omega)
          obtain ⟨C, hC⟩ : ∃ C, C = decide (∃ p ∈ ps.take k, p.a = x) := ⟨_, rfl⟩
          have hcall : Calls Tryz.prog 149 #[.slice (some ⟨b, o, none⟩) k k0, .func (.func 150) #[] #[.pointer (some ⟨z, 0, none⟩)]] V fun e w' => e = .returned (.bool C) ∧ Adv Nul V Nul w' := by
            have e : (ps.take k).length = k := by rw [List.length_take]; omega
            have hq' : QRd V G (.slice (some ⟨b, o, none⟩) (ps.take k).length k0) (ps.take k) := by rw [e]; exact hq
            have := containsfn_any (some ⟨b, o, none⟩) k0 z x (ps.take k) G V hq' (HZB.out.cell 0) HZB.out.lt
            rw [e] at this
            rw [hC]
            exact this
          have HCALL := Lib.hid hcall
          have HC := Lib.hid hC
          have HKP := Lib.hid hkp
          clear hpre ha hx hm hV hz hlt hk hq hcall hC
          go_upto_region 6 with (fail)
          rw [← HV.out, ← HZ.out]
          clear c0 c1
          obtain ⟨z0, z1⟩ := put2 HZB.out
          have hbad : ¬ txAt ps H k HKP.out → B = false := fun h => HNO.out (fun t => h (t.2 k HKP.out))
          have HBAD := Lib.hid hbad
          clear hbad
          by_cases hx0 : x < 0
          · obtain rfl : B = false := HBAD.out (fun t => by have := t.1.1; rw [← HX.out] at this; omega)
            go_wp2_with fail
            go_ret
            exact ⟨rfl, HAV.out⟩
          · have hx0' : 0 ≤ x := by omega
            clear hx0
            by_cases hxH : H ≤ x
            · obtain rfl : B = false := HBAD.out (fun t => by have := t.1.2; rw [← HX.out] at this; omega)
              go_wp2_with fail
              go_ret
              exact ⟨rfl, HAV.out⟩
            · have hxH' : x < H := by omega
              clear hxH
              by_cases hm : m = 128
              · subst hm
                go_wp2_with fail
                refine HCALL.out.mono ?_
                rintro e w8 ⟨rfl, a8⟩
                have HA8 := Lib.hid (HAV.out.trans a8)
                clear a8
                cases C with
                | true =>
                  obtain rfl : B = false := HBAD.out (fun t => by
                    obtain ⟨i, hi, he⟩ := (take_ex (Nat.le_of_lt HKP.out)).mp (of_decide_eq_true HC.out.symm)
                    exact t.2.2 i hi (by rw [he, HX.out]))
                  go_wp2_with fail
                  go_ret
                  exact ⟨rfl, HA8.out⟩
                | false =>
                  have HG := Lib.hid (show txAt ps H k HKP.out from ⟨⟨by rw [← HX.out]; exact hx0', by rw [← HX.out]; exact hxH'⟩, HM.out.symm, fun i hi he =>
                    of_decide_eq_false HC.out.symm ((take_ex (Nat.le_of_lt HKP.out)).mpr ⟨i, hi, by rw [he, HX.out]⟩)⟩)
                  go_wp2_with fail
                  have hlt := HLT.out
                  refine ⟨⟨k + 1, by omega, by go_num, fun i h hi => ?_, HA8.out⟩, by simp [intOf]; omega⟩
                  by_cases e : i = k
                  · subst e; exact HG.out
                  · exact HPRE.out i h (by omega)
              · obtain rfl : B = false := HBAD.out (fun t => hm (by rw [HM.out]; exact t.2.1))
                have hmI : ((m : Int) != 128) = true := by rw [bne_iff_ne]; omega
                have hmJ : ((m : Int) == 128) = false := by rw [beq_eq_false_iff_ne]; omega
                clear hm
                go_wp2_with fail
                go_ret
                exact ⟨rfl, HAV.out⟩
        · obtain rfl : k = N := by omega
          obtain rfl : B = true := by rw [HB.out]; exact decide_eq_true ⟨HLN.out, fun i hi => HPRE.out i hi (by have := HN.out; omega)⟩
          clear hpre ha hlt hk
          go_wp2_with fail
          go_ret
          exact ⟨rfl, HA.out⟩
end Go.Proofs.YtcglfknkkeaegaaGreatDoor
namespace Go.Proofs.YtcglfknkkeaegaaGreatDoor
open Go.RowKit

theorem infoPiece : (Tryz.prog.info? 177).map (fun i => (i.zero, i.size, i.bytes)) = some (some (.agg #[.int .u64 0, .int .u64 0, .bool false, .bool false, .slice none 0 0]), 5, 48) := by kernel_rfl
theorem made_pieces (n : Nat) (hn : n ≤ 100) (w : World) : (Instr.makeSlice 173 (.int .i64 (n : Int)) (.int .i64 (n : Int))).run Tryz.prog w = .ok (.slice (some ⟨w.heap.size, 0, none⟩) n n) (w.alloc (.cells (madeCells #[.int .u64 0, .int .u64 0, .bool false, .bool false, .slice none 0 0] (n * 5)) 177)) := by
  obtain ⟨ie, hie, hz, hs, hb⟩ := info_parts infoPiece
  have h := run_make (P := Tryz.prog) w 173 177 ie _ Tryz.underlying173 hie hz .i64 .i64 n n (by omega) (Int.le_refl _) (by rw [hb]; omega) (by omega)
  simpa [hs, Value.cells] using h

/-- pieces while they are laid -/
structure CutI (W : World) (z n : Nat) (P : Nat → Pc) (k : Nat) (w : World) : Prop where
  blk : ∃ C, Blk w z 177 C ∧ C.size = n * 5
  at_ : ∀ i, i < k → ∃ a q, w.cell? ⟨z, i * 5 + 0, none⟩ = some (.int .u64 ((P i).e : Int)) ∧ w.cell? ⟨z, i * 5 + 1, none⟩ = some (.int .u64 ((P i).c : Int)) ∧ w.cell? ⟨z, i * 5 + 2, none⟩ = some (.bool (P i).f) ∧ w.cell? ⟨z, i * 5 + 3, none⟩ = some (.bool (P i).g) ∧
    w.cell? ⟨z, i * 5 + 4, none⟩ = some (.slice a (P i).d.length q) ∧ Rd w 1 (.slice a (P i).d.length q) (P i).d.length ((P i).d.map u8) ∧ ∀ g, (Value.slice a (P i).d.length q).ownBlock = some g → 0 < (P i).d.length → g ≠ z ∧ W.heap.size ≤ g
  adv : Adv Nul W (fun j => j = z) w
  hz : W.heap.size ≤ z
section
variable {W w w' : World} {z n k : Nat} {P : Nat → Pc}
theorem CutI.step {F' : Nat → Prop} (h : CutI W z n P k w) (ha : Adv Nul w F' w') : CutI W z n P k w' := by
  obtain ⟨C, hB, hC⟩ := h.blk
  have hk := ha.block z hB.lt (fun h => h)
  refine ⟨⟨C, hB.keep hk, hC⟩, fun i hi => ?_, h.adv.over ha, h.hz⟩
  obtain ⟨a, q, c0, c1, c2, c3, c4, hr, hz⟩ := h.at_ i hi
  have e : ∀ j, w'.cell? ⟨z, j, none⟩ = w.cell? ⟨z, j, none⟩ := fun j => World.cell?_of_block hk
  exact ⟨a, q, by rw [e]; exact c0, by rw [e]; exact c1, by rw [e]; exact c2, by rw [e]; exact c3, by rw [e]; exact c4, hr.far (fun _ _ _ h => ha.block _ h (fun h => h)) ha.size, hz⟩
theorem CutI.there (h : CutI W z n P k w) (hk : k < n) : w.there z (k * 5) 5 := fun j hj => by
  obtain ⟨C, hB, hC⟩ := h.blk
  have h1 := hB.there (k * 5 + j) (by omega)
  rw [Nat.zero_add] at h1
  exact h1
theorem CutI.put (h : CutI W z n P k w) (hk : k < n) {e d q : Nat} {cI : Int} {f g : Bool} {a : Option Addr} (e0 : e = (P k).e) (e1 : cI = ((P k).c : Int)) (e2 : f = (P k).f) (e3 : g = (P k).g) (e4 : d = (P k).d.length)
    (hr : Rd w 1 (.slice a d q) d ((P k).d.map u8)) (hne : ∀ b, (Value.slice a d q).ownBlock = some b → 0 < d → b ≠ z ∧ W.heap.size ≤ b) : CutI W z n P (k + 1) (w.setCells z (k * 5) (pc5 (e : Int) cI f g (.slice a d q)).toList) := by
  subst e0 e1 e2 e3 e4
  obtain ⟨D, hD⟩ : ∃ D, D = (pc5 ((P k).e : Int) ((P k).c : Int) (P k).f (P k).g (.slice a (P k).d.length q)).toList := ⟨_, rfl⟩
  have hDl : D.length = 5 := by rw [hD]; rfl
  rw [← hD]
  obtain ⟨C, hB, hC⟩ := h.blk
  obtain ⟨C', hB', hC'⟩ := Blk.lsetCells D (k * 5) w C hB
  have hrd : ∀ {a : Option Addr} {d q : Nat} {l : List Nat}, Rd w 1 (.slice a d q) d (l.map u8) → (∀ b, (Value.slice a d q).ownBlock = some b → 0 < d → b ≠ z ∧ W.heap.size ≤ b) → Rd (w.setCells z (k * 5) D) 1 (.slice a d q) d (l.map u8) := fun hr hz =>
    hr.far (fun b hb hn _ => lsetCells_heap z (hz b hb hn).1 D (k * 5) w) (Adv.lsetCells D (k * 5) _ (Adv.refl (fun k => k = z) w) (.inl rfl)).size
  refine ⟨⟨C', hB', by omega⟩, fun i hi => ?_, Adv.lsetCells D (k * 5) _ h.adv (.inr h.hz), h.hz⟩
  by_cases hik : i < k
  · obtain ⟨a, q, c0, c1, c2, c3, c4, hr, hz⟩ := h.at_ i hik
    have e : ∀ j, j < 5 → (w.setCells z (k * 5) D).cell? ⟨z, i * 5 + j, none⟩ = w.cell? ⟨z, i * 5 + j, none⟩ := fun j hj => World.cell?_setCells_out z D (k * 5) w _ (fun _ _ => .inl (by show i * 5 + j < k * 5; omega))
    exact ⟨a, q, by rw [e _ (by decide)]; exact c0, by rw [e _ (by decide)]; exact c1, by rw [e _ (by decide)]; exact c2, by rw [e _ (by decide)]; exact c3, by rw [e _ (by decide)]; exact c4, hrd hr hz, hz⟩
  · obtain rfl : i = k := by omega
    have e : ∀ j (hj : j < D.length), (w.setCells z (i * 5) D).cell? ⟨z, i * 5 + j, none⟩ = some D[j] := fun j hj => World.cell?_setCells_in z D (i * 5) w (fun j hj => (h.there hk j (by omega)).1) j hj
    subst hD
    exact ⟨a, q, e 0 (by simp [pc5]), e 1 (by simp [pc5]), e 2 (by simp [pc5]), e 3 (by simp [pc5]), e 4 (by simp [pc5]), hrd hr hne, hne⟩
theorem CutI.prd (h : CutI W z n P n w) (hn : n ≤ 100) : PRd w (.slice (some ⟨z, 0, none⟩) n n) ((List.range n).map P) := by
  obtain ⟨C, hB, hC⟩ := h.blk
  refine ⟨_, n, by simp, by simp, by unfold maxLen; omega, fun hp => ⟨z, 0, rfl, hB.lt, fun i hi => ?_⟩⟩
  have hi' : i < n := by simpa using hi
  obtain ⟨a, q, c0, c1, c2, c3, c4, hr, _⟩ := h.at_ i hi'
  have e : ((List.range n).map P)[i]'hi = P i := by simp
  rw [e]
  simp only [Nat.zero_add]
  exact ⟨a, q, c0, c1, c2, c3, c4, hr⟩
end
/-- .. in none of the blocks of G -/
def PRdG (w : World) (G : Nat → Prop) (v : Value) (ps : List Pc) : Prop :=
  ∃ A k, v = .slice A ps.length k ∧ ps.length ≤ k ∧ k ≤ maxLen ∧ (0 < ps.length → ∃ b o, A = some ⟨b, o, none⟩ ∧ (b < w.heap.size ∧ ¬ G b) ∧ ∀ i (h : i < ps.length), ∃ a q,
    w.cell? ⟨b, o + (i * 5 + 0), none⟩ = some (.int .u64 (ps[i].e : Int)) ∧ w.cell? ⟨b, o + (i * 5 + 1), none⟩ = some (.int .u64 (ps[i].c : Int)) ∧ w.cell? ⟨b, o + (i * 5 + 2), none⟩ = some (.bool ps[i].f) ∧ w.cell? ⟨b, o + (i * 5 + 3), none⟩ = some (.bool ps[i].g) ∧
    w.cell? ⟨b, o + (i * 5 + 4), none⟩ = some (.slice a ps[i].d.length q) ∧ Rd w 1 (.slice a ps[i].d.length q) ps[i].d.length (ps[i].d.map u8) ∧ ∀ g, (Value.slice a ps[i].d.length q).ownBlock = some g → 0 < ps[i].d.length → ¬ G g)
theorem PRdG.nil (w : World) (G : Nat → Prop) : PRdG w G (.slice none 0 0) [] := ⟨none, 0, rfl, Nat.le_refl _, Nat.zero_le _, fun h => absurd h (by decide)⟩
theorem PRdG.prd {w : World} {G : Nat → Prop} {v : Value} {ps : List Pc} (h : PRdG w G v ps) : PRd w v ps := by
  obtain ⟨A, k, rfl, h1, h2, h3⟩ := h
  refine ⟨A, k, rfl, h1, h2, fun hn => ?_⟩
  obtain ⟨b, o, rfl, hb, hc⟩ := h3 hn
  refine ⟨b, o, rfl, hb.1, fun i hi => ?_⟩
  obtain ⟨a, q, c0, c1, c2, c3, c4, hr, _⟩ := hc i hi
  exact ⟨a, q, c0, c1, c2, c3, c4, hr⟩
theorem CutI.prdg {W w : World} {z n : Nat} {P : Nat → Pc} {G : Nat → Prop} (h : CutI W z n P n w) (hn : n ≤ 100) (hG : Bd G W) : PRdG w G (.slice (some ⟨z, 0, none⟩) n n) ((List.range n).map P) := by
  obtain ⟨C, hB, hC⟩ := h.blk
  refine ⟨_, n, by simp, by simp, by unfold maxLen; omega, fun hp => ⟨z, 0, rfl, ⟨hB.lt, fun x => by have := hG z x; have := h.hz; omega⟩, fun i hi => ?_⟩⟩
  have hi' : i < n := by simpa using hi
  obtain ⟨a, q, c0, c1, c2, c3, c4, hr, hs⟩ := h.at_ i hi'
  have e : ((List.range n).map P)[i]'hi = P i := by simp
  rw [e]
  simp only [Nat.zero_add]
  exact ⟨a, q, c0, c1, c2, c3, c4, hr, fun g hg hn x => by have := hG g x; have := (hs g hg hn).2; omega⟩
def CutN (w : World) (e c : Nat) (l : List Nat) (x : Ending) (w' : World) : Prop := ∃ A n k, x = .returned (.tuple #[.slice A n k, .int .i64 (cutE e c l.length)]) ∧ (∀ G, Bd G w → PRdG w' G (.slice A n k) (cutV e c l)) ∧ Adv Nul w Nul w'
def CutR (w : World) (e c : Nat) (l : List Nat) (x : Ending) (w' : World) : Prop := ∃ A n k, x = .returned (.tuple #[.slice A n k, .int .i64 (cutE e c l.length)]) ∧ PRd w' (.slice A n k) (cutV e c l) ∧ Adv Nul w Nul w'
theorem CutN.cut {w w' : World} {e c : Nat} {l : List Nat} {x : Ending} (h : CutN w e c l x w') : CutR w e c l x w' := by
  obtain ⟨A, n, k, h1, h2, h3⟩ := h
  exact ⟨A, n, k, h1, (h2 Nul (fun _ x => x.elim)).prd, h3⟩
theorem CutN.none {w w' : World} {e c : Nat} {l : List Nat} {E : Int} (hE : cutE e c l.length = E) (h0 : E ≠ 0) (ha : Adv Nul w Nul w') : CutN w e c l (.returned (.tuple #[.slice none 0 0, .int .i64 E])) w' := by
  refine ⟨_, _, _, by rw [hE], fun G _ => ?_, ha⟩
  rw [cutV, if_neg (by rw [hE]; exact h0)]
  exact PRdG.nil _ _

set_option maxRecDepth 3000 in
theorem pcut_no (e c : Nat) (v : Value) (l : List Nat) (w : World) (hv : Rd w 1 v l.length (l.map u8)) (hl : l.length ≤ 100000) (h0 : cutE e c l.length ≠ 0) :
    Calls Tryz.prog 146 #[.int .u64 (e : Int), .int .u64 (c : Int), v] w (CutN w e c l) := by
  obtain ⟨A, q, rfl, _, _⟩ := hv.form
  obtain ⟨m, hm⟩ : ∃ m, m = l.length := ⟨_, rfl⟩
  rw [← hm] at hl h0 ⊢
  by_cases hst : e ≤ 16777215 ∧ c ≤ 1099511627775
  · have hcI : (c : Int) ≤ 1099511627775 := by omega
    have hmI : (m : Int) ≤ 100000 := by omega
    obtain ⟨n, hn⟩ : ∃ n, n = needN m := ⟨_, rfl⟩
    have hn1 : 1 ≤ n := by rw [hn]; exact needN_pos m
    have hn2 : n ≤ 10000 := by rw [hn]; unfold needN; omega
    have hn1I : (1 : Int) ≤ (n : Int) := by omega
    have hn2I : (n : Int) ≤ 10000 := by omega
    have HST := Lib.hid hst
    have HM := Lib.hid (show m ≤ 1000000000 by omega)
    have HN := Lib.hid hn
    by_cases hov : n - 1 ≤ 1099511627775 - c
    · have h5 : ¬ m ≤ 8192 := fun h => h0 (by rw [cutE, if_pos ⟨hst.1, hst.2, by rw [← hn]; exact hov⟩, if_pos h])
      have hm8 : (8192 : Int) < (m : Int) := by omega
      have hE : cutE e c m = 5 := by rw [cutE, if_pos ⟨hst.1, hst.2, by rw [← hn]; exact hov⟩, if_neg h5]
      have hovI : (n : Int) - 1 ≤ 1099511627775 - (c : Int) := by omega
      have HE := Lib.hid hE
      have HML := Lib.hid hm
      clear hst hov h5 hE hm h0 hn hl hn1 hn2 hv
      go_enter Tryz.func146, Tryz.ntmps146
      go_wp2_with (first
        | (go_at_call 175; refine (stampok e c HST.out.1 HST.out.2 _).mono ?_; rintro x w1 ⟨rfl, rfl⟩)
        | (go_at_call 176; refine (need_any m _ HM.out).mono ?_; rintro x w1 ⟨rfl, rfl⟩; rw [← HN.out])
        | fail)
      go_ret2
      exact CutN.none (by rw [← HML.out]; exact HE.out) (by decide) (Adv.refl _ _)
    · have hE : cutE e c m = 2 := by rw [cutE, if_neg (fun h => hov (by rw [hn]; exact h.2.2))]
      have hovI : 1099511627775 - (c : Int) < (n : Int) - 1 := by omega
      have HE := Lib.hid hE
      have HML := Lib.hid hm
      clear hst hov hE hm h0 hn hl hn1 hn2 hv
      go_enter Tryz.func146, Tryz.ntmps146
      go_wp2_with (first
        | (go_at_call 175; refine (stampok e c HST.out.1 HST.out.2 _).mono ?_; rintro x w1 ⟨rfl, rfl⟩)
        | (go_at_call 176; refine (need_any m _ HM.out).mono ?_; rintro x w1 ⟨rfl, rfl⟩; rw [← HN.out])
        | fail)
      go_ret2
      exact CutN.none (by rw [← HML.out]; exact HE.out) (by decide) (Adv.refl _ _)
  · have hE : cutE e c m = 2 := by rw [cutE, if_neg (fun h => hst ⟨h.1, h.2.1⟩)]
    have HE := Lib.hid hE
    have HML := Lib.hid hm
    have HST := Lib.hid hst
    clear hst hE hm h0 hl hv
    go_enter Tryz.func146, Tryz.ntmps146
    go_wp2_with (first
      | (go_at_call 175; refine (stampno e c HST.out _).mono ?_; rintro x w1 ⟨rfl, rfl⟩)
      | fail)
    go_ret2
    exact CutN.none (by rw [← HML.out]; exact HE.out) (by decide) (Adv.refl _ _)
end Go.Proofs.YtcglfknkkeaegaaGreatDoor
namespace Go.Proofs.YtcglfknkkeaegaaGreatDoor
open Go.RowKit

def CutRel (W : World) (z n : Nat) (P : Nat → Pc) (t : Value) (wr : World) : Prop := ∃ k : Nat, k ≤ n ∧ t = .int .i64 (k : Int) ∧ CutI W z n P k wr
/-- the bytes of a piece: a front of what is left -/
theorem part_len {l : List Nat} {k : Nat} : ((l.drop (k * 106)).take 106).length = min 106 (l.length - k * 106) := by simp
theorem there5 {w : World} {z o : Nat} (h : w.there z o 5) : ∃ u0 u1 u2 u3 u4, w.cell? ⟨z, o, none⟩ = some u0 ∧ w.cell? ⟨z, o + 1, none⟩ = some u1 ∧ w.cell? ⟨z, o + 2, none⟩ = some u2 ∧ w.cell? ⟨z, o + 3, none⟩ = some u3 ∧ w.cell? ⟨z, o + 4, none⟩ = some u4 ∧
    w.frozen? ⟨z, o, none⟩ = false ∧ w.frozen? ⟨z, o + 1, none⟩ = false ∧ w.frozen? ⟨z, o + 2, none⟩ = false ∧ w.frozen? ⟨z, o + 3, none⟩ = false ∧ w.frozen? ⟨z, o + 4, none⟩ = false := by
  obtain ⟨a0, b0⟩ := h 0 (by decide)
  obtain ⟨a1, b1⟩ := h 1 (by decide)
  obtain ⟨a2, b2⟩ := h 2 (by decide)
  obtain ⟨a3, b3⟩ := h 3 (by decide)
  obtain ⟨a4, b4⟩ := h 4 (by decide)
  obtain ⟨u0, c0⟩ := Option.isSome_iff_exists.1 a0
  obtain ⟨u1, c1⟩ := Option.isSome_iff_exists.1 a1
  obtain ⟨u2, c2⟩ := Option.isSome_iff_exists.1 a2
  obtain ⟨u3, c3⟩ := Option.isSome_iff_exists.1 a3
  obtain ⟨u4, c4⟩ := Option.isSome_iff_exists.1 a4
  exact ⟨u0, u1, u2, u3, u4, c0, c1, c2, c3, c4, b0, b1, b2, b3, b4⟩
theorem cut_close {W w : World} {z n m e c : Nat} {l : List Nat} (hml : m = l.length) (hn : n = needN m) (hE : cutE e c m = 0) (hn100 : n ≤ 100) (h : CutI W z n (pieceAt e c l) n w) :
    CutN W e c l (.returned (.tuple #[.slice (some ⟨z, 0, none⟩) n n, .int .i64 0])) w := by
  subst hml
  refine ⟨_, n, n, by rw [hE], fun G hG => ?_, h.adv.sub (fun _ h => h.elim)⟩
  have h1 := h.prdg hn100 hG
  rw [cutV, if_pos hE, cutP, ← hn]
  exact h1

theorem cut_c (e c : Nat) (l : List Nat) (k : Nat) : (c : Int) + (k : Int) = ((pieceAt e c l k).c : Int) := by show _ = ((c + k : Nat) : Int); omega
theorem cut_new {W w wc : World} {z n k : Nat} {P : Nat → Pc} {Fc : Nat → Prop} {e : TypeId} {size d : Nat} {v : Value} {xs : List Value} (h : CutI W z n P k w) (hc : Sl wc Fc e size v d xs) (ac : Adv Nul w Fc wc) : ∀ b, v.ownBlock = some b → 0 < d → b ≠ z ∧ W.heap.size ≤ b := fun b hb _ => by
  obtain ⟨C, hB, _⟩ := h.blk
  have := hB.lt
  have h2 := h.adv.size
  rcases ac.into b (hc.inF b hb) with h1 | h1
  · exact h1.elim
  · exact ⟨fun e => by omega, by omega⟩

set_option maxRecDepth 3000 in
set_option maxHeartbeats 3200000 in
theorem pcut_ok (e c : Nat) (v : Value) (l : List Nat) (w : World) (hv : Rd w 1 v l.length (l.map u8)) (h0 : cutE e c l.length = 0) :
    Calls Tryz.prog 146 #[.int .u64 (e : Int), .int .u64 (c : Int), v] w (CutN w e c l) := by
  obtain ⟨A, q, rfl, hmq, hqm⟩ := hv.form
  obtain ⟨m, hm⟩ : ∃ m, m = l.length := ⟨_, rfl⟩
  have hcc : e ≤ 16777215 ∧ c ≤ 1099511627775 ∧ needN l.length - 1 ≤ 1099511627775 - c ∧ l.length ≤ 8192 := by
    unfold cutE at h0
    split at h0
    · rename_i h
      split at h0
      · rename_i h'; exact ⟨h.1, h.2.1, h.2.2, h'⟩
      · simp at h0
    · simp at h0
  rw [← hm] at hcc h0 hv hmq ⊢
  obtain ⟨n, hn⟩ : ∃ n, n = needN m := ⟨_, rfl⟩
  rw [← hn] at hcc
  obtain ⟨he, hc, hov, hm8⟩ := hcc
  have hn1 : 1 ≤ n := by rw [hn]; exact needN_pos m
  have hn2 : n ≤ 78 := by rw [hn]; exact needN_le (by decide) (by omega)
  have hnm : m ≤ n * 106 := by rw [hn]; exact needN_ge m
  have hnl : m = 0 → n = 1 := fun h => by rw [hn, h]; rfl
  have hnl2 : 0 < m → (n - 1) * 106 < m := fun h => by rw [hn]; unfold needN; omega
  have hcI : (c : Int) ≤ 1099511627775 := by omega
  have hmI : (m : Int) ≤ 8192 := by omega
  have hn1I : (1 : Int) ≤ (n : Int) := by omega
  have hn2I : (n : Int) ≤ 78 := by omega
  have hovI : (n : Int) - 1 ≤ 1099511627775 - (c : Int) := by omega
  have hmk := made_pieces n (by omega)
  have HST := Lib.hid (And.intro he hc)
  have HM := Lib.hid (show m ≤ 1000000000 by omega)
  have HN := Lib.hid hn
  have HML := Lib.hid hm
  have HV := Lib.hid hv
  have HN1 := Lib.hid hn1
  have HN2 := Lib.hid hn2
  have HNM := Lib.hid hnm
  have HNL := Lib.hid hnl
  have HNL2 := Lib.hid hnl2
  have HOV := Lib.hid hov
  have HE0 := Lib.hid h0
  have HMQ := Lib.hid hmq
  have HQM := Lib.hid hqm
  clear he hc hm hn hv hn1 hn2 hnm hnl hnl2 hov h0 hm8 hmq hqm
  go_enter Tryz.func146, Tryz.ntmps146
  go_wp2_with fail
  refine (stampok e c HST.out.1 HST.out.2 _).mono ?_
  rintro x w1 ⟨rfl, rfl⟩
  go_wp2_with fail
  refine (need_any m _ HM.out).mono ?_
  rintro x w1 ⟨rfl, rfl⟩
  rw [← HN.out]
  go_wp2_with fail
  obtain ⟨z, hz⟩ : ∃ z, z = w.heap.size := ⟨_, rfl⟩
  rw [← hz]
  have hst : CutI w z n (pieceAt e c l) 0 (w.alloc (.cells (madeCells #[.int .u64 0, .int .u64 0, .bool false, .bool false, .slice none 0 0] (n * 5)) 177)) :=
    ⟨⟨_, by rw [hz]; exact Blk.new _ _ _, size_madeCells _ _⟩, fun i hi => absurd hi (by omega), ⟨rfl, rfl, rfl, by simp, fun k hk _ => Below.heap_alloc _ _ _ hk, fun k hk => .inr (by omega)⟩, by omega⟩
  have HSTART := Lib.hid hst
  have HZ := Lib.hid hz
  clear hst hz hmk
  go_loopw [39] (CutRel w z n (pieceAt e c l)) (fun t _ => n - (intOf t).toNat)
  case atStart => exact ⟨0, Nat.zero_le _, rfl, HSTART.out⟩
  case round =>
    obtain ⟨k, hk, rfl, hI⟩ := hrel
    by_cases hlt : k < n
    · have hki : (k : Int) < (n : Int) := by omega
      have hth := hI.there hlt
      have hck : c + k ≤ 1099511627775 := by have := HOV.out; have := HN1.out; omega
      have hckI : (c : Int) + (k : Int) ≤ 1099511627775 := by omega
      have hk78 : (k : Int) ≤ 78 := by omega
      have hzold : ∀ b, (Value.slice A m q).ownBlock = some b → 0 < m → b < w.heap.size := fun b hb hm => by
        obtain ⟨b', o', q', e', hb', _, _⟩ := HV.out.adr hm
        injection e' with e1 _ _
        subst e1
        simp [Value.ownBlock] at hb
        omega
      have hrd := HV.out.far (fun b hb hm hl => hI.adv.block b hl (fun h => h)) hI.adv.size
      have HI := Lib.hid hI
      have HTH := Lib.hid hth
      have HRD := Lib.hid hrd
      have HLT := Lib.hid hlt
      have HCK := Lib.hid hck
      clear hI hth hck hrd hzold hk
      by_cases hm0 : m = 0
      · obtain rfl : n = 1 := HNL.out hm0
        obtain rfl : k = 0 := by omega
        have hl0 : l = [] := List.eq_nil_of_length_eq_zero (by rw [← HML.out]; exact hm0)
        cases A with
        | none =>
          have HR := Lib.hid (show Rd wr 1 (.slice none 0 q) 0 (([] : List Nat).map u8) by rw [← hl0, ← hm0]; exact HRD.out)
          have HP1 := Lib.hid (show true = (pieceAt e c l 0).f from rfl)
          have HP2 := Lib.hid (show true = (pieceAt e c l 0).g by show true = (0 == needN l.length - 1); rw [hl0]; rfl)
          have HP3 := Lib.hid (show ([] : List Nat) = (pieceAt e c l 0).d by show [] = (l.drop 0).take 106; rw [hl0]; rfl)
          subst hm0
          clear hl0
          go_wp2_with (first
            | (go_at_call 170; refine (lclone_any _ 0 _ _ HR.out (u8_one _) (by decide)).mono ?_; rintro x wc ⟨vc, Fc, rfl, hc, ac⟩; obtain ⟨Ac, cc, rfl, _, _⟩ := hc.form0; have hI' := HI.out.step ac; obtain ⟨u0, u1, u2, u3, u4, t0, t1, t2, t3, t4, r0, r1, r2, r3, r4⟩ := there5 (hI'.there (by decide)); have HPUT := Lib.hid (hI'.put (e := e) (cI := (c : Int)) (f := true) (g := true) (by decide) rfl rfl HP1.out HP2.out (by rw [← HP3.out]; rfl) (by rw [← HP3.out]; exact hc.rd) (cut_new HI.out hc ac)); clear hc ac hI'; simp only [Nat.zero_mul, Nat.zero_add] at t0 t1 t2 t3 t4 r0 r1 r2 r3 r4)
            | fail)
          refine ⟨?_, by simp [intOf]⟩
          repeat apply Exists.intro
          exact ⟨(show CutRel w z 1 (pieceAt e c l) (.int .i64 ((1 : Nat) : Int)) _ from ⟨1, Nat.le_refl _, rfl, HPUT.out⟩), rfl⟩
        | some ad =>
          have HR := Lib.hid (show Rd wr 1 (.slice (some ad) 0 q) 0 (([] : List Nat).map u8) by rw [← hl0, ← hm0]; exact HRD.out)
          have HP1 := Lib.hid (show true = (pieceAt e c l 0).f from rfl)
          have HP2 := Lib.hid (show true = (pieceAt e c l 0).g by show true = (0 == needN l.length - 1); rw [hl0]; rfl)
          have HP3 := Lib.hid (show ([] : List Nat) = (pieceAt e c l 0).d by show [] = (l.drop 0).take 106; rw [hl0]; rfl)
          subst hm0
          clear hl0
          go_wp2_with (first
            | (go_at_call 170; refine (lclone_any _ 0 _ _ HR.out (u8_one _) (by decide)).mono ?_; rintro x wc ⟨vc, Fc, rfl, hc, ac⟩; obtain ⟨Ac, cc, rfl, _, _⟩ := hc.form0; have hI' := HI.out.step ac; obtain ⟨u0, u1, u2, u3, u4, t0, t1, t2, t3, t4, r0, r1, r2, r3, r4⟩ := there5 (hI'.there (by decide)); have HPUT := Lib.hid (hI'.put (e := e) (cI := (c : Int)) (f := true) (g := true) (by decide) rfl rfl HP1.out HP2.out (by rw [← HP3.out]; rfl) (by rw [← HP3.out]; exact hc.rd) (cut_new HI.out hc ac)); clear hc ac hI'; simp only [Nat.zero_mul, Nat.zero_add] at t0 t1 t2 t3 t4 r0 r1 r2 r3 r4)
            | fail)
          refine ⟨?_, by simp [intOf]⟩
          repeat apply Exists.intro
          exact ⟨(show CutRel w z 1 (pieceAt e c l) (.int .i64 ((1 : Nat) : Int)) _ from ⟨1, Nat.le_refl _, rfl, HPUT.out⟩), rfl⟩
      · have hmpos : 0 < m := by omega
        obtain ⟨b, o, q', e', hb, _, _⟩ := HV.out.adr hmpos
        injection e' with e1 _ e3
        subst e1 e3
        have hfrom : (n - 1) * 106 < m := HNL2.out hmpos
        have hkm : k * 106 < m := by have := HLT.out; omega
        have hkq : ¬ q = k * 106 := by have := HMQ.out; omega
        have hmqI : (m : Int) ≤ (q : Int) := by have := HMQ.out; omega
        have hkmI : (k : Int) * 106 ≤ (m : Int) := by omega
        have hmul : IntKind.i64.wrap ((k : Int) * 106) = (k : Int) * 106 := by rw [IntKind.wrap_i64]; omega
        have htn : ((k : Int) * 106 + 106).toNat - k * 106 = 106 := by omega
        by_cases hlast : k = n - 1
        · have hgl : ((k : Int) == (n : Int) - 1) = true := by rw [beq_iff_eq]; have := HN1.out; omega
          by_cases hfull : m = k * 106 + 106
          · have hmin : (m : Int) ≤ (k : Int) * 106 + 106 := by omega
            have hmin2 : (k : Int) * 106 + 106 ≤ (m : Int) := by omega
            have hmk : m - k * 106 = 106 := by omega
            clear hfull
            have hpd : (pieceAt e c l k).d.length = 106 := by show ((l.drop (k * 106)).take 106).length = _; rw [part_len, ← HML.out]; omega
            have hr := (HRD.out.sub (k * 106) (106) (q - k * 106) (by omega) (by have := HMQ.out; omega) (by have := HQM.out; omega))
            obtain ⟨f, hf⟩ : ∃ f, f = (k == 0) := ⟨_, rfl⟩
            have hf0 : ((k : Int) == 0) = f := by rw [hf, Bool.eq_iff_iff, beq_iff_eq, beq_iff_eq]; omega
            have HF := Lib.hid hf
            have HR := Lib.hid hr
            have HPD := Lib.hid hpd
            have HPG := Lib.hid (show true = (k == needN l.length - 1) by rw [← HML.out, ← HN.out]; symm; rw [beq_iff_eq]; exact hlast)
            have HD9 := Lib.hid (show 106 ≤ 1000000000 by omega)
            clear hf hr hpd hlast hm0 hmpos hfrom hkm hovI
            go_wp2_with (first
              | (go_at_call 170; refine (lclone_any _ (106) _ _ HR.out (u8_one _) HD9.out).mono ?_; rintro x wc ⟨vc, Fc, rfl, hc, ac⟩; obtain ⟨Ac, cc, rfl, _, _⟩ := hc.form0; have hI' := HI.out.step ac; obtain ⟨u0, u1, u2, u3, u4, t0, t1, t2, t3, t4, r0, r1, r2, r3, r4⟩ := there5 (hI'.there HLT.out); have HPUT := Lib.hid (hI'.put (e := e) (cI := (c : Int) + (k : Int)) (f := f) (g := true) HLT.out rfl (cut_c e c l k) HF.out HPG.out HPD.out.symm hc.rd (cut_new HI.out hc ac)); clear hc ac hI')
              | fail)
            have hlt := HLT.out
            exact ⟨⟨k + 1, by omega, by go_num, HPUT.out⟩, by simp [intOf]; omega⟩
          · have hmin : (m : Int) < (k : Int) * 106 + 106 := by have := HNM.out; have := HN1.out; omega
            clear hfull
            have hpd : (pieceAt e c l k).d.length = m - k * 106 := by show ((l.drop (k * 106)).take 106).length = _; rw [part_len, ← HML.out]; omega
            have hr := (HRD.out.sub (k * 106) (m - k * 106) (q - k * 106) (by omega) (by have := HMQ.out; omega) (by have := HQM.out; omega))
            have hpl : (l.drop (k * 106)).take (m - k * 106) = (l.drop (k * 106)).take 106 := by rw [List.take_of_length_le (by rw [List.length_drop, ← HML.out]; exact Nat.le_refl _), List.take_of_length_le (by rw [List.length_drop, ← HML.out]; omega)]
            rw [hpl] at hr
            clear hpl
            obtain ⟨f, hf⟩ : ∃ f, f = (k == 0) := ⟨_, rfl⟩
            have hf0 : ((k : Int) == 0) = f := by rw [hf, Bool.eq_iff_iff, beq_iff_eq, beq_iff_eq]; omega
            have HF := Lib.hid hf
            have HR := Lib.hid hr
            have HPD := Lib.hid hpd
            have HPG := Lib.hid (show true = (k == needN l.length - 1) by rw [← HML.out, ← HN.out]; symm; rw [beq_iff_eq]; exact hlast)
            have HD9 := Lib.hid (show m - k * 106 ≤ 1000000000 by omega)
            clear hf hr hpd hlast hm0 hmpos hfrom hkm hovI
            go_wp2_with fail
            refine (lclone_any _ (m - k * 106) _ _ HR.out (u8_one _) HD9.out).mono ?_
            rintro x wc ⟨vc, Fc, rfl, hc, ac⟩
            obtain ⟨Ac, cc, rfl, _, _⟩ := hc.form0
            have hI' := HI.out.step ac
            obtain ⟨u0, u1, u2, u3, u4, t0, t1, t2, t3, t4, r0, r1, r2, r3, r4⟩ := there5 (hI'.there HLT.out)
            have HPUT := Lib.hid (hI'.put (e := e) (cI := (c : Int) + (k : Int)) (f := f) (g := true) HLT.out rfl (cut_c e c l k) HF.out HPG.out HPD.out.symm hc.rd (cut_new HI.out hc ac))
            clear hc ac hI'
            go_wp2_with fail
            have hlt := HLT.out
            exact ⟨⟨k + 1, by omega, by go_num, HPUT.out⟩, by simp [intOf]; omega⟩
        · have hmin : (k : Int) * 106 + 106 < (m : Int) := by have := HLT.out; omega
          have hgl : ((k : Int) == (n : Int) - 1) = false := by rw [beq_eq_false_iff_ne]; omega
          have hpd : (pieceAt e c l k).d.length = 106 := by show ((l.drop (k * 106)).take 106).length = _; rw [part_len, ← HML.out]; omega
          have hr := (HRD.out.sub (k * 106) (106) (q - k * 106) (by omega) (by have := HMQ.out; omega) (by have := HQM.out; omega))
          obtain ⟨f, hf⟩ : ∃ f, f = (k == 0) := ⟨_, rfl⟩
          have hf0 : ((k : Int) == 0) = f := by rw [hf, Bool.eq_iff_iff, beq_iff_eq, beq_iff_eq]; omega
          have HF := Lib.hid hf
          have HR := Lib.hid hr
          have HPD := Lib.hid hpd
          have HPG := Lib.hid (show false = (k == needN l.length - 1) by rw [← HML.out, ← HN.out]; symm; rw [beq_eq_false_iff_ne]; exact hlast)
          have HD9 := Lib.hid (show 106 ≤ 1000000000 by omega)
          clear hf hr hpd hlast hm0 hmpos hfrom hkm hovI
          go_wp2_with (first
            | (go_at_call 170; refine (lclone_any _ (106) _ _ HR.out (u8_one _) HD9.out).mono ?_; rintro x wc ⟨vc, Fc, rfl, hc, ac⟩; obtain ⟨Ac, cc, rfl, _, _⟩ := hc.form0; have hI' := HI.out.step ac; obtain ⟨u0, u1, u2, u3, u4, t0, t1, t2, t3, t4, r0, r1, r2, r3, r4⟩ := there5 (hI'.there HLT.out); have HPUT := Lib.hid (hI'.put (e := e) (cI := (c : Int) + (k : Int)) (f := f) (g := false) HLT.out rfl (cut_c e c l k) HF.out HPG.out HPD.out.symm hc.rd (cut_new HI.out hc ac)); clear hc ac hI')
            | fail)
          have hlt := HLT.out
          exact ⟨⟨k + 1, by omega, by go_num, HPUT.out⟩, by simp [intOf]; omega⟩
    · obtain rfl : k = n := by omega
      have HFIN := Lib.hid (cut_close HML.out HN.out HE0.out (by have := HN2.out; omega) hI)
      clear hI hk hlt
      go_wp2_with fail
      go_ret2
      exact HFIN.out
end Go.Proofs.YtcglfknkkeaegaaGreatDoor
namespace Go.Proofs.YtcglfknkkeaegaaGreatDoor
open Go.RowKit

theorem lsl_grown {e : TypeId} {size : Nat} {w2 w3 : World} {F : Nat → Prop} {v v' : Value} {k n m : Nat} {xs ys : List Value} (hS : Sl w2 F e size v k xs) (hown : w3.ownsRow 0 e size v' n ys) (hg : w2.grownBy w3 v.ownBlock)
    (hat : v'.ownBlock = v.ownBlock ∨ v'.ownBlock = some m) (hm : w2.heap.size ≤ m) : Sl w3 (fun j => F j ∨ v'.ownBlock = some j) e size v' n ys ∧ Adv F w2 (fun j => F j ∨ v'.ownBlock = some j) w3 := by
  have hF' : ∀ j, (F j ∨ v'.ownBlock = some j) → F j ∨ w2.heap.size ≤ j := by
    rintro j (h | h)
    · exact .inl h
    · rcases hat with e | e
      · exact .inl (hS.inF j (by rw [← e]; exact h))
      · rw [e] at h; injection h with h; right; omega
  have hA : Adv F w2 (fun j => F j ∨ v'.ownBlock = some j) w3 := by
    have h1 := (Adv.refl F w2).grown hg (fun j hj => .inl (hS.inF j hj))
    exact ⟨h1.os, h1.tape, h1.output, h1.size, h1.block, hF'⟩
  refine ⟨⟨hown, fun j hj => .inr hj, ?_⟩, hA⟩
  rintro j (h | h)
  · exact Nat.lt_of_lt_of_le (hS.bd j h) hA.size
  · exact (hown.lt j h).2

theorem lstep_append_own {w : World} {ops : Array Oper} {o : Oper} {a : Act} {K : Act → World → Prop} {Q : Exit → Act → World → Prop} {E : Prop} (hgd : o.guard = none) (s x : Operand) (t e : TypeId)
    (ho : o.op = .call { callee := .builtin .append, args := #[s, x], argTypes := #[t, t] }) (ht : Tryz.prog.underlying t = some (.slice e)) {z : Value} {size bytes : Nat} (hi : (Tryz.prog.info? e).map (fun i => (i.zero, i.size, i.bytes)) = some (some z, size, bytes)) (hzs : z.cells.size = size) (hsz : 0 < size)
    {v : Value} {n : Nat} {xs : List Value} (hs : a.eval s = v) (hown : w.ownsRow 0 e size v n xs) (ad : Addr) (m c : Nat) (hx : a.eval x = .slice (some ad) m c) (news : List Value) (hl : news.length = m * size) (hnews : ∀ j u, news[j]? = some u → w.cell? (ad.add j) = some u) (h1 : ∀ u ∈ news, u.oneCell' = true)
    (h63 : n + m ≤ maxLen) (hb : (n + m) * bytes ≤ 140737488355328)
    (h : ∀ v' w', w'.ownsRow 0 e size v' (n + m) (xs ++ news) → w.grownBy w' v.ownBlock → (v'.ownBlock = v.ownBlock ∨ v'.ownBlock = some w.heap.size) → K (a.put o.dst v') w') :
    if Region.wanted o (yielded ops a.tmps) = true then Oper.wp Tryz.prog o a w K Q else E := by
  rw [if_pos (by simp [Region.wanted, hgd])]
  obtain ⟨i0, hi0, hz0, hz1, hz2⟩ := info_parts hi
  obtain ⟨v', w', hrun, h2, h3, _, h5⟩ := run_append_own_at (P := Tryz.prog) w 0 t o.type e i0 z size bytes ht hi0 hz0 hz1 hz2 hzs hsz v n xs hown ad m c news hl hnews h1 h63 hb (Nat.zero_le _)
  unfold Oper.wp execOp
  simp only [ho, resolve, invoke, builtin, Sem.run_bind, Sem.run_pure, Result.andThen_ok, List.map_toArray, List.map_cons, List.map_nil, hs, hx, hrun]
  exact h v' w' h2 h3 h5
theorem lop_append_own {w : World} {ops : Array Oper} {rest : List Oper} {o : Oper} {a : Act} {Q : Exit → Act → World → Prop} (hgd : o.guard = none) (s x : Operand) (t e : TypeId)
    (ho : o.op = .call { callee := .builtin .append, args := #[s, x], argTypes := #[t, t] }) (ht : Tryz.prog.underlying t = some (.slice e)) {z : Value} {size bytes : Nat} (hi : (Tryz.prog.info? e).map (fun i => (i.zero, i.size, i.bytes)) = some (some z, size, bytes)) (hzs : z.cells.size = size) (hsz : 0 < size)
    {v : Value} {n : Nat} {xs : List Value} (hs : a.eval s = v) (hown : w.ownsRow 0 e size v n xs) (ad : Addr) (m c : Nat) (hx : a.eval x = .slice (some ad) m c) (news : List Value) (hl : news.length = m * size) (hnews : ∀ j u, news[j]? = some u → w.cell? (ad.add j) = some u) (h1 : ∀ u ∈ news, u.oneCell' = true)
    (h63 : n + m ≤ maxLen) (hb : (n + m) * bytes ≤ 140737488355328)
    (h : ∀ v' w', w'.ownsRow 0 e size v' (n + m) (xs ++ news) → w.grownBy w' v.ownBlock → (v'.ownBlock = v.ownBlock ∨ v'.ownBlock = some w.heap.size) → wpList Tryz.prog ops Q rest (a.put o.dst v') w') : wpList Tryz.prog ops Q (o :: rest) a w := by
  refine wpList_plain hgd fun K hK => ?_
  have h0 := lstep_append_own (ops := ops) (K := K) (Q := Q) (E := True) hgd s x t e ho ht hi hzs hsz hs hown ad m c hx news hl hnews h1 h63 hb (fun v' w' h1 h2 h3 => hK _ _ (h v' w' h1 h2 h3))
  rwa [if_pos (by simp [Region.wanted, hgd])] at h0


def rcells (q : Pc × Value) : List Value := [.int .u64 (q.1.e : Int), .int .u64 (q.1.c : Int), .bool q.1.f, .bool q.1.g, q.2]
theorem flat5 (f : Pc × Value → List Value) (hf : ∀ x, (f x).length = 5) : ∀ (l : List (Pc × Value)) (i j : Nat) (hi : i < l.length), j < 5 → (l.flatMap f)[i * 5 + j]? = (f l[i])[j]?
  | x :: l, 0, j, _, hj => by
    rw [List.flatMap_cons, List.getElem?_append_left (by rw [hf]; omega)]; simp
  | x :: l, i + 1, j, hi, hj => by
    have e : (i + 1) * 5 + j = 5 + (i * 5 + j) := by omega
    rw [List.flatMap_cons, List.getElem?_append_right (by rw [hf]; omega), e, hf, show 5 + (i * 5 + j) - 5 = i * 5 + j by omega]
    exact flat5 f hf l i j (by simpa using hi) hj
section
variable {W w w' : World} {P : Nat → Pc} {k : Nat} {vo : Value}
end
theorem rone {e : Nat} {cI : Int} {f g : Bool} {a : Option Addr} {d q : Nat} : ∀ u ∈ [Value.int .u64 (e : Int), .int .u64 cI, .bool f, .bool g, .slice a d q], u.oneCell' = true := by
  intro u hu
  simp at hu
  rcases hu with rfl | rfl | rfl | rfl | rfl <;> rfl
theorem slice_of {w : World} {e : TypeId} {size n : Nat} {v : Value} {xs : List Value} (h : w.ownsRow 0 e size v n xs) : ∃ a k, v = .slice a n k := by
  rcases h.2 with ⟨rfl, rfl⟩ | ⟨_, _, _, rfl, _⟩ <;> exact ⟨_, _, rfl⟩
end Go.Proofs.YtcglfknkkeaegaaGreatDoor
namespace Go.Proofs.YtcglfknkkeaegaaGreatDoor
open Go.RowKit

theorem pcut_any (e c : Nat) (v : Value) (l : List Nat) (w : World) (hv : Rd w 1 v l.length (l.map u8)) (hl : l.length ≤ 100000) :
    Calls Tryz.prog 146 #[.int .u64 (e : Int), .int .u64 (c : Int), v] w (CutR w e c l) := by
  by_cases h : cutE e c l.length = 0
  · exact (pcut_ok e c v l w hv h).mono (fun _ _ h => h.cut)
  · exact (pcut_no e c v l w hv hl h).mono (fun _ _ h => h.cut)
theorem pcutn_any (e c : Nat) (v : Value) (l : List Nat) (w : World) (hv : Rd w 1 v l.length (l.map u8)) (hl : l.length ≤ 100000) :
    Calls Tryz.prog 146 #[.int .u64 (e : Int), .int .u64 (c : Int), v] w (CutN w e c l) := by
  by_cases h : cutE e c l.length = 0
  · exact pcut_ok e c v l w hv h
  · exact pcut_no e c v l w hv hl h
theorem CutR.opened {w w' : World} {e c : Nat} {l : List Nat} {x : Ending} (h : CutR w e c l x w') : ∃ A k, x = .returned (.tuple #[.slice A (cutV e c l).length k, .int .i64 (cutE e c l.length)]) ∧ PRd w' (.slice A (cutV e c l).length k) (cutV e c l) ∧ Adv Nul w Nul w' := by
  obtain ⟨A, n, k, rfl, hp, ha⟩ := h
  have hh := hp
  obtain ⟨A', k', e', _⟩ := hh
  injection e' with _ e2 _
  subst e2
  exact ⟨A, k, rfl, hp, ha⟩
/-- the cells of two pieces -/
def Cells5 (w : World) (b o : Nat) (p : Pc) (v : Value) : Prop :=
  w.cell? ⟨b, o, none⟩ = some (.int .u64 (p.e : Int)) ∧ w.cell? ⟨b, o + 1, none⟩ = some (.int .u64 (p.c : Int)) ∧ w.cell? ⟨b, o + 2, none⟩ = some (.bool p.f) ∧ w.cell? ⟨b, o + 3, none⟩ = some (.bool p.g) ∧ w.cell? ⟨b, o + 4, none⟩ = some v
theorem PRd.row {w : World} {A : Option Addr} {n k : Nat} {ps : List Pc} (h : PRd w (.slice A n k) ps) {i : Nat} (hi : i < ps.length) : ∃ b o a q, A = some ⟨b, o, none⟩ ∧ b < w.heap.size ∧ Cells5 w b (o + i * 5) ps[i] (.slice a ps[i].d.length q) ∧ Rd w 1 (.slice a ps[i].d.length q) ps[i].d.length (ps[i].d.map u8) := by
  obtain ⟨A', k', e, _, _, hc⟩ := h
  injection e with e1 _ _
  subst e1
  obtain ⟨b, o, rfl, hb, hr⟩ := hc (by omega)
  obtain ⟨a, q, c0, c1, c2, c3, c4, hd⟩ := hr i hi
  refine ⟨b, o, a, q, rfl, hb, ⟨by simpa using c0, ?_, ?_, ?_, ?_⟩, hd⟩
  · rw [Nat.add_assoc]; exact c1
  · rw [Nat.add_assoc]; exact c2
  · rw [Nat.add_assoc]; exact c3
  · rw [Nat.add_assoc]; exact c4
theorem Cells5.step {w w' : World} {b o : Nat} {p : Pc} {v : Value} {F : Nat → Prop} (h : Cells5 w b o p v) (hb : b < w.heap.size) (ha : Adv Nul w F w') : Cells5 w' b o p v := by
  have hk := ha.block b hb (fun h => h)
  have e : ∀ j, w'.cell? ⟨b, j, none⟩ = w.cell? ⟨b, j, none⟩ := fun j => World.cell?_of_block hk
  obtain ⟨c0, c1, c2, c3, c4⟩ := h
  exact ⟨by rw [e]; exact c0, by rw [e]; exact c1, by rw [e]; exact c2, by rw [e]; exact c3, by rw [e]; exact c4⟩
structure Two (w : World) (b1 o1 b2 o2 : Nat) (p : Pc) (v1 v2 : Value) : Prop where
  c1 : Cells5 w b1 o1 p v1
  c2 : Cells5 w b2 o2 p v2
  l1 : b1 < w.heap.size
  l2 : b2 < w.heap.size
end Go.Proofs.YtcglfknkkeaegaaGreatDoor
