/- The disk: Waits. The document's Sector; bytes compared; the sectors' lives. The disk's calls on its state; lives. -/
import Derived.Test.YtolcnbiaiolcoaaGreatMgDc
import Derived.Test.YtolcnbiaiolcoaaGreatDkX
import Derived.Deep.QuietTactic
import Derived.BigQuiet
import Derived.Test.YtolcnbiaiolcoaaGreatMgDk
namespace Go.Proofs.YtolcnbiaiolcoaaGreat
open Go.RowKit

theorem infoInt : (Tryz.prog.info? 3).map (fun i => (i.zero, i.size, i.bytes)) = some (some (.int .i64 0), 1, 8) := by kernel_rfl
theorem made_one (z : Value) (hz : z.cells = #[z]) (n : Nat) : (madeCells z.cells (n * 1)).toList = List.replicate n z := by
  rw [hz, Nat.mul_one]
  apply List.ext_getElem?
  intro k
  rw [List.getElem?_replicate]
  by_cases hk : k < n
  · rw [if_pos hk, Array.getElem?_toList]
    have h1 : (Array.range n)[k]? = some k := by rw [Array.getElem?_eq_getElem (by simpa using hk)]; simp
    simp only [madeCells, Array.getElem?_map, h1, Option.map_some]
    have : k % (#[z] : Array Value).size = 0 := by simp [Nat.mod_one]
    rw [this]; rfl
  · rw [if_neg hk, Array.getElem?_toList, Array.getElem?_eq_none (by rw [size_madeCells]; omega)]

def atOf (q : Nat × List Nat) : Value := .int .i64 (q.1 : Int)
def waOf (Q : List (Nat × List Nat)) (k : Nat) : List Value := (Q.take k).map atOf ++ List.replicate (Q.length - k) (.int .i64 0)
theorem waOf_set (Q : List (Nat × List Nat)) (k : Nat) (hk : k < Q.length) : (waOf Q k).set k (.int .i64 ((Q.getD k (0, [])).1 : Int)) = waOf Q (k + 1) := by
  unfold waOf
  have e : Q.length - k = Q.length - (k + 1) + 1 := by omega
  have hl : ((Q.take k).map atOf).length = k := by simp; omega
  rw [e, List.replicate_succ, List.set_append_right _ _ (by omega), hl, Nat.sub_self, List.set_cons_zero, List.take_succ_eq_append_getElem hk, List.map_append, List.append_assoc]
  have e2 : Q.getD k (0, []) = Q[k] := by rw [List.getD_eq_getElem?_getD, List.getElem?_eq_getElem hk]; rfl
  rw [e2]; rfl
theorem waOf_all (Q : List (Nat × List Nat)) : waOf Q Q.length = Q.map atOf := by simp [waOf]

def WaRel (w : World) (z : Nat) (Q : List (Nat × List Nat)) (t : Value) (wr : World) : Prop :=
  ∃ k, t = .int .i64 ((k : Nat) : Int) ∧ k ≤ Q.length ∧ Sl wr (fun j => j = z) 3 1 (.slice (some ⟨z, 0, none⟩) Q.length Q.length) Q.length (waOf Q k) ∧ Adv Nul w (fun j => j = z) wr
end Go.Proofs.YtolcnbiaiolcoaaGreat
namespace Go.Proofs.YtolcnbiaiolcoaaGreat
open Go.RowKit

/-- bytes cut, or with noughts behind -/
def sec (l : List Nat) : List Nat := l.take 128 ++ List.replicate (128 - l.length) 0
theorem sec_length (l : List Nat) : (sec l).length = 128 := by simp [sec]; omega

def SecRel (w : World) (b : List Nat) (t : Value) (wr : World) : Prop :=
  ∃ k F, b.length ≤ k ∧ k ≤ 128 ∧ Sl wr F 5 1 t k ((b ++ List.replicate (k - b.length) 0).map u8) ∧ Adv Nul w F wr

def lenOfV : Value → Nat
  | .slice _ n _ => n
  | _ => 0

set_option maxRecDepth 3000 in
set_option maxHeartbeats 800000 in
theorem sector_any (v : Value) (l : List Nat) (w : World) (h : In w v l) :
    Calls Tryz.prog 44 #[v] w fun e w' => ∃ v' F, e = .returned v' ∧ Sl w' F 5 1 v' 128 ((sec l).map u8) ∧ Adv Nul w F w' := by
  obtain ⟨i0, hi, hz0, hz1, hz2⟩ := info_parts Tryz.infoU8
  have HH := Lib.hid h
  clear h
  go_enter Tryz.func44, Tryz.ntmps44
  go_wp2_with (first
    | (go_at_call 46; refine (cut_any v l 128 _ HH.out (by decide)).mono ?_; rintro e w1 ⟨v1, rfl, h1, rfl⟩; have H1 := Lib.hid h1; clear h1)
    | (go_at_call 45; refine (copy_any v1 _ (l.take 128) _ H1.out.rd (by simp; omega)).mono ?_; rintro e w2 ⟨v2, F2, rfl, h2, a2⟩; have H2 := Lib.hid h2; have A2 := Lib.hid a2; clear h2 a2)
    | fail)
  have hb : (l.take 128).length ≤ 128 := by simp; omega
  have hse : l.take 128 ++ List.replicate (128 - (l.take 128).length) 0 = sec l := by
    unfold sec
    rw [List.length_take]
    congr 2
    omega
  obtain ⟨b, hbe⟩ : ∃ b, b = l.take 128 := ⟨_, rfl⟩
  rw [← hbe] at H2 hb hse
  have HB := Lib.hid hb
  have HSE := Lib.hid hse
  clear hb hse hbe
  go_loopw [3] (SecRel w b) (fun t _ => 128 - lenOfV t)
  case atStart => exact ⟨_, F2, Nat.le_refl _, HB.out, by simpa using H2.out, A2.out⟩
  case round =>
    obtain ⟨k, F, hlo, hk, hS, hA⟩ := hrel
    obtain ⟨a5, c5, rfl, _, _⟩ := hS.form0
    have HS := Lib.hid hS
    have HA := Lib.hid hA
    have hown := hS.own
    have HLO := Lib.hid hlo
    clear hS hA hlo
    by_cases hlt : k < 128
    · have hki : (k : Int) < 128 := by omega
      have HLT := Lib.hid hlt
      have HK := Lib.hid hk
      clear hlt hk
      go_wp2_with (first
        | (at_builtin; refine wpList_append_own_at _ rfl (.tmp 10) (.tmp 11) 53 rfl 0 5 i0 (.int .u8 0) 1 1 Tryz.underlying53 hi hz0 hz1 hz2 rfl (by decide) (.slice a5 k c5) k _ rfl (hown.alloc _) ⟨wr.heap.size, 0, none⟩ 1 1 [_] rfl rfl (cell_one_new _ _ _) ?c2 ?c3 ?c4 (Nat.zero_le _) ?c5)
        | fail)
      case c2 => intro u hu; simp at hu; subst hu; rfl
      case c3 => have := HLT.out; unfold maxLen; omega
      case c4 => have := HLT.out; omega
      case c5 =>
        intro v' w1 hown1 hg1 _ hat1
        obtain ⟨h1, h2⟩ := one_grown HS.out HA.out hown1 hg1 hat1 (by omega)
        obtain ⟨a6, c6, rfl, _, _⟩ := h1.form0
        have H1 := Lib.hid h1
        have H2 := Lib.hid h2
        clear h1 h2 hown1 hg1 hat1 hown
        go_wp2
        have hlt := HLT.out
        refine ⟨⟨k + 1, _, by have := HLO.out; omega, by omega, ?_, H2.out⟩, by simp [lenOfV]; omega⟩
        have e : k + 1 - b.length = (k - b.length) + 1 := by have := HLO.out; omega
        rw [e, List.replicate_succ']
        simp only [List.map_append, List.map_replicate, List.map_cons, List.map_nil]
        exact H1.out
    · obtain rfl : k = 128 := by omega
      clear hown
      go_wp2
      go_ret
      have h := HS.out
      rw [HSE.out] at h
      exact ⟨_, F, rfl, h, HA.out⟩

set_option maxRecDepth 3000 in
set_option maxHeartbeats 800000 in
theorem same_any (v1 v2 : Value) (n1 n2 : Nat) (l1 l2 : List Nat) (w : World) (h1 : Rd w 1 v1 n1 (l1.map u8)) (h2 : Rd w 1 v2 n2 (l2.map u8)) :
    Calls Tryz.prog 25 #[v1, v2] w fun e w' => e = .returned (.bool (decide (l1 = l2))) ∧ (∃ k, w' = w.drewN k) := by
  have hl1 : l1.length = n1 := by obtain ⟨_, _, _, _, _, h, _⟩ := h1; simpa using h
  have hl2 : l2.length = n2 := by obtain ⟨_, _, _, _, _, h, _⟩ := h2; simpa using h
  by_cases hn : n1 = n2
  · subst hn
    obtain ⟨A1, c1, rfl, _, _⟩ := h1.form
    obtain ⟨A2, c2, rfl, _, hc2⟩ := h2.form
    unfold maxLen at hc2
    have H1 := Lib.hid h1
    have H2 := Lib.hid h2
    have HL1 := Lib.hid hl1
    have HL2 := Lib.hid hl2
    clear h1 h2 hl1 hl2
    go_enter Tryz.func25, Tryz.ntmps25
    go_wp2_with fail
    go_loopw [5] (fun t wr => ∃ k : Nat, t = .int .i64 ((k : Nat) : Int) ∧ k ≤ n1 ∧ l1.take k = l2.take k ∧ ∃ j, wr = w.drewN j) (fun t _ => n1 - (intOf t).toNat)
    case atStart => exact ⟨0, rfl, Nat.zero_le _, rfl, 0, rfl⟩
    case round =>
      obtain ⟨k, rfl, hk, htk, j, rfl⟩ := hrel
      have HT := Lib.hid htk
      clear htk
      by_cases hlt : k < n1
      · obtain ⟨b1, o1, rfl, _, g1⟩ := H1.out.cells (by omega) (by decide)
        obtain ⟨b2, o2, rfl, _, g2⟩ := H2.out.cells (by omega) (by decide)
        have hk1 : k < l1.length := by have := HL1.out; omega
        have hk2 : k < l2.length := by have := HL2.out; omega
        have c1' : w.cell? ⟨b1, o1 + k, none⟩ = some (.int .u8 (l1[k] : Int)) := g1 k _ (by rw [List.getElem?_map, List.getElem?_eq_getElem hk1]; rfl)
        have c2' : w.cell? ⟨b2, o2 + k, none⟩ = some (.int .u8 (l2[k] : Int)) := g2 k _ (by rw [List.getElem?_map, List.getElem?_eq_getElem hk2]; rfl)
        have hnext : l1[k] = l2[k] → l1.take (k + 1) = l2.take (k + 1) := fun e => by
          rw [List.take_succ_eq_append_getElem hk1, List.take_succ_eq_append_getElem hk2, HT.out, e]
        have hdiff : l1[k] ≠ l2[k] → l1 ≠ l2 := fun e h => by subst h; exact e rfl
        obtain ⟨x, hx⟩ : ∃ x, x = l1[k] := ⟨_, rfl⟩
        obtain ⟨y, hy⟩ : ∃ y, y = l2[k] := ⟨_, rfl⟩
        rw [← hx] at c1' hnext hdiff
        rw [← hy] at c2' hnext hdiff
        have HN := Lib.hid hnext
        have HD := Lib.hid hdiff
        clear g1 g2 hx hy hk1 hk2 hnext hdiff
        by_cases hxy : x = y
        · have HX := Lib.hid (HN.out hxy)
          subst hxy
          go_wp2_with fail
          go_quiet (fail)
          go_wp2
          exact ⟨⟨k + 1, by simp, by omega, HX.out, _, rfl⟩, by simp [intOf]; omega⟩
        · have HX := Lib.hid (HD.out hxy)
          have hne : ((x : Int) != (y : Int)) = true := by rw [bne_iff_ne]; omega
          clear hxy
          go_wp2_with fail
          go_quiet (fail)
          go_wp2
          go_ret
          rw [decide_eq_false HX.out]
          exact ⟨rfl, j + nq, World.drewN_drewN _ _ _⟩
      · obtain rfl : k = n1 := by omega
        have e : l1 = l2 := by
          have h := HT.out
          rwa [List.take_of_length_le (by have := HL1.out; omega), List.take_of_length_le (by have := HL2.out; omega)] at h
        have HE := Lib.hid e
        clear e
        go_wp2
        go_ret
        rw [decide_eq_true HE.out]
        exact ⟨rfl, _, rfl⟩
  · obtain ⟨A1, c1, rfl, _, _⟩ := h1.form
    obtain ⟨A2, c2, rfl, _, hc2⟩ := h2.form
    have hne : ((n1 : Int) != (n2 : Int)) = true := by rw [bne_iff_ne]; omega
    have HD : Hid (l1 ≠ l2) := by intro h; subst h; omega
    clear h1 h2 hl1 hl2
    go_enter Tryz.func25, Tryz.ntmps25
    go_wp2_with fail
    go_ret
    rw [decide_eq_false HD.out]
    exact ⟨rfl, 0, rfl⟩
end Go.Proofs.YtolcnbiaiolcoaaGreat
namespace Go.Proofs.YtolcnbiaiolcoaaGreat
open Go.RowKit

/-- Crash -/
theorem crash_dk (d n m : Nat) (vk : Value) (F : Nat → Prop) (s : DS) (ks : List Int) (torn : Int) (w : World) (h : Dk w F d n s) (hk : Rd w 1 vk m (ks.map (Value.int .i64))) (hsep : ∀ k, vk.ownBlock = some k → 0 < m → ¬ F k) :
    Calls Tryz.prog 19 #[.pointer (some ⟨d, 0, none⟩), vk, .int .i64 torn] w fun e w' => e = .returned (.tuple #[]) ∧ Dk w' F d n (crashS s ks torn) ∧ Adv F w F w' := by
  have hok := crashS_ok h.1 ks torn
  obtain ⟨ho, gl, gr, vQ, hr⟩ := h
  by_cases h1 : torn ≤ 0
  · refine (crash_low d gl gr n m vQ vk F s ks torn w hr ho hk hsep h1).mono ?_
    rintro e w' ⟨rfl, h2, h3⟩
    exact ⟨rfl, ⟨hok, gl, gr, _, h2⟩, h3⟩
  · by_cases h4 : torn < 128
    · refine (crash_tears d gl gr n m vQ vk F s ks torn w hr ho hk hsep (by omega) h4).mono ?_
      rintro e w' ⟨rfl, h2, h3⟩
      exact ⟨rfl, ⟨hok, gl, gr, _, h2⟩, h3⟩
    · refine (crash_high d gl gr n m vQ vk F s ks torn w hr ho hk hsep (by omega)).mono ?_
      rintro e w' ⟨rfl, h2, h3⟩
      exact ⟨rfl, ⟨hok, gl, gr, _, h2⟩, h3⟩

/-- Read -/
theorem read_dk (d n : Nat) (F : Nat → Prop) (s : DS) (i : Nat) (w : World) (h : Dk w F d n s) (hi : i < n) :
    Calls Tryz.prog 24 #[.pointer (some ⟨d, 0, none⟩), .int .i64 (i : Int)] w fun e w' => ∃ z, e = .returned (.tuple #[.slice (some ⟨z, 0, none⟩) 128 128, .int .i64 0]) ∧ Blk w' z 112 ((isS s i).map u8).toArray ∧ (isS s i).length = 128 ∧ Adv Nul w (fun k => k = z) w' := by
  obtain ⟨ho, gl, gr, vQ, hr⟩ := h
  exact read_r d gl gr n vQ F _ s i w hr hi
theorem read_none (d n : Nat) (F : Nat → Prop) (s : DS) (i : Int) (w : World) (h : Dk w F d n s) (hi : ¬ (0 ≤ i ∧ i < (n : Int))) :
    Calls Tryz.prog 24 #[.pointer (some ⟨d, 0, none⟩), .int .i64 i] w fun e w' => e = .returned (.tuple #[.slice none 0 0, .int .i64 2]) ∧ w = w' := by
  obtain ⟨ho, gl, gr, vQ, hr⟩ := h
  exact read_bad d gl n i w hr.c0 hi
theorem size_dk (d n : Nat) (F : Nat → Prop) (s : DS) (w : World) (h : Dk w F d n s) :
    Calls Tryz.prog 34 #[.pointer (some ⟨d, 0, none⟩)] w fun e w' => e = .returned (.int .i64 (n : Int)) ∧ w = w' := by
  obtain ⟨ho, gl, gr, vQ, hr⟩ := h
  exact size_r d gl n w hr.c0
theorem live_dk (d n : Nat) (F : Nat → Prop) (s : DS) (w : World) (h : Dk w F d n s) :
    Calls Tryz.prog 31 #[.pointer (some ⟨d, 0, none⟩)] w fun e w' => e = .returned (.bool (!s.dead)) ∧ w = w' := by
  obtain ⟨ho, gl, gr, vQ, hr⟩ := h
  exact live_r d gl n s.dead w hr.c0 hr.c3
/-- what is new lies behind what there was -/
theorem Adv.new_at {G : Nat → Prop} {w w' : World} (h : Adv Nul w G w') {k : Nat} (hk : G k) : w.heap.size ≤ k := by
  rcases h.into k hk with h1 | h1
  · exact h1.elim
  · exact h1
theorem Sl.new_sep {F G : Nat → Prop} {w w' : World} {e : TypeId} {size n : Nat} {v : Value} {xs : List Value} (h : Sl w' G e size v n xs) (ha : Adv Nul w G w') (hb : Bd F w) : ∀ k, v.ownBlock = some k → ¬ F k := fun k hk hF => by
  have h1 := ha.new_at (h.inF k hk)
  have h2 := hb k hF
  omega
/-- a sector that was read can be read -/
theorem Blk.rd8 {w : World} {z : Nat} {t : TypeId} {l : List Nat} (h : Blk w z t (l.map u8).toArray) (hl : l.length = 128) : Rd w 1 (.slice (some ⟨z, 0, none⟩) 128 128) 128 (l.map u8) :=
  ⟨_, 128, rfl, Nat.le_refl _, by decide, by simpa using hl, fun h => (by cases h), fun _ => ⟨_, rfl, h.lt, fun j u hu => by rw [add_none, h.cell, Nat.zero_add, List.getElem?_toArray]; exact hu⟩⟩

theorem writeS_plain {s : DS} (hf : s.fuse = none) {i : Nat} (hi : i < s.L.length) {b : List Nat} (hb : b.length = 128) : writeS s (i : Int) b = ({ s with Q := s.Q ++ [(i, b)] }, 0) := by
  have hs : stepS s = (s, true) := by unfold stepS; rw [hf]
  unfold writeS
  rw [if_neg (by omega), hs]
  simp
theorem flushS_plain {s : DS} (hf : s.fuse = none) : flushS s = ({ s with L := lays s.L s.Q, Q := [] }, 0) := by
  have hs : stepS s = (s, true) := by unfold stepS; rw [hf]
  unfold flushS
  rw [hs]
  simp
end Go.Proofs.YtolcnbiaiolcoaaGreat
