/- The document's Blocks. -/
import Derived.Test.YtgcbnaleajccgaaDrH
import Derived.Test.YtgcbnaleajccgaaDrG
import Derived.Test.YtgcbnaleajccgaaDrC
namespace Go.Proofs.Ytgcbnaleajccgaa
open Go.ChangeShapes Go.WideShapes Go.ChangeAt Go.RowKit

section
variable {w w' : World} {l : List En}
theorem EnR.front {A : Option Addr} {N c n : Nat} (h : EnR w (.slice A N c) l) (hN : N = l.length) (hn : n ≤ N) : EnR w (.slice A n c) (l.take n) := by
  obtain ⟨A', c', e, h1, h2, h3, h4, h5⟩ := h.rd
  injection e with e1 e2 e3
  subst e1 e3
  have hl : (l.take n).length = n := by rw [List.length_take]; omega
  refine ⟨⟨A, c, by rw [hl], by rw [hl]; omega, h2, ecs_length _, h4, fun h0 => ?_⟩, fun e he => h.sz e (List.mem_of_mem_take he)⟩
  obtain ⟨ad, rfl, hb, hc⟩ := h5 (by omega)
  refine ⟨ad, rfl, hb, fun j u hu => hc j u ?_⟩
  rw [ecs_take, List.getElem?_take] at hu
  split at hu
  · exact hu
  · cases hu
theorem EnR.back {b o N c n : Nat} (h : EnR w (.slice (some ⟨b, o, none⟩) N c) l) (hN : N = l.length) (hn : n ≤ N) : EnR w (.slice (some ⟨b, o + n * 4, none⟩) (N - n) (c - n)) (l.drop n) := by
  obtain ⟨A', c', e, h1, h2, h3, h4, h5⟩ := h.rd
  injection e with e1 e2 e3
  subst e1 e3
  have hl : (l.drop n).length = N - n := by rw [List.length_drop]; omega
  refine ⟨⟨some ⟨b, o + n * 4, none⟩, c - n, by rw [hl], by rw [hl]; omega, by omega, ecs_length _, fun x => (by cases x), fun h0 => ?_⟩, fun e he => h.sz e (List.mem_of_mem_drop he)⟩
  obtain ⟨ad, e, hb, hc⟩ := h5 (by omega)
  obtain rfl := Option.some.inj e
  refine ⟨_, rfl, hb, fun j u hu => ?_⟩
  rw [ecs_drop, List.getElem?_drop] at hu
  have := hc _ u hu
  rw [add_none] at this ⊢
  rw [show o + n * 4 + j = o + (n * 4 + j) by omega]
  exact this
theorem EnR.none_ {A : Option Addr} {c : Nat} (hA : A = none → c = 0) (hc : c ≤ maxLen) : EnR w (.slice A 0 c) [] := ⟨⟨A, c, rfl, Nat.zero_le _, hc, rfl, hA, fun h => absurd h (Nat.lt_irrefl _)⟩, fun _ h => by simp at h⟩
end
/-- rows in a slice of one's own, since W -/
structure RwS (W : World) (rs : List (List Nat)) (v : Value) (w : World) : Prop where
  ex : ∃ (cs : List Value) (F : Nat → Prop), Sl w F 31 1 v rs.length cs ∧ Adv Nul W F w ∧ cs.length = rs.length ∧ ∀ (i : Nat) (c : Value) (r : List Nat), cs[i]? = some c → rs[i]? = some r → w.ownsRow 0 5 1 c 128 (r.map u8)
theorem RwS.nil (W : World) : RwS W [] (.slice none 0 0) W := ⟨[], Nul, Sl.nil _ _ _, Adv.refl _ _, rfl, fun i c r h => by simp at h⟩
theorem RwS.o {W w : World} {rs : List (List Nat)} {v : Value} (h : RwS W rs v w) : RwO w v rs := by
  obtain ⟨cs, F, h1, h2, h3, h4⟩ := h.ex
  exact ⟨cs, h1.own, h3, h4⟩
theorem RwS.adv {W w : World} {rs : List (List Nat)} {v : Value} (h : RwS W rs v w) : Adv Nul W Nul w := by
  obtain ⟨cs, F, h1, h2, h3, h4⟩ := h.ex
  exact h2.sub (fun _ h => h.elim)
theorem RwS.step {W w w' : World} {F' : Nat → Prop} {rs : List (List Nat)} {v : Value} (h : RwS W rs v w) (ha : Adv Nul w F' w') : RwS W rs v w' := by
  obtain ⟨cs, F, h1, h2, h3, h4⟩ := h.ex
  exact ⟨cs, F, h1.far ha (fun _ h _ => h), h2.over ha, h3, fun i c r hc hr => own_adv (h4 i c r hc hr) ha⟩
theorem RwS.form {W w : World} {rs : List (List Nat)} {v : Value} (h : RwS W rs v w) : ∃ A c, v = .slice A rs.length c := by
  obtain ⟨cs, F, h1, h2, h3, h4⟩ := h.ex
  obtain ⟨A, c, e, _⟩ := h1.form0
  exact ⟨A, c, e⟩
/-- a row more -/
theorem RwS.more {W w : World} {rs : List (List Nat)} {v c : Value} {r : List Nat} {tmp : Obj} (h : RwS W rs v w) (hc : w.ownsRow 0 5 1 c 128 (r.map u8)) :
    ∃ cs, w.ownsRow 0 31 1 v rs.length cs ∧ ∀ v' w3, w3.ownsRow 0 31 1 v' (rs.length + 1) (cs ++ [c]) → (w.alloc tmp).grownBy w3 v.ownBlock → (v'.ownBlock = v.ownBlock ∨ v'.ownBlock = some (w.heap.size + 1)) → RwS W (rs ++ [r]) v' w3 := by
  obtain ⟨cs, F, h1, h2, h3, h4⟩ := h.ex
  refine ⟨cs, h1.own, fun v' w3 hown hg hat => ?_⟩
  have hF' : ∀ j, (F j ∨ v'.ownBlock = some j) → F j ∨ w.heap.size ≤ j := by
    rintro j (h | h)
    · exact .inl h
    · rcases hat with e | e
      · exact .inl (h1.inF j (by rw [← e]; exact h))
      · rw [e] at h; injection h with h; right; omega
  have hA : Adv F w (fun j => F j ∨ v'.ownBlock = some j) w3 := by
    have h5 := ((Adv.refl F w).alloc tmp).grown hg (fun j hj => .inl (h1.inF j hj))
    exact ⟨h5.os, h5.tape, h5.output, h5.size, h5.block, hF'⟩
  obtain ⟨cs', k1, k2, k3⟩ := (RwO.push h1.own h3 h4 hc hown hg).ex
  have e : cs' = cs ++ [c] := by
    have hh := own_rd k1
    have hh2 := own_rd hown
    rw [List.length_append] at k2
    refine List.ext_getElem? fun i => ?_
    obtain ⟨A1, c1, e1, _, _, hl1, hA1, hc1⟩ := hh
    obtain ⟨A2, c2, e2, _, _, hl2, hA2, hc2⟩ := hh2
    rw [e1] at e2
    injection e2 with e2 _ _
    subst e2
    by_cases hi : i < rs.length + 1
    · obtain ⟨ad, rfl, _, q1⟩ := hc1 (by rw [List.length_append]; omega)
      obtain ⟨ad', e', _, q2⟩ := hc2 (by omega)
      obtain rfl := Option.some.inj e'
      have p1 := q1 i _ (List.getElem?_eq_getElem (by rw [k2]; exact hi))
      have p2 := q2 i _ (List.getElem?_eq_getElem (by simp [h3]; omega))
      rw [List.getElem?_eq_getElem (by rw [k2]; exact hi), List.getElem?_eq_getElem (by simp [h3]; omega), ← p1, ← p2]
    · rw [List.getElem?_eq_none (by rw [k2]; simp; omega), List.getElem?_eq_none (by simp [h3]; omega)]
  subst e
  refine ⟨cs ++ [c], _, ⟨by rw [List.length_append]; exact hown, fun j hj => .inr hj, ?_⟩, h2.trans hA, by simp [h3], k3⟩
  rintro j (h | h)
  · exact Nat.lt_of_lt_of_le (h1.bd j h) hA.size
  · exact (hown.lt j h).2

def blkP (l : List En) (k : Nat) : List (List Nat) := (List.range k).map fun i => blockL (chk l i)
theorem blkP_succ (l : List En) (k : Nat) : blkP l (k + 1) = blkP l k ++ [blockL (chk l k)] := by unfold blkP; rw [List.range_succ, List.map_append]; rfl
theorem blkP_length (l : List En) (k : Nat) : (blkP l k).length = k := by simp [blkP]
def lenS (t : Value) : Nat := match t with | .slice _ n _ => n | _ => 0
def QsL (w : World) (l : List En) (t0 t4 : Value) (wr : World) : Prop := ∃ k : Nat, 5 * k ≤ l.length + 4 ∧ EnR w t0 (l.drop (5 * k)) ∧ RwS w (blkP l k) t4 wr

set_option maxRecDepth 3000 in
set_option maxHeartbeats 6400000 in
theorem q9blocks_any (v : Value) (l : List En) (w : World) (h : EnR w v l) : Calls Try.prog 9 #[v] w (BksR w l) := by
  obtain ⟨i0, hi, hz0, hz1, hz2⟩ := info_parts infoBytes1
  obtain ⟨A, c, rfl, hnc, hcm⟩ := h.form
  obtain ⟨n, hn⟩ : ∃ n, n = l.length := ⟨_, rfl⟩
  have hcall := q9rise_any _ l w h
  rw [← hn] at h hnc hcall ⊢
  have HR := Lib.hid h
  have HN := Lib.hid hn
  have HNC := Lib.hid hnc
  by_cases hr : RiseL l
  · rw [decide_eq_true hr] at hcall
    have HC := Lib.hid hcall
    have HRI := Lib.hid hr
    clear h hn hnc hcm hcall hr
    by_cases h24 : n ≤ 24
    · have HL := Lib.hid h24
      have hn24 : (n : Int) ≤ 24 := by omega
      go_enter Try.func9, Try.ntmps9
      go_wp2_with (first
        | (go_at_call 26; refine HC.out.mono ?_; rintro x w1 ⟨rfl, a1⟩; have HA1 := Lib.hid a1; clear a1)
        | fail)
      go_loopw [0, 4] (QsL w1 l) (fun t _ _ => lenS t)
      case atStart => exact ⟨0, Nat.zero_le _, by rw [Nat.mul_zero, List.drop_zero]; exact HR.out.step HA1.out, RwS.nil _⟩
      case round =>
        obtain ⟨k, hk, h0, h4⟩ := hrel
        obtain ⟨A0, c0, rfl, hnc0, hcm0⟩ := h0.form
        obtain ⟨N, hN⟩ : ∃ N, N = (l.drop (5 * k)).length := ⟨_, rfl⟩
        have hNl : N = n - 5 * k := by rw [hN, List.length_drop, HN.out]
        rw [← hN] at h0 hnc0 ⊢
        obtain ⟨A4, c4, rfl⟩ := h4.form
        rw [blkP_length] at h4 ⊢
        have H0 := Lib.hid h0
        have H4 := Lib.hid h4
        have HNN := Lib.hid hN
        have HNL := Lib.hid hNl
        have HK := Lib.hid hk
        clear hN hk
        by_cases hpos : 0 < N
        · obtain ⟨b, o, rfl, _⟩ := (h0.step h4.adv).at_ HNN.out (i := 0) (by rw [← HNN.out]; exact hpos)
          have HPOS := Lib.hid hpos
          have HCM := Lib.hid hcm0
          obtain ⟨m, hm⟩ : ∃ m, m = min 5 N := ⟨_, rfl⟩
          have hchk : (l.drop (5 * k)).take m = chk l k := by
            unfold chk
            rw [hm]
            by_cases h5 : 5 ≤ N
            · rw [Nat.min_eq_left h5]
            · rw [Nat.min_eq_right (by omega), List.take_of_length_le (by rw [HNN.out]; exact Nat.le_refl _), List.take_of_length_le (by rw [← HNN.out]; omega)]
          have hf := (h0.step H4.out.adv).front HNN.out (n := m) (by omega)
          rw [hchk] at hf
          have HQ := Lib.hid (q9block_any _ _ wr hf (chk_ok HRI.out.all k) (chk_le l k))
          have hb : EnR w1 (if c0 = m then .slice (some ⟨b, o, none⟩) (N - m) (c0 - m) else .slice (some ⟨b, o + m * 4, none⟩) (N - m) (c0 - m)) (l.drop (5 * (k + 1))) := by
            have hd : (l.drop (5 * k)).drop m = l.drop (5 * (k + 1)) := by
              rw [List.drop_drop]
              by_cases h5 : 5 ≤ N
              · rw [hm, Nat.min_eq_left h5]; rfl
              · rw [List.drop_eq_nil_of_le (by have := HN.out; have := HNL.out; omega), List.drop_eq_nil_of_le (by have := HN.out; have := HNL.out; omega)]
            by_cases hc : c0 = m
            · rw [if_pos hc]
              have e0 : N - m = 0 := by omega
              rw [← hd, List.drop_eq_nil_of_le (by rw [← HNN.out]; omega), e0]
              exact EnR.none_ (fun x => by cases x) (by unfold maxLen at hcm0 ⊢; omega)
            · rw [if_neg hc, ← hd]
              exact h0.back HNN.out (by omega)
          have HB := Lib.hid hb
          have HMM := Lib.hid hm
          have hcc : (c0 : Int) ≤ 9223372036854775807 := by unfold maxLen at hcm0; omega
          have hmN : (m : Int) ≤ (N : Int) := by omega
          have hmN' : m ≤ N := by omega
          have hNI : (N : Int) ≤ 9223372036854775807 := by omega
          clear h0 hf hb hchk hcm0 hNl h4
          by_cases h5 : 5 < N
          · obtain rfl : m = 5 := by omega
            have h5' : (5 : Int) < (N : Int) := by omega
            clear hm
            have hc : ¬ c0 = 5 := by omega
            go_wp2_with (first
              | (go_at_call 27; refine HQ.out.mono ?_; rintro x w3 ⟨A5, k5, F5, rfl, s5, a5⟩; obtain ⟨cs, hown, hmore⟩ := (H4.out.step a5).more (tmp := .cells #[.slice A5 128 k5] 31) s5.own; rw [blkP_length] at hown hmore; have HMORE := Lib.hid hmore; clear hmore s5 a5)
              | (at_builtin; refine wpList_append_own_at _ rfl (.tmp 19) (.tmp 24) 24 rfl 0 31 i0 (.slice none 0 0) 1 24 Try.underlying24 hi hz0 hz1 hz2 rfl (by decide) (.slice A4 k c4) k cs rfl (hown.alloc _) ⟨w3.heap.size, 0, none⟩ 1 1 [.slice A5 128 k5] rfl rfl (cell_one_new _ _ _) (by simp [Value.oneCell']) (by have := HK.out; have := HN.out; have := HL.out; unfold maxLen; omega) (by have := HK.out; have := HN.out; have := HL.out; omega) (Nat.zero_le _) ?c9)
              | fail)
            case c9 =>
              intro v' w7 hown7 hg7 _ hat7
              have hnew := HMORE.out v' w7 hown7 hg7 hat7
              rw [← blkP_succ] at hnew
              have HNEW := Lib.hid hnew
              obtain ⟨A7, c7, rfl⟩ := hnew.form
              clear hnew hown7 hg7 hat7 hown HMORE
              have hb := HB.out
              rw [if_neg hc] at hb
              have HB2 := Lib.hid hb
              clear hb
              go_wp2_with fail
              exact ⟨⟨k + 1, by have := HK.out; have := HNL.out; have := HPOS.out; have := HN.out; omega, HB2.out, HNEW.out⟩, by have := HPOS.out; simp [lenS] <;> omega⟩
          · obtain rfl : m = N := by omega
            have h5' : ¬ (5 : Int) < (m : Int) := by omega
            clear hm
            by_cases hc : c0 = m
            · subst hc
              go_wp2_with (first
                | (go_at_call 27; refine HQ.out.mono ?_; rintro x w3 ⟨A5, k5, F5, rfl, s5, a5⟩; obtain ⟨cs, hown, hmore⟩ := (H4.out.step a5).more (tmp := .cells #[.slice A5 128 k5] 31) s5.own; rw [blkP_length] at hown hmore; have HMORE := Lib.hid hmore; clear hmore s5 a5)
                | (at_builtin; refine wpList_append_own_at _ rfl (.tmp 19) (.tmp 24) 24 rfl 0 31 i0 (.slice none 0 0) 1 24 Try.underlying24 hi hz0 hz1 hz2 rfl (by decide) (.slice A4 k c4) k cs rfl (hown.alloc _) ⟨w3.heap.size, 0, none⟩ 1 1 [.slice A5 128 k5] rfl rfl (cell_one_new _ _ _) (by simp [Value.oneCell']) (by have := HK.out; have := HN.out; have := HL.out; unfold maxLen; omega) (by have := HK.out; have := HN.out; have := HL.out; omega) (Nat.zero_le _) ?c9)
                | fail)
              case c9 =>
                intro v' w7 hown7 hg7 _ hat7
                have hnew := HMORE.out v' w7 hown7 hg7 hat7
                rw [← blkP_succ] at hnew
                have HNEW := Lib.hid hnew
                obtain ⟨A7, c7, rfl⟩ := hnew.form
                clear hnew hown7 hg7 hat7 hown HMORE
                have hb := HB.out
                simp only [if_true, Nat.sub_self] at hb
                have HB2 := Lib.hid hb
                clear hb
                go_wp2_with fail
                exact ⟨⟨k + 1, by have := HK.out; have := HNL.out; have := HPOS.out; have := HN.out; omega, HB2.out, HNEW.out⟩, by have := HPOS.out; simp [lenS] <;> omega⟩
            · skip
              go_wp2_with (first
                | (go_at_call 27; refine HQ.out.mono ?_; rintro x w3 ⟨A5, k5, F5, rfl, s5, a5⟩; obtain ⟨cs, hown, hmore⟩ := (H4.out.step a5).more (tmp := .cells #[.slice A5 128 k5] 31) s5.own; rw [blkP_length] at hown hmore; have HMORE := Lib.hid hmore; clear hmore s5 a5)
                | (at_builtin; refine wpList_append_own_at _ rfl (.tmp 19) (.tmp 24) 24 rfl 0 31 i0 (.slice none 0 0) 1 24 Try.underlying24 hi hz0 hz1 hz2 rfl (by decide) (.slice A4 k c4) k cs rfl (hown.alloc _) ⟨w3.heap.size, 0, none⟩ 1 1 [.slice A5 128 k5] rfl rfl (cell_one_new _ _ _) (by simp [Value.oneCell']) (by have := HK.out; have := HN.out; have := HL.out; unfold maxLen; omega) (by have := HK.out; have := HN.out; have := HL.out; omega) (Nat.zero_le _) ?c9)
                | fail)
              case c9 =>
                intro v' w7 hown7 hg7 _ hat7
                have hnew := HMORE.out v' w7 hown7 hg7 hat7
                rw [← blkP_succ] at hnew
                have HNEW := Lib.hid hnew
                obtain ⟨A7, c7, rfl⟩ := hnew.form
                clear hnew hown7 hg7 hat7 hown HMORE
                have hb := HB.out
                rw [if_neg hc, Nat.sub_self] at hb
                have HB2 := Lib.hid hb
                clear hb
                go_wp2_with fail
                exact ⟨⟨k + 1, by have := HK.out; have := HNL.out; have := HPOS.out; have := HN.out; omega, HB2.out, HNEW.out⟩, by have := HPOS.out; simp [lenS] <;> omega⟩
        · obtain rfl : N = 0 := by omega
          have hkn : k = nCh l := by unfold nCh; have := HK.out; have := HNL.out; have := HN.out; omega
          have HF := Lib.hid (show RwD wr (.slice A4 k c4) (bL l) by
            rw [bL_of (bE_of HRI.out (by rw [← HN.out]; exact HL.out))]
            have := H4.out.o
            rw [hkn] at this ⊢
            exact this.rd (fun r hr => (blocksL_all l r hr).1))
          have HE := Lib.hid (bE_of HRI.out (by rw [← HN.out]; exact HL.out))
          clear hpos hNl hnc0 hcm0 h0 hkn h4
          go_wp2_with fail
          go_ret2
          exact ⟨A4, k, c4, by rw [HE.out]; rfl, HF.out, HA1.out.trans H4.out.adv⟩
    · have h24' : (24 : Int) < (n : Int) := by omega
      have HE := Lib.hid (bE_full HRI.out (by rw [← HN.out]; omega))
      clear h24
      go_enter Try.func9, Try.ntmps9
      go_wp2_with (first
        | (go_at_call 26; refine HC.out.mono ?_; rintro x w1 ⟨rfl, a1⟩; have HA1 := Lib.hid a1; clear a1)
        | fail)
      go_ret2
      exact ⟨none, 0, 0, by rw [HE.out]; rfl, by rw [bL_no (by rw [HE.out]; decide)]; exact (RwO.nil _).rd (fun _ h => by simp at h), HA1.out⟩
  · rw [decide_eq_false hr] at hcall
    have HC := Lib.hid hcall
    have HE := Lib.hid (bE_arg hr)
    clear h hn hnc hcm hcall hr
    go_enter Try.func9, Try.ntmps9
    go_wp2_with (first
      | (go_at_call 26; refine HC.out.mono ?_; rintro x w1 ⟨rfl, a1⟩; have HA1 := Lib.hid a1; clear a1)
      | fail)
    go_ret2
    exact ⟨none, 0, 0, by rw [HE.out]; rfl, by rw [bL_no (by rw [HE.out]; decide)]; exact (RwO.nil _).rd (fun _ h => by simp at h), HA1.out⟩
end Go.Proofs.Ytgcbnaleajccgaa
