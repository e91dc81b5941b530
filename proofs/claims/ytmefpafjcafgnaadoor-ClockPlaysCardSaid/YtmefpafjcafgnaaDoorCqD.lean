/- The document's ring: Lists. -/
import Derived.Test.YtmefpafjcafgnaaDoorCqC
namespace Go.Proofs.YtmefpafjcafgnaaDoor
open Go.RowKit

def upL (x i : Nat) : List Nat := (List.range i).filter (fun j => x.testBit j)
set_option maxRecDepth 3000 in
theorem upL_yes {x i : Nat} (h : x.testBit i = true) : upL x (i + 1) = upL x i ++ [i] := by unfold upL; rw [List.range_succ, List.filter_append]; simp [h]
set_option maxRecDepth 3000 in
theorem upL_no {x i : Nat} (h : x.testBit i = false) : upL x (i + 1) = upL x i := by unfold upL; rw [List.range_succ, List.filter_append]; simp [h]
set_option maxRecDepth 3000 in
theorem upL_len (x i : Nat) : (upL x i).length ≤ i := by
  have := List.length_filter_le (fun j => x.testBit j) (List.range i)
  rwa [List.length_range] at this
/-- two lists of numbers, apart -/
structure Ls2 (V : World) (a b : Value) (L M : List Nat) (wr : World) : Prop where
  ex : ∃ F G : Nat → Prop, Sl wr F 3 1 a L.length (ints L) ∧ Sl wr G 3 1 b M.length (ints M) ∧ Sep F G ∧ Adv Nul V (fun k => F k ∨ G k) wr
set_option maxRecDepth 3000 in
theorem Ls2.swap {V wr : World} {a b : Value} {L M : List Nat} (h : Ls2 V a b L M wr) : Ls2 V b a M L wr := by
  obtain ⟨F, G, h1, h2, h3, h4⟩ := h.ex
  exact ⟨⟨G, F, h2, h1, h3.symm, ⟨h4.os, h4.tape, h4.output, h4.size, h4.block, fun k hk => h4.into k hk.symm⟩⟩⟩
set_option maxRecDepth 3000 in
theorem Ls2.nil (V : World) : Ls2 V (.slice none 0 0) (.slice none 0 0) [] [] V := ⟨⟨Nul, Nul, Sl.nil _ _ _, Sl.nil _ _ _, fun _ h _ => h, ⟨rfl, rfl, rfl, Nat.le_refl _, fun _ _ _ => rfl, fun k hk => by rcases hk with h | h <;> exact h.elim⟩⟩⟩
set_option maxRecDepth 3000 in
theorem Ls2.pushed {V wr w1 : World} {a b v' : Value} {L M : List Nat} {i n : Nat} {o : Obj} (h : Ls2 V a b L M wr) (hn : n = L.length) (hown : w1.ownsRow 0 3 1 v' (n + 1) (ints L ++ [.int .i64 (i : Int)])) (hg : (wr.alloc o).grownBy w1 a.ownBlock)
    (hat : v'.ownBlock = a.ownBlock ∨ v'.ownBlock = some (wr.heap.size + 1)) : Ls2 V v' b (L ++ [i]) M w1 := by
  obtain ⟨F, G, h1, h2, h3, h4⟩ := h.ex
  subst hn
  rw [ints_push] at hown
  obtain ⟨k1, k2⟩ := one_grownF h1 hown hg hat (by omega)
  refine ⟨⟨_, G, ?_, h2.far k2 h3, k2.sep h3 h2.bd, h4.trans k2.beside⟩⟩
  rw [List.length_append, List.length_singleton]
  exact k1
def QlR (w : World) (s : CS) (t4 t5 t6 : Value) (wr : World) : Prop := ∃ i : Nat, t6 = .int .i64 (i : Int) ∧ i ≤ s.n ∧ Ls2 w t4 t5 (upL s.u i) (upL s.p i) wr
set_option maxRecDepth 3000 in
theorem Ls2.adv {V wr : World} {a b : Value} {L M : List Nat} (h : Ls2 V a b L M wr) : ∃ F, Adv Nul V F wr := by
  obtain ⟨F, G, h1, h2, h3, h4⟩ := h.ex
  exact ⟨_, h4⟩
set_option maxRecDepth 3000 in
theorem Ls2.own {V wr : World} {a b : Value} {L M : List Nat} (h : Ls2 V a b L M wr) : wr.ownsRow 0 3 1 a L.length (ints L) := by
  obtain ⟨F, G, h1, h2, h3, h4⟩ := h.ex
  exact h1.own
set_option maxRecDepth 3000 in
theorem Ls2.form {V wr : World} {a b : Value} {L M : List Nat} (h : Ls2 V a b L M wr) : ∃ A c, a = .slice A L.length c := by
  obtain ⟨F, G, h1, h2, h3, h4⟩ := h.ex
  obtain ⟨A, c, e, _, _⟩ := h1.form0
  exact ⟨A, c, e⟩
set_option maxRecDepth 3000 in
set_option maxHeartbeats 3200000 in
theorem qlists_any (w : World) (x g : Nat) (s : CS) (h : Qr w x g s) : Calls Tryd.prog 12 #[.pointer (some ⟨x, 0, none⟩)] w fun e w' => ∃ a b, e = .returned (.tuple #[a, b]) ∧ Ls2 w a b (bitsL s.u) (bitsL s.p) w' := by
  obtain ⟨i0, hi, hz0, hz1, hz2⟩ := info_parts infoInt7
  have H := Lib.hid h
  have hn := h.ok.hi
  have hbu := bitsL_of h.ok.u h.ok.hi
  have hbp := bitsL_of h.ok.p h.ok.hi
  rw [hbu, hbp]
  obtain ⟨n, hne⟩ : ∃ n, n = s.n := ⟨_, rfl⟩
  rw [← hne] at hn
  have HNE := Lib.hid hne
  clear h hne hbu hbp
  go_enter Tryd.func12, Tryd.ntmps12
  go_wp2_with fail
  go_loopw [4, 5, 6] (QlR w s) (fun _ _ t _ => n - (intOf t).toNat)
  case atStart => exact ⟨0, rfl, Nat.zero_le _, Ls2.nil w⟩
  case round =>
    obtain ⟨i, rfl, hin, hL⟩ := hrel
    obtain ⟨F0, ha⟩ := hL.adv
    have hQ : Qr wr x g s := H.out.far ha (fun e => e) (fun e => e)
    have c0 := hQ.c0
    rw [← HNE.out] at c0 hin
    have HL := Lib.hid hL
    by_cases hlt : i < n
    · obtain ⟨g0, g1, _, _⟩ := hQ.at_ (i := i) (by rw [← HNE.out]; exact hlt)
      obtain ⟨A4, c4, rfl⟩ := hL.form
      obtain ⟨A5, c5, rfl⟩ := hL.swap.form
      have hown := hL.own
      have hll := upL_len s.u i
      have hlm := upL_len s.p i
      obtain ⟨k, hk⟩ : ∃ k, k = (upL s.u i).length := ⟨_, rfl⟩
      obtain ⟨m, hm⟩ : ∃ m, m = (upL s.p i).length := ⟨_, rfl⟩
      rw [← hk] at hown hll ⊢
      rw [← hm] at hlm ⊢
      have HK := Lib.hid hk
      have HM := Lib.hid hm
      have hk64 : k ≤ 64 := by omega
      have hm64 : m ≤ 64 := by omega
      have HLT := Lib.hid hlt
      have hlt' : (i : Int) < (n : Int) := by omega
      have HQ := Lib.hid hQ
      clear hL ha hQ hk hm hin hll hlm hlt
      obtain ⟨U, hU⟩ : ∃ U, U = s.u.testBit i := ⟨_, rfl⟩
      obtain ⟨P, hP⟩ : ∃ P, P = s.p.testBit i := ⟨_, rfl⟩
      rw [← hU] at g0
      rw [← hP] at g1
      have HU := Lib.hid hU.symm
      have HP := Lib.hid hP.symm
      clear hU hP
      cases U
      · cases P
        · clear hown
          go_wp2_with fail
          refine ⟨⟨i + 1, by simp, by rw [← HNE.out]; exact HLT.out, ?_⟩, by have := HLT.out; simp [intOf]; omega⟩
          have hl := HL.out
          rw [upL_no HU.out, upL_no HP.out]
          rw [← HK.out, ← HM.out] at hl
          exact hl
        · have hown := HL.out.swap.own
          rw [← HM.out] at hown
          go_wp2_with (first
            | (at_builtin; refine wpList_append_own_at _ rfl (.tmp 36) (.tmp 38) 38 rfl 0 3 i0 (.int .i64 0) 1 8 Tryd.underlying38 hi hz0 hz1 hz2 rfl (by decide) (.slice A5 m c5) m _ rfl (hown.alloc _) ⟨wr.heap.size, 0, none⟩ 1 1 [.int .i64 i] rfl rfl (cell_one_new _ _ _) ?c2 ?c3 ?c4 (Nat.zero_le _) ?c5)
            | fail)
          case c2 => intro u hu; simp at hu; subst hu; rfl
          case c3 => unfold maxLen; omega
          case c4 => omega
          case c5 =>
            intro v' w1 hown1 hg1 _ hat1
            have h1 := HL.out.swap.pushed HM.out hown1 (by rw [HM.out] at hg1; exact hg1) (by rw [HM.out] at hat1; exact hat1)
            rw [← upL_yes HP.out] at h1
            have H1 := Lib.hid h1.swap
            clear h1 hown1 hg1 hat1 hown g0 g1 c0
            go_wp2_with fail
            refine ⟨⟨i + 1, by simp, by rw [← HNE.out]; exact HLT.out, by have h := H1.out; rw [upL_no HU.out]; rw [← HK.out] at h; exact h⟩, by have := HLT.out; simp [intOf]; omega⟩
      · go_wp2_with (first
          | (at_builtin; refine wpList_append_own_at _ rfl (.tmp 24) (.tmp 26) 38 rfl 0 3 i0 (.int .i64 0) 1 8 Tryd.underlying38 hi hz0 hz1 hz2 rfl (by decide) (.slice A4 k c4) k _ rfl (hown.alloc _) ⟨wr.heap.size, 0, none⟩ 1 1 [.int .i64 i] rfl rfl (cell_one_new _ _ _) ?c2 ?c3 ?c4 (Nat.zero_le _) ?c5)
          | fail)
        case c2 => intro u hu; simp at hu; subst hu; rfl
        case c3 => unfold maxLen; omega
        case c4 => omega
        case c5 =>
          intro v' w1 hown1 hg1 _ hat1
          have h1 := HL.out.pushed HK.out hown1 (by rw [HK.out] at hg1; exact hg1) (by rw [HK.out] at hat1; exact hat1)
          rw [← upL_yes HU.out] at h1
          have H1 := Lib.hid h1
          obtain ⟨F1, ha1⟩ := h1.adv
          have hQ1 : Qr w1 x g s := H.out.far ha1 (fun e => e) (fun e => e)
          clear c0 g0 g1
          have c0 := hQ1.c0
          rw [← HNE.out] at c0
          obtain ⟨_, g1, _, _⟩ := hQ1.at_ (i := i) (by rw [← HNE.out]; exact HLT.out)
          rw [HP.out] at g1
          cases P
          · clear h1 hown1 hg1 hat1 hown ha1 hQ1
            go_wp2_with fail
            refine ⟨⟨i + 1, by simp, by rw [← HNE.out]; exact HLT.out, by have h := H1.out; rw [upL_no HP.out]; rw [← HM.out] at h; exact h⟩, by have := HLT.out; simp [intOf]; omega⟩
          · have hown := h1.swap.own
            rw [← HM.out] at hown
            clear h1 hown1 hg1 hat1 ha1 hQ1
            go_wp2_with (first
              | (at_builtin; refine wpList_append_own_at _ rfl (.tmp 36) (.tmp 38) 38 rfl 0 3 i0 (.int .i64 0) 1 8 Tryd.underlying38 hi hz0 hz1 hz2 rfl (by decide) (.slice A5 m c5) m _ rfl (hown.alloc _) ⟨w1.heap.size, 0, none⟩ 1 1 [.int .i64 i] rfl rfl (cell_one_new _ _ _) ?c6 ?c7 ?c8 (Nat.zero_le _) ?c9)
              | fail)
            case c6 => intro u hu; simp at hu; subst hu; rfl
            case c7 => unfold maxLen; omega
            case c8 => omega
            case c9 =>
              intro v2 w2 hown2 hg2 _ hat2
              have h2 := H1.out.swap.pushed HM.out hown2 (by rw [HM.out] at hg2; exact hg2) (by rw [HM.out] at hat2; exact hat2)
              rw [← upL_yes HP.out] at h2
              have H2 := Lib.hid h2.swap
              clear h2 hown2 hg2 hat2 hown g1 c0
              go_wp2_with fail
              refine ⟨⟨i + 1, by simp, by rw [← HNE.out]; exact HLT.out, H2.out⟩, by have := HLT.out; simp [intOf]; omega⟩
    · obtain rfl : n = i := by omega
      clear hlt hin hQ ha hL
      go_wp2_with fail
      go_ret2
      exact ⟨_, _, rfl, by have := HL.out; rw [HNE.out] at this; exact this⟩
end Go.Proofs.YtmefpafjcafgnaaDoor
