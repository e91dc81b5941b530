/- The document's own disk: Arm, Is, Read. -/
import Derived.Test.YtochmeibmjfnnaaRk
namespace Go.Proofs.Ytochmeibmjfnnaa
open Go.RowKit

set_option maxRecDepth 3000 in
theorem rarm_dk (c n : Nat) (G : Nat → Prop) (s : DS) (k : Int) (w : World) (h : Rk w G c n s) (hk : k < 9223372036854775808) :
    Calls Try.prog 15 #[.pointer (some ⟨c, 0, none⟩), .int .i64 k] w fun e w' => e = .returned (.int .i64 (fuseS s k).2) ∧ Rk w' G c n (fuseS s k).1 ∧ Adv G w G w' := by
  obtain ⟨vL, vQ, ls, ps, h⟩ := h
  have c2 := h.c2
  have c3 := h.c3
  have hfr := h.blk.frozen 2
  have ho' := fuseS_ok h.ok k hk
  have H := Lib.hid h
  have HO := Lib.hid ho'
  clear h ho'
  unfold fuseS at HO ⊢
  by_cases h1 : k < 0
  · simp only [if_pos h1]
    go_enter Try.func15, Try.ntmps15
    go_wp2
    go_ret
    exact ⟨rfl, ⟨vL, vQ, ls, ps, H.out⟩, Adv.refl _ _⟩
  · simp only [if_neg h1] at HO ⊢
    have hk0 : (0 : Int) ≤ k := by omega
    cases hd : s.dead with
    | true =>
      rw [hd] at c3
      simp only [if_true]
      clear hd HO
      go_enter Try.func15, Try.ntmps15
      go_wp2
      go_ret
      exact ⟨rfl, ⟨vL, vQ, ls, ps, H.out⟩, Adv.refl _ _⟩
    | false =>
      rw [hd] at c3 HO
      simp only [Bool.false_eq_true, if_false] at HO ⊢
      have HD := Lib.hid hd
      clear hd
      have hfin : RkI (w.setCell ⟨c, 2, none⟩ (.int .i64 k)) G c n vL vQ ls ps ⟨s.L, s.Q, false, some k.toNat⟩ ∧ Adv G w G (w.setCell ⟨c, 2, none⟩ (.int .i64 k)) := by
        refine H.out.head 2 (.int .i64 k) HO.out rfl rfl rfl rfl ?_
        rw [HD.out]
        have e : fuseI ⟨s.L, s.Q, false, some k.toNat⟩ = k := by simp only [fuseI]; omega
        rw [e]; rfl
      have HF := Lib.hid hfin
      clear hfin
      go_enter Try.func15, Try.ntmps15
      go_wp2
      go_ret
      exact ⟨rfl, ⟨vL, vQ, ls, ps, HF.out.1⟩, HF.out.2⟩

theorem lays_take_at {L : List (List Nat)} {Q : List (Nat × List Nat)} {i k : Nat} (hi : i < L.length) (hk : k < Q.length) :
    (lays L (Q.take (k + 1))).getD i [] = if (Q.getD k (0, [])).1 = i then (Q.getD k (0, [])).2 else (lays L (Q.take k)).getD i [] := by
  rw [List.take_succ_eq_append_getElem hk, lays_snoc]
  have e : Q.getD k (0, []) = Q[k] := by rw [List.getD_eq_getElem?_getD, List.getElem?_eq_getElem hk]; rfl
  rw [e]
  split
  · rename_i h
    rw [h, List.getD_eq_getElem?_getD, List.getElem?_set_self (by rw [lays_length]; exact hi)]; rfl
  · rename_i h
    rw [List.getD_eq_getElem?_getD, List.getElem?_set_ne h, ← List.getD_eq_getElem?_getD]

def IsRel (w : World) (G : Nat → Prop) (s : DS) (i : Nat) (t5 t6 : Value) (wr : World) : Prop :=
  wr = w ∧ ∃ k, t6 = .int .i64 ((k : Nat) : Int) ∧ k ≤ s.Q.length ∧ Sl w G 5 1 t5 128 (((lays s.L (s.Q.take k)).getD i []).map u8)

set_option maxRecDepth 3000 in
set_option maxHeartbeats 800000 in
theorem ris_r (c n i : Nat) (G : Nat → Prop) (s : DS) (w : World) (h : Rk w G c n s) (hi : i < n) (hq : s.Q.length ≤ 1000000) :
    Calls Try.prog 39 #[.pointer (some ⟨c, 0, none⟩), .int .i64 (i : Int)] w fun e w' => ∃ v, e = .returned v ∧ Sl w G 5 1 v 128 ((isS s i).map u8) ∧ w = w' := by
  obtain ⟨vL, vQ, ls, ps, h⟩ := h
  obtain ⟨g, cap, v, rfl, kL, sL, lL⟩ := h.at_ hi
  have c0 := h.c0
  have c1 := h.c1
  obtain ⟨aQ, cQ, rfl, _, _⟩ := h.q.form0
  have hin : (i : Int) < (n : Int) := by omega
  have hiL : i < s.L.length := by rw [h.ok.len]; exact hi
  have H := Lib.hid h
  have SL := Lib.hid sL
  have HIL := Lib.hid hiL
  have HQ := Lib.hid hq
  clear h sL lL hi hiL hq
  go_enter Try.func39, Try.ntmps39
  go_wp2_with fail
  go_loopw [5, 6] (IsRel w G s i) (fun _ t _ => s.Q.length - (intOf t).toNat)
  case atStart => exact ⟨rfl, 0, rfl, Nat.zero_le _, by simpa [lays] using SL.out⟩
  case round =>
    obtain ⟨rfl, k, rfl, hk, hs⟩ := hrel
    have HS := Lib.hid hs
    clear hs
    by_cases hlt : k < s.Q.length
    · obtain ⟨gQ, cQ', u, e, kA, kD, sD, _, _⟩ := H.out.qat hlt
      injection e with e1 e2 e3
      subst e1
      clear e2 e3
      have hnext := lays_take_at HIL.out hlt
      obtain ⟨q, hqe⟩ : ∃ q, q = s.Q.getD k (0, []) := ⟨_, rfl⟩
      rw [← hqe] at kA sD hnext
      obtain ⟨a, ha⟩ : ∃ a, a = q.1 := ⟨_, rfl⟩
      rw [← ha] at kA hnext
      have hkq : (k : Int) < (s.Q.length : Int) := by omega
      have hk2 : k + 1 ≤ 9223372036854775807 := by have := HQ.out; omega
      have HN := Lib.hid hnext
      have SD := Lib.hid sD
      have HLT := Lib.hid hlt
      clear hnext sD hqe ha hk hlt
      by_cases hai : a = i
      · have hab : ((a : Int) == (i : Int)) = true := by subst hai; simp
        have HE := Lib.hid (show (lays s.L (s.Q.take (k + 1))).getD i [] = q.2 by rw [HN.out, if_pos hai])
        clear hai
        go_wp2_with fail
        have hlt := HLT.out
        refine ⟨⟨rfl, k + 1, by simp, by omega, ?_⟩, by simp [intOf]; omega⟩
        rw [HE.out]; exact SD.out
      · have hab : ((a : Int) == (i : Int)) = false := by rw [beq_eq_false_iff_ne]; omega
        have HE := Lib.hid (show (lays s.L (s.Q.take (k + 1))).getD i [] = (lays s.L (s.Q.take k)).getD i [] by rw [HN.out, if_neg hai])
        clear hai
        go_wp2_with fail
        have hlt := HLT.out
        refine ⟨⟨rfl, k + 1, by simp, by omega, ?_⟩, by simp [intOf]; omega⟩
        rw [HE.out]; exact HS.out
    · obtain rfl : k = s.Q.length := by omega
      clear hlt hk
      go_wp2_with fail
      go_ret
      have h := HS.out
      rw [List.take_length] at h
      exact ⟨_, rfl, h, rfl⟩
end Go.Proofs.Ytochmeibmjfnnaa
