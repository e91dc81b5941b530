/- The program's map: Free, Take. -/
import Derived.Test.YtekafclhddhnpaaAmB
namespace Go.Proofs.Ytekafclhddhnpaa
open Go.RowKit

def FreL (w : World) (T : List Bool) (n : Nat) (t3 t12 : Value) (wr : World) : Prop :=
  ∃ k c : Nat, t3 = .int .i64 (c : Int) ∧ t12 = .int .i64 (k : Int) ∧ k ≤ n ∧ c ≤ k ∧ c = (T.take k).count false ∧ ∃ j, wr = w.drewN j
theorem FreL.next {w : World} {T : List Bool} {n k c j : Nat} {b : Bool} (hn : n = T.length) (hk : k < n) (hc : c ≤ k) (he : c = (T.take k).count false) (hb : T.getD k false = b) (v3 v12 : Int) (h3 : v3 = ((if b then c else c + 1 : Nat) : Int)) (h12 : v12 = ((k + 1 : Nat) : Int)) : FreL w T n (.int .i64 v3) (.int .i64 v12) (w.drewN j) := by
  refine ⟨k + 1, if b then c else c + 1, by rw [h3], by rw [h12], by omega, by split <;> omega, ?_, j, rfl⟩
  rw [count_step (by omega), hb, he]
  cases b <;> rfl
theorem FreL.last {T : List Bool} {n : Nat} {k c : Nat} (hn : n = T.length) (hk : k = n) (he : c = (T.take k).count false) : c = freeT T := by
  rw [he, hk, hn, List.take_length]; rfl

set_option maxRecDepth 3000 in
theorem free_am (w : World) (d : Nat) (T : List Bool) (h : Am w d T) : Calls Try.prog 15 #[.pointer (some ⟨d, 0, none⟩)] w fun e w' => e = .returned (.int .i64 (freeT T : Int)) ∧ ∃ m, w' = w.drewN m := by
  have HD := Lib.hid (made_am w d T h)
  have HR := Lib.hid (fun n k hk => rhas_am (w.drewN n) d T (h.drewN n) k hk)
  have c0 : w.cell? ⟨d, 0, none⟩ = some (.int .i64 (T.length : Int)) := by
    obtain ⟨r, _, _, _, hb⟩ := h
    exact hb.homes
  have hn2 : T.length ≤ 1024 := by
    obtain ⟨r, _, _, h2, _⟩ := h
    exact h2
  obtain ⟨n, hn⟩ : ∃ n, n = T.length := ⟨_, rfl⟩
  rw [← hn] at HR c0 hn2
  have hn3 : (n : Int) ≤ 1024 := by omega
  have HN := Lib.hid hn
  clear h hn hn2
  go_enter Try.func15, Try.ntmps15
  go_wp2_with (first
    | (go_at_call 28; refine HD.out.mono ?_; rintro e w1 ⟨rfl, rfl⟩)
    | fail)
  go_loopw [3, 12] (FreL w T n) (fun _ t _ => n - (intOf t).toNat)
  case atStart => exact ⟨0, 0, rfl, rfl, Nat.zero_le _, Nat.le_refl _, rfl, 0, rfl⟩
  case round =>
    obtain ⟨k, c, rfl, rfl, hk, hc, he, j, rfl⟩ := hrel
    have HE := Lib.hid he
    clear he
    by_cases hlt : k < n
    · have hlt' : (k : Int) < (n : Int) := by omega
      have hck : (c : Int) ≤ 1024 := by omega
      have HRk := Lib.hid (HR.out j k hlt)
      obtain ⟨b, hb⟩ : ∃ b, b = T.getD k false := ⟨_, rfl⟩
      rw [← hb] at HRk
      have HB := Lib.hid hb
      clear hb
      cases b
      · go_wp2_with (first
          | (go_at_call 29; refine HRk.out.mono ?_; rintro e w1 ⟨rfl, m, rfl⟩)
          | fail)
        exact ⟨FreL.next (b := false) HN.out hlt hc HE.out HB.out.symm _ _ (by simp) (by simp), by simp [intOf]; omega⟩
      · go_wp2_with (first
          | (go_at_call 29; refine HRk.out.mono ?_; rintro e w1 ⟨rfl, m, rfl⟩)
          | fail)
        exact ⟨FreL.next (b := true) HN.out hlt hc HE.out HB.out.symm _ _ (by simp) (by simp), by simp [intOf]; omega⟩
    · obtain rfl : k = n := by omega
      go_wp2
      go_ret
      exact ⟨by rw [← FreL.last HN.out rfl HE.out]; rfl, j, rfl⟩

def TakL (w : World) (T : List Bool) (n : Nat) (t12 : Value) (wr : World) : Prop :=
  ∃ k : Nat, t12 = .int .i64 (k : Int) ∧ k ≤ n ∧ (∀ j, j < k → T.getD j false = true) ∧ ∃ j, wr = w.drewN j
theorem take_found {T : List Bool} {k : Nat} (hk : k < T.length) (h : T.getD k false = false) (hl : ∀ j, j < k → T.getD j false = true) : takeT T = T.set k true ∧ takeI T = (k : Int) ∧ takeE T = 0 := by
  unfold takeT takeI takeE
  rw [least_at hk h hl, if_pos hk, if_pos hk]
  exact ⟨rfl, rfl, rfl⟩
theorem take_full {T : List Bool} (h : ∀ j, j < T.length → T.getD j false = true) : takeT T = T ∧ takeI T = -1 ∧ takeE T = 8 := by
  refine ⟨set_none (least_none h), ?_, ?_⟩
  · unfold takeI; rw [least_none h, if_neg (by omega)]
  · unfold takeE; rw [least_none h, if_neg (by omega)]
set_option maxRecDepth 3000 in
theorem take_am (w : World) (d : Nat) (T : List Bool) (h : Am w d T) : Calls Try.prog 9 #[.pointer (some ⟨d, 0, none⟩)] w fun e w' => e = .returned (.tuple #[.int .i64 (takeI T), .int .i64 (takeE T)]) ∧ Am w' d (takeT T) ∧ Adv (One d) w (One d) w' := by
  have HD := Lib.hid (made_am w d T h)
  have HR := Lib.hid (fun n k hk => rhas_am (w.drewN n) d T (h.drewN n) k hk)
  have HP := Lib.hid (fun n k hk => rput_am (w.drewN n) d T (h.drewN n) k hk)
  have HA := Lib.hid h
  have c0 : w.cell? ⟨d, 0, none⟩ = some (.int .i64 (T.length : Int)) := by
    obtain ⟨r, _, _, _, hb⟩ := h
    exact hb.homes
  have hn2 : T.length ≤ 1024 := by
    obtain ⟨r, _, _, h2, _⟩ := h
    exact h2
  obtain ⟨n, hn⟩ : ∃ n, n = T.length := ⟨_, rfl⟩
  rw [← hn] at HR HP c0 hn2
  have hn3 : (n : Int) ≤ 1024 := by omega
  have HN := Lib.hid hn
  clear h hn hn2
  go_enter Try.func9, Try.ntmps9
  go_wp2_with (first
    | (go_at_call 28; refine HD.out.mono ?_; rintro e w1 ⟨rfl, rfl⟩)
    | fail)
  go_loopw [12] (TakL w T n) (fun t _ => n - (intOf t).toNat)
  case atStart => exact ⟨0, rfl, Nat.zero_le _, fun j hj => absurd hj (by omega), 0, rfl⟩
  case round =>
    obtain ⟨k, rfl, hk, he, j, rfl⟩ := hrel
    have HE := Lib.hid he
    clear he
    by_cases hlt : k < n
    · have hlt' : (k : Int) < (n : Int) := by omega
      have HRk := Lib.hid (HR.out j k hlt)
      have HPk := Lib.hid (fun m => HP.out m k hlt)
      obtain ⟨b, hb⟩ : ∃ b, b = T.getD k false := ⟨_, rfl⟩
      rw [← hb] at HRk
      have HB := Lib.hid hb
      clear hb
      cases b
      · go_wp2_with (first
          | (go_at_call 29; refine HRk.out.mono ?_; rintro e w1 ⟨rfl, m, rfl⟩)
          | (go_at_call 30; refine (HPk.out _).mono ?_; rintro e w1 ⟨rfl, a1, a2⟩)
          | fail)
        go_ret2
        obtain ⟨e1, e2, e3⟩ := take_found (by rw [← HN.out]; exact hlt) HB.out.symm HE.out
        rw [e1, e2, e3]
        exact ⟨rfl, a1, Adv.of_drewN a2⟩
      · go_wp2_with (first
          | (go_at_call 29; refine HRk.out.mono ?_; rintro e w1 ⟨rfl, m, rfl⟩)
          | fail)
        refine ⟨⟨k + 1, by simp, by omega, fun i hi => ?_, _, rfl⟩, by simp [intOf]; omega⟩
        rcases Nat.lt_or_ge i k with h1 | h1
        · exact HE.out i h1
        · obtain rfl : i = k := by omega
          exact HB.out.symm
    · obtain rfl : k = n := by omega
      obtain ⟨e1, e2, e3⟩ := take_full (T := T) (by rw [← HN.out]; exact HE.out)
      have E1 := Lib.hid e1
      have E2 := Lib.hid e2
      have E3 := Lib.hid e3
      clear e1 e2 e3
      go_wp2
      go_ret2
      rw [E1.out, E2.out, E3.out]
      exact ⟨rfl, HA.out, (Adv.refl _ _).drewN _⟩
end Go.Proofs.Ytekafclhddhnpaa
