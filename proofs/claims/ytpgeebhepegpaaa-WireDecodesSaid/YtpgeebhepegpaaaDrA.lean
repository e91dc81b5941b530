/- Whether an entry is right: the program's and the document's. -/
import Derived.Test.YtpgeebhepegpaaaDrM
import Derived.Test.YtpgeebhepegpaaaNm
namespace Go.Proofs.Ytpgeebhepegpaaa
open Go.ChangeShapes Go.WideShapes Go.ChangeAt Go.RowKit

def ea (e : En) : Array Value := #[.string e.s, .int .i64 e.i, .int .i64 e.g, .int .i64 e.k]
set_option maxRecDepth 3000 in
theorem ea_list (e : En) : (ea e).toList = ec e := rfl
/-- the cells of an entry in a block -/
structure E4 (w : World) (y : Nat) (e : En) : Prop where
  all : w.cell? ⟨y, 0, none⟩ = some (.string e.s) ∧ w.cell? ⟨y, 1, none⟩ = some (.int .i64 e.i) ∧ w.cell? ⟨y, 2, none⟩ = some (.int .i64 e.g) ∧ w.cell? ⟨y, 3, none⟩ = some (.int .i64 e.k)
set_option maxRecDepth 3000 in
theorem Blk.e4 {w : World} {y : Nat} {t : TypeId} {e : En} (h : Blk w y t (ea e)) : E4 w y e := ⟨⟨h.cell 0, h.cell 1, h.cell 2, h.cell 3⟩⟩
set_option maxRecDepth 3000 in
theorem nadv {w w' : World} (h : Below w.heap.size w w') : Adv Nul w Nul w' := Adv.of_below h

set_option maxRecDepth 3000 in
set_option maxHeartbeats 1600000 in
theorem isright_any (e : En) (hs : e.s.size ≤ maxLen) (w : World) : Calls Try.prog 93 #[.agg (ea e)] w fun x w' => x = .returned (.bool (decide (okE e))) ∧ Adv Nul w Nul w' := by
  obtain ⟨y, hy⟩ : ∃ y, y = w.heap.size := ⟨_, rfl⟩
  obtain ⟨V, hV⟩ : ∃ V, V = w.alloc (.cells (ea e) 54) := ⟨_, rfl⟩
  obtain ⟨U, hU⟩ : ∃ U, U = V.alloc (.cells #[.int .i64 e.i, .int .i64 e.g] 25) := ⟨_, rfl⟩
  obtain ⟨z, hz⟩ : ∃ z, z = V.heap.size := ⟨_, rfl⟩
  have HY := Lib.hid (show Blk V y 54 (ea e) by rw [hV, hy]; exact Blk.new _ _ _)
  have HYU := Lib.hid (show Blk U y 54 (ea e) by rw [hU]; exact HY.out.alloc _)
  have HZU := Lib.hid (show Blk U z 25 #[.int .i64 e.i, .int .i64 e.g] by rw [hU, hz]; exact Blk.new _ _ _)
  have HA := Lib.hid (show Adv Nul w Nul U by rw [hU, hV]; exact ((Adv.refl _ _).alloc _).alloc _)
  have HV := Lib.hid hV
  have HU := Lib.hid hU
  have HYY := Lib.hid hy
  have HZZ := Lib.hid hz
  obtain ⟨c, hc⟩ : ∃ c, c = chkV e.s := ⟨_, rfl⟩
  have HCHK := Lib.hid (show Calls Try.prog 60 #[.string e.s] U fun x w' => x = .returned (.int .i64 c) ∧ Below U.heap.size U w' by rw [hc]; exact check_any e.s U hs)
  obtain ⟨B, hB⟩ : ∃ B, B = decide (okE e) := ⟨_, rfl⟩
  rw [← hB]
  have HOK := Lib.hid (show (c = 0 ∧ 0 < e.i ∧ e.i < 41 ∧ 0 ≤ e.g ∧ e.g < 2147483648 ∧ 0 < e.k ∧ e.k < 3 → B = true) ∧ (¬ (c = 0 ∧ 0 < e.i ∧ e.i < 41 ∧ 0 ≤ e.g ∧ e.g < 2147483648 ∧ 0 < e.k ∧ e.k < 3) → B = false) ∧ (c = 0 ∨ c = 9) by
    have hn : (c = 0 ↔ NameL e.s.data.toList) ∧ (c = 0 ∨ c = 9) := by
      rw [hc]; unfold chkV
      by_cases h : Nam e.s
      · rw [if_pos h]; exact ⟨⟨fun _ => h, fun _ => rfl⟩, .inl rfl⟩
      · rw [if_neg h]; exact ⟨⟨fun x => absurd x (by decide), fun x => absurd x h⟩, .inr rfl⟩
    refine ⟨fun h => ?_, fun h => ?_, hn.2⟩
    · rw [hB]; exact decide_eq_true ⟨hn.1.1 h.1, h.2⟩
    · rw [hB]; exact decide_eq_false fun o => h ⟨hn.1.2 o.1, o.2⟩)
  obtain ⟨s0, s1, s2, s3⟩ := HY.out.e4.all
  clear hV hU hy hz hc hB
  obtain ⟨s, i, g, k⟩ := e
  simp only [ea] at HV ⊢
  simp only at s0 s1 s2 s3 hs HOK HU HZU HCHK
  go_enter Try.func93, Try.ntmps93
  go_upto_region 1 with (fail)
  rw [← HV.out, ← HYY.out]
  go_upto_region 2 with (fail)
  rw [← HU.out, ← HZZ.out]
  clear s0 s1 s2 s3
  obtain ⟨s0, s1, s2, s3⟩ := HYU.out.e4.all
  simp only at s0 s1 s2 s3
  have z0 : U.cell? ⟨z, 0, none⟩ = some (.int .i64 i) := HZU.out.cell 0
  have z1 : U.cell? ⟨z, 1, none⟩ = some (.int .i64 g) := HZU.out.cell 1
  have HN := Lib.hid (fun (w1 : World) (b1 : Below U.heap.size U w1) => show (w1.cell? ⟨y, 0, none⟩ = some (.string s) ∧ w1.cell? ⟨y, 1, none⟩ = some (.int .i64 i) ∧ w1.cell? ⟨y, 2, none⟩ = some (.int .i64 g) ∧ w1.cell? ⟨y, 3, none⟩ = some (.int .i64 k)) ∧ w1.cell? ⟨z, 0, none⟩ = some (.int .i64 i) ∧ w1.cell? ⟨z, 1, none⟩ = some (.int .i64 g) from ⟨(HYU.out.keep ((nadv b1).block _ HYU.out.lt (fun x => x))).e4.all, (HZU.out.keep ((nadv b1).block _ HZU.out.lt (fun x => x))).cell 0, (HZU.out.keep ((nadv b1).block _ HZU.out.lt (fun x => x))).cell 1⟩)
  rcases HOK.out.2.2 with rfl | rfl
  · by_cases h1 : 1 ≤ i
    · by_cases h2 : i ≤ 40
      · by_cases h3 : 0 ≤ g
        · by_cases h4 : g ≤ 2147483647
          · by_cases h5 : k = 1
            · obtain rfl := HOK.out.1 ⟨rfl, by omega, by omega, by omega, by omega, by omega, by omega⟩
              subst h5
              go_wp2_with (first | (go_at_call 60; refine HCHK.out.mono ?_; rintro x w1 ⟨rfl, b1⟩; have HB1 := Lib.hid (HA.out.trans (nadv b1)); obtain ⟨⟨t0, t1, t2, t3⟩, q0, q1⟩ := HN.out w1 b1; clear b1 s0 s1 s2 s3 z0 z1 HCHK) | fail)
              go_ret
              exact ⟨by first | rfl | simp [*], HB1.out⟩
            · by_cases h6 : k = 2
              · obtain rfl := HOK.out.1 ⟨rfl, by omega, by omega, by omega, by omega, by omega, by omega⟩
                subst h6
                clear h5
                go_wp2_with (first | (go_at_call 60; refine HCHK.out.mono ?_; rintro x w1 ⟨rfl, b1⟩; have HB1 := Lib.hid (HA.out.trans (nadv b1)); obtain ⟨⟨t0, t1, t2, t3⟩, q0, q1⟩ := HN.out w1 b1; clear b1 s0 s1 s2 s3 z0 z1 HCHK) | fail)
                go_ret
                exact ⟨by first | rfl | simp [*], HB1.out⟩
              · obtain rfl := HOK.out.2.1 (by omega)
                have h5' : (k == 1) = false := beq_eq_false_iff_ne.2 h5
                have h6' : (k == 2) = false := beq_eq_false_iff_ne.2 h6
                clear h5 h6
                go_wp2_with (first | (go_at_call 60; refine HCHK.out.mono ?_; rintro x w1 ⟨rfl, b1⟩; have HB1 := Lib.hid (HA.out.trans (nadv b1)); obtain ⟨⟨t0, t1, t2, t3⟩, q0, q1⟩ := HN.out w1 b1; clear b1 s0 s1 s2 s3 z0 z1 HCHK) | fail)
                go_ret
                exact ⟨by first | rfl | simp [*], HB1.out⟩
          · obtain rfl := HOK.out.2.1 (by omega)
            go_wp2_with (first | (go_at_call 60; refine HCHK.out.mono ?_; rintro x w1 ⟨rfl, b1⟩; have HB1 := Lib.hid (HA.out.trans (nadv b1)); obtain ⟨⟨t0, t1, t2, t3⟩, q0, q1⟩ := HN.out w1 b1; clear b1 s0 s1 s2 s3 z0 z1 HCHK) | fail)
            go_ret
            exact ⟨by first | rfl | simp [*], HB1.out⟩
        · obtain rfl := HOK.out.2.1 (by omega)
          go_wp2_with (first | (go_at_call 60; refine HCHK.out.mono ?_; rintro x w1 ⟨rfl, b1⟩; have HB1 := Lib.hid (HA.out.trans (nadv b1)); obtain ⟨⟨t0, t1, t2, t3⟩, q0, q1⟩ := HN.out w1 b1; clear b1 s0 s1 s2 s3 z0 z1 HCHK) | fail)
          go_ret
          exact ⟨by first | rfl | simp [*], HB1.out⟩
      · obtain rfl := HOK.out.2.1 (by omega)
        go_wp2_with (first | (go_at_call 60; refine HCHK.out.mono ?_; rintro x w1 ⟨rfl, b1⟩; have HB1 := Lib.hid (HA.out.trans (nadv b1)); obtain ⟨⟨t0, t1, t2, t3⟩, q0, q1⟩ := HN.out w1 b1; clear b1 s0 s1 s2 s3 z0 z1 HCHK) | fail)
        go_ret
        exact ⟨by first | rfl | simp [*], HB1.out⟩
    · obtain rfl := HOK.out.2.1 (by omega)
      go_wp2_with (first | (go_at_call 60; refine HCHK.out.mono ?_; rintro x w1 ⟨rfl, b1⟩; have HB1 := Lib.hid (HA.out.trans (nadv b1)); obtain ⟨⟨t0, t1, t2, t3⟩, q0, q1⟩ := HN.out w1 b1; clear b1 s0 s1 s2 s3 z0 z1 HCHK) | fail)
      go_ret
      exact ⟨by first | rfl | simp [*], HB1.out⟩
  · obtain rfl := HOK.out.2.1 (by omega)
    go_wp2_with (first | (go_at_call 60; refine HCHK.out.mono ?_; rintro x w1 ⟨rfl, b1⟩; have HB1 := Lib.hid (HA.out.trans (nadv b1)); obtain ⟨⟨t0, t1, t2, t3⟩, q0, q1⟩ := HN.out w1 b1; clear b1 s0 s1 s2 s3 z0 z1 HCHK) | fail)
    go_ret
    exact ⟨by first | rfl | simp [*], HB1.out⟩

set_option maxRecDepth 3000 in
set_option maxHeartbeats 1600000 in
theorem q9is_any (e : En) (hs : e.s.size ≤ maxLen) (w : World) : Calls Try.prog 84 #[.agg (ea e)] w fun x w' => x = .returned (.bool (decide (okE e))) ∧ Adv Nul w Nul w' := by
  obtain ⟨y, hy⟩ : ∃ y, y = w.heap.size := ⟨_, rfl⟩
  obtain ⟨V, hV⟩ : ∃ V, V = w.alloc (.cells (ea e) 54) := ⟨_, rfl⟩
  have HY := Lib.hid (show Blk V y 54 (ea e) by rw [hV, hy]; exact Blk.new _ _ _)
  have HA := Lib.hid (show Adv Nul w Nul V by rw [hV]; exact (Adv.refl _ _).alloc _)
  have HV := Lib.hid hV
  have HYY := Lib.hid hy
  obtain ⟨c, hc⟩ : ∃ c, c = decide (Nam e.s) := ⟨_, rfl⟩
  have HCHK := Lib.hid (show Calls Try.prog 66 #[.string e.s] V fun x w' => x = .returned (.bool c) ∧ V = w' by rw [hc]; exact is_any e.s V hs)
  obtain ⟨B, hB⟩ : ∃ B, B = decide (okE e) := ⟨_, rfl⟩
  rw [← hB]
  have HOK := Lib.hid (show (c = true ∧ 0 < e.i ∧ e.i < 41 ∧ 0 ≤ e.g ∧ e.g < 2147483648 ∧ 0 < e.k ∧ e.k < 3 → B = true) ∧ (¬ (c = true ∧ 0 < e.i ∧ e.i < 41 ∧ 0 ≤ e.g ∧ e.g < 2147483648 ∧ 0 < e.k ∧ e.k < 3) → B = false) by
    have hn : c = true ↔ NameL e.s.data.toList := by rw [hc, decide_eq_true_iff]; rfl
    refine ⟨fun h => ?_, fun h => ?_⟩
    · rw [hB]; exact decide_eq_true ⟨hn.1 h.1, h.2⟩
    · rw [hB]; exact decide_eq_false fun o => h ⟨hn.2 o.1, o.2⟩)
  obtain ⟨s0, s1, s2, s3⟩ := HY.out.e4.all
  clear hV hy hc hB
  obtain ⟨s, i, g, k⟩ := e
  simp only [ea] at HV ⊢
  simp only at s0 s1 s2 s3 hs HOK HCHK
  go_enter Try.func84, Try.ntmps84
  go_upto_region 1 with (fail)
  rw [← HV.out, ← HYY.out]
  cases c with
  | true =>
    by_cases h1 : 0 < i
    · by_cases h2 : i < 41
      · by_cases h3 : 0 ≤ g
        · by_cases h4 : g < 2147483648
          · by_cases h5 : 0 < k
            · by_cases h6 : k < 3
              · obtain rfl := HOK.out.1 ⟨rfl, h1, h2, h3, h4, h5, h6⟩
                go_wp2_with (first | (go_at_call 66; refine HCHK.out.mono ?_; rintro x w1 ⟨rfl, rfl⟩; have HB1 := HA; clear HCHK) | fail)
                go_ret
                exact ⟨by first | rfl | simp [*], HB1.out⟩
              · obtain rfl := HOK.out.2 (by omega)
                go_wp2_with (first | (go_at_call 66; refine HCHK.out.mono ?_; rintro x w1 ⟨rfl, rfl⟩; have HB1 := HA; clear HCHK) | fail)
                go_ret
                exact ⟨by first | rfl | simp [*], HB1.out⟩
            · obtain rfl := HOK.out.2 (by omega)
              go_wp2_with (first | (go_at_call 66; refine HCHK.out.mono ?_; rintro x w1 ⟨rfl, rfl⟩; have HB1 := HA; clear HCHK) | fail)
              go_ret
              exact ⟨by first | rfl | simp [*], HB1.out⟩
          · obtain rfl := HOK.out.2 (by omega)
            go_wp2_with (first | (go_at_call 66; refine HCHK.out.mono ?_; rintro x w1 ⟨rfl, rfl⟩; have HB1 := HA; clear HCHK) | fail)
            go_ret
            exact ⟨by first | rfl | simp [*], HB1.out⟩
        · obtain rfl := HOK.out.2 (by omega)
          go_wp2_with (first | (go_at_call 66; refine HCHK.out.mono ?_; rintro x w1 ⟨rfl, rfl⟩; have HB1 := HA; clear HCHK) | fail)
          go_ret
          exact ⟨by first | rfl | simp [*], HB1.out⟩
      · obtain rfl := HOK.out.2 (by omega)
        go_wp2_with (first | (go_at_call 66; refine HCHK.out.mono ?_; rintro x w1 ⟨rfl, rfl⟩; have HB1 := HA; clear HCHK) | fail)
        go_ret
        exact ⟨by first | rfl | simp [*], HB1.out⟩
    · obtain rfl := HOK.out.2 (by omega)
      go_wp2_with (first | (go_at_call 66; refine HCHK.out.mono ?_; rintro x w1 ⟨rfl, rfl⟩; have HB1 := HA; clear HCHK) | fail)
      go_ret
      exact ⟨by first | rfl | simp [*], HB1.out⟩
  | false =>
    obtain rfl := HOK.out.2 (by simp)
    go_wp2_with (first | (go_at_call 66; refine HCHK.out.mono ?_; rintro x w1 ⟨rfl, rfl⟩; have HB1 := HA; clear HCHK) | fail)
    go_ret
    exact ⟨by first | rfl | simp [*], HB1.out⟩
end Go.Proofs.Ytpgeebhepegpaaa
