/- The program's map: made, home, New, Hold, Give, Has. -/
import Derived.Test.YtekafclhddhnpaaAmA
namespace Go.Proofs.Ytekafclhddhnpaa
open Go.RowKit

def mcells (n : Nat) (r : List Nat) : Array Value := (.int .i64 (n : Int) :: r.map u8).toArray
/-- the program's map of T -/
def Am (w : World) (d : Nat) (T : List Bool) : Prop := ∃ r, Rep r T ∧ 1 ≤ T.length ∧ T.length ≤ 1024 ∧ Blk w d 57 (mcells T.length r)
def One (d : Nat) : Nat → Prop := fun k => k = d

theorem mcells_at (n : Nat) (r : List Nat) (hr : r.length = 128) (j : Nat) (hj : j < 128) : (mcells n r)[1 + j]? = some (.int .u8 (r.getD j 0 : Int)) := by
  unfold mcells
  rw [List.getElem?_toArray, show 1 + j = j + 1 by omega, List.getElem?_cons_succ, List.getElem?_map, List.getD_eq_getElem?_getD, List.getElem?_eq_getElem (by omega)]
  rfl
theorem mcells_set (n : Nat) (r : List Nat) (j y : Nat) : (mcells n r).setIfInBounds (1 + j) (.int .u8 (y : Int)) = mcells n (r.set j y) := by
  unfold mcells
  rw [List.setIfInBounds_toArray, show 1 + j = j + 1 by omega, List.set_cons_succ, List.map_set]
  rfl
section
variable {w w' : World} {d n : Nat} {T : List Bool} {r : List Nat} {f : Nat → Bool}
theorem Blk.rowAt (h : Blk w d 57 (mcells n r)) (hr : r.length = 128) : RowAt w d 1 r := fun j hj => ⟨(h.cell _).trans (mcells_at n r hr j hj), h.frozen _⟩
theorem Blk.homes (h : Blk w d 57 (mcells n r)) : w.cell? ⟨d, 0, none⟩ = some (.int .i64 (n : Int)) := h.cell 0
theorem Am.keep (h : Am w d T) (k : w'.heap[d]? = w.heap[d]?) : Am w' d T := by
  obtain ⟨r, h1, h2, h3, h4⟩ := h
  exact ⟨r, h1, h2, h3, h4.keep k⟩
theorem Am.lt (h : Am w d T) : d < w.heap.size := by
  obtain ⟨r, h1, h2, h3, h4⟩ := h
  exact h4.lt
theorem Am.drewN (h : Am w d T) (k : Nat) : Am (w.drewN k) d T := h
theorem Am.drew (h : Am w d T) : Am w.drew d T := h
theorem Am.far {F F' : Nat → Prop} (h : Am w d T) (a : Adv F w F' w') (hF : ¬ F d) : Am w' d T := h.keep (a.block d h.lt hF)
theorem Am.put (hr : Rep r T) (h1 : 1 ≤ T.length) (h2 : T.length ≤ 1024) (h : Blk w d 57 (mcells T.length r)) {i : Nat} (hi : i < T.length) (k : Nat) :
    Am ((w.drewN k).setCell ⟨d, 1 + i / 8, none⟩ (.int .u8 ((r.getD (i / 8) 0 ||| bitN i : Nat) : Int))) d (T.set i true) := by
  refine ⟨putB r i, hr.put hi h2, by simpa using h1, by simpa using h2, ?_⟩
  have h3 := (show Blk (w.drewN k) d 57 (mcells T.length r) from h).set_ (1 + i / 8) (.int .u8 ((r.getD (i / 8) 0 ||| bitN i : Nat) : Int))
  rw [mcells_set] at h3
  rw [List.length_set]
  exact h3
theorem Am.drop (hr : Rep r T) (h1 : 1 ≤ T.length) (h2 : T.length ≤ 1024) (h : Blk w d 57 (mcells T.length r)) {i : Nat} (hi : i < T.length) (k : Nat) :
    Am ((w.drewN k).setCell ⟨d, 1 + i / 8, none⟩ (.int .u8 ((r.getD (i / 8) 0 &&& (255 - bitN i) : Nat) : Int))) d (T.set i false) := by
  refine ⟨dropB r i, hr.drop hi h2, by simpa using h1, by simpa using h2, ?_⟩
  have h3 := (show Blk (w.drewN k) d 57 (mcells T.length r) from h).set_ (1 + i / 8) (.int .u8 ((r.getD (i / 8) 0 &&& (255 - bitN i) : Nat) : Int))
  rw [mcells_set] at h3
  rw [List.length_set]
  exact h3
end
theorem adv_set (w : World) (d o k : Nat) (u : Value) : Adv (One d) w (One d) ((w.drewN k).setCell ⟨d, o, none⟩ u) :=
  (((Adv.refl (One d) w).drewN k)).setCell (p := ⟨d, o, none⟩) (.inl rfl) u

set_option maxRecDepth 3000 in
theorem made_am (w : World) (d : Nat) (T : List Bool) (h : Am w d T) : Calls Try.prog 28 #[.pointer (some ⟨d, 0, none⟩)] w fun e w' => e = .returned (.bool true) ∧ w = w' := by
  obtain ⟨r, _, h1, _, hb⟩ := h
  have c := hb.homes
  have h0 : 0 < T.length := by omega
  obtain ⟨n, hn⟩ : ∃ n, n = T.length := ⟨_, rfl⟩
  rw [← hn] at c h0
  clear hb h1 hn
  go_enter Try.func28, Try.ntmps28
  go_wp2
  go_ret
  exact ⟨rfl, rfl⟩
set_option maxRecDepth 3000 in
theorem home_am (w : World) (d : Nat) (T : List Bool) (h : Am w d T) (i : Int) : Calls Try.prog 31 #[.pointer (some ⟨d, 0, none⟩), .int .i64 i] w fun e w' => e = .returned (.bool (decide (hereT T i))) ∧ w = w' := by
  have HM := Lib.hid (made_am w d T h)
  obtain ⟨r, _, h1, _, hb⟩ := h
  have c := hb.homes
  obtain ⟨B, hB⟩ : ∃ B, B = decide (hereT T i) := ⟨_, rfl⟩
  rw [← hB]
  clear hb h1
  by_cases hi : i < 0
  · obtain rfl : B = false := by rw [hB]; exact decide_eq_false (by unfold hereT; omega)
    clear hB
    generalize T.length = n at c
    go_enter Try.func31, Try.ntmps31
    go_wp2_with (first
      | (go_at_call 28; refine HM.out.mono ?_; rintro e w1 ⟨rfl, rfl⟩)
      | fail)
    go_ret
    exact ⟨rfl, rfl⟩
  · replace hi : 0 ≤ i := by omega
    by_cases hn : i < (T.length : Int)
    · obtain rfl : B = true := by rw [hB]; exact decide_eq_true ⟨by omega, hn⟩
      clear hB
      generalize T.length = n at c hn
      go_enter Try.func31, Try.ntmps31
      go_wp2_with (first
        | (go_at_call 28; refine HM.out.mono ?_; rintro e w1 ⟨rfl, rfl⟩)
        | fail)
      go_ret
      exact ⟨rfl, rfl⟩
    · obtain rfl : B = false := by rw [hB]; exact decide_eq_false (by unfold hereT; omega)
      clear hB
      generalize T.length = n at c hn
      go_enter Try.func31, Try.ntmps31
      go_wp2_with (first
        | (go_at_call 28; refine HM.out.mono ?_; rintro e w1 ⟨rfl, rfl⟩)
        | fail)
      go_ret
      exact ⟨by show Ending.returned (.bool (decide (i < (n : Int)))) = _; rw [decide_eq_false (Int.not_lt.2 hn)], rfl⟩

theorem here_not {T : List Bool} {i : Int} (h : ¬ hereT T i) : hasT T i = false ∧ holdE T i = 2 ∧ holdT T i = T ∧ giveE T i = 2 ∧ giveT T i = T := by
  unfold hasT holdE holdT giveE giveT
  rw [decide_eq_false h, if_neg h, if_neg h, if_neg h, if_neg h]
  exact ⟨rfl, rfl, rfl, rfl, rfl⟩
theorem here_is {T : List Bool} {k : Nat} (h : k < T.length) : hereT T (k : Int) := ⟨by omega, by omega⟩
theorem here_yes {T : List Bool} {k : Nat} (h : k < T.length) : hasT T (k : Int) = T.getD k false ∧ holdE T (k : Int) = (if T.getD k false then 10 else 0) ∧ holdT T (k : Int) = T.set k true ∧ giveE T (k : Int) = (if T.getD k false then 0 else 11) ∧ giveT T (k : Int) = T.set k false := by
  have h' := here_is h
  unfold hasT holdE holdT giveE giveT
  rw [decide_eq_true h', if_pos h', if_pos h', if_pos h', if_pos h']
  exact ⟨by simp, rfl, rfl, rfl, rfl⟩
theorem here_nat {T : List Bool} {i : Int} (h : hereT T i) : ∃ k : Nat, i = (k : Int) ∧ k < T.length := by
  unfold hereT at h
  exact ⟨i.toNat, by omega, by omega⟩

theorem rhas_am (w : World) (d : Nat) (T : List Bool) (h : Am w d T) (k : Nat) (hk : k < T.length) : Calls Try.prog 29 #[.pointer (some ⟨d, 1, none⟩), .int .i64 (k : Int)] w fun e w' => e = .returned (.bool (T.getD k false)) ∧ ∃ m, w' = w.drewN m := by
  obtain ⟨r, hr, h1, h2, hb⟩ := h
  rw [← hr.has hk h2]
  exact rhas_any d 1 k r (by omega) hr.lt w (hb.rowAt hr.len)
theorem rput_am (w : World) (d : Nat) (T : List Bool) (h : Am w d T) (k : Nat) (hk : k < T.length) : Calls Try.prog 30 #[.pointer (some ⟨d, 1, none⟩), .int .i64 (k : Int)] w fun e w' => e = .returned (.tuple #[]) ∧ Am w' d (T.set k true) ∧ Adv (One d) w (One d) w' := by
  obtain ⟨r, hr, h1, h2, hb⟩ := h
  refine (rput_any d 1 k r (by omega) hr.lt w (hb.rowAt hr.len)).mono ?_
  rintro e w' ⟨rfl, n, rfl⟩
  exact ⟨rfl, Am.put hr h1 h2 hb hk n, adv_set _ _ _ _ _⟩
theorem rdrop_am (w : World) (d : Nat) (T : List Bool) (h : Am w d T) (k : Nat) (hk : k < T.length) : Calls Try.prog 32 #[.pointer (some ⟨d, 1, none⟩), .int .i64 (k : Int)] w fun e w' => e = .returned (.tuple #[]) ∧ Am w' d (T.set k false) ∧ Adv (One d) w (One d) w' := by
  obtain ⟨r, hr, h1, h2, hb⟩ := h
  refine (rdrop_any d 1 k r (by omega) hr.lt w (hb.rowAt hr.len)).mono ?_
  rintro e w' ⟨rfl, n, rfl⟩
  exact ⟨rfl, Am.drop hr h1 h2 hb hk n, adv_set _ _ _ _ _⟩

set_option maxRecDepth 3000 in
/-- Has, in whatever world that drew from here -/
theorem has_am (w : World) (d : Nat) (T : List Bool) (h : Am w d T) (i : Int) : Calls Try.prog 17 #[.pointer (some ⟨d, 0, none⟩), .int .i64 i] w fun e w' => e = .returned (.bool (hasT T i)) ∧ ∃ m, w' = w.drewN m := by
  have HM := Lib.hid (home_am w d T h i)
  by_cases hh : hereT T i
  · obtain ⟨k, rfl, hk⟩ := here_nat hh
    have HR := Lib.hid (fun n => (rhas_am (w.drewN n) d T (h.drewN n) k hk))
    rw [(here_yes hk).1]
    rw [decide_eq_true hh] at HM
    generalize T.getD k false = c at HR ⊢
    clear h hk hh
    go_enter Try.func17, Try.ntmps17
    go_wp2_with (first
      | (go_at_call 31; refine HM.out.mono ?_; rintro e w1 ⟨rfl, rfl⟩)
      | (go_at_call 29; refine (HR.out 0).mono ?_; rintro e w1 ⟨rfl, n, rfl⟩)
      | fail)
    go_ret
    exact ⟨rfl, n, rfl⟩
  · rw [(here_not hh).1]
    rw [decide_eq_false hh] at HM
    clear h hh
    go_enter Try.func17, Try.ntmps17
    go_wp2_with (first
      | (go_at_call 31; refine HM.out.mono ?_; rintro e w1 ⟨rfl, rfl⟩)
      | fail)
    go_ret
    exact ⟨rfl, 0, rfl⟩

set_option maxRecDepth 3000 in
set_option maxHeartbeats 400000 in
theorem hold_am (w : World) (d : Nat) (T : List Bool) (h : Am w d T) (i : Int) : Calls Try.prog 11 #[.pointer (some ⟨d, 0, none⟩), .int .i64 i] w fun e w' => e = .returned (.int .i64 (holdE T i)) ∧ Am w' d (holdT T i) ∧ Adv (One d) w (One d) w' := by
  have HD := Lib.hid (made_am w d T h)
  have HM := Lib.hid (home_am w d T h i)
  have HA := Lib.hid h
  by_cases hh : hereT T i
  · obtain ⟨k, rfl, hk⟩ := here_nat hh
    have HR := Lib.hid (rhas_am w d T h k hk)
    have HP := Lib.hid (fun n => (rput_am (w.drewN n) d T (h.drewN n) k hk))
    obtain ⟨_, e1, e2, e3, e4⟩ := here_yes hk
    rw [e1, e2]
    rw [decide_eq_true hh] at HM
    have HT := Lib.hid (fun (b : Bool) (e : T.getD k false = b) => set_same e hk)
    generalize hc : T.getD k false = c at HR HT ⊢
    clear e1 e2 e3 e4 hk hh h hc
    cases c
    · go_enter Try.func11, Try.ntmps11
      go_wp2_with (first
        | (go_at_call 28; refine HD.out.mono ?_; rintro e w1 ⟨rfl, rfl⟩)
        | (go_at_call 31; refine HM.out.mono ?_; rintro e w1 ⟨rfl, rfl⟩)
        | (go_at_call 29; refine HR.out.mono ?_; rintro e w1 ⟨rfl, n, rfl⟩)
        | (go_at_call 30; refine (HP.out n).mono ?_; rintro e w1 ⟨rfl, a1, a2⟩)
        | fail)
      go_ret
      exact ⟨rfl, a1, Adv.of_drewN a2⟩
    · go_enter Try.func11, Try.ntmps11
      go_wp2_with (first
        | (go_at_call 28; refine HD.out.mono ?_; rintro e w1 ⟨rfl, rfl⟩)
        | (go_at_call 31; refine HM.out.mono ?_; rintro e w1 ⟨rfl, rfl⟩)
        | (go_at_call 29; refine HR.out.mono ?_; rintro e w1 ⟨rfl, n, rfl⟩)
        | fail)
      go_ret
      refine ⟨rfl, ?_, (Adv.refl _ _).drewN _⟩
      rw [HT.out _ rfl]
      exact HA.out.drewN _
  · obtain ⟨_, e1, e2, e3, e4⟩ := here_not hh
    rw [e1, e2]
    rw [decide_eq_false hh] at HM
    clear h hh e1 e2 e3 e4
    go_enter Try.func11, Try.ntmps11
    go_wp2_with (first
      | (go_at_call 28; refine HD.out.mono ?_; rintro e w1 ⟨rfl, rfl⟩)
      | (go_at_call 31; refine HM.out.mono ?_; rintro e w1 ⟨rfl, rfl⟩)
      | fail)
    go_ret
    exact ⟨rfl, HA.out, (Adv.refl _ _)⟩

set_option maxRecDepth 3000 in
set_option maxHeartbeats 400000 in
theorem give_am (w : World) (d : Nat) (T : List Bool) (h : Am w d T) (i : Int) : Calls Try.prog 13 #[.pointer (some ⟨d, 0, none⟩), .int .i64 i] w fun e w' => e = .returned (.int .i64 (giveE T i)) ∧ Am w' d (giveT T i) ∧ Adv (One d) w (One d) w' := by
  have HD := Lib.hid (made_am w d T h)
  have HM := Lib.hid (home_am w d T h i)
  have HA := Lib.hid h
  by_cases hh : hereT T i
  · obtain ⟨k, rfl, hk⟩ := here_nat hh
    have HR := Lib.hid (rhas_am w d T h k hk)
    have HP := Lib.hid (fun n => (rdrop_am (w.drewN n) d T (h.drewN n) k hk))
    obtain ⟨_, e1, e2, e3, e4⟩ := here_yes hk
    rw [e3, e4]
    rw [decide_eq_true hh] at HM
    have HT := Lib.hid (fun (b : Bool) (e : T.getD k false = b) => set_same e hk)
    generalize hc : T.getD k false = c at HR HT ⊢
    clear e1 e2 e3 e4 hk hh h hc
    cases c
    · go_enter Try.func13, Try.ntmps13
      go_wp2_with (first
        | (go_at_call 28; refine HD.out.mono ?_; rintro e w1 ⟨rfl, rfl⟩)
        | (go_at_call 31; refine HM.out.mono ?_; rintro e w1 ⟨rfl, rfl⟩)
        | (go_at_call 29; refine HR.out.mono ?_; rintro e w1 ⟨rfl, n, rfl⟩)
        | fail)
      go_ret
      refine ⟨rfl, ?_, (Adv.refl _ _).drewN _⟩
      rw [HT.out _ rfl]
      exact HA.out.drewN _
    · go_enter Try.func13, Try.ntmps13
      go_wp2_with (first
        | (go_at_call 28; refine HD.out.mono ?_; rintro e w1 ⟨rfl, rfl⟩)
        | (go_at_call 31; refine HM.out.mono ?_; rintro e w1 ⟨rfl, rfl⟩)
        | (go_at_call 29; refine HR.out.mono ?_; rintro e w1 ⟨rfl, n, rfl⟩)
        | (go_at_call 32; refine (HP.out n).mono ?_; rintro e w1 ⟨rfl, a1, a2⟩)
        | fail)
      go_ret
      exact ⟨rfl, a1, Adv.of_drewN a2⟩
  · obtain ⟨_, e1, e2, e3, e4⟩ := here_not hh
    rw [e3, e4]
    rw [decide_eq_false hh] at HM
    clear h hh e1 e2 e3 e4
    go_enter Try.func13, Try.ntmps13
    go_wp2_with (first
      | (go_at_call 28; refine HD.out.mono ?_; rintro e w1 ⟨rfl, rfl⟩)
      | (go_at_call 31; refine HM.out.mono ?_; rintro e w1 ⟨rfl, rfl⟩)
      | fail)
    go_ret
    exact ⟨rfl, HA.out, (Adv.refl _ _)⟩
end Go.Proofs.Ytekafclhddhnpaa
