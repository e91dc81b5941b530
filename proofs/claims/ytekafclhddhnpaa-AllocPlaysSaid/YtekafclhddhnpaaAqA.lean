/- The document's map: New, Has, Free, Take, Hold, Give. -/
import Derived.Test.YtekafclhddhnpaaAmO
namespace Go.Proofs.Ytekafclhddhnpaa
open Go.RowKit

/-- the document's map of T -/
structure Qm (w : World) (d g : Nat) (T : List Bool) : Prop where
  len : T.length ≤ 1024
  pos : 1 ≤ T.length
  blk : Blk w d 59 #[.slice (some ⟨g, 0, none⟩) T.length T.length]
  row : Bo w g T
  ne : g ≠ d
def Two (d g : Nat) : Nat → Prop := fun k => k = d ∨ k = g
section
variable {w w' : World} {d g k : Nat} {T : List Bool}
theorem Qm.keep (h : Qm w d g T) (h1 : w'.heap[d]? = w.heap[d]?) (h2 : w'.heap[g]? = w.heap[g]?) : Qm w' d g T := ⟨h.len, h.pos, h.blk.keep h1, Blk.keep h.row h2, h.ne⟩
theorem Qm.drewN (h : Qm w d g T) (n : Nat) : Qm (w.drewN n) d g T := ⟨h.len, h.pos, h.blk, h.row, h.ne⟩
theorem Qm.lt (h : Qm w d g T) : d < w.heap.size ∧ g < w.heap.size := ⟨h.blk.lt, Blk.lt h.row⟩
theorem Qm.far {F F' : Nat → Prop} (h : Qm w d g T) (a : Adv F w F' w') (h1 : ¬ F d) (h2 : ¬ F g) : Qm w' d g T := h.keep (a.block d h.lt.1 h1) (a.block g h.lt.2 h2)
theorem Qm.c0 (h : Qm w d g T) : w.cell? ⟨d, 0, none⟩ = some (.slice (some ⟨g, 0, none⟩) T.length T.length) := h.blk.cell 0
theorem Qm.put (h : Qm w d g T) (k : Nat) (b : Bool) : Qm (w.setCell ⟨g, k, none⟩ (.bool b)) d g (T.set k b) :=
  ⟨by simpa using h.len, by simpa using h.pos, by rw [List.length_set]; exact h.blk.far h.ne.symm _, Bo.put h.row k b, h.ne⟩
theorem adv_row (w : World) (d g k : Nat) (u : Value) : Adv (Two d g) w (Two d g) (w.setCell ⟨g, k, none⟩ u) := (Adv.refl _ w).setCell (p := ⟨g, k, none⟩) (.inl (.inr rfl)) u
end

set_option maxRecDepth 3000 in
theorem qnew_yes (n : Nat) (h1 : 1 ≤ n) (h2 : n ≤ 1024) (w : World) : Calls Try.prog 8 #[.int .i64 (n : Int)] w fun e w' => ∃ d g, e = .returned (.tuple #[.pointer (some ⟨d, 0, none⟩), .int .i64 0]) ∧ Qm w' d g (List.replicate n false) ∧ Adv Nul w (Two d g) w' := by
  have h1' : (1 : Int) ≤ (n : Int) := by omega
  have h2' : (n : Int) ≤ 1024 := by omega
  have hmk := fun w => made_bools n h2 w
  obtain ⟨C, hC⟩ : ∃ C, C = ((List.replicate n false).map Value.bool).toArray := ⟨_, rfl⟩
  rw [← hC] at hmk
  have HF := Lib.hid (show Qm ((w.alloc (.cells C 4)).alloc (.cells #[.slice (some ⟨w.heap.size, 0, none⟩) n n] 59)) (w.heap.size + 1) w.heap.size (List.replicate n false) from
    ⟨by simpa using h2, by simpa using h1, by rw [List.length_replicate]; have := Blk.new (w.alloc (.cells C 4)) 59 #[.slice (some ⟨w.heap.size, 0, none⟩) n n]; simpa using this, by unfold Bo; rw [← hC]; exact (Blk.new w 4 C).alloc _, by omega⟩)
  have HA := Lib.hid (show Adv Nul w (Two (w.heap.size + 1) w.heap.size) ((w.alloc (.cells C 4)).alloc (.cells #[.slice (some ⟨w.heap.size, 0, none⟩) n n] 59)) from
    ⟨rfl, rfl, rfl, by simp; omega, fun k hk _ => by rw [Below.heap_alloc _ _ _ (by simp; omega), Below.heap_alloc _ _ _ hk], fun k hk => .inr (by rcases hk with h | h <;> omega)⟩)
  clear hC h1 h2
  go_enter Try.func8, Try.ntmps8
  go_wp2
  go_ret2
  exact ⟨_, _, rfl, HF.out, HA.out⟩
set_option maxRecDepth 3000 in
theorem qnew_no (n : Int) (h : n < 1 ∨ 1024 < n) (w : World) : Calls Try.prog 8 #[.int .i64 n] w fun e w' => e = .returned (.tuple #[.pointer none, .int .i64 2]) ∧ w = w' := by
  by_cases h1 : n < 1
  · clear h
    go_enter Try.func8, Try.ntmps8
    go_wp2
    go_ret2
    exact ⟨rfl, rfl⟩
  · have h2 : 1024 < n := by omega
    have h3 : 1 ≤ n := by omega
    clear h h1
    go_enter Try.func8, Try.ntmps8
    go_wp2
    go_ret2
    exact ⟨rfl, rfl⟩

set_option maxRecDepth 3000 in
theorem qhas_any (w : World) (d g : Nat) (T : List Bool) (h : Qm w d g T) (i : Int) : Calls Try.prog 18 #[.pointer (some ⟨d, 0, none⟩), .int .i64 i] w fun e w' => e = .returned (.bool (hasT T i)) ∧ w = w' := by
  have c0 := h.c0
  by_cases hh : hereT T i
  · obtain ⟨k, rfl, hk⟩ := here_nat hh
    obtain ⟨cg, _⟩ := h.row.at_ hk
    rw [(here_yes hk).1]
    generalize T.getD k false = b at cg ⊢
    have hkn : (k : Int) < (T.length : Int) := by omega
    have hk0 : (0 : Int) ≤ (k : Int) := by omega
    generalize T.length = n at c0 hkn
    clear h hh hk
    go_enter Try.func18, Try.ntmps18
    go_wp2
    go_ret
    exact ⟨rfl, rfl⟩
  · rw [(here_not hh).1]
    unfold hereT at hh
    generalize T.length = n at c0 hh
    clear h
    by_cases h0 : i < 0
    · clear hh
      go_enter Try.func18, Try.ntmps18
      go_wp2
      go_ret
      exact ⟨rfl, rfl⟩
    · have h1 : (n : Int) ≤ i := by omega
      have h2 : 0 ≤ i := by omega
      clear h0 hh
      go_enter Try.func18, Try.ntmps18
      go_wp2
      go_ret
      exact ⟨rfl, rfl⟩

set_option maxRecDepth 3000 in
theorem qhold_any (w : World) (d g : Nat) (T : List Bool) (h : Qm w d g T) (i : Int) : Calls Try.prog 12 #[.pointer (some ⟨d, 0, none⟩), .int .i64 i] w fun e w' => e = .returned (.int .i64 (holdE T i)) ∧ Qm w' d g (holdT T i) ∧ Adv (Two d g) w (Two d g) w' := by
  have c0 := h.c0
  have HQ := Lib.hid h
  by_cases hh : hereT T i
  · obtain ⟨k, rfl, hk⟩ := here_nat hh
    obtain ⟨cg, fg⟩ := h.row.at_ hk
    have HP := Lib.hid (h.put k true)
    have HAd := Lib.hid (adv_row w d g k (.bool true))
    obtain ⟨_, e1, e2, e3, e4⟩ := here_yes hk
    rw [e1, e2]
    have HT := Lib.hid (fun (b : Bool) (e : T.getD k false = b) => set_same e hk)
    have hkn : (k : Int) < (T.length : Int) := by omega
    have hk0 : (0 : Int) ≤ (k : Int) := by omega
    generalize hc : T.getD k false = c at cg HT ⊢
    generalize T.length = n at c0 hkn
    clear e1 e2 e3 e4 hk hh h hc
    cases c
    · go_enter Try.func12, Try.ntmps12
      go_wp2
      go_ret
      exact ⟨rfl, HP.out, HAd.out⟩
    · go_enter Try.func12, Try.ntmps12
      go_wp2
      go_ret
      exact ⟨rfl, by rw [HT.out _ rfl]; exact HQ.out, Adv.refl _ _⟩
  · obtain ⟨_, e1, e2, e3, e4⟩ := here_not hh
    rw [e1, e2]
    unfold hereT at hh
    generalize T.length = n at c0 hh
    clear h e1 e2 e3 e4
    by_cases h0 : i < 0
    · clear hh
      go_enter Try.func12, Try.ntmps12
      go_wp2
      go_ret
      exact ⟨rfl, HQ.out, Adv.refl _ _⟩
    · have h1 : (n : Int) ≤ i := by omega
      have h2 : 0 ≤ i := by omega
      clear h0 hh
      go_enter Try.func12, Try.ntmps12
      go_wp2
      go_ret
      exact ⟨rfl, HQ.out, Adv.refl _ _⟩

set_option maxRecDepth 3000 in
theorem qgive_any (w : World) (d g : Nat) (T : List Bool) (h : Qm w d g T) (i : Int) : Calls Try.prog 14 #[.pointer (some ⟨d, 0, none⟩), .int .i64 i] w fun e w' => e = .returned (.int .i64 (giveE T i)) ∧ Qm w' d g (giveT T i) ∧ Adv (Two d g) w (Two d g) w' := by
  have c0 := h.c0
  have HQ := Lib.hid h
  by_cases hh : hereT T i
  · obtain ⟨k, rfl, hk⟩ := here_nat hh
    obtain ⟨cg, fg⟩ := h.row.at_ hk
    have HP := Lib.hid (h.put k false)
    have HAd := Lib.hid (adv_row w d g k (.bool false))
    obtain ⟨_, e1, e2, e3, e4⟩ := here_yes hk
    rw [e3, e4]
    have HT := Lib.hid (fun (b : Bool) (e : T.getD k false = b) => set_same e hk)
    have hkn : (k : Int) < (T.length : Int) := by omega
    have hk0 : (0 : Int) ≤ (k : Int) := by omega
    generalize hc : T.getD k false = c at cg HT ⊢
    generalize T.length = n at c0 hkn
    clear e1 e2 e3 e4 hk hh h hc
    cases c
    · go_enter Try.func14, Try.ntmps14
      go_wp2
      go_ret
      exact ⟨rfl, by rw [HT.out _ rfl]; exact HQ.out, Adv.refl _ _⟩
    · go_enter Try.func14, Try.ntmps14
      go_wp2
      go_ret
      exact ⟨rfl, HP.out, HAd.out⟩
  · obtain ⟨_, e1, e2, e3, e4⟩ := here_not hh
    rw [e3, e4]
    unfold hereT at hh
    generalize T.length = n at c0 hh
    clear h e1 e2 e3 e4
    by_cases h0 : i < 0
    · clear hh
      go_enter Try.func14, Try.ntmps14
      go_wp2
      go_ret
      exact ⟨rfl, HQ.out, Adv.refl _ _⟩
    · have h1 : (n : Int) ≤ i := by omega
      have h2 : 0 ≤ i := by omega
      clear h0 hh
      go_enter Try.func14, Try.ntmps14
      go_wp2
      go_ret
      exact ⟨rfl, HQ.out, Adv.refl _ _⟩

def QfrL (T : List Bool) (n : Nat) (w : World) (t3 t4 : Value) (wr : World) : Prop :=
  ∃ k c : Nat, t3 = .int .i64 (c : Int) ∧ t4 = .int .i64 (k : Int) ∧ k ≤ n ∧ c ≤ k ∧ c = (T.take k).count false ∧ w = wr
theorem QfrL.next {w : World} {T : List Bool} {n k c : Nat} {b : Bool} (hn : n = T.length) (hk : k < n) (hc : c ≤ k) (he : c = (T.take k).count false) (hb : T.getD k false = b) (v3 v12 : Int) (h3 : v3 = ((if b then c else c + 1 : Nat) : Int)) (h12 : v12 = ((k + 1 : Nat) : Int)) : QfrL T n w (.int .i64 v3) (.int .i64 v12) w := by
  refine ⟨k + 1, if b then c else c + 1, by rw [h3], by rw [h12], by omega, by split <;> omega, ?_, rfl⟩
  rw [count_step (by omega), hb, he]
  cases b <;> rfl
set_option maxRecDepth 3000 in
theorem qfree_any (w : World) (d g : Nat) (T : List Bool) (h : Qm w d g T) : Calls Try.prog 16 #[.pointer (some ⟨d, 0, none⟩)] w fun e w' => e = .returned (.int .i64 (freeT T : Int)) ∧ w = w' := by
  have c0 := h.c0
  have HR := Lib.hid (fun k hk => (h.row.at_ (k := k) hk).1)
  have hn2 := h.len
  obtain ⟨n, hn⟩ : ∃ n, n = T.length := ⟨_, rfl⟩
  rw [← hn] at HR c0 hn2
  have hn3 : (n : Int) ≤ 1024 := by omega
  have HN := Lib.hid hn
  clear h hn hn2
  go_enter Try.func16, Try.ntmps16
  go_wp2_with fail
  go_loopw [3, 4] (QfrL T n w) (fun _ t _ => n - (intOf t).toNat)
  case atStart => exact ⟨0, 0, rfl, rfl, Nat.zero_le _, Nat.le_refl _, rfl, rfl⟩
  case round =>
    obtain ⟨k, c, rfl, rfl, hk, hc, he, rfl⟩ := hrel
    have HE := Lib.hid he
    clear he
    by_cases hlt : k < n
    · have hlt' : (k : Int) < (n : Int) := by omega
      have hck : (c : Int) ≤ 1024 := by omega
      have cg := HR.out k hlt
      obtain ⟨b, hb⟩ : ∃ b, b = T.getD k false := ⟨_, rfl⟩
      rw [← hb] at cg
      have HB := Lib.hid hb
      clear hb
      cases b
      · go_wp2_with fail
        exact ⟨QfrL.next (b := false) HN.out hlt hc HE.out HB.out.symm _ _ (by simp) (by simp), by simp [intOf]; omega⟩
      · go_wp2_with fail
        exact ⟨QfrL.next (b := true) HN.out hlt hc HE.out HB.out.symm _ _ (by simp) (by simp), by simp [intOf]; omega⟩
    · obtain rfl : k = n := by omega
      go_wp2
      go_ret
      exact ⟨by rw [← FreL.last HN.out rfl HE.out]; rfl, rfl⟩

def QtkL (T : List Bool) (n : Nat) (w : World) (t4 : Value) (wr : World) : Prop :=
  ∃ k : Nat, t4 = .int .i64 (k : Int) ∧ k ≤ n ∧ (∀ j, j < k → T.getD j false = true) ∧ w = wr
set_option maxRecDepth 3000 in
theorem qtake_any (w : World) (d g : Nat) (T : List Bool) (h : Qm w d g T) : Calls Try.prog 10 #[.pointer (some ⟨d, 0, none⟩)] w fun e w' => e = .returned (.tuple #[.int .i64 (takeI T), .int .i64 (takeE T)]) ∧ Qm w' d g (takeT T) ∧ Adv (Two d g) w (Two d g) w' := by
  have c0 := h.c0
  have HQ := Lib.hid h
  have HR := Lib.hid (fun k hk => (h.row.at_ (k := k) hk))
  have HP := Lib.hid (fun k => h.put k true)
  have HAd := Lib.hid (fun k => adv_row w d g k (.bool true))
  have hn2 := h.len
  obtain ⟨n, hn⟩ : ∃ n, n = T.length := ⟨_, rfl⟩
  rw [← hn] at HR c0 hn2
  have hn3 : (n : Int) ≤ 1024 := by omega
  have HN := Lib.hid hn
  clear h hn hn2
  go_enter Try.func10, Try.ntmps10
  go_wp2_with fail
  go_loopw [4] (QtkL T n w) (fun t _ => n - (intOf t).toNat)
  case atStart => exact ⟨0, rfl, Nat.zero_le _, fun j hj => absurd hj (by omega), rfl⟩
  case round =>
    obtain ⟨k, rfl, hk, he, rfl⟩ := hrel
    have HE := Lib.hid he
    clear he
    by_cases hlt : k < n
    · have hlt' : (k : Int) < (n : Int) := by omega
      obtain ⟨cg, fg⟩ := HR.out k hlt
      obtain ⟨b, hb⟩ : ∃ b, b = T.getD k false := ⟨_, rfl⟩
      rw [← hb] at cg
      have HB := Lib.hid hb
      clear hb
      cases b
      · go_wp2_with fail
        go_ret2
        obtain ⟨e1, e2, e3⟩ := take_found (by rw [← HN.out]; exact hlt) HB.out.symm HE.out
        rw [e1, e2, e3]
        exact ⟨rfl, HP.out k, HAd.out k⟩
      · go_wp2_with fail
        refine ⟨⟨k + 1, by simp, by omega, fun i hi => ?_, rfl⟩, by simp [intOf]; omega⟩
        rcases Nat.lt_or_ge i k with h1 | h1
        · exact HE.out i h1
        · obtain rfl : i = k := by omega
          exact HB.out.symm
    · obtain rfl : k = n := by omega
      obtain ⟨e1, e2, e3⟩ := take_full (T := T) (by rw [← HN.out]; exact HE.out)
      have E1 := Lib.hid e1
      have E2 := Lib.hid e2
      have E3 := Lib.hid e3
      clear e1 e2 e3
      go_wp2
      go_ret2
      rw [E1.out, E2.out, E3.out]
      exact ⟨rfl, HQ.out, Adv.refl _ _⟩
end Go.Proofs.Ytekafclhddhnpaa
