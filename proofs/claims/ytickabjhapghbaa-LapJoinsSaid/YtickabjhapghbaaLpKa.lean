/- Cut: the program's. -/
import Derived.Test.YtickabjhapghbaaLpK
namespace Go.Proofs.Ytickabjhapghbaa
open Go.RowKit

theorem infoPiece : (Try.prog.info? 59).map (fun i => (i.zero, i.size, i.bytes)) = some (some (.agg #[.int .u64 0, .int .u64 0, .bool false, .bool false, .slice none 0 0]), 5, 48) := by kernel_rfl
theorem made_pieces (n : Nat) (hn : n ≤ 100) (w : World) : (Instr.makeSlice 57 (.int .i64 (n : Int)) (.int .i64 (n : Int))).run Try.prog w = .ok (.slice (some ⟨w.heap.size, 0, none⟩) n n) (w.alloc (.cells (madeCells #[.int .u64 0, .int .u64 0, .bool false, .bool false, .slice none 0 0] (n * 5)) 59)) := by
  obtain ⟨ie, hie, hz, hs, hb⟩ := info_parts infoPiece
  have h := run_make (P := Try.prog) w 57 59 ie _ Try.underlying57 hie hz .i64 .i64 n n (by omega) (Int.le_refl _) (by rw [hb]; omega) (by omega)
  simpa [hs, Value.cells] using h

/-- pieces while they are laid -/
structure CutI (W : World) (z n : Nat) (P : Nat → Pc) (k : Nat) (w : World) : Prop where
  blk : ∃ C, Blk w z 59 C ∧ C.size = n * 5
  at_ : ∀ i, i < k → ∃ a q, w.cell? ⟨z, i * 5 + 0, none⟩ = some (.int .u64 ((P i).e : Int)) ∧ w.cell? ⟨z, i * 5 + 1, none⟩ = some (.int .u64 ((P i).c : Int)) ∧ w.cell? ⟨z, i * 5 + 2, none⟩ = some (.bool (P i).f) ∧ w.cell? ⟨z, i * 5 + 3, none⟩ = some (.bool (P i).g) ∧
    w.cell? ⟨z, i * 5 + 4, none⟩ = some (.slice a (P i).d.length q) ∧ Rd w 1 (.slice a (P i).d.length q) (P i).d.length ((P i).d.map u8) ∧ ∀ g, (Value.slice a (P i).d.length q).ownBlock = some g → 0 < (P i).d.length → g ≠ z
  adv : Adv Nul W (fun j => j = z) w
  hz : W.heap.size ≤ z
section
variable {W w w' : World} {z n k : Nat} {P : Nat → Pc}
theorem CutI.step {F' : Nat → Prop} (h : CutI W z n P k w) (ha : Adv Nul w F' w') : CutI W z n P k w' := by
  obtain ⟨C, hB, hC⟩ := h.blk
  have hk := ha.block z hB.lt (fun h => h)
  refine ⟨⟨C, hB.keep hk, hC⟩, fun i hi => ?_, h.adv.over ha, h.hz⟩
  obtain ⟨a, q, c0, c1, c2, c3, c4, hr, hz⟩ := h.at_ i hi
  have e : ∀ j, w'.cell? ⟨z, j, none⟩ = w.cell? ⟨z, j, none⟩ := fun j => World.cell?_of_block hk
  exact ⟨a, q, by rw [e]; exact c0, by rw [e]; exact c1, by rw [e]; exact c2, by rw [e]; exact c3, by rw [e]; exact c4, hr.far (fun _ _ _ h => ha.block _ h (fun h => h)) ha.size, hz⟩
theorem CutI.there (h : CutI W z n P k w) (hk : k < n) : w.there z (k * 5) 5 := fun j hj => by
  obtain ⟨C, hB, hC⟩ := h.blk
  have h1 := hB.there (k * 5 + j) (by omega)
  rw [Nat.zero_add] at h1
  exact h1
theorem CutI.put (h : CutI W z n P k w) (hk : k < n) {e d q : Nat} {cI : Int} {f g : Bool} {a : Option Addr} (e0 : e = (P k).e) (e1 : cI = ((P k).c : Int)) (e2 : f = (P k).f) (e3 : g = (P k).g) (e4 : d = (P k).d.length)
    (hr : Rd w 1 (.slice a d q) d ((P k).d.map u8)) (hne : ∀ b, (Value.slice a d q).ownBlock = some b → 0 < d → b ≠ z) : CutI W z n P (k + 1) (w.setCells z (k * 5) (pc5 (e : Int) cI f g (.slice a d q)).toList) := by
  subst e0 e1 e2 e3 e4
  obtain ⟨D, hD⟩ : ∃ D, D = (pc5 ((P k).e : Int) ((P k).c : Int) (P k).f (P k).g (.slice a (P k).d.length q)).toList := ⟨_, rfl⟩
  have hDl : D.length = 5 := by rw [hD]; rfl
  rw [← hD]
  obtain ⟨C, hB, hC⟩ := h.blk
  obtain ⟨C', hB', hC'⟩ := Blk.setCells D (k * 5) w C hB
  have hrd : ∀ {a : Option Addr} {d q : Nat} {l : List Nat}, Rd w 1 (.slice a d q) d (l.map u8) → (∀ b, (Value.slice a d q).ownBlock = some b → 0 < d → b ≠ z) → Rd (w.setCells z (k * 5) D) 1 (.slice a d q) d (l.map u8) := fun hr hz =>
    hr.far (fun b hb hn _ => setCells_heap z (hz b hb hn) D (k * 5) w) (Adv.setCells D (k * 5) _ (Adv.refl (fun k => k = z) w) (.inl rfl)).size
  refine ⟨⟨C', hB', by omega⟩, fun i hi => ?_, Adv.setCells D (k * 5) _ h.adv (.inr h.hz), h.hz⟩
  by_cases hik : i < k
  · obtain ⟨a, q, c0, c1, c2, c3, c4, hr, hz⟩ := h.at_ i hik
    have e : ∀ j, j < 5 → (w.setCells z (k * 5) D).cell? ⟨z, i * 5 + j, none⟩ = w.cell? ⟨z, i * 5 + j, none⟩ := fun j hj => World.cell?_setCells_out z D (k * 5) w _ (fun _ _ => .inl (by show i * 5 + j < k * 5; omega))
    exact ⟨a, q, by rw [e _ (by decide)]; exact c0, by rw [e _ (by decide)]; exact c1, by rw [e _ (by decide)]; exact c2, by rw [e _ (by decide)]; exact c3, by rw [e _ (by decide)]; exact c4, hrd hr hz, hz⟩
  · obtain rfl : i = k := by omega
    have e : ∀ j (hj : j < D.length), (w.setCells z (i * 5) D).cell? ⟨z, i * 5 + j, none⟩ = some D[j] := fun j hj => World.cell?_setCells_in z D (i * 5) w (fun j hj => (h.there hk j (by omega)).1) j hj
    subst hD
    exact ⟨a, q, e 0 (by simp [pc5]), e 1 (by simp [pc5]), e 2 (by simp [pc5]), e 3 (by simp [pc5]), e 4 (by simp [pc5]), hrd hr hne, hne⟩
theorem CutI.prd (h : CutI W z n P n w) (hn : n ≤ 100) : PRd w (.slice (some ⟨z, 0, none⟩) n n) ((List.range n).map P) := by
  obtain ⟨C, hB, hC⟩ := h.blk
  refine ⟨_, n, by simp, by simp, by unfold maxLen; omega, fun hp => ⟨z, 0, rfl, hB.lt, fun i hi => ?_⟩⟩
  have hi' : i < n := by simpa using hi
  obtain ⟨a, q, c0, c1, c2, c3, c4, hr, _⟩ := h.at_ i hi'
  have e : ((List.range n).map P)[i]'hi = P i := by simp
  rw [e]
  simp only [Nat.zero_add]
  exact ⟨a, q, c0, c1, c2, c3, c4, hr⟩
end
def CutR (w : World) (e c : Nat) (l : List Nat) (x : Ending) (w' : World) : Prop := ∃ A n k, x = .returned (.tuple #[.slice A n k, .int .i64 (cutE e c l.length)]) ∧ PRd w' (.slice A n k) (cutV e c l) ∧ Adv Nul w Nul w'
theorem CutR.none {w w' : World} {e c : Nat} {l : List Nat} {E : Int} (hE : cutE e c l.length = E) (h0 : E ≠ 0) (ha : Adv Nul w Nul w') : CutR w e c l (.returned (.tuple #[.slice none 0 0, .int .i64 E])) w' := by
  refine ⟨_, _, _, by rw [hE], ?_, ha⟩
  rw [cutV, if_neg (by rw [hE]; exact h0)]
  exact PRd.nil _

set_option maxRecDepth 3000 in
theorem pcut_no (e c : Nat) (v : Value) (l : List Nat) (w : World) (hv : Rd w 1 v l.length (l.map u8)) (hl : l.length ≤ 100000) (h0 : cutE e c l.length ≠ 0) :
    Calls Try.prog 31 #[.int .u64 (e : Int), .int .u64 (c : Int), v] w (CutR w e c l) := by
  obtain ⟨A, q, rfl, _, _⟩ := hv.form
  obtain ⟨m, hm⟩ : ∃ m, m = l.length := ⟨_, rfl⟩
  rw [← hm] at hl h0 ⊢
  by_cases hst : e ≤ 16777215 ∧ c ≤ 1099511627775
  · have hcI : (c : Int) ≤ 1099511627775 := by omega
    have hmI : (m : Int) ≤ 100000 := by omega
    obtain ⟨n, hn⟩ : ∃ n, n = needN m := ⟨_, rfl⟩
    have hn1 : 1 ≤ n := by rw [hn]; exact needN_pos m
    have hn2 : n ≤ 10000 := by rw [hn]; unfold needN; omega
    have hn1I : (1 : Int) ≤ (n : Int) := by omega
    have hn2I : (n : Int) ≤ 10000 := by omega
    have HST := Lib.hid hst
    have HM := Lib.hid (show m ≤ 1000000000 by omega)
    have HN := Lib.hid hn
    by_cases hov : n - 1 ≤ 1099511627775 - c
    · have h5 : ¬ m ≤ 8192 := fun h => h0 (by rw [cutE, if_pos ⟨hst.1, hst.2, by rw [← hn]; exact hov⟩, if_pos h])
      have hm8 : (8192 : Int) < (m : Int) := by omega
      have hE : cutE e c m = 5 := by rw [cutE, if_pos ⟨hst.1, hst.2, by rw [← hn]; exact hov⟩, if_neg h5]
      have hovI : (n : Int) - 1 ≤ 1099511627775 - (c : Int) := by omega
      have HE := Lib.hid hE
      have HML := Lib.hid hm
      clear hst hov h5 hE hm h0 hn hl hn1 hn2 hv
      go_enter Try.func31, Try.ntmps31
      go_wp2_with (first
        | (go_at_call 51; refine (stampok e c HST.out.1 HST.out.2 _).mono ?_; rintro x w1 ⟨rfl, rfl⟩)
        | (go_at_call 52; refine (need_any m _ HM.out).mono ?_; rintro x w1 ⟨rfl, rfl⟩; rw [← HN.out])
        | fail)
      go_ret2
      exact CutR.none (by rw [← HML.out]; exact HE.out) (by decide) (Adv.refl _ _)
    · have hE : cutE e c m = 2 := by rw [cutE, if_neg (fun h => hov (by rw [hn]; exact h.2.2))]
      have hovI : 1099511627775 - (c : Int) < (n : Int) - 1 := by omega
      have HE := Lib.hid hE
      have HML := Lib.hid hm
      clear hst hov hE hm h0 hn hl hn1 hn2 hv
      go_enter Try.func31, Try.ntmps31
      go_wp2_with (first
        | (go_at_call 51; refine (stampok e c HST.out.1 HST.out.2 _).mono ?_; rintro x w1 ⟨rfl, rfl⟩)
        | (go_at_call 52; refine (need_any m _ HM.out).mono ?_; rintro x w1 ⟨rfl, rfl⟩; rw [← HN.out])
        | fail)
      go_ret2
      exact CutR.none (by rw [← HML.out]; exact HE.out) (by decide) (Adv.refl _ _)
  · have hE : cutE e c m = 2 := by rw [cutE, if_neg (fun h => hst ⟨h.1, h.2.1⟩)]
    have HE := Lib.hid hE
    have HML := Lib.hid hm
    have HST := Lib.hid hst
    clear hst hE hm h0 hl hv
    go_enter Try.func31, Try.ntmps31
    go_wp2_with (first
      | (go_at_call 51; refine (stampno e c HST.out _).mono ?_; rintro x w1 ⟨rfl, rfl⟩)
      | fail)
    go_ret2
    exact CutR.none (by rw [← HML.out]; exact HE.out) (by decide) (Adv.refl _ _)
end Go.Proofs.Ytickabjhapghbaa
