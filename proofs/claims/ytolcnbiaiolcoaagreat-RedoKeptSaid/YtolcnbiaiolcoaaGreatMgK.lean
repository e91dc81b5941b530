/- Cut: how many pieces, which; the program's Cut. Cut: the program's. Cut: the program's, of a record that may be. -/
import Derived.Test.YtolcnbiaiolcoaaGreatMgT
import Derived.Great.FillDense
namespace Go.Proofs.YtolcnbiaiolcoaaGreat
open Go.RowKit

/-- how many pieces a record of m bytes has -/
def needN (m : Nat) : Nat := max 1 ((m + 105) / 106)
theorem needN_pos (m : Nat) : 1 ≤ needN m := Nat.le_max_left _ _
theorem needN_ge (m : Nat) : m ≤ needN m * 106 := by
  have := Nat.le_max_right 1 ((m + 105) / 106)
  unfold needN; omega
theorem needN_le {m k : Nat} (hk : 1 ≤ k) (h : m ≤ k * 106) : needN m ≤ k := by
  unfold needN; omega
/-- the pieces of a record -/
def pieceAt (e c : Nat) (l : List Nat) (i : Nat) : Pc := ⟨e, c + i, i == 0, i == needN l.length - 1, (l.drop (i * 106)).take 106⟩
def cutP (e c : Nat) (l : List Nat) : List Pc := (List.range (needN l.length)).map (pieceAt e c l)
theorem cutP_length (e c : Nat) (l : List Nat) : (cutP e c l).length = needN l.length := by simp [cutP]
theorem cutP_at (e c : Nat) (l : List Nat) {i : Nat} (h : i < needN l.length) : (cutP e c l)[i]'(by rw [cutP_length]; exact h) = pieceAt e c l i := by simp [cutP]
/-- which error -/
def cutE (e c m : Nat) : Int := if e ≤ 16777215 ∧ c ≤ 1099511627775 ∧ needN m - 1 ≤ 1099511627775 - c then (if m ≤ 8192 then 0 else 5) else 2
def cutV (e c : Nat) (l : List Nat) : List Pc := if cutE e c l.length = 0 then cutP e c l else []

theorem ret_int {k : IntKind} {a b : Int} (h : a = b) : Ending.returned (.int k a) = .returned (.int k b) := by rw [h]
set_option maxRecDepth 3000 in
theorem need_any (m : Nat) (w : World) (hm : m ≤ 1000000000) : Calls Tryz.prog 111 #[.int .i64 (m : Int)] w fun x w' => x = .returned (.int .i64 (needN m : Int)) ∧ w = w' := by
  have hmI : (m : Int) ≤ 1000000000 := by omega
  have e : ((needN m : Nat) : Int) = max 1 (((m : Int) + 105) / 106) := by unfold needN; omega
  have HE := Lib.hid e
  clear hm e
  go_enter Tryz.func111, Tryz.ntmps111
  go_wp2_with fail
  all_goals
    go_ret
    exact ⟨ret_int (by rw [HE.out]; omega), rfl⟩

/-- Pieces that can be read. -/
def PRd (w : World) (v : Value) (ps : List Pc) : Prop :=
  ∃ A k, v = .slice A ps.length k ∧ ps.length ≤ k ∧ k ≤ maxLen ∧ (0 < ps.length → ∃ b o, A = some ⟨b, o, none⟩ ∧ b < w.heap.size ∧ ∀ i (h : i < ps.length), ∃ a q,
    w.cell? ⟨b, o + (i * 5 + 0), none⟩ = some (.int .u64 (ps[i].e : Int)) ∧ w.cell? ⟨b, o + (i * 5 + 1), none⟩ = some (.int .u64 (ps[i].c : Int)) ∧ w.cell? ⟨b, o + (i * 5 + 2), none⟩ = some (.bool ps[i].f) ∧ w.cell? ⟨b, o + (i * 5 + 3), none⟩ = some (.bool ps[i].g) ∧
    w.cell? ⟨b, o + (i * 5 + 4), none⟩ = some (.slice a ps[i].d.length q) ∧ Rd w 1 (.slice a ps[i].d.length q) ps[i].d.length (ps[i].d.map u8))
theorem PRd.nil (w : World) : PRd w (.slice none 0 0) [] := ⟨none, 0, rfl, Nat.le_refl _, Nat.zero_le _, fun h => absurd h (by decide)⟩
theorem PRd.step {w w' : World} {v : Value} {ps : List Pc} {F' : Nat → Prop} (h : PRd w v ps) (ha : Adv Nul w F' w') : PRd w' v ps := by
  obtain ⟨A, k, rfl, h1, h2, h3⟩ := h
  refine ⟨A, k, rfl, h1, h2, fun hn => ?_⟩
  obtain ⟨b, o, rfl, hb, hc⟩ := h3 hn
  have hk : w'.heap[b]? = w.heap[b]? := ha.block b hb (fun h => h)
  refine ⟨b, o, rfl, Nat.lt_of_lt_of_le hb ha.size, fun i hi => ?_⟩
  obtain ⟨a, q, c0, c1, c2, c3, c4, hr⟩ := hc i hi
  have e : ∀ j, w'.cell? ⟨b, j, none⟩ = w.cell? ⟨b, j, none⟩ := fun j => World.cell?_of_block hk
  exact ⟨a, q, by rw [e]; exact c0, by rw [e]; exact c1, by rw [e]; exact c2, by rw [e]; exact c3, by rw [e]; exact c4, hr.far (fun _ _ _ h => ha.block _ h (fun h => h)) ha.size⟩
end Go.Proofs.YtolcnbiaiolcoaaGreat
namespace Go.Proofs.YtolcnbiaiolcoaaGreat
open Go.RowKit

theorem infoPiece : (Tryz.prog.info? 100).map (fun i => (i.zero, i.size, i.bytes)) = some (some (.agg #[.int .u64 0, .int .u64 0, .bool false, .bool false, .slice none 0 0]), 5, 48) := by kernel_rfl
theorem made_pieces (n : Nat) (hn : n ≤ 100) (w : World) : (Instr.makeSlice 97 (.int .i64 (n : Int)) (.int .i64 (n : Int))).run Tryz.prog w = .ok (.slice (some ⟨w.heap.size, 0, none⟩) n n) (w.alloc (.cells (madeCells #[.int .u64 0, .int .u64 0, .bool false, .bool false, .slice none 0 0] (n * 5)) 100)) := by
  obtain ⟨ie, hie, hz, hs, hb⟩ := info_parts infoPiece
  have h := run_make (P := Tryz.prog) w 97 100 ie _ Tryz.underlying97 hie hz .i64 .i64 n n (by omega) (Int.le_refl _) (by rw [hb]; omega) (by omega)
  simpa [hs, Value.cells] using h

/-- pieces while they are laid -/
structure CutI (W : World) (z n : Nat) (P : Nat → Pc) (k : Nat) (w : World) : Prop where
  blk : ∃ C, Blk w z 100 C ∧ C.size = n * 5
  at_ : ∀ i, i < k → ∃ a q, w.cell? ⟨z, i * 5 + 0, none⟩ = some (.int .u64 ((P i).e : Int)) ∧ w.cell? ⟨z, i * 5 + 1, none⟩ = some (.int .u64 ((P i).c : Int)) ∧ w.cell? ⟨z, i * 5 + 2, none⟩ = some (.bool (P i).f) ∧ w.cell? ⟨z, i * 5 + 3, none⟩ = some (.bool (P i).g) ∧
    w.cell? ⟨z, i * 5 + 4, none⟩ = some (.slice a (P i).d.length q) ∧ Rd w 1 (.slice a (P i).d.length q) (P i).d.length ((P i).d.map u8) ∧ ∀ g, (Value.slice a (P i).d.length q).ownBlock = some g → 0 < (P i).d.length → g ≠ z ∧ W.heap.size ≤ g
  adv : Adv Nul W (fun j => j = z) w
  hz : W.heap.size ≤ z
section
variable {W w w' : World} {z n k : Nat} {P : Nat → Pc}
theorem CutI.step {F' : Nat → Prop} (h : CutI W z n P k w) (ha : Adv Nul w F' w') : CutI W z n P k w' := by
  obtain ⟨C, hB, hC⟩ := h.blk
  have hk := ha.block z hB.lt (fun h => h)
  refine ⟨⟨C, hB.keep hk, hC⟩, fun i hi => ?_, h.adv.over ha, h.hz⟩
  obtain ⟨a, q, c0, c1, c2, c3, c4, hr, hz⟩ := h.at_ i hi
  have e : ∀ j, w'.cell? ⟨z, j, none⟩ = w.cell? ⟨z, j, none⟩ := fun j => World.cell?_of_block hk
  exact ⟨a, q, by rw [e]; exact c0, by rw [e]; exact c1, by rw [e]; exact c2, by rw [e]; exact c3, by rw [e]; exact c4, hr.far (fun _ _ _ h => ha.block _ h (fun h => h)) ha.size, hz⟩
theorem CutI.there (h : CutI W z n P k w) (hk : k < n) : w.there z (k * 5) 5 := fun j hj => by
  obtain ⟨C, hB, hC⟩ := h.blk
  have h1 := hB.there (k * 5 + j) (by omega)
  rw [Nat.zero_add] at h1
  exact h1
theorem CutI.put (h : CutI W z n P k w) (hk : k < n) {e d q : Nat} {cI : Int} {f g : Bool} {a : Option Addr} (e0 : e = (P k).e) (e1 : cI = ((P k).c : Int)) (e2 : f = (P k).f) (e3 : g = (P k).g) (e4 : d = (P k).d.length)
    (hr : Rd w 1 (.slice a d q) d ((P k).d.map u8)) (hne : ∀ b, (Value.slice a d q).ownBlock = some b → 0 < d → b ≠ z ∧ W.heap.size ≤ b) : CutI W z n P (k + 1) (w.setCells z (k * 5) (pc5 (e : Int) cI f g (.slice a d q)).toList) := by
  subst e0 e1 e2 e3 e4
  obtain ⟨D, hD⟩ : ∃ D, D = (pc5 ((P k).e : Int) ((P k).c : Int) (P k).f (P k).g (.slice a (P k).d.length q)).toList := ⟨_, rfl⟩
  have hDl : D.length = 5 := by rw [hD]; rfl
  rw [← hD]
  obtain ⟨C, hB, hC⟩ := h.blk
  obtain ⟨C', hB', hC'⟩ := Blk.lsetCells D (k * 5) w C hB
  have hrd : ∀ {a : Option Addr} {d q : Nat} {l : List Nat}, Rd w 1 (.slice a d q) d (l.map u8) → (∀ b, (Value.slice a d q).ownBlock = some b → 0 < d → b ≠ z ∧ W.heap.size ≤ b) → Rd (w.setCells z (k * 5) D) 1 (.slice a d q) d (l.map u8) := fun hr hz =>
    hr.far (fun b hb hn _ => lsetCells_heap z (hz b hb hn).1 D (k * 5) w) (Adv.lsetCells D (k * 5) _ (Adv.refl (fun k => k = z) w) (.inl rfl)).size
  refine ⟨⟨C', hB', by omega⟩, fun i hi => ?_, Adv.lsetCells D (k * 5) _ h.adv (.inr h.hz), h.hz⟩
  by_cases hik : i < k
  · obtain ⟨a, q, c0, c1, c2, c3, c4, hr, hz⟩ := h.at_ i hik
    have e : ∀ j, j < 5 → (w.setCells z (k * 5) D).cell? ⟨z, i * 5 + j, none⟩ = w.cell? ⟨z, i * 5 + j, none⟩ := fun j hj => World.cell?_setCells_out z D (k * 5) w _ (fun _ _ => .inl (by show i * 5 + j < k * 5; omega))
    exact ⟨a, q, by rw [e _ (by decide)]; exact c0, by rw [e _ (by decide)]; exact c1, by rw [e _ (by decide)]; exact c2, by rw [e _ (by decide)]; exact c3, by rw [e _ (by decide)]; exact c4, hrd hr hz, hz⟩
  · obtain rfl : i = k := by omega
    have e : ∀ j (hj : j < D.length), (w.setCells z (i * 5) D).cell? ⟨z, i * 5 + j, none⟩ = some D[j] := fun j hj => World.cell?_setCells_in z D (i * 5) w (fun j hj => (h.there hk j (by omega)).1) j hj
    subst hD
    exact ⟨a, q, e 0 (by simp [pc5]), e 1 (by simp [pc5]), e 2 (by simp [pc5]), e 3 (by simp [pc5]), e 4 (by simp [pc5]), hrd hr hne, hne⟩
theorem CutI.prd (h : CutI W z n P n w) (hn : n ≤ 100) : PRd w (.slice (some ⟨z, 0, none⟩) n n) ((List.range n).map P) := by
  obtain ⟨C, hB, hC⟩ := h.blk
  refine ⟨_, n, by simp, by simp, by unfold maxLen; omega, fun hp => ⟨z, 0, rfl, hB.lt, fun i hi => ?_⟩⟩
  have hi' : i < n := by simpa using hi
  obtain ⟨a, q, c0, c1, c2, c3, c4, hr, _⟩ := h.at_ i hi'
  have e : ((List.range n).map P)[i]'hi = P i := by simp
  rw [e]
  simp only [Nat.zero_add]
  exact ⟨a, q, c0, c1, c2, c3, c4, hr⟩
end
/-- .. in none of the blocks of G -/
def PRdG (w : World) (G : Nat → Prop) (v : Value) (ps : List Pc) : Prop :=
  ∃ A k, v = .slice A ps.length k ∧ ps.length ≤ k ∧ k ≤ maxLen ∧ (0 < ps.length → ∃ b o, A = some ⟨b, o, none⟩ ∧ (b < w.heap.size ∧ ¬ G b) ∧ ∀ i (h : i < ps.length), ∃ a q,
    w.cell? ⟨b, o + (i * 5 + 0), none⟩ = some (.int .u64 (ps[i].e : Int)) ∧ w.cell? ⟨b, o + (i * 5 + 1), none⟩ = some (.int .u64 (ps[i].c : Int)) ∧ w.cell? ⟨b, o + (i * 5 + 2), none⟩ = some (.bool ps[i].f) ∧ w.cell? ⟨b, o + (i * 5 + 3), none⟩ = some (.bool ps[i].g) ∧
    w.cell? ⟨b, o + (i * 5 + 4), none⟩ = some (.slice a ps[i].d.length q) ∧ Rd w 1 (.slice a ps[i].d.length q) ps[i].d.length (ps[i].d.map u8) ∧ ∀ g, (Value.slice a ps[i].d.length q).ownBlock = some g → 0 < ps[i].d.length → ¬ G g)
theorem PRdG.nil (w : World) (G : Nat → Prop) : PRdG w G (.slice none 0 0) [] := ⟨none, 0, rfl, Nat.le_refl _, Nat.zero_le _, fun h => absurd h (by decide)⟩
theorem PRdG.prd {w : World} {G : Nat → Prop} {v : Value} {ps : List Pc} (h : PRdG w G v ps) : PRd w v ps := by
  obtain ⟨A, k, rfl, h1, h2, h3⟩ := h
  refine ⟨A, k, rfl, h1, h2, fun hn => ?_⟩
  obtain ⟨b, o, rfl, hb, hc⟩ := h3 hn
  refine ⟨b, o, rfl, hb.1, fun i hi => ?_⟩
  obtain ⟨a, q, c0, c1, c2, c3, c4, hr, _⟩ := hc i hi
  exact ⟨a, q, c0, c1, c2, c3, c4, hr⟩
theorem CutI.prdg {W w : World} {z n : Nat} {P : Nat → Pc} {G : Nat → Prop} (h : CutI W z n P n w) (hn : n ≤ 100) (hG : Bd G W) : PRdG w G (.slice (some ⟨z, 0, none⟩) n n) ((List.range n).map P) := by
  obtain ⟨C, hB, hC⟩ := h.blk
  refine ⟨_, n, by simp, by simp, by unfold maxLen; omega, fun hp => ⟨z, 0, rfl, ⟨hB.lt, fun x => by have := hG z x; have := h.hz; omega⟩, fun i hi => ?_⟩⟩
  have hi' : i < n := by simpa using hi
  obtain ⟨a, q, c0, c1, c2, c3, c4, hr, hs⟩ := h.at_ i hi'
  have e : ((List.range n).map P)[i]'hi = P i := by simp
  rw [e]
  simp only [Nat.zero_add]
  exact ⟨a, q, c0, c1, c2, c3, c4, hr, fun g hg hn x => by have := hG g x; have := (hs g hg hn).2; omega⟩
def CutN (w : World) (e c : Nat) (l : List Nat) (x : Ending) (w' : World) : Prop := ∃ A n k, x = .returned (.tuple #[.slice A n k, .int .i64 (cutE e c l.length)]) ∧ (∀ G, Bd G w → PRdG w' G (.slice A n k) (cutV e c l)) ∧ Adv Nul w Nul w'
def CutR (w : World) (e c : Nat) (l : List Nat) (x : Ending) (w' : World) : Prop := ∃ A n k, x = .returned (.tuple #[.slice A n k, .int .i64 (cutE e c l.length)]) ∧ PRd w' (.slice A n k) (cutV e c l) ∧ Adv Nul w Nul w'
theorem CutR.none {w w' : World} {e c : Nat} {l : List Nat} {E : Int} (hE : cutE e c l.length = E) (h0 : E ≠ 0) (ha : Adv Nul w Nul w') : CutR w e c l (.returned (.tuple #[.slice none 0 0, .int .i64 E])) w' := by
  refine ⟨_, _, _, by rw [hE], ?_, ha⟩
  rw [cutV, if_neg (by rw [hE]; exact h0)]
  exact PRd.nil _
theorem CutN.cut {w w' : World} {e c : Nat} {l : List Nat} {x : Ending} (h : CutN w e c l x w') : CutR w e c l x w' := by
  obtain ⟨A, n, k, h1, h2, h3⟩ := h
  exact ⟨A, n, k, h1, (h2 Nul (fun _ x => x.elim)).prd, h3⟩
theorem CutN.none {w w' : World} {e c : Nat} {l : List Nat} {E : Int} (hE : cutE e c l.length = E) (h0 : E ≠ 0) (ha : Adv Nul w Nul w') : CutN w e c l (.returned (.tuple #[.slice none 0 0, .int .i64 E])) w' := by
  refine ⟨_, _, _, by rw [hE], fun G _ => ?_, ha⟩
  rw [cutV, if_neg (by rw [hE]; exact h0)]
  exact PRdG.nil _ _

set_option maxRecDepth 3000 in
theorem pcut_no (e c : Nat) (v : Value) (l : List Nat) (w : World) (hv : Rd w 1 v l.length (l.map u8)) (hl : l.length ≤ 100000) (h0 : cutE e c l.length ≠ 0) :
    Calls Tryz.prog 83 #[.int .u64 (e : Int), .int .u64 (c : Int), v] w (CutN w e c l) := by
  obtain ⟨A, q, rfl, _, _⟩ := hv.form
  obtain ⟨m, hm⟩ : ∃ m, m = l.length := ⟨_, rfl⟩
  rw [← hm] at hl h0 ⊢
  by_cases hst : e ≤ 16777215 ∧ c ≤ 1099511627775
  · have hcI : (c : Int) ≤ 1099511627775 := by omega
    have hmI : (m : Int) ≤ 100000 := by omega
    obtain ⟨n, hn⟩ : ∃ n, n = needN m := ⟨_, rfl⟩
    have hn1 : 1 ≤ n := by rw [hn]; exact needN_pos m
    have hn2 : n ≤ 10000 := by rw [hn]; unfold needN; omega
    have hn1I : (1 : Int) ≤ (n : Int) := by omega
    have hn2I : (n : Int) ≤ 10000 := by omega
    have HST := Lib.hid hst
    have HM := Lib.hid (show m ≤ 1000000000 by omega)
    have HN := Lib.hid hn
    by_cases hov : n - 1 ≤ 1099511627775 - c
    · have h5 : ¬ m ≤ 8192 := fun h => h0 (by rw [cutE, if_pos ⟨hst.1, hst.2, by rw [← hn]; exact hov⟩, if_pos h])
      have hm8 : (8192 : Int) < (m : Int) := by omega
      have hE : cutE e c m = 5 := by rw [cutE, if_pos ⟨hst.1, hst.2, by rw [← hn]; exact hov⟩, if_neg h5]
      have hovI : (n : Int) - 1 ≤ 1099511627775 - (c : Int) := by omega
      have HE := Lib.hid hE
      have HML := Lib.hid hm
      clear hst hov h5 hE hm h0 hn hl hn1 hn2 hv
      go_enter Tryz.func83, Tryz.ntmps83
      go_wp2_with (first
        | (go_at_call 110; refine (stampok e c HST.out.1 HST.out.2 _).mono ?_; rintro x w1 ⟨rfl, rfl⟩)
        | (go_at_call 111; refine (need_any m _ HM.out).mono ?_; rintro x w1 ⟨rfl, rfl⟩; rw [← HN.out])
        | fail)
      go_ret2
      exact CutN.none (by rw [← HML.out]; exact HE.out) (by decide) (Adv.refl _ _)
    · have hE : cutE e c m = 2 := by rw [cutE, if_neg (fun h => hov (by rw [hn]; exact h.2.2))]
      have hovI : 1099511627775 - (c : Int) < (n : Int) - 1 := by omega
      have HE := Lib.hid hE
      have HML := Lib.hid hm
      clear hst hov hE hm h0 hn hl hn1 hn2 hv
      go_enter Tryz.func83, Tryz.ntmps83
      go_wp2_with (first
        | (go_at_call 110; refine (stampok e c HST.out.1 HST.out.2 _).mono ?_; rintro x w1 ⟨rfl, rfl⟩)
        | (go_at_call 111; refine (need_any m _ HM.out).mono ?_; rintro x w1 ⟨rfl, rfl⟩; rw [← HN.out])
        | fail)
      go_ret2
      exact CutN.none (by rw [← HML.out]; exact HE.out) (by decide) (Adv.refl _ _)
  · have hE : cutE e c m = 2 := by rw [cutE, if_neg (fun h => hst ⟨h.1, h.2.1⟩)]
    have HE := Lib.hid hE
    have HML := Lib.hid hm
    have HST := Lib.hid hst
    clear hst hE hm h0 hl hv
    go_enter Tryz.func83, Tryz.ntmps83
    go_wp2_with (first
      | (go_at_call 110; refine (stampno e c HST.out _).mono ?_; rintro x w1 ⟨rfl, rfl⟩)
      | fail)
    go_ret2
    exact CutN.none (by rw [← HML.out]; exact HE.out) (by decide) (Adv.refl _ _)
end Go.Proofs.YtolcnbiaiolcoaaGreat
namespace Go.Proofs.YtolcnbiaiolcoaaGreat
open Go.RowKit

def CutRel (W : World) (z n : Nat) (P : Nat → Pc) (t : Value) (wr : World) : Prop := ∃ k : Nat, k ≤ n ∧ t = .int .i64 (k : Int) ∧ CutI W z n P k wr
/-- the bytes of a piece: a front of what is left -/
theorem part_len {l : List Nat} {k : Nat} : ((l.drop (k * 106)).take 106).length = min 106 (l.length - k * 106) := by simp
theorem there5 {w : World} {z o : Nat} (h : w.there z o 5) : ∃ u0 u1 u2 u3 u4, w.cell? ⟨z, o, none⟩ = some u0 ∧ w.cell? ⟨z, o + 1, none⟩ = some u1 ∧ w.cell? ⟨z, o + 2, none⟩ = some u2 ∧ w.cell? ⟨z, o + 3, none⟩ = some u3 ∧ w.cell? ⟨z, o + 4, none⟩ = some u4 ∧
    w.frozen? ⟨z, o, none⟩ = false ∧ w.frozen? ⟨z, o + 1, none⟩ = false ∧ w.frozen? ⟨z, o + 2, none⟩ = false ∧ w.frozen? ⟨z, o + 3, none⟩ = false ∧ w.frozen? ⟨z, o + 4, none⟩ = false := by
  obtain ⟨a0, b0⟩ := h 0 (by decide)
  obtain ⟨a1, b1⟩ := h 1 (by decide)
  obtain ⟨a2, b2⟩ := h 2 (by decide)
  obtain ⟨a3, b3⟩ := h 3 (by decide)
  obtain ⟨a4, b4⟩ := h 4 (by decide)
  obtain ⟨u0, c0⟩ := Option.isSome_iff_exists.1 a0
  obtain ⟨u1, c1⟩ := Option.isSome_iff_exists.1 a1
  obtain ⟨u2, c2⟩ := Option.isSome_iff_exists.1 a2
  obtain ⟨u3, c3⟩ := Option.isSome_iff_exists.1 a3
  obtain ⟨u4, c4⟩ := Option.isSome_iff_exists.1 a4
  exact ⟨u0, u1, u2, u3, u4, c0, c1, c2, c3, c4, b0, b1, b2, b3, b4⟩
theorem cut_close {W w : World} {z n m e c : Nat} {l : List Nat} (hml : m = l.length) (hn : n = needN m) (hE : cutE e c m = 0) (hn100 : n ≤ 100) (h : CutI W z n (pieceAt e c l) n w) :
    CutN W e c l (.returned (.tuple #[.slice (some ⟨z, 0, none⟩) n n, .int .i64 0])) w := by
  subst hml
  refine ⟨_, n, n, by rw [hE], fun G hG => ?_, h.adv.sub (fun _ h => h.elim)⟩
  have h1 := h.prdg hn100 hG
  rw [cutV, if_pos hE, cutP, ← hn]
  exact h1

theorem cut_c (e c : Nat) (l : List Nat) (k : Nat) : (c : Int) + (k : Int) = ((pieceAt e c l k).c : Int) := by show _ = ((c + k : Nat) : Int); omega
theorem cut_new {W w wc : World} {z n k : Nat} {P : Nat → Pc} {Fc : Nat → Prop} {e : TypeId} {size d : Nat} {v : Value} {xs : List Value} (h : CutI W z n P k w) (hc : Sl wc Fc e size v d xs) (ac : Adv Nul w Fc wc) : ∀ b, v.ownBlock = some b → 0 < d → b ≠ z ∧ W.heap.size ≤ b := fun b hb _ => by
  obtain ⟨C, hB, _⟩ := h.blk
  have := hB.lt
  have h2 := h.adv.size
  rcases ac.into b (hc.inF b hb) with h1 | h1
  · exact h1.elim
  · exact ⟨fun e => by omega, by omega⟩

set_option maxRecDepth 3000 in
set_option maxHeartbeats 3200000 in
theorem pcut_ok (e c : Nat) (v : Value) (l : List Nat) (w : World) (hv : Rd w 1 v l.length (l.map u8)) (h0 : cutE e c l.length = 0) :
    Calls Tryz.prog 83 #[.int .u64 (e : Int), .int .u64 (c : Int), v] w (CutN w e c l) := by
  obtain ⟨A, q, rfl, hmq, hqm⟩ := hv.form
  obtain ⟨m, hm⟩ : ∃ m, m = l.length := ⟨_, rfl⟩
  have hcc : e ≤ 16777215 ∧ c ≤ 1099511627775 ∧ needN l.length - 1 ≤ 1099511627775 - c ∧ l.length ≤ 8192 := by
    unfold cutE at h0
    split at h0
    · rename_i h
      split at h0
      · rename_i h'; exact ⟨h.1, h.2.1, h.2.2, h'⟩
      · simp at h0
    · simp at h0
  rw [← hm] at hcc h0 hv hmq ⊢
  obtain ⟨n, hn⟩ : ∃ n, n = needN m := ⟨_, rfl⟩
  rw [← hn] at hcc
  obtain ⟨he, hc, hov, hm8⟩ := hcc
  have hn1 : 1 ≤ n := by rw [hn]; exact needN_pos m
  have hn2 : n ≤ 78 := by rw [hn]; exact needN_le (by decide) (by omega)
  have hnm : m ≤ n * 106 := by rw [hn]; exact needN_ge m
  have hnl : m = 0 → n = 1 := fun h => by rw [hn, h]; rfl
  have hnl2 : 0 < m → (n - 1) * 106 < m := fun h => by rw [hn]; unfold needN; omega
  have hcI : (c : Int) ≤ 1099511627775 := by omega
  have hmI : (m : Int) ≤ 8192 := by omega
  have hn1I : (1 : Int) ≤ (n : Int) := by omega
  have hn2I : (n : Int) ≤ 78 := by omega
  have hovI : (n : Int) - 1 ≤ 1099511627775 - (c : Int) := by omega
  have hmk := made_pieces n (by omega)
  have HST := Lib.hid (And.intro he hc)
  have HM := Lib.hid (show m ≤ 1000000000 by omega)
  have HN := Lib.hid hn
  have HML := Lib.hid hm
  have HV := Lib.hid hv
  have HN1 := Lib.hid hn1
  have HN2 := Lib.hid hn2
  have HNM := Lib.hid hnm
  have HNL := Lib.hid hnl
  have HNL2 := Lib.hid hnl2
  have HOV := Lib.hid hov
  have HE0 := Lib.hid h0
  have HMQ := Lib.hid hmq
  have HQM := Lib.hid hqm
  clear he hc hm hn hv hn1 hn2 hnm hnl hnl2 hov h0 hm8 hmq hqm
  go_enter Tryz.func83, Tryz.ntmps83
  go_wp2_with fail
  refine (stampok e c HST.out.1 HST.out.2 _).mono ?_
  rintro x w1 ⟨rfl, rfl⟩
  go_wp2_with fail
  refine (need_any m _ HM.out).mono ?_
  rintro x w1 ⟨rfl, rfl⟩
  rw [← HN.out]
  go_wp2_with fail
  obtain ⟨z, hz⟩ : ∃ z, z = w.heap.size := ⟨_, rfl⟩
  rw [← hz]
  have hst : CutI w z n (pieceAt e c l) 0 (w.alloc (.cells (madeCells #[.int .u64 0, .int .u64 0, .bool false, .bool false, .slice none 0 0] (n * 5)) 100)) :=
    ⟨⟨_, by rw [hz]; exact Blk.new _ _ _, size_madeCells _ _⟩, fun i hi => absurd hi (by omega), ⟨rfl, rfl, rfl, by simp, fun k hk _ => Below.heap_alloc _ _ _ hk, fun k hk => .inr (by omega)⟩, by omega⟩
  have HSTART := Lib.hid hst
  have HZ := Lib.hid hz
  clear hst hz hmk
  go_loopw [39] (CutRel w z n (pieceAt e c l)) (fun t _ => n - (intOf t).toNat)
  case atStart => exact ⟨0, Nat.zero_le _, rfl, HSTART.out⟩
  case round =>
    obtain ⟨k, hk, rfl, hI⟩ := hrel
    by_cases hlt : k < n
    · have hki : (k : Int) < (n : Int) := by omega
      have hth := hI.there hlt
      have hck : c + k ≤ 1099511627775 := by have := HOV.out; have := HN1.out; omega
      have hckI : (c : Int) + (k : Int) ≤ 1099511627775 := by omega
      have hk78 : (k : Int) ≤ 78 := by omega
      have hzold : ∀ b, (Value.slice A m q).ownBlock = some b → 0 < m → b < w.heap.size := fun b hb hm => by
        obtain ⟨b', o', q', e', hb', _, _⟩ := HV.out.adr hm
        injection e' with e1 _ _
        subst e1
        simp [Value.ownBlock] at hb
        omega
      have hrd := HV.out.far (fun b hb hm hl => hI.adv.block b hl (fun h => h)) hI.adv.size
      have HI := Lib.hid hI
      have HTH := Lib.hid hth
      have HRD := Lib.hid hrd
      have HLT := Lib.hid hlt
      have HCK := Lib.hid hck
      clear hI hth hck hrd hzold hk
      by_cases hm0 : m = 0
      · obtain rfl : n = 1 := HNL.out hm0
        obtain rfl : k = 0 := by omega
        have hl0 : l = [] := List.eq_nil_of_length_eq_zero (by rw [← HML.out]; exact hm0)
        cases A with
        | none =>
          have HR := Lib.hid (show Rd wr 1 (.slice none 0 q) 0 (([] : List Nat).map u8) by rw [← hl0, ← hm0]; exact HRD.out)
          have HP1 := Lib.hid (show true = (pieceAt e c l 0).f from rfl)
          have HP2 := Lib.hid (show true = (pieceAt e c l 0).g by show true = (0 == needN l.length - 1); rw [hl0]; rfl)
          have HP3 := Lib.hid (show ([] : List Nat) = (pieceAt e c l 0).d by show [] = (l.drop 0).take 106; rw [hl0]; rfl)
          subst hm0
          clear hl0
          go_wp2_with (first
            | (go_at_call 112; refine (lclone_any _ 0 _ _ HR.out (u8_one _) (by decide)).mono ?_; rintro x wc ⟨vc, Fc, rfl, hc, ac⟩; obtain ⟨Ac, cc, rfl, _, _⟩ := hc.form0; have hI' := HI.out.step ac; obtain ⟨u0, u1, u2, u3, u4, t0, t1, t2, t3, t4, r0, r1, r2, r3, r4⟩ := there5 (hI'.there (by decide)); have HPUT := Lib.hid (hI'.put (e := e) (cI := (c : Int)) (f := true) (g := true) (by decide) rfl rfl HP1.out HP2.out (by rw [← HP3.out]; rfl) (by rw [← HP3.out]; exact hc.rd) (cut_new HI.out hc ac)); clear hc ac hI'; simp only [Nat.zero_mul, Nat.zero_add] at t0 t1 t2 t3 t4 r0 r1 r2 r3 r4)
            | fail)
          refine ⟨?_, by simp [intOf]⟩
          repeat apply Exists.intro
          exact ⟨(show CutRel w z 1 (pieceAt e c l) (.int .i64 ((1 : Nat) : Int)) _ from ⟨1, Nat.le_refl _, rfl, HPUT.out⟩), rfl⟩
        | some ad =>
          have HR := Lib.hid (show Rd wr 1 (.slice (some ad) 0 q) 0 (([] : List Nat).map u8) by rw [← hl0, ← hm0]; exact HRD.out)
          have HP1 := Lib.hid (show true = (pieceAt e c l 0).f from rfl)
          have HP2 := Lib.hid (show true = (pieceAt e c l 0).g by show true = (0 == needN l.length - 1); rw [hl0]; rfl)
          have HP3 := Lib.hid (show ([] : List Nat) = (pieceAt e c l 0).d by show [] = (l.drop 0).take 106; rw [hl0]; rfl)
          subst hm0
          clear hl0
          go_wp2_with (first
            | (go_at_call 112; refine (lclone_any _ 0 _ _ HR.out (u8_one _) (by decide)).mono ?_; rintro x wc ⟨vc, Fc, rfl, hc, ac⟩; obtain ⟨Ac, cc, rfl, _, _⟩ := hc.form0; have hI' := HI.out.step ac; obtain ⟨u0, u1, u2, u3, u4, t0, t1, t2, t3, t4, r0, r1, r2, r3, r4⟩ := there5 (hI'.there (by decide)); have HPUT := Lib.hid (hI'.put (e := e) (cI := (c : Int)) (f := true) (g := true) (by decide) rfl rfl HP1.out HP2.out (by rw [← HP3.out]; rfl) (by rw [← HP3.out]; exact hc.rd) (cut_new HI.out hc ac)); clear hc ac hI'; simp only [Nat.zero_mul, Nat.zero_add] at t0 t1 t2 t3 t4 r0 r1 r2 r3 r4)
            | fail)
          refine ⟨?_, by simp [intOf]⟩
          repeat apply Exists.intro
          exact ⟨(show CutRel w z 1 (pieceAt e c l) (.int .i64 ((1 : Nat) : Int)) _ from ⟨1, Nat.le_refl _, rfl, HPUT.out⟩), rfl⟩
      · have hmpos : 0 < m := by omega
        obtain ⟨b, o, q', e', hb, _, _⟩ := HV.out.adr hmpos
        injection e' with e1 _ e3
        subst e1 e3
        have hfrom : (n - 1) * 106 < m := HNL2.out hmpos
        have hkm : k * 106 < m := by have := HLT.out; omega
        have hkq : ¬ q = k * 106 := by have := HMQ.out; omega
        have hmqI : (m : Int) ≤ (q : Int) := by have := HMQ.out; omega
        have hkmI : (k : Int) * 106 ≤ (m : Int) := by omega
        have hmul : IntKind.i64.wrap ((k : Int) * 106) = (k : Int) * 106 := by rw [IntKind.wrap_i64]; omega
        have htn : ((k : Int) * 106 + 106).toNat - k * 106 = 106 := by omega
        by_cases hlast : k = n - 1
        · have hgl : ((k : Int) == (n : Int) - 1) = true := by rw [beq_iff_eq]; have := HN1.out; omega
          by_cases hfull : m = k * 106 + 106
          · have hmin : (m : Int) ≤ (k : Int) * 106 + 106 := by omega
            have hmin2 : (k : Int) * 106 + 106 ≤ (m : Int) := by omega
            have hmk : m - k * 106 = 106 := by omega
            clear hfull
            have hpd : (pieceAt e c l k).d.length = 106 := by show ((l.drop (k * 106)).take 106).length = _; rw [part_len, ← HML.out]; omega
            have hr := (HRD.out.sub (k * 106) (106) (q - k * 106) (by omega) (by have := HMQ.out; omega) (by have := HQM.out; omega))
            obtain ⟨f, hf⟩ : ∃ f, f = (k == 0) := ⟨_, rfl⟩
            have hf0 : ((k : Int) == 0) = f := by rw [hf, Bool.eq_iff_iff, beq_iff_eq, beq_iff_eq]; omega
            have HF := Lib.hid hf
            have HR := Lib.hid hr
            have HPD := Lib.hid hpd
            have HPG := Lib.hid (show true = (k == needN l.length - 1) by rw [← HML.out, ← HN.out]; symm; rw [beq_iff_eq]; exact hlast)
            have HD9 := Lib.hid (show 106 ≤ 1000000000 by omega)
            clear hf hr hpd hlast hm0 hmpos hfrom hkm hovI
            go_wp2_with (first
              | (go_at_call 112; refine (lclone_any _ (106) _ _ HR.out (u8_one _) HD9.out).mono ?_; rintro x wc ⟨vc, Fc, rfl, hc, ac⟩; obtain ⟨Ac, cc, rfl, _, _⟩ := hc.form0; have hI' := HI.out.step ac; obtain ⟨u0, u1, u2, u3, u4, t0, t1, t2, t3, t4, r0, r1, r2, r3, r4⟩ := there5 (hI'.there HLT.out); have HPUT := Lib.hid (hI'.put (e := e) (cI := (c : Int) + (k : Int)) (f := f) (g := true) HLT.out rfl (cut_c e c l k) HF.out HPG.out HPD.out.symm hc.rd (cut_new HI.out hc ac)); clear hc ac hI')
              | fail)
            have hlt := HLT.out
            exact ⟨⟨k + 1, by omega, by go_num, HPUT.out⟩, by simp [intOf]; omega⟩
          · have hmin : (m : Int) < (k : Int) * 106 + 106 := by have := HNM.out; have := HN1.out; omega
            clear hfull
            have hpd : (pieceAt e c l k).d.length = m - k * 106 := by show ((l.drop (k * 106)).take 106).length = _; rw [part_len, ← HML.out]; omega
            have hr := (HRD.out.sub (k * 106) (m - k * 106) (q - k * 106) (by omega) (by have := HMQ.out; omega) (by have := HQM.out; omega))
            have hpl : (l.drop (k * 106)).take (m - k * 106) = (l.drop (k * 106)).take 106 := by rw [List.take_of_length_le (by rw [List.length_drop, ← HML.out]; exact Nat.le_refl _), List.take_of_length_le (by rw [List.length_drop, ← HML.out]; omega)]
            rw [hpl] at hr
            clear hpl
            obtain ⟨f, hf⟩ : ∃ f, f = (k == 0) := ⟨_, rfl⟩
            have hf0 : ((k : Int) == 0) = f := by rw [hf, Bool.eq_iff_iff, beq_iff_eq, beq_iff_eq]; omega
            have HF := Lib.hid hf
            have HR := Lib.hid hr
            have HPD := Lib.hid hpd
            have HPG := Lib.hid (show true = (k == needN l.length - 1) by rw [← HML.out, ← HN.out]; symm; rw [beq_iff_eq]; exact hlast)
            have HD9 := Lib.hid (show m - k * 106 ≤ 1000000000 by omega)
            clear hf hr hpd hlast hm0 hmpos hfrom hkm hovI
            go_wp2_with fail
            refine (lclone_any _ (m - k * 106) _ _ HR.out (u8_one _) HD9.out).mono ?_
            rintro x wc ⟨vc, Fc, rfl, hc, ac⟩
            obtain ⟨Ac, cc, rfl, _, _⟩ := hc.form0
            have hI' := HI.out.step ac
            obtain ⟨u0, u1, u2, u3, u4, t0, t1, t2, t3, t4, r0, r1, r2, r3, r4⟩ := there5 (hI'.there HLT.out)
            have HPUT := Lib.hid (hI'.put (e := e) (cI := (c : Int) + (k : Int)) (f := f) (g := true) HLT.out rfl (cut_c e c l k) HF.out HPG.out HPD.out.symm hc.rd (cut_new HI.out hc ac))
            clear hc ac hI'
            go_wp2_with fail
            have hlt := HLT.out
            exact ⟨⟨k + 1, by omega, by go_num, HPUT.out⟩, by simp [intOf]; omega⟩
        · have hmin : (k : Int) * 106 + 106 < (m : Int) := by have := HLT.out; omega
          have hgl : ((k : Int) == (n : Int) - 1) = false := by rw [beq_eq_false_iff_ne]; omega
          have hpd : (pieceAt e c l k).d.length = 106 := by show ((l.drop (k * 106)).take 106).length = _; rw [part_len, ← HML.out]; omega
          have hr := (HRD.out.sub (k * 106) (106) (q - k * 106) (by omega) (by have := HMQ.out; omega) (by have := HQM.out; omega))
          obtain ⟨f, hf⟩ : ∃ f, f = (k == 0) := ⟨_, rfl⟩
          have hf0 : ((k : Int) == 0) = f := by rw [hf, Bool.eq_iff_iff, beq_iff_eq, beq_iff_eq]; omega
          have HF := Lib.hid hf
          have HR := Lib.hid hr
          have HPD := Lib.hid hpd
          have HPG := Lib.hid (show false = (k == needN l.length - 1) by rw [← HML.out, ← HN.out]; symm; rw [beq_eq_false_iff_ne]; exact hlast)
          have HD9 := Lib.hid (show 106 ≤ 1000000000 by omega)
          clear hf hr hpd hlast hm0 hmpos hfrom hkm hovI
          go_wp2_with (first
            | (go_at_call 112; refine (lclone_any _ (106) _ _ HR.out (u8_one _) HD9.out).mono ?_; rintro x wc ⟨vc, Fc, rfl, hc, ac⟩; obtain ⟨Ac, cc, rfl, _, _⟩ := hc.form0; have hI' := HI.out.step ac; obtain ⟨u0, u1, u2, u3, u4, t0, t1, t2, t3, t4, r0, r1, r2, r3, r4⟩ := there5 (hI'.there HLT.out); have HPUT := Lib.hid (hI'.put (e := e) (cI := (c : Int) + (k : Int)) (f := f) (g := false) HLT.out rfl (cut_c e c l k) HF.out HPG.out HPD.out.symm hc.rd (cut_new HI.out hc ac)); clear hc ac hI')
            | fail)
          have hlt := HLT.out
          exact ⟨⟨k + 1, by omega, by go_num, HPUT.out⟩, by simp [intOf]; omega⟩
    · obtain rfl : k = n := by omega
      have HFIN := Lib.hid (cut_close HML.out HN.out HE0.out (by have := HN2.out; omega) hI)
      clear hI hk hlt
      go_wp2_with fail
      go_ret2
      exact HFIN.out
end Go.Proofs.YtolcnbiaiolcoaaGreat
