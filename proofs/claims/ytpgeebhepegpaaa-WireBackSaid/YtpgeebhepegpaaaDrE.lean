/- A block of entries: the program's. -/
import Derived.Test.YtpgeebhepegpaaaDrD
import Derived.Test.YtpgeebhepegpaaaDrB
namespace Go.Proofs.Ytpgeebhepegpaaa
open Go.ChangeShapes Go.WideShapes Go.ChangeAt Go.RowKit

set_option maxRecDepth 3000 in
theorem bgrown_noughts {w w2 w3 : World} {F : Nat → Prop} {g cap n m : Nat} {v' : Value} {xs ys : List Value} (hS : Sl w2 F 5 1 (.slice (some ⟨g, 0, none⟩) n cap) n xs) (ha : Adv Nul w F w2)
    (hown : w3.ownsRow 0 5 1 v' m ys) (hg : w2.grownBy w3 (some g)) (hat : v'.ownBlock = some g ∨ v'.ownBlock = some w2.heap.size) : Sl w3 (fun j => F j ∨ v'.ownBlock = some j) 5 1 v' m ys ∧ Adv Nul w (fun j => F j ∨ v'.ownBlock = some j) w3 :=
  let h := own_grown hS ha hown hg hat (Nat.le_refl _)
  ⟨h.1, h.2.2⟩
def BkL (W : World) (b : Nat) (l : List En) (t : Value) (wr : World) : Prop := ∃ (k : Nat) (F : Nat → Prop), t = .int .i64 (k : Int) ∧ k ≤ l.length ∧ WL W Nul F b (bN l k) (172 * k) wr
def BkR (w : World) (l : List En) (x : Ending) (w' : World) : Prop := ∃ A k F, x = .returned (.tuple #[.slice A 128 k, .int .i64 0]) ∧ Sl w' F 5 1 (.slice A 128 k) 128 ((blockL l).map u8) ∧ Adv Nul w F w'

set_option maxRecDepth 3000 in
set_option maxHeartbeats 3200000 in
theorem dblock_any (v : Value) (l : List En) (w : World) (h : EnR7 w v l) (hok : ∀ e ∈ l, okE e) (hl : l.length ≤ 5) (h0 : 0 < l.length) : Calls Try.prog 91 #[v] w (BkR w l) := by
  obtain ⟨A, c, rfl, hnc, hcm⟩ := h.form
  obtain ⟨n, hn⟩ : ∃ n, n = l.length := ⟨_, rfl⟩
  have hrow := row_blockL l hl
  rw [← hn] at h hnc hl h0 hrow ⊢
  obtain ⟨q, hq⟩ : ∃ q, q = qn (172 * n) := ⟨_, rfl⟩
  obtain ⟨r, hr⟩ : ∃ r, r = 128 - qn (172 * n) := ⟨_, rfl⟩
  have hqr : q + r = 128 ∧ 0 < r ∧ 0 < q := by unfold qn at hq hr; omega
  have HR := Lib.hid h
  have HN := Lib.hid hn
  have HOK := Lib.hid hok
  have HL := Lib.hid hl
  have H0 := Lib.hid h0
  have HQ := Lib.hid hq
  have HQR := Lib.hid hqr
  have HRV := Lib.hid (show wrap64 ((128 : Int) - (q : Int)) = (r : Int) by unfold wrap64; omega)
  have HROW := Lib.hid (show (rowOf (bN l n) (172 * n)).map u8 ++ List.replicate r (u8 0) = (blockL l).map u8 by rw [hr, ← hrow, List.map_append, List.map_replicate])
  clear h hn hok hrow hcm hnc hq hr hqr
  go_enter Try.func91, Try.ntmps91
  go_wp2_with (first
    | (go_at_call 38; refine (new_any _).mono ?_; rintro x w1 ⟨b, F, rfl, hws, hadv, hbd⟩; have G1 := Lib.hid (WL.mk hws hadv hbd); clear hws hadv hbd)
    | fail)
  go_loopw [12] (BkL w b l) (fun t _ => n - (intOf t).toNat)
  case atStart => exact ⟨0, F, rfl, Nat.zero_le _, G1.out⟩
  case round =>
    obtain ⟨k, F2, rfl, hk, h2⟩ := hrel
    rw [← HN.out] at hk
    have G2 := Lib.hid h2
    clear h2
    by_cases hlt : k < n
    · have hkl : k < l.length := by rw [← HN.out]; exact hlt
      obtain ⟨b1, o1, rfl, hb1, g0, g1, g2, g3⟩ := (HR.out.step G2.out.ad).at_ HN.out hkl
      obtain ⟨e, he⟩ : ∃ e, e = l[k] := ⟨_, rfl⟩
      have hek : okE e := by rw [he]; exact HOK.out _ (List.getElem_mem _)
      have HLT := Lib.hid hlt
      have HBN := Lib.hid (show bN l (k + 1) = sN (bN l k) e 16 from bN_some (by rw [he]; exact List.getElem?_eq_getElem hkl))
      rw [← he] at g0 g1 g2 g3
      have HLAY := Lib.hid (fun w' (h : WL w Nul F2 b (bN l k) (172 * k) w') => dlay_any e hek b (bN l k) (172 * k) F2 w' h.ws h.bd (by omega))
      obtain ⟨s, i, g, kd⟩ := e
      simp only at g0 g1 g2 g3
      simp only [ea] at HLAY
      clear he hek hkl hb1
      go_wp2_with (first
        | (go_at_call 96; refine (HLAY.out _ (G2.out.over ((Adv.refl Nul wr).alloc _))).mono ?_; rintro x w3 ⟨rfl, F3, q1, q2, q3⟩; have G3 := Lib.hid (WL.mk q1 ((G2.out.over ((Adv.refl Nul wr).alloc (.cells #[.string s, .int .i64 i, .int .i64 g, .int .i64 kd] 54))).ad.trans q2) q3); clear q1 q2 q3)
        | fail)
      exact ⟨⟨k + 1, F3, by go_num, by have := HLT.out; have := HN.out; omega, by rw [HBN.out, show 172 * (k + 1) = 172 * k + 172 by omega]; exact G3.out⟩, by have := HLT.out; simp [intOf] <;> omega⟩
    · obtain rfl : k = n := by omega
      clear hlt hk hl h0
      go_wp2_with (first
        | (go_at_call 41; refine (done_ok b _ _ F2 _ G2.out.ws (by have := HL.out; omega)).mono ?_; rintro x w3 ⟨v3, F3, rfl, s3, a3⟩; rw [← HQ.out] at s3; obtain ⟨g0, cc, rfl, _, _⟩ := s3.form HQR.out.2.2; have HS3 := Lib.hid s3; have HA3 := Lib.hid ((G2.out.ad.sub (G := Nul) (fun _ h => h.elim)).trans a3); have hown := s3.own; clear s3 a3)
        | (at_builtin; refine wpList_append_noughts rfl (.tmp 28) (.tmp 31) rfl (m := r) rfl (congrArg (Value.int .i64) HRV.out) hown HQR.out.2.1 (by have := HQR.out; omega) ?c5)
        | fail)
      case c5 =>
        intro v' w7 hown7 hg7 hat7
        obtain ⟨s7, a7⟩ := bgrown_noughts HS3.out HA3.out hown7 hg7 hat7
        rw [HROW.out, HQR.out.1] at s7
        obtain ⟨A7, c7, rfl, _, _⟩ := s7.form0
        have HS7 := Lib.hid s7
        have HA7 := Lib.hid a7
        clear s7 a7 hown hown7 hg7 hat7
        go_wp2_with fail
        exact bodyPost_ret (v := .tuple #[.slice A7 128 c7, .int .i64 0]) (by simp [results, Try.results91, go_sem]) rfl ⟨A7, c7, _, rfl, HS7.out, HA7.out⟩
end Go.Proofs.Ytpgeebhepegpaaa
