/- The statements' few, the document's Same. -/
import Derived.Test.YtgcbnaleajccgaaDrJ
import Derived.Test.YtgcbnaleajccgaaShort
import Derived.BigQuiet
import Derived.Deep.QuietTactic
namespace Go.Proofs.Ytgcbnaleajccgaa
open Go.ChangeShapes Go.WideShapes Go.ChangeAt Go.RowKit

def cut20 (s : ByteArray) : ByteArray := if 20 < s.size then s.extract 0 20 else s
theorem cut20_size (s : ByteArray) : (cut20 s).size ≤ 20 := by
  unfold cut20
  split
  · simp only [ByteArray.size_extract]; omega
  · omega
theorem short20 (s : ByteArray) (w : World) (hs : s.size ≤ maxLen) : Calls Try.prog 17 #[.string s, .int .i64 20] w fun e w' => e = .returned (.string (cut20 s)) ∧ w = w' := short_any s 20 w (by decide) hs
def cutE (e : En) : En := { e with s := cut20 e.s }
def fewL (n : Nat) (l : List En) : List En := (l.take n).map cutE
theorem fewL_size (n : Nat) (l : List En) : ∀ e ∈ fewL n l, e.s.size ≤ 20 := by
  intro e he
  obtain ⟨d, _, rfl⟩ := List.mem_map.1 he
  exact cut20_size _
theorem fewL_length (n : Nat) (l : List En) : (fewL n l).length = min n l.length := by simp [fewL]
def FwL (w : World) (l : List En) (n : Nat) (t5 t6 : Value) (wr : World) : Prop := ∃ j : Nat, t6 = .int .i64 (j : Int) ∧ j ≤ l.length ∧ j ≤ n ∧ EnO w (fewL j l) t5 wr

set_option maxRecDepth 3000 in
set_option maxHeartbeats 3200000 in
theorem few9_any (v : Value) (l : List En) (n : Nat) (hn : n ≤ 100) (w : World) (h : EnR w v l) : Calls Try.prog 7 #[v, .int .i64 (n : Int)] w fun x w' => ∃ v', x = .returned v' ∧ EnO w (fewL n l) v' w' := by
  obtain ⟨A, c, rfl, hnc, hcm⟩ := h.form
  obtain ⟨N, hN⟩ : ∃ N, N = l.length := ⟨_, rfl⟩
  have hbig : (N : Int) ≤ 9223372036854775807 := by unfold maxLen at hcm; omega
  rw [← hN] at h ⊢
  have hn' : (n : Int) ≤ 100 := by omega
  have HR := Lib.hid h
  have HN := Lib.hid hN
  have HNN := Lib.hid hn
  clear h hN hnc hcm hn
  go_enter Try.func7, Try.ntmps7
  go_wp2_with fail
  go_loopw [5, 6] (FwL w l n) (fun _ t _ => N - (intOf t).toNat)
  case atStart => exact ⟨0, rfl, Nat.zero_le _, Nat.zero_le _, by simp only [fewL, List.take_zero, List.map_nil]; exact EnO.nil w⟩
  case round =>
    obtain ⟨j, rfl, hj, hjn, hE⟩ := hrel
    rw [← HN.out] at hj
    have hlen : (fewL j l).length = j := by rw [fewL_length, ← HN.out]; omega
    obtain ⟨A5, c5, rfl⟩ := hE.form
    rw [hlen] at hE ⊢
    have HE := Lib.hid hE
    have HL := Lib.hid hlen
    clear hE hlen
    have hcase : (j < N ∧ j < n) ∨ ((j : Int) < N ∧ (n : Int) ≤ j ∧ j = n) ∨ ((N : Int) ≤ j ∧ j = N) := by omega
    rcases hcase with ⟨hlt, hjl⟩ | ⟨hlt, hle, hje⟩ | ⟨hle, hje⟩
    · have hjd : j < l.length := by rw [← HN.out]; exact hlt
      obtain ⟨b, o, rfl, hb, g0, g1, g2, g3⟩ := (HR.out.step HE.out.adv).at_ HN.out hjd
      obtain ⟨e, he⟩ : ∃ e, e = l[j] := ⟨_, rfl⟩
      have hsz : e.s.size ≤ maxLen := by rw [he]; exact HR.out.sz _ (List.getElem_mem _)
      have HF := Lib.hid (show fewL (j + 1) l = fewL j l ++ [cutE e] by unfold fewL; rw [List.take_succ_eq_append_getElem hjd, List.map_append, he]; rfl)
      rw [← he] at g0 g1 g2 g3
      have HLT := Lib.hid hlt
      have HJL := Lib.hid hjl
      clear he hjd hb
      obtain ⟨s, i, g, k⟩ := e
      simp only at g0 g1 g2 g3 hsz
      have hmore := HE.out.more (m := [cutE ⟨s, i, g, k⟩]) (fun e he => by
        rw [List.mem_singleton.1 he]
        have := cut20_size s
        show (cut20 s).size ≤ maxLen
        unfold maxLen; omega)
      have hA2 := ((Adv.refl Nul wr).alloc (.cells (ea ⟨cut20 s, i, g, k⟩) 46)).alloc (.cells (ea ⟨cut20 s, i, g, k⟩) 46)
      have hown := own_keep hmore.1 (fun q hq => hA2.block q (hmore.1.lt q hq).2 (fun x => x))
      rw [HL.out] at hown
      have hrd : Rd ((wr.alloc (.cells (ea ⟨cut20 s, i, g, k⟩) 46)).alloc (.cells (ea ⟨cut20 s, i, g, k⟩) 46)) 4 (.slice (some ⟨wr.heap.size + 1, 0, none⟩) 1 1) 1 (ec ⟨cut20 s, i, g, k⟩) := by
        have := rd_one (wr.alloc (.cells (ea ⟨cut20 s, i, g, k⟩) 46)) ⟨cut20 s, i, g, k⟩
        rwa [World.size_alloc] at this
      have HMORE := Lib.hid hmore.2
      have HA2 := Lib.hid hA2
      clear hmore hA2
      go_wp2_with (first
        | (go_at_call 17; refine (short20 _ _ hsz).mono ?_; rintro x w1 ⟨rfl, rfl⟩)
        | (at_builtin; refine wpList_append_en rfl (.tmp 27) (.tmp 29) rfl rfl rfl hown hrd (ec_one _) (by have := HJL.out; have := HNN.out; omega) ?c5)
        | fail)
      case c5 =>
        intro v' w5 hown5 hg5 hat5
        have hp := HMORE.out _ v' w5 HA2.out (by rw [ecs_one_eq, HL.out]; exact hown5) hg5 (by simpa [ea] using hat5)
        rw [← HF.out] at hp
        have HP := Lib.hid hp
        obtain ⟨A6, c6, rfl⟩ := hp.form
        clear hp hown5 hg5 hat5 hown hrd
        go_wp2_with fail
        exact ⟨⟨j + 1, by go_num, by rw [← HN.out]; exact HLT.out, HJL.out, HP.out⟩, by have := HLT.out; simp [intOf] <;> omega⟩
    · subst hje
      clear hj hjn
      go_wp2_with fail
      go_ret
      exact ⟨_, rfl, HE.out⟩
    · have HF := Lib.hid (show fewL n l = fewL j l by unfold fewL; rw [List.take_of_length_le (by rw [← HN.out]; omega), List.take_of_length_le (by rw [← HN.out]; omega)])
      subst hje
      clear hj hjn
      go_wp2_with fail
      go_ret
      exact ⟨_, rfl, by rw [HF.out]; exact HE.out⟩
end Go.Proofs.Ytgcbnaleajccgaa
