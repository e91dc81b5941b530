/- The program's Entries. -/
import Derived.Test.YtgcbnaleajccgaaDrL
namespace Go.Proofs.Ytgcbnaleajccgaa
open Go.ChangeShapes Go.WideShapes Go.ChangeAt Go.RowKit

theorem bE_cases (l : List En) : bE l = 0 ∨ bE l = 2 ∨ bE l = 8 := by
  unfold bE
  split
  · split
    · exact .inl rfl
    · exact .inr (.inr rfl)
  · exact .inr (.inl rfl)
theorem ptP_le (V n : Nat) : (ptP V n).length ≤ n := by
  have := List.length_filterMap_le (prP V) (List.range n)
  rwa [List.length_range] at this
theorem eP_le : ∀ rs : List (List Nat), (eP rs).length ≤ 5 * rs.length
  | [] => by simp [eP]
  | r :: rs => by
    have h1 := eP_le rs
    have h2 := ptP_le (byN r) 5
    simp only [eP, List.flatMap_cons, List.length_append, List.length_cons] at h1 ⊢
    omega
theorem eP_take (rs : List (List Nat)) (j : Nat) (hj : j < rs.length) : eP (rs.take (j + 1)) = eP (rs.take j) ++ ptP (byN rs[j]) 5 := by
  unfold eP; rw [List.take_succ_eq_append_getElem hj, List.flatMap_append, List.flatMap_singleton]
/-- entries that are handed back, and the error -/
def EntR (w : World) (rs : List (List Nat)) (x : Ending) (w' : World) : Prop := ∃ A c, x = .returned (.tuple #[.slice A (entL rs).length c, .int .i64 (entE rs)]) ∧ EnR w' (.slice A (entL rs).length c) (entL rs) ∧ Adv Nul w Nul w'
theorem EntR.no {w w' : World} {rs : List (List Nat)} {x : Ending} (h : ¬ okP rs) (hx : x = .returned (.tuple #[.slice none 0 0, .int .i64 4])) (ha : Adv Nul w Nul w') : EntR w rs x w' := by
  obtain ⟨h1, h2⟩ := ent_no h
  refine ⟨none, 0, by rw [hx, h1, h2]; rfl, ?_, ha⟩
  rw [h1]
  exact (EnO.nil w').rd
def DeL (w : World) (rs : List (List Nat)) (t4 t14 : Value) (wr : World) : Prop := ∃ j : Nat, t14 = .int .i64 (j : Int) ∧ j ≤ rs.length ∧ len128 (rs.take j) ∧ EnO w (eP (rs.take j)) t4 wr

set_option maxRecDepth 3000 in
set_option maxHeartbeats 6400000 in
theorem dentries_any (v : Value) (rs : List (List Nat)) (w : World) (h : RwD w v rs) (h8 : All8 rs) : Calls Try.prog 14 #[v] w (EntR w rs) := by
  obtain ⟨A, c, rfl, hnc, hcm⟩ := h.form
  obtain ⟨N, hN⟩ : ∃ N, N = rs.length := ⟨_, rfl⟩
  rw [← hN] at h ⊢
  have HR := Lib.hid h
  have HN := Lib.hid hN
  have H8 := Lib.hid h8
  clear h hN h8 hnc hcm
  by_cases h5 : N ≤ 5
  · have h5' : (N : Int) ≤ 5 := by omega
    have HL5 := Lib.hid h5
    go_enter Try.func14, Try.ntmps14
    go_wp2_with fail
    go_loopw [4, 14] (DeL w rs) (fun _ t _ => N - (intOf t).toNat)
    case atStart => exact ⟨0, rfl, Nat.zero_le _, fun b hb => by simp at hb, EnO.nil w⟩
    case round =>
      obtain ⟨j, rfl, hj, hall, hE⟩ := hrel
      rw [← HN.out] at hj
      obtain ⟨n, hn⟩ : ∃ n, n = (eP (rs.take j)).length := ⟨_, rfl⟩
      have HNL := Lib.hid (show n ≤ 25 by
        rw [hn]
        have := eP_le (rs.take j)
        rw [List.length_take] at this
        omega)
      obtain ⟨A4, c4, rfl⟩ := hE.form
      have HALL := Lib.hid hall
      have HE := Lib.hid hE
      rw [← hn] at HE ⊢
      have HNE := Lib.hid hn
      clear hall hE hn
      by_cases hlt : j < N
      · have hjr : j < rs.length := by rw [← HN.out]; exact hlt
        obtain ⟨b1, o1, a1, q1, rfl, hlb1, g1, r1⟩ := (HR.out.step HE.out.adv).at_ hjr
        have hp8 : ∀ x ∈ rs[j], x < 256 := H8.out _ (List.getElem_mem hjr)
        have HTK := Lib.hid (eP_take rs j hjr)
        have HAT := Lib.hid (show rs.take (j + 1) = rs.take j ++ [rs[j]] from List.take_succ_eq_append_getElem hjr)
        have HMEM := Lib.hid (List.getElem_mem hjr)
        obtain ⟨p, hp⟩ : ∃ p, p = rs[j] := ⟨_, rfl⟩
        rw [← hp] at g1 r1 hp8 HTK HAT HMEM
        have HLT := Lib.hid hlt
        by_cases h128 : p.length = 128
        · rw [h128] at g1 r1
          have HPA := Lib.hid (fun w' (a : Adv Nul wr Nul w') => dparts_any _ p w' (r1.far (fun _ _ _ hl => a.block _ hl (fun x => x)) a.size) h128 hp8)
          have H128 := Lib.hid h128
          clear hjr hp8 hp r1 h128 hlb1
          go_wp2_with (first
            | (go_at_call 28; refine (HPA.out _ (Adv.refl _ _)).mono ?_; rintro x w2 ⟨v2, rfl, h2⟩; obtain ⟨A2, c2, rfl⟩ := h2.form; have HE2 := Lib.hid h2; have hown := (HE.out.step h2.adv).more h2.rd.sz; rw [← HNE.out] at hown; have hrd := h2.rd.rd; have hl2 := ptP_le (byN p) 5; have HMORE := Lib.hid hown.2; have hown1 := hown.1; have HL2 := Lib.hid hl2; clear hl2 hown h2)
            | (at_builtin; refine wpList_append_en rfl (.tmp 21) (.tmp 23) rfl rfl rfl hown1 hrd (ecs_one _) (by have := HNL.out; have := HL2.out; omega) ?c5)
            | fail)
          case c5 =>
            intro v' w5 hown5 hg5 hat5
            have hp5 := HMORE.out w2 v' w5 (Adv.refl _ _) hown5 hg5 hat5
            rw [← HTK.out] at hp5
            have HP5 := Lib.hid hp5
            obtain ⟨A5, c5, rfl⟩ := hp5.form
            clear hp5 hown5 hg5 hat5 hown1 hrd
            go_wp2_with fail
            refine ⟨⟨j + 1, by go_num, by rw [← HN.out]; exact HLT.out, ?_, HP5.out⟩, by have := HLT.out; simp [intOf] <;> omega⟩
            rw [HAT.out]
            intro b hb
            rcases List.mem_append.1 hb with h' | h'
            · exact HALL.out b h'
            · rw [List.mem_singleton.1 h']; exact H128.out
        · have hni : ((p.length : Int) == 128) = false := by rw [beq_eq_false_iff_ne]; omega
          have HNO := Lib.hid (show ¬ okP rs from fun o => h128 (o.2.1 p HMEM.out))
          clear hjr hp8 hp r1 h128 hlb1
          go_wp2_with fail
          go_ret2
          exact EntR.no HNO.out rfl HE.out.adv
      · obtain rfl : j = N := by omega
        have hall2 := HALL.out
        have he2 := HE.out
        rw [List.take_of_length_le (by rw [← HN.out]; exact Nat.le_refl _)] at hall2 he2
        have hne2 := HNE.out
        rw [List.take_of_length_le (by rw [← HN.out]; exact Nat.le_refl _)] at hne2
        have HALL2 := Lib.hid hall2
        have HE2 := Lib.hid he2
        have HNE2 := Lib.hid hne2
        have HBK := Lib.hid (dblocks_any _ _ wr he2.rd)
        have hbc := bE_cases (eP rs)
        have HLEN := Lib.hid (show rs.length ≤ 5 by rw [← HN.out]; exact HL5.out)
        clear hall2 he2 hne2 hlt hj HALL HE HNE
        obtain ⟨E, hE⟩ : ∃ E, E = bE (eP rs) := ⟨_, rfl⟩
        have HEE := Lib.hid hE
        unfold BksR at HBK
        rw [← hE] at hbc HBK
        clear hE
        rcases hbc with rfl | rfl | rfl
        · obtain ⟨B, hB⟩ : ∃ B, B = decide (bL (eP rs) = rs) := ⟨_, rfl⟩
          have HBB := Lib.hid hB
          have HEQ := Lib.hid (fun A n c w' (h : RwD w' (.slice A n c) (bL (eP rs))) (a : Adv Nul wr Nul w') => show Calls Try.prog 29 _ w' fun x w'' => x = .returned (.bool B) ∧ w' = w'' by rw [hB]; exact eqrows_any _ _ _ _ w' h ((HR.out.step HE2.out.adv).step a) (bL_8 _) H8.out)
          clear hB
          cases B with
          | true =>
            go_wp2_with (first
              | (go_at_call 8; refine HBK.out.mono ?_; rintro x w6 ⟨A6, n6, c6, rfl, h6, a6⟩; have HEQ6 := Lib.hid (HEQ.out A6 n6 c6 w6 h6 a6); have HA6 := Lib.hid (HE2.out.adv.trans a6); have HE6 := Lib.hid (HE2.out.step a6); clear h6 a6)
              | (go_at_call 29; refine HEQ6.out.mono ?_; rintro x w7 ⟨rfl, rfl⟩)
              | fail)
            go_ret2
            have hok : okP rs := ⟨HLEN.out, HALL2.out, HEE.out.symm, by have := of_decide_eq_true HBB.out.symm; rwa [bL_of HEE.out.symm] at this⟩
            obtain ⟨e1, e2⟩ := ent_yes hok
            refine ⟨A4, c4, by rw [e1, e2, ← HNE2.out]; rfl, ?_, HA6.out⟩
            rw [e1, ← HNE2.out]
            exact HE6.out.rd
          | false =>
            go_wp2_with (first
              | (go_at_call 8; refine HBK.out.mono ?_; rintro x w6 ⟨A6, n6, c6, rfl, h6, a6⟩; have HEQ6 := Lib.hid (HEQ.out A6 n6 c6 w6 h6 a6); have HA6 := Lib.hid (HE2.out.adv.trans a6); clear h6 a6)
              | (go_at_call 29; refine HEQ6.out.mono ?_; rintro x w7 ⟨rfl, rfl⟩)
              | fail)
            go_ret2
            exact EntR.no (fun o => of_decide_eq_false HBB.out.symm (by rw [bL_of HEE.out.symm]; exact o.2.2.2)) rfl HA6.out
        · have HNO := Lib.hid (show ¬ okP rs from fun o => by have := HEE.out.trans o.2.2.1; exact absurd this (by decide))
          go_wp2_with (first
            | (go_at_call 8; refine HBK.out.mono ?_; rintro x w6 ⟨A6, n6, c6, rfl, h6, a6⟩; have HA6 := Lib.hid (HE2.out.adv.trans a6); clear h6 a6)
            | fail)
          go_ret2
          exact EntR.no HNO.out rfl HA6.out
        · have HNO := Lib.hid (show ¬ okP rs from fun o => by have := HEE.out.trans o.2.2.1; exact absurd this (by decide))
          go_wp2_with (first
            | (go_at_call 8; refine HBK.out.mono ?_; rintro x w6 ⟨A6, n6, c6, rfl, h6, a6⟩; have HA6 := Lib.hid (HE2.out.adv.trans a6); clear h6 a6)
            | fail)
          go_ret2
          exact EntR.no HNO.out rfl HA6.out
  · have h5' : (5 : Int) < (N : Int) := by omega
    have HNO := Lib.hid (show ¬ okP rs from fun o => h5 (by rw [HN.out]; exact o.1))
    clear h5
    go_enter Try.func14, Try.ntmps14
    go_wp2_with fail
    go_ret2
    exact EntR.no HNO.out rfl (Adv.refl _ _)
end Go.Proofs.Ytgcbnaleajccgaa
