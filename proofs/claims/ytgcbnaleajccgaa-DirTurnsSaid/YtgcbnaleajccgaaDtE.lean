/- The document's Drop. -/
import Derived.Test.YtgcbnaleajccgaaDtD
namespace Go.Proofs.Ytgcbnaleajccgaa
open Go.ChangeShapes Go.WideShapes Go.ChangeAt Go.RowKit

def ftK (s : ByteArray) (l : List En) (k : Nat) : List En := (l.take k).filter (fun x => !decide (x.s = s))
theorem ftK_len (s : ByteArray) (l : List En) (k : Nat) : (ftK s l k).length ≤ k := by
  unfold ftK
  refine Nat.le_trans (List.length_filter_le _ _) ?_
  rw [List.length_take]; omega
theorem ftK_succ (s : ByteArray) (l : List En) (k : Nat) (h : k < l.length) : ftK s l (k + 1) = ftK s l k ++ (if l[k].s = s then [] else [l[k]]) := by
  unfold ftK
  rw [List.take_succ_eq_append_getElem h, List.filter_append]
  congr 1
  by_cases e : l[k].s = s
  · rw [if_pos e]; simp [e]
  · rw [if_neg e]; simp [e]
def QdL (w : World) (l : List En) (s : ByteArray) (t5 t6 : Value) (wr : World) : Prop := ∃ k : Nat, t6 = .int .i64 (k : Int) ∧ k ≤ l.length ∧ EnO w (ftK s l k) t5 wr

set_option maxRecDepth 3000 in
set_option maxHeartbeats 3200000 in
theorem q9drop_any (v : Value) (l : List En) (s : ByteArray) (w : World) (h : EnR w v l) (hl : l.length ≤ 1000) : Calls Try.prog 22 #[v, .string s] w fun x w' => ∃ v', x = .returned v' ∧ EnO w (l.filter (fun x => !decide (x.s = s))) v' w' := by
  obtain ⟨A, c, rfl, hnc, hcm⟩ := h.form
  obtain ⟨N, hN⟩ : ∃ N, N = l.length := ⟨_, rfl⟩
  rw [← hN] at h hl ⊢
  have HR := Lib.hid h
  have HN := Lib.hid hN
  have hn9 : (N : Int) ≤ 1000 := by omega
  clear h hnc hcm hN hl
  go_enter Try.func22, Try.ntmps22
  go_wp2_with fail
  go_loopw [5, 6] (QdL w l s) (fun _ t _ => N - (intOf t).toNat)
  case atStart => exact ⟨0, rfl, Nat.zero_le _, by simp only [ftK, List.take_zero, List.filter_nil]; exact EnO.nil w⟩
  case round =>
    obtain ⟨k, rfl, hk, hE⟩ := hrel
    rw [← HN.out] at hk
    obtain ⟨A5, c5, rfl⟩ := hE.form
    have HE := Lib.hid hE
    clear hE
    by_cases hlt : k < N
    · have hkl : k < l.length := by rw [← HN.out]; exact hlt
      obtain ⟨b, o, rfl, hb, g0, g1, g2, g3⟩ := (HR.out.step HE.out.adv).at_ HN.out hkl
      have hsucc := ftK_succ s l k hkl
      obtain ⟨x, hx⟩ : ∃ x, x = l[k] := ⟨_, rfl⟩
      have hsz : x.s.size ≤ maxLen := by rw [hx]; exact HR.out.sz _ (List.getElem_mem _)
      rw [← hx] at g0 g1 g2 g3 hsucc
      have HLT := Lib.hid hlt
      have hki : (k : Int) < (N : Int) := by omega
      by_cases hs : x.s = s
      · rw [if_pos hs, List.append_nil] at hsucc
        have e4 : (x.s.toList == s.toList) = true := by rw [hs]; simp
        have HSU := Lib.hid hsucc
        clear hx hkl hb hsucc hsz hs hlt hk
        obtain ⟨s0, i, g, q⟩ := x
        simp only at g0 g1 g2 g3 e4
        go_wp2_with fail
        refine ⟨⟨k + 1, by go_num, by rw [← HN.out]; exact HLT.out, by rw [HSU.out]; exact HE.out⟩, by have := HLT.out; simp [intOf] <;> omega⟩
      · rw [if_neg hs] at hsucc
        have e4 : (x.s.toList == s.toList) = false := by rw [eqS_eq]; exact decide_eq_false hs
        have HSU := Lib.hid hsucc
        have hlen : (ftK s l k).length + 1 ≤ 1000000 := by have := ftK_len s l k; omega
        clear hx hkl hb hsucc hs hlt hk
        obtain ⟨s0, i, g, q⟩ := x
        simp only at g0 g1 g2 g3 e4 hsz
        have hmore := HE.out.more (m := [⟨s0, i, g, q⟩]) (fun e he => by rw [List.mem_singleton.1 he]; exact hsz)
        have hA2 := (Adv.refl Nul wr).alloc (.cells (ea ⟨s0, i, g, q⟩) 46)
        have hown := own_keep hmore.1 (fun q hq => hA2.block q (hmore.1.lt q hq).2 (fun x => x))
        have hrd := rd_one wr ⟨s0, i, g, q⟩
        have HMORE := Lib.hid hmore.2
        have HA2 := Lib.hid hA2
        clear hmore hA2
        go_wp2_with (first
          | (at_builtin; refine wpList_append_en rfl (.tmp 20) (.tmp 25) rfl rfl rfl hown hrd (ec_one _) hlen ?c5)
          | fail)
        case c5 =>
          intro v' w5 hown5 hg5 hat5
          have hp := HMORE.out _ v' w5 HA2.out (by rw [ecs_one_eq]; exact hown5) hg5 (by rw [World.size_alloc]; exact hat5)
          rw [← HSU.out] at hp
          have HP := Lib.hid hp
          clear hp hown5 hg5 hat5 hown hrd hlen
          go_wp2_with fail
          exact ⟨⟨k + 1, by go_num, by rw [← HN.out]; exact HLT.out, HP.out⟩, by have := HLT.out; simp [intOf] <;> omega⟩
    · obtain rfl : k = N := by omega
      have HF := Lib.hid (show l.filter (fun x => !decide (x.s = s)) = ftK s l k by unfold ftK; rw [List.take_of_length_le (by rw [← HN.out]; exact Nat.le_refl _)])
      clear hlt hk
      go_wp2_with fail
      go_ret
      exact ⟨_, rfl, by rw [HF.out]; exact HE.out⟩

theorem insK_len (e : En) (d : List En) : ∀ k, k ≤ d.length → (insK e d k).2.length ≤ k + 1 ∧ ((insK e d k).1 = false → (insK e d k).2.length ≤ k)
  | 0, _ => by unfold insK; simp
  | k + 1, h => by
    have ih := insK_len e d k (by omega)
    rw [insK_succ e d k (by omega)]
    unfold stp
    split
    · next hc => have := ih.2 hc.1; simp only [List.length_append, List.length_singleton]; exact ⟨by omega, fun h => by cases h⟩
    · simp only [List.length_append, List.length_singleton]
      exact ⟨by omega, fun h => by have := ih.2 h; omega⟩
def QpL (W : World) (e : En) (d : List En) (t5 t6 t7 : Value) (wr : World) : Prop := ∃ k : Nat, t7 = .int .i64 (k : Int) ∧ k ≤ d.length ∧ t6 = .bool (insK e d k).1 ∧ EnO W (insK e d k).2 t5 wr

set_option maxRecDepth 3000 in
set_option maxHeartbeats 6400000 in
theorem q9put_any (v : Value) (l : List En) (e : En) (w : World) (h : EnR w v l) (hr : Ris l) (hl : l.length ≤ 1000) (hs : e.s.size ≤ maxLen) : Calls Try.prog 18 #[v, .agg (ea e)] w fun x w' => ∃ v', x = .returned v' ∧ EnO w (putL l e) v' w' := by
  obtain ⟨y, hy⟩ : ∃ y, y = w.heap.size := ⟨_, rfl⟩
  obtain ⟨V, hV⟩ : ∃ V, V = w.alloc (.cells (ea e) 46) := ⟨_, rfl⟩
  have HY := Lib.hid (show Blk V y 46 (ea e) by rw [hV, hy]; exact Blk.new _ _ _)
  have hVA : Adv Nul w Nul V := by rw [hV]; exact (Adv.refl _ _).alloc _
  have HVA := Lib.hid hVA
  have HDR := Lib.hid (q9drop_any v l e.s V (h.step hVA) hl)
  rw [show l.filter (fun x => !decide (x.s = e.s)) = dropL l e.s from drop_eq e.s hr] at HDR
  have HPUT := Lib.hid (ins_put l e)
  have hdl := dropL_length l e.s
  obtain ⟨d, hd⟩ : ∃ d, d = dropL l e.s := ⟨_, rfl⟩
  rw [← hd] at HDR HPUT hdl
  obtain ⟨N, hN⟩ : ∃ N, N = d.length := ⟨_, rfl⟩
  have HN := Lib.hid hN
  have hn9 : (N : Int) ≤ 1000 := by omega
  have HV := Lib.hid hV
  have HYY := Lib.hid hy
  have HS := Lib.hid hs
  rw [← hN] at HPUT
  clear hV hy hVA h hr hl hs hd hN hdl
  obtain ⟨s0, s1, s2, s3⟩ := HY.out.e4.all
  obtain ⟨s, i, g, q⟩ := e
  simp only at s0 s1 s2 s3 HDR
  go_enter Try.func18, Try.ntmps18
  go_upto_region 1 with (fail)
  rw [← HV.out, ← HYY.out]
  go_upto_region 2 with (first
    | (go_at_call 22; refine HDR.out.mono ?_; rintro x w2 ⟨v2, rfl, h2⟩; have HD := Lib.hid h2; clear h2)
    | fail)
  obtain ⟨A2, c2, rfl⟩ := HD.out.form
  rw [← HN.out]
  have hdr := HD.out.rd
  rw [← HN.out] at hdr
  have HDD := Lib.hid hdr
  have HYK := Lib.hid (fun w' (a : Adv Nul w2 Nul w') => (HY.out.keep (((HD.out.adv).trans a).block y HY.out.lt (fun h => h))))
  clear hdr s0 s1 s2 s3
  go_wp2_with fail
  go_loopw [5, 6, 7] (QpL w2 ⟨s, i, g, q⟩ d) (fun _ _ t _ => N - (intOf t).toNat)
  case atStart => exact ⟨0, rfl, Nat.zero_le _, by simp [insK], by simp only [insK, List.take_zero, List.foldl_nil]; exact EnO.nil w2⟩
  case round =>
    obtain ⟨k, rfl, hk, rfl, hE⟩ := hrel
    rw [← HN.out] at hk
    have hil := insK_len ⟨s, i, g, q⟩ d k (by rw [← HN.out]; exact hk)
    obtain ⟨K, hK⟩ : ∃ K, K = (insK ⟨s, i, g, q⟩ d k).2 := ⟨_, rfl⟩
    obtain ⟨f, hf⟩ : ∃ f, f = (insK ⟨s, i, g, q⟩ d k).1 := ⟨_, rfl⟩
    rw [← hK] at hE hil
    rw [← hf]
    rw [← hf] at hil
    obtain ⟨A5, c5, rfl⟩ := hE.form
    have HE := Lib.hid hE
    have HKK := Lib.hid hK
    have HFF := Lib.hid hf
    have HIL := Lib.hid hil
    obtain ⟨s0, s1, s2, s3⟩ := (HYK.out wr HE.out.adv).e4.all
    simp only at s0 s1 s2 s3
    clear hE hK hf hil
    by_cases hlt : k < N
    · have hkl : k < d.length := by rw [← HN.out]; exact hlt
      obtain ⟨b, o, rfl, hb, g0, g1, g2, g3⟩ := HDD.out.at_ HN.out hkl
      have hsucc := insK_succ ⟨s, i, g, q⟩ d k hkl
      rw [show insK ⟨s, i, g, q⟩ d k = (f, K) by rw [HFF.out, HKK.out]] at hsucc
      obtain ⟨x, hx⟩ : ∃ x, x = d[k] := ⟨_, rfl⟩
      have hsz : x.s.size ≤ maxLen := by rw [hx]; exact HDD.out.sz _ (List.getElem_mem _)
      rw [← hx] at g0 g1 g2 g3 hsucc
      have HLT := Lib.hid hlt
      have hki : (k : Int) < (N : Int) := by omega
      have HSZ := Lib.hid hsz
      have HSU := Lib.hid hsucc
      clear hx hkl hsucc hsz
      obtain ⟨xs, xi, xg, xq⟩ := x
      simp only at g0 g1 g2 g3 HSZ
      have HROW := Lib.hid (fun w' (a : Adv Nul w2 Nul w') => show w'.cell? ⟨b, o + k * 4, none⟩ = some (.string xs) ∧ w'.cell? ⟨b, o + k * 4 + 1, none⟩ = some (.int .i64 xi) ∧ w'.cell? ⟨b, o + k * 4 + 2, none⟩ = some (.int .i64 xg) ∧ w'.cell? ⟨b, o + k * 4 + 3, none⟩ = some (.int .i64 xq) from
        ⟨(World.cell?_of_block (a := ⟨b, o + k * 4, none⟩) (a.block b hb (fun x => x))).trans g0, (World.cell?_of_block (a := ⟨b, o + k * 4 + 1, none⟩) (a.block b hb (fun x => x))).trans g1, (World.cell?_of_block (a := ⟨b, o + k * 4 + 2, none⟩) (a.block b hb (fun x => x))).trans g2, (World.cell?_of_block (a := ⟨b, o + k * 4 + 3, none⟩) (a.block b hb (fun x => x))).trans g3⟩)
      have HLN := Lib.hid (show k ≤ 1000 by omega)
      clear hb hlt hk g0 g1 g2 g3
      obtain ⟨g0, g1, g2, g3⟩ := HROW.out wr HE.out.adv
      have hst : (f = true ∨ ¬ ltS s xs) ∨ (f = false ∧ ltS s xs) := by
        by_cases c : ltS s xs
        · cases f
          · exact .inr ⟨rfl, c⟩
          · exact .inl (.inl rfl)
        · exact .inl (.inr c)
      rcases hst with hst | ⟨rfl, hst⟩
      · have HST := Lib.hid (show stp ⟨s, i, g, q⟩ (f, K) ⟨xs, xi, xg, xq⟩ = (f, K ++ [⟨xs, xi, xg, xq⟩]) from if_neg fun c => by
          rcases hst with h | h
          · rw [h] at c; cases c.1
          · exact h c.2)
        cases f with
        | true =>
          clear hst
          go_upto_region 7 with (fail)
          go_quiet (fail)
          obtain ⟨W5, hW5⟩ : ∃ W5, W5 = wr.drewN nq := ⟨_, rfl⟩
          rw [← hW5]
          have ha5 : Adv Nul wr Nul W5 := by rw [hW5]; exact (Adv.refl _ _).drewN nq
          have HA5 := Lib.hid ha5
          have HE5 := Lib.hid (HE.out.step ha5)
          clear s0 s1 s2 s3 g0 g1 g2 g3 hW5 ha5
          obtain ⟨g0, g1, g2, g3⟩ := HROW.out W5 (HE5.out.adv)
          have hmorea := HE5.out.more (m := [⟨xs, xi, xg, xq⟩]) (fun e he => by rw [List.mem_singleton.1 he]; exact HSZ.out)
          have hAa := (Adv.refl Nul W5).alloc (.cells (ea ⟨xs, xi, xg, xq⟩) 46)
          have howna := own_keep hmorea.1 (fun q hq => hAa.block q (hmorea.1.lt q hq).2 (fun x => x))
          have hrda := rd_one W5 ⟨xs, xi, xg, xq⟩
          have HMOREa := Lib.hid hmorea.2
          have HAa := Lib.hid hAa
          clear hmorea hAa
          go_wp2_with (first
            | (at_builtin; refine wpList_append_en rfl (.tmp 34) (.tmp 39) rfl rfl rfl howna hrda (ec_one _) (by have := HIL.out; have := HLN.out; (try simp only [List.length_append, List.length_singleton]); omega) ?d1)
            | fail)
          case d1 =>
          intro va w6 hown hg hat
          have hp := HMOREa.out _ va w6 HAa.out (by rw [ecs_one_eq]; first | exact hown | (rw [List.length_append]; exact hown)) (by first | exact hg | (rw [List.length_append]; exact hg)) (by rw [World.size_alloc]; first | exact hat | (rw [List.length_append]; exact hat))
          obtain ⟨Aa, ca, rfl⟩ := hp.form
          have HEa := Lib.hid hp
          clear hp hown hg hat howna hrda
          go_wp2_with fail
          refine ⟨⟨k + 1, by go_num, by rw [← HN.out]; exact HLT.out, by rw [HSU.out, HST.out], ?_⟩, by have := HLT.out; simp [intOf] <;> omega⟩
          rw [HSU.out, HST.out]
          exact HEa.out
        | false =>
          have hlf : Op.bytesLess s.toList xs.toList = false := by
            rw [less_eq]
            rcases hst with h | h
            · cases h
            · exact decide_eq_false h
          clear hst
          go_upto_region 7 with (fail)
          go_quiet (fail)
          obtain ⟨W5, hW5⟩ : ∃ W5, W5 = wr.drewN nq := ⟨_, rfl⟩
          rw [← hW5]
          have ha5 : Adv Nul wr Nul W5 := by rw [hW5]; exact (Adv.refl _ _).drewN nq
          have HA5 := Lib.hid ha5
          have HE5 := Lib.hid (HE.out.step ha5)
          clear s0 s1 s2 s3 g0 g1 g2 g3 hW5 ha5
          obtain ⟨g0, g1, g2, g3⟩ := HROW.out W5 (HE5.out.adv)
          have hmorea := HE5.out.more (m := [⟨xs, xi, xg, xq⟩]) (fun e he => by rw [List.mem_singleton.1 he]; exact HSZ.out)
          have hAa := (Adv.refl Nul W5).alloc (.cells (ea ⟨xs, xi, xg, xq⟩) 46)
          have howna := own_keep hmorea.1 (fun q hq => hAa.block q (hmorea.1.lt q hq).2 (fun x => x))
          have hrda := rd_one W5 ⟨xs, xi, xg, xq⟩
          have HMOREa := Lib.hid hmorea.2
          have HAa := Lib.hid hAa
          clear hmorea hAa
          go_wp2_with (first
            | (at_builtin; refine wpList_append_en rfl (.tmp 34) (.tmp 39) rfl rfl rfl howna hrda (ec_one _) (by have := HIL.out; have := HLN.out; (try simp only [List.length_append, List.length_singleton]); omega) ?d2)
            | fail)
          case d2 =>
          intro va w6 hown hg hat
          have hp := HMOREa.out _ va w6 HAa.out (by rw [ecs_one_eq]; first | exact hown | (rw [List.length_append]; exact hown)) (by first | exact hg | (rw [List.length_append]; exact hg)) (by rw [World.size_alloc]; first | exact hat | (rw [List.length_append]; exact hat))
          obtain ⟨Aa, ca, rfl⟩ := hp.form
          have HEa := Lib.hid hp
          clear hp hown hg hat howna hrda
          go_wp2_with fail
          refine ⟨⟨k + 1, by go_num, by rw [← HN.out]; exact HLT.out, by rw [HSU.out, HST.out], ?_⟩, by have := HLT.out; simp [intOf] <;> omega⟩
          rw [HSU.out, HST.out]
          exact HEa.out
      · have HST := Lib.hid (show stp ⟨s, i, g, q⟩ (false, K) ⟨xs, xi, xg, xq⟩ = (true, K ++ [⟨s, i, g, q⟩] ++ [⟨xs, xi, xg, xq⟩]) from if_pos ⟨rfl, hst⟩)
        have hlf : Op.bytesLess s.toList xs.toList = true := by rw [less_eq]; exact decide_eq_true hst
        clear hst
        go_upto_region 7 with (fail)
        go_quiet (fail)
        obtain ⟨W5, hW5⟩ : ∃ W5, W5 = wr.drewN nq := ⟨_, rfl⟩
        rw [← hW5]
        have ha5 : Adv Nul wr Nul W5 := by rw [hW5]; exact (Adv.refl _ _).drewN nq
        have HA5 := Lib.hid ha5
        have HE5 := Lib.hid (HE.out.step ha5)
        clear s0 s1 s2 s3 g0 g1 g2 g3 hW5 ha5
        obtain ⟨s0, s1, s2, s3⟩ := (HYK.out W5 HE5.out.adv).e4.all
        simp only at s0 s1 s2 s3
        have hmorea := HE5.out.more (m := [⟨s, i, g, q⟩]) (fun e he => by rw [List.mem_singleton.1 he]; exact HS.out)
        have hAa := (Adv.refl Nul W5).alloc (.cells (ea ⟨s, i, g, q⟩) 46)
        have howna := own_keep hmorea.1 (fun q hq => hAa.block q (hmorea.1.lt q hq).2 (fun x => x))
        have hrda := rd_one W5 ⟨s, i, g, q⟩
        have HMOREa := Lib.hid hmorea.2
        have HAa := Lib.hid hAa
        clear hmorea hAa
        go_wp2_with (first
          | (at_builtin; refine wpList_append_en rfl (.tmp 30) (.tmp 32) rfl rfl rfl howna hrda (ec_one _) (by have := HIL.out; have := HLN.out; (try simp only [List.length_append, List.length_singleton]); omega) ?d3)
          | fail)
        case d3 =>
        intro va w6 hown hg hat
        have hp := HMOREa.out _ va w6 HAa.out (by rw [ecs_one_eq]; first | exact hown | (rw [List.length_append]; exact hown)) (by first | exact hg | (rw [List.length_append]; exact hg)) (by rw [World.size_alloc]; first | exact hat | (rw [List.length_append]; exact hat))
        obtain ⟨Aa, ca, rfl⟩ := hp.form
        have HEa := Lib.hid hp
        clear hp hown hg hat howna hrda
        clear s0 s1 s2 s3
        obtain ⟨g0, g1, g2, g3⟩ := HROW.out w6 (HEa.out.adv)
        have hmoreb := HEa.out.more (m := [⟨xs, xi, xg, xq⟩]) (fun e he => by rw [List.mem_singleton.1 he]; exact HSZ.out)
        have hAb := (Adv.refl Nul w6).alloc (.cells (ea ⟨xs, xi, xg, xq⟩) 46)
        have hownb := own_keep hmoreb.1 (fun q hq => hAb.block q (hmoreb.1.lt q hq).2 (fun x => x))
        have hrdb := rd_one w6 ⟨xs, xi, xg, xq⟩
        have HMOREb := Lib.hid hmoreb.2
        have HAb := Lib.hid hAb
        clear hmoreb hAb
        go_wp2_with (first
          | (at_builtin; refine wpList_append_en rfl (.tmp 34) (.tmp 39) rfl rfl rfl hownb hrdb (ec_one _) (by have := HIL.out; have := HLN.out; (try simp only [List.length_append, List.length_singleton]); omega) ?d4)
          | fail)
        case d4 =>
        intro vb w7 hown hg hat
        have hp := HMOREb.out _ vb w7 HAb.out (by rw [ecs_one_eq]; first | exact hown | (rw [List.length_append]; exact hown)) (by first | exact hg | (rw [List.length_append]; exact hg)) (by rw [World.size_alloc]; first | exact hat | (rw [List.length_append]; exact hat))
        obtain ⟨Ab, cb, rfl⟩ := hp.form
        have HEb := Lib.hid hp
        clear hp hown hg hat hownb hrdb
        go_wp2_with fail
        refine ⟨⟨k + 1, by go_num, by rw [← HN.out]; exact HLT.out, by rw [HSU.out, HST.out], ?_⟩, by have := HLT.out; simp [intOf] <;> omega⟩
        rw [HSU.out, HST.out]
        exact HEb.out
    · obtain rfl : k = N := by omega
      have hput := HPUT.out
      rw [← HFF.out, ← HKK.out] at hput
      clear hlt hk
      cases f with
      | true =>
        rw [if_pos rfl] at hput
        have HP := Lib.hid hput
        clear hput
        go_wp2_with fail
        go_ret
        exact ⟨_, rfl, by rw [← HP.out]; exact ((HE.out.since HD.out.adv).since HVA.out)⟩
      | false =>
        rw [if_neg (by decide)] at hput
        have HP := Lib.hid hput
        have HLN := Lib.hid (show k ≤ 1000 by omega)
        clear hput
        have hmorea := HE.out.more (m := [⟨s, i, g, q⟩]) (fun e he => by rw [List.mem_singleton.1 he]; exact HS.out)
        have hAa := (Adv.refl Nul wr).alloc (.cells (ea ⟨s, i, g, q⟩) 46)
        have howna := own_keep hmorea.1 (fun q hq => hAa.block q (hmorea.1.lt q hq).2 (fun x => x))
        have hrda := rd_one wr ⟨s, i, g, q⟩
        have HMOREa := Lib.hid hmorea.2
        have HAa := Lib.hid hAa
        clear hmorea hAa
        go_wp2_with (first
          | (at_builtin; refine wpList_append_en rfl (.tmp 43) (.tmp 45) rfl rfl rfl howna hrda (ec_one _) (by have := HIL.out; have := HLN.out; (try simp only [List.length_append, List.length_singleton]); omega) ?d5)
          | fail)
        case d5 =>
        intro va w6 hown hg hat
        have hp := HMOREa.out _ va w6 HAa.out (by rw [ecs_one_eq]; first | exact hown | (rw [List.length_append]; exact hown)) (by first | exact hg | (rw [List.length_append]; exact hg)) (by rw [World.size_alloc]; first | exact hat | (rw [List.length_append]; exact hat))
        obtain ⟨Aa, ca, rfl⟩ := hp.form
        have HEa := Lib.hid hp
        clear hp hown hg hat howna hrda
        go_wp2_with fail
        go_ret
        exact ⟨_, rfl, by rw [← HP.out]; exact ((HEa.out.since HD.out.adv).since HVA.out)⟩
end Go.Proofs.Ytgcbnaleajccgaa
