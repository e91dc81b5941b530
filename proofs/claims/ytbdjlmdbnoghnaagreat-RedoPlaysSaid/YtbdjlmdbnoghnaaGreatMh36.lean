/- The document's next: its walk. -/
import Derived.Test.YtbdjlmdbnoghnaaGreatMh26
namespace Go.Proofs.YtbdjlmdbnoghnaaGreat
open Go.RowKit Go.Maps

variable {Z : Nat → Prop}

set_option maxRecDepth 3000 in
set_option maxHeartbeats 6400000 in
theorem ynext_lg (x y b n N fl : Nat) (g : LS) (G : Nat → Prop) (s : DS) (w : World) (h : Ys Z w G x y b n N s g) (hsb : SB s N) (hq : s.Q.length ≤ 1000000) (hn : 2 ≤ n ∧ n + 3 ≤ N ∧ N ≤ 4096) (hnx : g.next ≤ 2199023255552) (ht : g.h.t ≤ 2199023255552) :
    Calls Tryz.prog 35 #[.pointer (some ⟨y, 0, none⟩), .int .u64 (fl : Int)] w (NxR w (NextOf s n g.next (g.h.t + n) fl)) := by
  obtain ⟨c, hc⟩ : ∃ c, c = g.next := ⟨_, rfl⟩
  obtain ⟨t, htt⟩ : ∃ t, t = g.h.t := ⟨_, rfl⟩
  rw [← hc] at hnx ⊢
  rw [← htt] at ht ⊢
  have HS := Lib.hid h
  have HSB := Lib.hid hsb
  have HQ := Lib.hid hq
  have HN := Lib.hid hn
  have HC := Lib.hid hnx
  have HT := Lib.hid ht
  have HCE := Lib.hid hc
  have HTE := Lib.hid htt
  have hwn : IntKind.u64.wrap (n : Int) = (n : Int) := wrapU (by omega)
  have hwt : IntKind.u64.wrap ((t : Int) + (n : Int)) = (t : Int) + (n : Int) := by
    have := wrapU (x := t + n) (by omega)
    rw [Int.natCast_add] at this
    exact this
  clear h hsb hq hn hnx hc ht htt
  go_enter Tryz.func35, Tryz.ntmps35
  go_wp2_with fail
  go_loopw [6, 5] (NxL w s n c fl) (fun t6 _ _ => n + 1 - (intOf t6).toNat)
  case atStart => exact ⟨0, none, 0, Nul, [], by simp, rfl, Pre.zero s n c, fun h => absurd h (Nat.lt_irrefl 0), PW.nil _ _ _⟩
  case round =>
    obtain ⟨k, A, q, Fq, qs, rfl, rfl, hpre, hfl, hpw⟩ := hrel
    have hav := hpw.adv.sub (G := Nul) (fun _ x => x.elim)
    have hs := HS.out.over hav
    obtain ⟨c0, c1, -, -, c4, c5, -⟩ := hs.lg.cells
    rw [← HCE.out] at c5
    rw [← HTE.out] at c4
    have hle := hpre.le
    have hwa : IntKind.u64.wrap ((c : Int) + (k : Int)) = (c : Int) + (k : Int) := by
      have := wrapU (x := c + k) (by have := HC.out; have := HN.out; omega)
      rw [Int.natCast_add] at this
      exact this
    have HPRE := Lib.hid hpre
    have HFL := Lib.hid hfl
    have HPW := Lib.hid hpw
    have HAV := Lib.hid hav
    have HS1 := Lib.hid hs
    have HLE := Lib.hid hle
    by_cases hb : c + k < t + n
    · have hbi : (c : Int) + (k : Int) < (t : Int) + (n : Int) := by omega
      have HB := Lib.hid hb
      clear hpre hfl hpw hav hs hle hb
      go_wp2_with fail
      go_quiet (fail)
      go_wp2_with fail
      obtain ⟨U, hU⟩ : ∃ U, U = wr.drewN nq := ⟨_, rfl⟩
      rw [← hU]
      have haU : Adv Nul wr Nul U := by rw [hU]; exact (Adv.refl _ _).drewN _
      have hsU := HS1.out.over haU
      have HSU := Lib.hid hsU
      have HPWU := Lib.hid (HPW.out.step haU)
      have HAVU := Lib.hid (HAV.out.trans haU)
      have hn0 : 0 < n := by have := HN.out; omega
      have HN0 := Lib.hid hn0
      obtain ⟨r, hr⟩ : ∃ r, r = (c + k) % n := ⟨_, rfl⟩
      have hrn : r < n := by rw [hr]; exact Nat.mod_lt _ hn0
      have hpl : 2 + r < N := by have := HN.out; omega
      have HR := Lib.hid hr
      have HCK := Lib.hid (show c + k < 18446744073709551616 by have := HC.out; have := HN.out; have := HLE.out; omega)
      obtain ⟨L, hL⟩ : ∃ L, L = rdP s n (c + k) := ⟨_, rfl⟩
      have hL' : isS s (2 + r) = L := by rw [hL, hr]; rfl
      have HIS := Lib.hid (show ∀ w', Adv Nul U Nul w' → Calls Tryz.prog 25 #[.pointer (some ⟨x, 0, none⟩), .int .i64 ((2 : Int) + (r : Int))] w' fun e w'' => ∃ v, e = .returned v ∧ IsU w' G L v ∧ w' = w'' from fun w' a =>
        nis_any (HSU.out.dk.far a (fun _ e _ => e)) hpl HQ.out hL' (by omega))
      have HL8 := Lib.hid (show ∀ x ∈ L, x < 256 by rw [← hL']; exact HSB.out _ hpl)
      have HUN := Lib.hid (show ∀ w' v, RdU w' L v → Calls Tryz.prog 71 #[v] w' (UnR w' L) from fun w' v h => nun_any h HL8.out)
      have hwr1 : IntKind.i64.wrap (r : Int) = (r : Int) := by rw [IntKind.wrap_i64]; have := HN.out; omega
      have hwr2 : IntKind.i64.wrap ((2 : Int) + (r : Int)) = (2 : Int) + (r : Int) := by rw [IntKind.wrap_i64]; have := HN.out; omega
      have HKEEP := Lib.hid (show ∀ (w' : World) (F' : Nat → Prop), Adv Nul U F' w' → NxC w' y x n c from fun w' F' a => by
        obtain ⟨c0, c1, -, -, -, c5, -⟩ := (HSU.out.over a).lg.cells
        rw [← HCE.out] at c5
        exact ⟨c0, c1, c5⟩)
      have K0 := Lib.hid (show NxC U y x n c by
        obtain ⟨c0, c1, -, -, -, c5, -⟩ := HSU.out.lg.cells
        rw [← HCE.out] at c5
        exact ⟨c0, c1, c5⟩)
      have K1 := Lib.hid (HKEEP.out U.drew Nul (Adv.refl _ _).drew)
      obtain ⟨p, hp⟩ : ∃ p, p = unsealP L := ⟨_, rfl⟩
      obtain ⟨E, hE⟩ : ∃ E, E = unsealE L := ⟨_, rfl⟩
      obtain ⟨pe, pc, pf, pg, D⟩ := p
      obtain ⟨m, hm⟩ : ∃ m, m = D.length := ⟨_, rfl⟩
      have HP := Lib.hid hp
      have HE := Lib.hid hE
      have HMM := Lib.hid hm
      have HL := Lib.hid hL
      clear hU haU hsU hn0 hr hrn hpl hL hL' hp hE hm c0 c1 c4 c5
      go_cut [7, 8] (fun t7 t8 wr => NxB U ⟨pe, pc, pf, pg, D⟩ E t7 t8 wr)
      case first =>
        refine rstart (S := (fun w' => NxC w' y x n c)) (by first | with_reducible exact KF.out | with_reducible exact K9b.out | with_reducible exact K9.out | with_reducible exact K3.out | with_reducible exact K1.out | with_reducible exact K0.out) (fun hH => ?_)
        refine tk (i := 0) (oi := ⟨some 29, .move (.tmp 0), 34, "ref.go:76", #[], none⟩) hH.out (by rintro w ⟨s0, s1, s2⟩; go_simp <;> with_reducible rfl) ?_
        simp only [Act.put, sA, sB, sC]
        refine tk (i := 1) (oi := ⟨some 30, .nilCheck (.tmp 29), 0, "ref.go:76", #[⟨0, .data⟩], none⟩) hH.out (by rintro w ⟨s0, s1, s2⟩; go_simp <;> with_reducible rfl) ?_
        simp only [Act.put, sA, sB, sC]
        refine tk (i := 2) (oi := ⟨some 31, .fieldAddr 52 (.tmp 30) 0, 0, "ref.go:76", #[⟨1, .data⟩], none⟩) hH.out (by rintro w ⟨s0, s1, s2⟩; go_simp <;> with_reducible rfl) ?_
        simp only [Act.put, sA, sB, sC]
        refine tk (i := 3) (oi := ⟨some 32, .load 28 (.tmp 31), 28, "ref.go:76", #[⟨2, .data⟩], none⟩) hH.out (by rintro w ⟨s0, s1, s2⟩; go_simp <;> with_reducible rfl) ?_
        simp only [Act.put, sA, sB, sC]
        refine tk (i := 4) (oi := ⟨some 33, .move (.tmp 0), 34, "ref.go:76", #[], none⟩) hH.out (by rintro w ⟨s0, s1, s2⟩; go_simp <;> with_reducible rfl) ?_
        simp only [Act.put, sA, sB, sC]
        refine tk (i := 5) (oi := ⟨some 34, .nilCheck (.tmp 33), 0, "ref.go:76", #[⟨4, .data⟩], none⟩) hH.out (by rintro w ⟨s0, s1, s2⟩; go_simp <;> with_reducible rfl) ?_
        simp only [Act.put, sA, sB, sC]
        refine tk (i := 6) (oi := ⟨some 35, .fieldAddr 52 (.tmp 34) 5, 0, "ref.go:76", #[⟨5, .data⟩], none⟩) hH.out (by rintro w ⟨s0, s1, s2⟩; go_simp <;> with_reducible rfl) ?_
        simp only [Act.put, sA, sB, sC]
        refine tk (i := 7) (oi := ⟨some 36, .load 49 (.tmp 35), 49, "ref.go:76", #[⟨6, .data⟩], none⟩) hH.out (by rintro w ⟨s0, s1, s2⟩; go_simp <;> with_reducible rfl) ?_
        simp only [Act.put, sA, sB, sC]
        refine tk (i := 8) (oi := ⟨some 37, .move (.tmp 6), 49, "ref.go:76", #[], none⟩) hH.out (by rintro w ⟨s0, s1, s2⟩; go_simp <;> with_reducible rfl) ?_
        simp only [Act.put, sA, sB, sC]
        refine tk (i := 9) (oi := ⟨some 38, .binOp .add 49 (.tmp 36) (.tmp 37) 49, 49, "ref.go:76", #[⟨7, .data⟩, ⟨8, .data⟩], none⟩) hH.out (by rintro w ⟨s0, s1, s2⟩; go_simp <;> with_reducible rfl) ?_
        simp only [Act.put, sA, sB, sC]
        refine tk (i := 10) (oi := ⟨some 39, .move (.tmp 0), 34, "ref.go:76", #[], none⟩) hH.out (by rintro w ⟨s0, s1, s2⟩; go_simp <;> with_reducible rfl) ?_
        simp only [Act.put, sA, sB, sC]
        refine tk (i := 11) (oi := ⟨some 40, .nilCheck (.tmp 39), 0, "ref.go:76", #[⟨10, .data⟩], none⟩) hH.out (by rintro w ⟨s0, s1, s2⟩; go_simp <;> with_reducible rfl) ?_
        simp only [Act.put, sA, sB, sC]
        refine tk (i := 12) (oi := ⟨some 41, .fieldAddr 52 (.tmp 40) 1, 0, "ref.go:76", #[⟨11, .data⟩], none⟩) hH.out (by rintro w ⟨s0, s1, s2⟩; go_simp <;> with_reducible rfl) ?_
        simp only [Act.put, sA, sB, sC]
        refine tk (i := 13) (oi := ⟨some 42, .load 3 (.tmp 41), 3, "ref.go:76", #[⟨12, .data⟩], none⟩) hH.out (by rintro w ⟨s0, s1, s2⟩; go_simp <;> with_reducible rfl) ?_
        simp only [Act.put, sA, sB, sC]
        refine tk (i := 14) (oi := ⟨some 43, .convert 3 49 (.tmp 42), 49, "ref.go:76", #[⟨13, .data⟩], none⟩) hH.out (by rintro w ⟨s0, s1, s2⟩; go_simp <;> with_reducible rfl) ?_
        simp only [Act.put, sA, sB, sC]
        refine wpAnyH_take (i := 15) (oi := ⟨some 44, .binOp .rem 49 (.tmp 38) (.tmp 43) 49, 49, "ref.go:76", #[⟨9, .data⟩, ⟨14, .data⟩], none⟩) (v := .int .u64 (r : Int)) rfl (by kernel_rfl) (by kernel_rfl) (by kernel_rfl) (fun _ _ _ h => h) (y_rem rfl (.tmp 38) (.tmp 43) rfl (c + k) n r HN0.out HCK.out rfl rfl HR.out) hH.out ?_
        simp only [Act.put, sA, sB, sC]
        refine tk (i := 16) (oi := ⟨some 45, .convert 49 3 (.tmp 44), 3, "ref.go:76", #[⟨15, .data⟩], none⟩) hH.out (by rintro w ⟨s0, s1, s2⟩; go_simp <;> with_reducible rfl) ?_
        simp only [Act.put, sA, sB, sC]
        refine tk (i := 17) (oi := ⟨some 46, .binOp .add 3 (.const (Go.Value.int Go.IntKind.i64 2)) (.tmp 45) 3, 3, "ref.go:76", #[⟨16, .data⟩], none⟩) hH.out (by rintro w ⟨s0, s1, s2⟩; go_simp <;> with_reducible rfl) ?_
        simp only [Act.put, sA, sB, sC]
        refine wpAnyH_ready (rs := [18, 23]) (by kernel_rfl) (by simp) ?_
        refine AllReadyH.cons (o := ⟨some 47, .call ⟨.value (.func 25), #[.tmp 32, .tmp 46], #[28, 3]⟩, 53, "ref.go:76", #[⟨3, .data⟩, ⟨17, .data⟩], none⟩) rfl (fun K hK => ?_) (AllReadyH.cons (o := ⟨some 7, .alloc 87, 0, "ref.go:76", #[], none⟩) rfl (fun K hK => ?_) AllReadyH.nil)
        · go_simp
          refine (HIS.out U.drew (Adv.refl _ _).drew).mono ?_
          rintro e w8 ⟨v8, rfl, s8, rfl⟩
          obtain ⟨A8, c8, rfl⟩ := s8.form
          have HRV := Lib.hid s8.rd
          have HRX := Lib.hid (s8.rd.up (.cells #[.int .u64 0, .int .u64 0, .bool false, .bool false, .slice none 0 0] 87))
          clear s8
          go_wp2_with fail
          refine hK.out _ _ (by first | with_reducible exact KF.out | with_reducible exact K9b.out | with_reducible exact K9.out | with_reducible exact K3.out | with_reducible exact K1.out | with_reducible exact K0.out) (fun hHeld => ?_)
          replace hH := Lib.hid hHeld
          clear hK K hHeld
          try simp only [Act.put, sA, sB, sC]
          refine wpAnyH_ready (rs := [19, 23]) (by kernel_rfl) (by simp) ?_
          refine AllReadyH.cons (o := ⟨some 48, .call ⟨.value (.func 71), #[.tmp 47], #[53]⟩, 126, "ref.go:76", #[⟨18, .data⟩, ⟨18, .chain⟩], none⟩) rfl (fun K hK => ?_) (AllReadyH.cons (o := ⟨some 7, .alloc 87, 0, "ref.go:76", #[], none⟩) rfl (fun K hK => ?_) AllReadyH.nil)
          · go_simp
            refine (HUN.out U.drew _ HRV.out).mono ?_
            rintro e w9 ⟨a9, q9, F9, rfl, s9, t9⟩
            rw [← HP.out] at s9 ⊢
            rw [← HE.out]
            simp only at s9 ⊢
            rw [← HMM.out] at s9 ⊢
            have K9 := Lib.hid (HKEEP.out w9 F9 (Adv.of_drew t9))
            have K9b := Lib.hid (HKEEP.out (w9.alloc (.cells #[.int .u64 0, .int .u64 0, .bool false, .bool false, .slice none 0 0] 87)) F9 (Adv.of_drew (t9.alloc _)))
            have HCS := Lib.hid (s9.lup1 (.cells #[.int .u64 0, .int .u64 0, .bool false, .bool false, .slice none 0 0] 87))
            have HCA := Lib.hid (Adv.of_drew (t9.alloc (.cells #[.int .u64 0, .int .u64 0, .bool false, .bool false, .slice none 0 0] 87)))
            have HZC := Lib.hid (Blk.new w9 87 #[.int .u64 0, .int .u64 0, .bool false, .bool false, .slice none 0 0])
            have HWZ := Lib.hid (show U.heap.size ≤ w9.heap.size from t9.size)
            have HFZ := Lib.hid (show ∀ k, F9 k → k ≠ w9.heap.size from fun k hk e => by have := s9.bd k hk; omega)
            clear s9 t9
            go_wp2_with fail
            refine hK.out _ _ (by first | with_reducible exact KF.out | with_reducible exact K9b.out | with_reducible exact K9.out | with_reducible exact K3.out | with_reducible exact K1.out | with_reducible exact K0.out) (fun hHeld => ?_)
            replace hH := Lib.hid hHeld
            clear hK K hHeld
            try simp only [Act.put, sA, sB, sC]
            refine tk (i := 20) (oi := ⟨some 28, .move (.tmp 48), 126, "ref.go:76", #[⟨19, .data⟩], none⟩) hH.out (by rintro w ⟨s0, s1, s2⟩; go_simp <;> with_reducible rfl) ?_
            simp only [Act.put, sA, sB, sC]
            refine tk (i := 21) (oi := ⟨some 49, .extract (.tmp 28) 0, 87, "ref.go:76", #[⟨20, .data⟩], none⟩) hH.out (by rintro w ⟨s0, s1, s2⟩; go_simp <;> with_reducible rfl) ?_
            simp only [Act.put, sA, sB, sC]
            refine tk (i := 22) (oi := ⟨some 50, .extract (.tmp 28) 1, 3, "ref.go:76", #[⟨20, .data⟩, { on := 24, ground := Go.Ground.gcOnly Go.Departure.lateStores }], none⟩) hH.out (by rintro w ⟨s0, s1, s2⟩; go_simp <;> with_reducible rfl) ?_
            simp only [Act.put, sA, sB, sC]
            refine rdy (i := 23) (oi := ⟨some 7, .alloc 87, 0, "ref.go:76", #[], none⟩) (fun K hK => ?_)
            go_simp
            refine hK.out _ _ (by first | with_reducible exact KF.out | with_reducible exact K9b.out | with_reducible exact K9.out | with_reducible exact K3.out | with_reducible exact K1.out | with_reducible exact K0.out) (fun hHeld => ?_)
            replace hH := Lib.hid hHeld
            clear hK K hHeld
            try simp only [Act.put, sA, sB, sC]
            refine rdy (i := 24) (oi := ⟨none, .store 87 (.tmp 7) (.tmp 49), 0, "ref.go:76", #[⟨23, .data⟩, ⟨21, .data⟩, ⟨19, .chain⟩, ⟨0, .phase⟩, ⟨1, .phase⟩, ⟨2, .phase⟩, ⟨3, .phase⟩, ⟨4, .phase⟩, ⟨5, .phase⟩, ⟨6, .phase⟩, ⟨7, .phase⟩, ⟨8, .phase⟩, ⟨9, .phase⟩, ⟨10, .phase⟩, ⟨11, .phase⟩, ⟨12, .phase⟩, ⟨13, .phase⟩, ⟨14, .phase⟩, ⟨15, .phase⟩, ⟨16, .phase⟩, ⟨17, .phase⟩, ⟨18, .phase⟩, ⟨19, .phase⟩, ⟨20, .phase⟩, ⟨21, .phase⟩, { on := 22, ground := Go.Ground.textOnly Go.Departure.lateStores }, ⟨23, .phase⟩], none⟩) (fun K hK => ?_)
            refine st_store5 sizeRPiece rfl (.tmp 7) (.tmp 49) rfl _ _ (pc5 (pe : Int) (pc : Int) pf pg (.slice a9 m q9)) HZC.out rfl rfl (pc5_one _ _ _ _ _ _ _) rfl rfl ?_
            have HFIN := Lib.hid (nx_fin (pe := pe) (pc := pc) (pf := pf) (pg := pg) HZC.out rfl HCS.out HMM.out HCA.out HWZ.out HFZ.out)
            have KF := Lib.hid (HKEEP.out _ _ HFIN.out.2)
            refine hK.out _ _ (by first | with_reducible exact KF.out | with_reducible exact K9b.out | with_reducible exact K9.out | with_reducible exact K3.out | with_reducible exact K1.out | with_reducible exact K0.out) (fun hHeld => ?_)
            replace hH := Lib.hid hHeld
            clear hK K hHeld
            try simp only [Act.put]
            refine tk (i := 25) (oi := ⟨some 8, .assign (.tmp 50), 3, "ref.go:76", #[⟨22, .data⟩, ⟨24, .chain⟩, ⟨0, .phase⟩, ⟨1, .phase⟩, ⟨2, .phase⟩, ⟨3, .phase⟩, ⟨4, .phase⟩, ⟨5, .phase⟩, ⟨6, .phase⟩, ⟨7, .phase⟩, ⟨8, .phase⟩, ⟨9, .phase⟩, ⟨10, .phase⟩, ⟨11, .phase⟩, ⟨12, .phase⟩, ⟨13, .phase⟩, ⟨14, .phase⟩, ⟨15, .phase⟩, ⟨16, .phase⟩, ⟨17, .phase⟩, ⟨18, .phase⟩, ⟨19, .phase⟩, ⟨20, .phase⟩, ⟨21, .phase⟩, ⟨22, .phase⟩, ⟨23, .phase⟩, ⟨24, .phase⟩], none⟩) hH.out (by rintro w ⟨s0, s1, s2⟩; go_simp <;> with_reducible rfl) ?_
            simp only [Act.put, sA, sB, sC]
            refine wpAnyH_done (by kernel_rfl) ?_ _
            go_wp2_with fail
            go_meet
            exact ⟨rfl, HFIN.out.1⟩
          · go_simp
            have K3 := Lib.hid (HKEEP.out (U.alloc (.cells #[.int .u64 0, .int .u64 0, .bool false, .bool false, .slice none 0 0] 87)).drew Nul ((Adv.refl Nul U).alloc _).drew)
            refine hK.out _ _ (by first | with_reducible exact KF.out | with_reducible exact K9b.out | with_reducible exact K9.out | with_reducible exact K3.out | with_reducible exact K1.out | with_reducible exact K0.out) (fun hHeld => ?_)
            replace hH := Lib.hid hHeld
            clear hK K hHeld
            try simp only [Act.put, sA, sB, sC]
            refine rdy (i := 19) (oi := ⟨some 48, .call ⟨.value (.func 71), #[.tmp 47], #[53]⟩, 126, "ref.go:76", #[⟨18, .data⟩, ⟨18, .chain⟩], none⟩) (fun K hK => ?_)
            go_simp
            refine (HUN.out (U.alloc (.cells #[.int .u64 0, .int .u64 0, .bool false, .bool false, .slice none 0 0] 87)).drew _ HRX.out).mono ?_
            rintro e w9 ⟨a9, q9, F9, rfl, s9, t9⟩
            rw [← HP.out] at s9 ⊢
            rw [← HE.out]
            simp only at s9 ⊢
            rw [← HMM.out] at s9 ⊢
            have HCA' := Lib.hid ((((Adv.refl Nul U).alloc (.cells #[.int .u64 0, .int .u64 0, .bool false, .bool false, .slice none 0 0] 87)).drew).over' t9)
            have K9 := Lib.hid (HKEEP.out w9 F9 HCA'.out)
            have HCS := Lib.hid s9
            have HCA := HCA'
            have HZC := Lib.hid ((Blk.new U 87 #[.int .u64 0, .int .u64 0, .bool false, .bool false, .slice none 0 0]).drew.keep (t9.block _ (Blk.new U 87 #[.int .u64 0, .int .u64 0, .bool false, .bool false, .slice none 0 0]).drew.lt (fun h => h)))
            have HWZ := Lib.hid (show U.heap.size ≤ U.heap.size from Nat.le_refl _)
            have HFZ := Lib.hid (show ∀ k, F9 k → k ≠ U.heap.size from fun k hk e => by rcases t9.into k hk with h | h; exact h; simp at h; omega)
            clear s9 t9
            go_wp2_with fail
            refine hK.out _ _ (by first | with_reducible exact KF.out | with_reducible exact K9b.out | with_reducible exact K9.out | with_reducible exact K3.out | with_reducible exact K1.out | with_reducible exact K0.out) (fun hHeld => ?_)
            replace hH := Lib.hid hHeld
            clear hK K hHeld
            try simp only [Act.put, sA, sB, sC]
            refine tk (i := 20) (oi := ⟨some 28, .move (.tmp 48), 126, "ref.go:76", #[⟨19, .data⟩], none⟩) hH.out (by rintro w ⟨s0, s1, s2⟩; go_simp <;> with_reducible rfl) ?_
            simp only [Act.put, sA, sB, sC]
            refine tk (i := 21) (oi := ⟨some 49, .extract (.tmp 28) 0, 87, "ref.go:76", #[⟨20, .data⟩], none⟩) hH.out (by rintro w ⟨s0, s1, s2⟩; go_simp <;> with_reducible rfl) ?_
            simp only [Act.put, sA, sB, sC]
            refine tk (i := 22) (oi := ⟨some 50, .extract (.tmp 28) 1, 3, "ref.go:76", #[⟨20, .data⟩, { on := 24, ground := Go.Ground.gcOnly Go.Departure.lateStores }], none⟩) hH.out (by rintro w ⟨s0, s1, s2⟩; go_simp <;> with_reducible rfl) ?_
            simp only [Act.put, sA, sB, sC]
            refine rdy (i := 24) (oi := ⟨none, .store 87 (.tmp 7) (.tmp 49), 0, "ref.go:76", #[⟨23, .data⟩, ⟨21, .data⟩, ⟨19, .chain⟩, ⟨0, .phase⟩, ⟨1, .phase⟩, ⟨2, .phase⟩, ⟨3, .phase⟩, ⟨4, .phase⟩, ⟨5, .phase⟩, ⟨6, .phase⟩, ⟨7, .phase⟩, ⟨8, .phase⟩, ⟨9, .phase⟩, ⟨10, .phase⟩, ⟨11, .phase⟩, ⟨12, .phase⟩, ⟨13, .phase⟩, ⟨14, .phase⟩, ⟨15, .phase⟩, ⟨16, .phase⟩, ⟨17, .phase⟩, ⟨18, .phase⟩, ⟨19, .phase⟩, ⟨20, .phase⟩, ⟨21, .phase⟩, { on := 22, ground := Go.Ground.textOnly Go.Departure.lateStores }, ⟨23, .phase⟩], none⟩) (fun K hK => ?_)
            refine st_store5 sizeRPiece rfl (.tmp 7) (.tmp 49) rfl _ _ (pc5 (pe : Int) (pc : Int) pf pg (.slice a9 m q9)) HZC.out rfl rfl (pc5_one _ _ _ _ _ _ _) rfl rfl ?_
            have HFIN := Lib.hid (nx_fin (pe := pe) (pc := pc) (pf := pf) (pg := pg) HZC.out rfl HCS.out HMM.out HCA.out HWZ.out HFZ.out)
            have KF := Lib.hid (HKEEP.out _ _ HFIN.out.2)
            refine hK.out _ _ (by first | with_reducible exact KF.out | with_reducible exact K9b.out | with_reducible exact K9.out | with_reducible exact K3.out | with_reducible exact K1.out | with_reducible exact K0.out) (fun hHeld => ?_)
            replace hH := Lib.hid hHeld
            clear hK K hHeld
            try simp only [Act.put]
            refine tk (i := 25) (oi := ⟨some 8, .assign (.tmp 50), 3, "ref.go:76", #[⟨22, .data⟩, ⟨24, .chain⟩, ⟨0, .phase⟩, ⟨1, .phase⟩, ⟨2, .phase⟩, ⟨3, .phase⟩, ⟨4, .phase⟩, ⟨5, .phase⟩, ⟨6, .phase⟩, ⟨7, .phase⟩, ⟨8, .phase⟩, ⟨9, .phase⟩, ⟨10, .phase⟩, ⟨11, .phase⟩, ⟨12, .phase⟩, ⟨13, .phase⟩, ⟨14, .phase⟩, ⟨15, .phase⟩, ⟨16, .phase⟩, ⟨17, .phase⟩, ⟨18, .phase⟩, ⟨19, .phase⟩, ⟨20, .phase⟩, ⟨21, .phase⟩, ⟨22, .phase⟩, ⟨23, .phase⟩, ⟨24, .phase⟩], none⟩) hH.out (by rintro w ⟨s0, s1, s2⟩; go_simp <;> with_reducible rfl) ?_
            simp only [Act.put, sA, sB, sC]
            refine wpAnyH_done (by kernel_rfl) ?_ _
            go_wp2_with fail
            go_meet
            exact ⟨rfl, HFIN.out.1⟩
        · go_simp
          have K3 := Lib.hid (HKEEP.out (U.alloc (.cells #[.int .u64 0, .int .u64 0, .bool false, .bool false, .slice none 0 0] 87)).drew Nul ((Adv.refl Nul U).alloc _).drew)
          refine hK.out _ _ (by first | with_reducible exact KF.out | with_reducible exact K9b.out | with_reducible exact K9.out | with_reducible exact K3.out | with_reducible exact K1.out | with_reducible exact K0.out) (fun hHeld => ?_)
          replace hH := Lib.hid hHeld
          clear hK K hHeld
          try simp only [Act.put, sA, sB, sC]
          refine rdy (i := 18) (oi := ⟨some 47, .call ⟨.value (.func 25), #[.tmp 32, .tmp 46], #[28, 3]⟩, 53, "ref.go:76", #[⟨3, .data⟩, ⟨17, .data⟩], none⟩) (fun K hK => ?_)
          go_simp
          refine (HIS.out (U.alloc (.cells #[.int .u64 0, .int .u64 0, .bool false, .bool false, .slice none 0 0] 87)).drew ((Adv.refl Nul U).alloc _).drew).mono ?_
          rintro e w8 ⟨v8, rfl, s8, rfl⟩
          obtain ⟨A8, c8, rfl⟩ := s8.form
          have HRX := Lib.hid s8.rd
          clear s8
          go_wp2_with fail
          refine hK.out _ _ (by first | with_reducible exact KF.out | with_reducible exact K9b.out | with_reducible exact K9.out | with_reducible exact K3.out | with_reducible exact K1.out | with_reducible exact K0.out) (fun hHeld => ?_)
          replace hH := Lib.hid hHeld
          clear hK K hHeld
          try simp only [Act.put, sA, sB, sC]
          refine rdy (i := 19) (oi := ⟨some 48, .call ⟨.value (.func 71), #[.tmp 47], #[53]⟩, 126, "ref.go:76", #[⟨18, .data⟩, ⟨18, .chain⟩], none⟩) (fun K hK => ?_)
          go_simp
          refine (HUN.out (U.alloc (.cells #[.int .u64 0, .int .u64 0, .bool false, .bool false, .slice none 0 0] 87)).drew _ HRX.out).mono ?_
          rintro e w9 ⟨a9, q9, F9, rfl, s9, t9⟩
          rw [← HP.out] at s9 ⊢
          rw [← HE.out]
          simp only at s9 ⊢
          rw [← HMM.out] at s9 ⊢
          have HCA' := Lib.hid ((((Adv.refl Nul U).alloc (.cells #[.int .u64 0, .int .u64 0, .bool false, .bool false, .slice none 0 0] 87)).drew).over' t9)
          have K9 := Lib.hid (HKEEP.out w9 F9 HCA'.out)
          have HCS := Lib.hid s9
          have HCA := HCA'
          have HZC := Lib.hid ((Blk.new U 87 #[.int .u64 0, .int .u64 0, .bool false, .bool false, .slice none 0 0]).drew.keep (t9.block _ (Blk.new U 87 #[.int .u64 0, .int .u64 0, .bool false, .bool false, .slice none 0 0]).drew.lt (fun h => h)))
          have HWZ := Lib.hid (show U.heap.size ≤ U.heap.size from Nat.le_refl _)
          have HFZ := Lib.hid (show ∀ k, F9 k → k ≠ U.heap.size from fun k hk e => by rcases t9.into k hk with h | h; exact h; simp at h; omega)
          clear s9 t9
          go_wp2_with fail
          refine hK.out _ _ (by first | with_reducible exact KF.out | with_reducible exact K9b.out | with_reducible exact K9.out | with_reducible exact K3.out | with_reducible exact K1.out | with_reducible exact K0.out) (fun hHeld => ?_)
          replace hH := Lib.hid hHeld
          clear hK K hHeld
          try simp only [Act.put, sA, sB, sC]
          refine tk (i := 20) (oi := ⟨some 28, .move (.tmp 48), 126, "ref.go:76", #[⟨19, .data⟩], none⟩) hH.out (by rintro w ⟨s0, s1, s2⟩; go_simp <;> with_reducible rfl) ?_
          simp only [Act.put, sA, sB, sC]
          refine tk (i := 21) (oi := ⟨some 49, .extract (.tmp 28) 0, 87, "ref.go:76", #[⟨20, .data⟩], none⟩) hH.out (by rintro w ⟨s0, s1, s2⟩; go_simp <;> with_reducible rfl) ?_
          simp only [Act.put, sA, sB, sC]
          refine tk (i := 22) (oi := ⟨some 50, .extract (.tmp 28) 1, 3, "ref.go:76", #[⟨20, .data⟩, { on := 24, ground := Go.Ground.gcOnly Go.Departure.lateStores }], none⟩) hH.out (by rintro w ⟨s0, s1, s2⟩; go_simp <;> with_reducible rfl) ?_
          simp only [Act.put, sA, sB, sC]
          refine rdy (i := 24) (oi := ⟨none, .store 87 (.tmp 7) (.tmp 49), 0, "ref.go:76", #[⟨23, .data⟩, ⟨21, .data⟩, ⟨19, .chain⟩, ⟨0, .phase⟩, ⟨1, .phase⟩, ⟨2, .phase⟩, ⟨3, .phase⟩, ⟨4, .phase⟩, ⟨5, .phase⟩, ⟨6, .phase⟩, ⟨7, .phase⟩, ⟨8, .phase⟩, ⟨9, .phase⟩, ⟨10, .phase⟩, ⟨11, .phase⟩, ⟨12, .phase⟩, ⟨13, .phase⟩, ⟨14, .phase⟩, ⟨15, .phase⟩, ⟨16, .phase⟩, ⟨17, .phase⟩, ⟨18, .phase⟩, ⟨19, .phase⟩, ⟨20, .phase⟩, ⟨21, .phase⟩, { on := 22, ground := Go.Ground.textOnly Go.Departure.lateStores }, ⟨23, .phase⟩], none⟩) (fun K hK => ?_)
          refine st_store5 sizeRPiece rfl (.tmp 7) (.tmp 49) rfl _ _ (pc5 (pe : Int) (pc : Int) pf pg (.slice a9 m q9)) HZC.out rfl rfl (pc5_one _ _ _ _ _ _ _) rfl rfl ?_
          have HFIN := Lib.hid (nx_fin (pe := pe) (pc := pc) (pf := pf) (pg := pg) HZC.out rfl HCS.out HMM.out HCA.out HWZ.out HFZ.out)
          have KF := Lib.hid (HKEEP.out _ _ HFIN.out.2)
          refine hK.out _ _ (by first | with_reducible exact KF.out | with_reducible exact K9b.out | with_reducible exact K9.out | with_reducible exact K3.out | with_reducible exact K1.out | with_reducible exact K0.out) (fun hHeld => ?_)
          replace hH := Lib.hid hHeld
          clear hK K hHeld
          try simp only [Act.put]
          refine tk (i := 25) (oi := ⟨some 8, .assign (.tmp 50), 3, "ref.go:76", #[⟨22, .data⟩, ⟨24, .chain⟩, ⟨0, .phase⟩, ⟨1, .phase⟩, ⟨2, .phase⟩, ⟨3, .phase⟩, ⟨4, .phase⟩, ⟨5, .phase⟩, ⟨6, .phase⟩, ⟨7, .phase⟩, ⟨8, .phase⟩, ⟨9, .phase⟩, ⟨10, .phase⟩, ⟨11, .phase⟩, ⟨12, .phase⟩, ⟨13, .phase⟩, ⟨14, .phase⟩, ⟨15, .phase⟩, ⟨16, .phase⟩, ⟨17, .phase⟩, ⟨18, .phase⟩, ⟨19, .phase⟩, ⟨20, .phase⟩, ⟨21, .phase⟩, ⟨22, .phase⟩, ⟨23, .phase⟩, ⟨24, .phase⟩], none⟩) hH.out (by rintro w ⟨s0, s1, s2⟩; go_simp <;> with_reducible rfl) ?_
          simp only [Act.put, sA, sB, sC]
          refine wpAnyH_done (by kernel_rfl) ?_ _
          go_wp2_with fail
          go_meet
          exact ⟨rfl, HFIN.out.1⟩
      case rest =>
      obtain ⟨rfl, z, a9, q9, F9, rfl, hz, hB, hS, hA⟩ := hcut
      simp only at hB hS
      rw [← HMM.out] at hB hS
      obtain ⟨W9, hW9⟩ : ∃ W9, W9 = wc := ⟨_, rfl⟩
      rw [← hW9] at hB hS hA ⊢
      clear hW9
      have HPW9 := Lib.hid (HPWU.out.step hA)
      have HNF := Lib.hid (pw_new HPWU.out hS hA)
      have HA9 := Lib.hid (HAVU.out.trans (hA.sub (G := Nul) (fun _ x => x.elim)))
      have HNZ := Lib.hid (show ∀ j, (Value.slice A k q).ownBlock = some j → j ≠ z from fun j hj e => by
        have := HPWU.out.sl.bd j (HPWU.out.sl.inF j hj)
        omega)
      have HS9 := Lib.hid hS
      have HB9 := Lib.hid hB
      obtain ⟨z0, z1, z2, z3, z4⟩ := pcell5 hB
      obtain ⟨-, -, c5⟩ := HKEEP.out W9 F9 hA
      have HST := Lib.hid (show (goodP s n (c + k) → (dec (rdP s n (c + k))).f = (k == 0) → fl ≤ (dec (rdP s n (c + k))).e → (0 < k → (dec (rdP s n (c + k))).e = (dec (rdP s n c)).e) → False) → ∀ m, NxR w (NextOf s n c (t + n) fl) (.returned (.slice none 0 0)) (W9.drewN m) from fun hno m =>
        NxR.no (NextOf.stop HPRE.out (fun p hp _ hg h1 h2 h3 => by subst hp; exact hno hg h1 h2 h3)) (HA9.out.drewN m))
      clear hz hB hS hA
      go_upto_region 6 with (fail)
      by_cases hw : Whole L
      rotate_left
      · obtain rfl : E = 4 := by rw [HE.out, unseal_not hw]
        have HF := Lib.hid (HST.out (fun hg _ _ _ => hw (by have := hg.1; rwa [← HL.out] at this)))
        clear hw
        go_quiet (fail)
        go_wp2_with fail
        go_ret
        exact HF.out _
      obtain ⟨u1, u2⟩ := unseal_whole hw
      obtain rfl : E = 0 := by rw [HE.out, u2]
      have HPD := Lib.hid (show (⟨pe, pc, pf, pg, D⟩ : Pc) = dec (rdP s n (c + k)) by rw [HP.out, u1, HL.out])
      have HW := Lib.hid hw
      clear hw u1 u2
      rw [← HPD.out] at HST
      have HST := Lib.hid (show (goodP s n (c + k) → pf = (k == 0) → fl ≤ pe → (0 < k → pe = (dec (rdP s n c)).e) → False) → ∀ m, NxR w (NextOf s n c (t + n) fl) (.returned (.slice none 0 0)) (W9.drewN m) from HST.out)
      by_cases h1 : pc = c + k
      rotate_left
      · have HF := Lib.hid (HST.out (fun hg _ _ _ => h1 (by have := hg.2; rw [← HPD.out] at this; exact this)))
        have y1 : ((pc : Int) == (c : Int) + (k : Int)) = false := by rw [beq_eq_false_iff_ne]; omega
        have y2 : ((pc : Int) != (c : Int) + (k : Int)) = true := by rw [bne_iff_ne]; omega
        clear h1
        go_quiet (fail)
        go_wp2_with fail
        go_ret
        exact HF.out _
      have hgood : goodP s n (c + k) := ⟨by rw [← HL.out]; exact HW.out, by rw [← HPD.out]; exact h1⟩
      have HGOOD := Lib.hid hgood
      have y1 : ((pc : Int) == (c : Int) + (k : Int)) = true := by rw [beq_iff_eq]; omega
      have y2 : ((pc : Int) != (c : Int) + (k : Int)) = false := by rw [bne, y1]; rfl
      have H1 := Lib.hid h1
      clear hgood h1
      obtain ⟨kb, hkb⟩ : ∃ kb, kb = (k == 0) := ⟨_, rfl⟩
      have hkz : ((k : Int) == 0) = kb := by
        rw [hkb]
        by_cases h0 : k = 0
        · subst h0; rfl
        · rw [beq_eq_false_iff_ne.2 h0, beq_eq_false_iff_ne]; omega
      by_cases h2 : pf = kb
      rotate_left
      · have HF := Lib.hid (HST.out (fun _ h _ _ => h2 (h.trans hkb.symm)))
        have y3 : (pf == kb) = false := by rw [beq_eq_false_iff_ne]; exact h2
        have y3' : (pf != kb) = true := by rw [bne_iff_ne]; exact h2
        clear h2 hkb
        go_quiet (fail)
        go_wp2_with fail
        go_ret
        exact HF.out _
      subst h2
      have y3 : (pf != pf) = false := by simp
      have HKB := Lib.hid hkb
      clear hkb
      by_cases h3 : fl ≤ pe
      rotate_left
      · have HF := Lib.hid (HST.out (fun _ _ h _ => h3 h))
        have y4 : (pe : Int) < (fl : Int) := by omega
        clear h3
        go_quiet (fail)
        go_wp2_with fail
        go_ret
        exact HF.out _
      have y4 : (fl : Int) ≤ (pe : Int) := by omega
      have y4d : decide ((pe : Int) < (fl : Int)) = false := decide_eq_false (by omega)
      have y4n : decide (pe < fl) = false := decide_eq_false (by omega)
      have H3 := Lib.hid h3
      clear h3
      obtain ⟨ef, hef⟩ : ∃ e, e = (dec (rdP s n c)).e := ⟨_, rfl⟩
      rw [← hef] at HST
      have HEF := Lib.hid hef
      have HKZ := Lib.hid hkz
      have hmeet : ∀ (Q : Prop), (pe ≠ ef → 0 < k → Q) → ((k = 0 ∨ (0 < k ∧ pe = ef)) → Q) → Q := fun Q h1 h2 => by
        by_cases h0 : 0 < k
        · by_cases he : pe = ef
          · exact h2 (.inr ⟨h0, he⟩)
          · exact h1 he h0
        · exact h2 (.inl (by omega))
      clear hef
      refine hmeet _ (fun hne hk0 => ?_) (fun hok => ?_)
      · clear hmeet
        have HF := Lib.hid (HST.out (fun _ _ _ h => hne (h hk0)))
        obtain ⟨g0, q0, e0, hc0⟩ := HPW9.out.first hk0
        injection e0 with e0 _ e02
        subst e0 e02
        have hc0' : W9.cell? ⟨g0, 0, none⟩ = some (.int .u64 (ef : Int)) := by rw [hc0, HEF.out]; rfl
        have hki : (0 : Int) < (k : Int) := by omega
        obtain rfl : pf = false := by rw [← hkz, beq_eq_false_iff_ne]; omega
        have y5 : ((pe : Int) == (ef : Int)) = false := by rw [beq_eq_false_iff_ne]; omega
        have y6 : ((pe : Int) != (ef : Int)) = true := by rw [bne_iff_ne]; omega
        clear hne hc0
        go_quiet (fail)
        go_wp2_with fail
        go_ret
        exact HF.out _
      clear hmeet
      have HEK := Lib.hid (show (0 < k → pe = ef) from fun h => hok.elim (fun e => by omega) (fun e => e.2))
      have HFL1 := Lib.hid (show fl ≤ ef from by
        rcases hok with e | e
        · have : pe = ef := by
            rw [HEF.out]
            have := congrArg Pc.e HPD.out
            rw [e] at this
            exact this
          rw [← this]; exact H3.out
        · rw [HEF.out]; exact HFL.out e.1)
      rcases hok with hk0 | ⟨hk0, hpe⟩
      · have hkd : decide ((0 : Int) < (k : Int)) = false := decide_eq_false (by omega)
        have hkle : (k : Int) ≤ 0 := by omega
        have hkdn : decide (0 < k) = false := decide_eq_false (by omega)
        obtain rfl : pf = true := by rw [← hkz, beq_iff_eq]; omega
        clear hk0
        go_quiet (fail)
        obtain ⟨W2, hW2⟩ : ∃ W2, W2 = W9.drewN nq := ⟨_, rfl⟩
        rw [← hW2]
        have ha2 : Adv Nul W9 Nul W2 := by rw [hW2]; exact (Adv.refl _ _).drewN _
        have hB2 := HB9.out.keep (ha2.block z HB9.out.lt (fun e => e))
        obtain ⟨z0, z1, z2, z3, z4⟩ := pcell5 hB2
        have HB2 := Lib.hid hB2
        have HPW2 := Lib.hid (HPW9.out.step ha2)
        have HU2 := Lib.hid ((HPW9.out.step ha2).step ((Adv.refl Nul W2).alloc (.cells #[.int .u64 (pe : Int), .int .u64 (pc : Int), .bool true, .bool pg, .slice a9 m q9] 87)))
        have HR2 := Lib.hid (RdD.up (RdD.adv (RdD.of_sl HS9.out) ha2) (.cells #[.int .u64 (pe : Int), .int .u64 (pc : Int), .bool true, .bool pg, .slice a9 m q9] 87))
        have hkn := HPRE.out.lt HN0.out HGOOD.out
        have HK1 := Lib.hid (show k + 1 ≤ maxLen by have := HN.out; unfold maxLen; omega)
        have HK2 := Lib.hid (show (k + 1) * 48 ≤ 140737488355328 by have := HN.out; omega)
        have HKN := Lib.hid hkn
        clear hW2 ha2 hB2 hkn
        go_upto_region 9 with (first
          | (at_builtin; refine lop_append_own rfl (.tmp 90) (.tmp 92) 79 87 rfl Tryz.underlying79 infoRPiece rfl (by decide) rfl HU2.out.sl.own ⟨W2.heap.size, 0, none⟩ 1 1 rfl [.int .u64 (pe : Int), .int .u64 (pc : Int), .bool true, .bool pg, .slice a9 m q9] rfl pnew_at rone HK1.out HK2.out ?_; intro v' w2 hown hg2 hat; obtain ⟨a8, k8, rfl⟩ := (slice_of hown); have HOWN := Lib.hid hown; have HG2 := Lib.hid hg2; have HAT := Lib.hid hat; have z3' : w2.cell? ⟨z, 3, none⟩ = some (.bool pg) := ((HB2.out.alloc _).keep (hg2.block z (by have := HB2.out.lt; simp; omega) (fun e => HNZ.out _ e.symm rfl))).cell 3; clear hown hg2 hat z0 z1 z2 z3 z4)
          | fail)
        obtain ⟨F8, qs8, hpu⟩ := pw_push (p := ⟨pe, pc, true, pg, D⟩) HU2.out HPD.out.symm (by simp only; rw [← HMM.out]; exact HR2.out) (by simp only; rw [← HMM.out]; exact HNF.out) (by simp only; rw [← HMM.out]; exact HOWN.out) HG2.out HAT.out
        have HPU := Lib.hid hpu
        have HGI := Lib.hid (show (dec (rdP s n (c + k))).g = pg by rw [← HPD.out])
        have hwx : IntKind.u64.wrap ((k : Int) + 1) = (k : Int) + 1 := by
          have := wrapU (x := k + 1) (by have := HKN.out; have := HN.out; omega)
          rw [Int.natCast_add] at this
          exact this
        clear hpu
        cases pg with
        | true =>
          have HF := Lib.hid (show NxR w (NextOf s n c (t + n) fl) (.returned (.slice a8 (k + 1) k8)) w2 from by
            have e2 : (preP s n c (k + 1)).length = k + 1 := by simp [preP]
            refine ⟨preP s n c (k + 1), a8, k8, by rw [e2], by rw [e2]; exact HPU.out.prd (by omega), NextOf.all HPRE.out HGOOD.out HGI.out (by rw [← HEF.out]; exact HFL1.out), fun j hj => ?_, HPU.out.adv.sub (fun _ x => x.elim)⟩
            rw [e2] at hj
            rcases HPU.out.adv.into j (HPU.out.sl.inF j hj) with h | h
            · exact h.elim
            · exact h)
          go_wp2_with fail
          go_ret
          exact HF.out
        | false =>
          go_wp2_with fail
          refine ⟨⟨k + 1, a8, k8, F8, qs8, by go_num, rfl, HPRE.out.more HN0.out HGOOD.out HGI.out, fun _ => by rw [← HEF.out]; exact HFL1.out, HPU.out⟩, ?_⟩
          have h2 := HKN.out
          simp [intOf]
          omega
      · obtain ⟨g0, q0, e0, hc0⟩ := HPW9.out.first hk0
        injection e0 with e0 _ e02
        subst e0 e02 hpe
        have hc0' : W9.cell? ⟨g0, 0, none⟩ = some (.int .u64 (pe : Int)) := by rw [hc0, HEF.out]; rfl
        have hki : (0 : Int) < (k : Int) := by omega
        obtain rfl : pf = false := by rw [← hkz, beq_eq_false_iff_ne]; omega
        have y5 : ((pe : Int) == (pe : Int)) = true := by simp
        have y6 : ((pe : Int) != (pe : Int)) = false := by simp
        clear hc0
        go_quiet (fail)
        obtain ⟨W2, hW2⟩ : ∃ W2, W2 = W9.drewN nq := ⟨_, rfl⟩
        rw [← hW2]
        have ha2 : Adv Nul W9 Nul W2 := by rw [hW2]; exact (Adv.refl _ _).drewN _
        have hB2 := HB9.out.keep (ha2.block z HB9.out.lt (fun e => e))
        obtain ⟨z0, z1, z2, z3, z4⟩ := pcell5 hB2
        have HB2 := Lib.hid hB2
        have HPW2 := Lib.hid (HPW9.out.step ha2)
        have HU2 := Lib.hid ((HPW9.out.step ha2).step ((Adv.refl Nul W2).alloc (.cells #[.int .u64 (pe : Int), .int .u64 (pc : Int), .bool false, .bool pg, .slice a9 m q9] 87)))
        have HR2 := Lib.hid (RdD.up (RdD.adv (RdD.of_sl HS9.out) ha2) (.cells #[.int .u64 (pe : Int), .int .u64 (pc : Int), .bool false, .bool pg, .slice a9 m q9] 87))
        have hkn := HPRE.out.lt HN0.out HGOOD.out
        have HK1 := Lib.hid (show k + 1 ≤ maxLen by have := HN.out; unfold maxLen; omega)
        have HK2 := Lib.hid (show (k + 1) * 48 ≤ 140737488355328 by have := HN.out; omega)
        have HKN := Lib.hid hkn
        clear hW2 ha2 hB2 hkn
        go_upto_region 9 with (first
          | (at_builtin; refine lop_append_own rfl (.tmp 90) (.tmp 92) 79 87 rfl Tryz.underlying79 infoRPiece rfl (by decide) rfl HU2.out.sl.own ⟨W2.heap.size, 0, none⟩ 1 1 rfl [.int .u64 (pe : Int), .int .u64 (pc : Int), .bool false, .bool pg, .slice a9 m q9] rfl pnew_at rone HK1.out HK2.out ?_; intro v' w2 hown hg2 hat; obtain ⟨a8, k8, rfl⟩ := (slice_of hown); have HOWN := Lib.hid hown; have HG2 := Lib.hid hg2; have HAT := Lib.hid hat; have z3' : w2.cell? ⟨z, 3, none⟩ = some (.bool pg) := ((HB2.out.alloc _).keep (hg2.block z (by have := HB2.out.lt; simp; omega) (fun e => HNZ.out _ e.symm rfl))).cell 3; clear hown hg2 hat z0 z1 z2 z3 z4)
          | fail)
        obtain ⟨F8, qs8, hpu⟩ := pw_push (p := ⟨pe, pc, false, pg, D⟩) HU2.out HPD.out.symm (by simp only; rw [← HMM.out]; exact HR2.out) (by simp only; rw [← HMM.out]; exact HNF.out) (by simp only; rw [← HMM.out]; exact HOWN.out) HG2.out HAT.out
        have HPU := Lib.hid hpu
        have HGI := Lib.hid (show (dec (rdP s n (c + k))).g = pg by rw [← HPD.out])
        have hwx : IntKind.u64.wrap ((k : Int) + 1) = (k : Int) + 1 := by
          have := wrapU (x := k + 1) (by have := HKN.out; have := HN.out; omega)
          rw [Int.natCast_add] at this
          exact this
        clear hpu
        cases pg with
        | true =>
          have HF := Lib.hid (show NxR w (NextOf s n c (t + n) fl) (.returned (.slice a8 (k + 1) k8)) w2 from by
            have e2 : (preP s n c (k + 1)).length = k + 1 := by simp [preP]
            refine ⟨preP s n c (k + 1), a8, k8, by rw [e2], by rw [e2]; exact HPU.out.prd (by omega), NextOf.all HPRE.out HGOOD.out HGI.out (by rw [← HEF.out]; exact HFL1.out), fun j hj => ?_, HPU.out.adv.sub (fun _ x => x.elim)⟩
            rw [e2] at hj
            rcases HPU.out.adv.into j (HPU.out.sl.inF j hj) with h | h
            · exact h.elim
            · exact h)
          go_wp2_with fail
          go_ret
          exact HF.out
        | false =>
          go_wp2_with fail
          refine ⟨⟨k + 1, a8, k8, F8, qs8, by go_num, rfl, HPRE.out.more HN0.out HGOOD.out HGI.out, fun _ => by rw [← HEF.out]; exact HFL1.out, HPU.out⟩, ?_⟩
          have h2 := HKN.out
          simp [intOf]
          omega
    · have hbi : (t : Int) + (n : Int) ≤ (c : Int) + (k : Int) := by omega
      have HF := Lib.hid (show ∀ m, NxR w (NextOf s n c (t + n) fl) (.returned (.slice none 0 0)) (wr.drewN m) from fun m =>
        NxR.no (NextOf.stop hpre (fun _ _ hlt _ _ _ _ => hb hlt)) (hav.drewN m))
      clear hpre hfl hpw hav hs hle hb
      go_wp2_with fail
      go_quiet (fail)
      go_wp2_with fail
      go_ret
      exact HF.out _
end Go.Proofs.YtbdjlmdbnoghnaaGreat
