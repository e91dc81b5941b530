/- encode: a transaction's record. cut, Need. -/
import Derived.Test.YtolcnbiaiolcoaaGreatMgRa
import Derived.Test.YtolcnbiaiolcoaaGreatMgB
import Derived.Test.YtolcnbiaiolcoaaGreatMgKc
namespace Go.Proofs.YtolcnbiaiolcoaaGreat
open Go.RowKit

/-- the writer at b has the bits of these numbers -/
structure WQ (W : World) (F : Nat → Prop) (b : Nat) (l : List (Nat × Nat)) (w : World) : Prop where
  st : WSt w F b (wN l) (wL l)
  bd : Bd F w
  adv : Adv Nul W F w
theorem WQ.over {W w w' : World} {F G : Nat → Prop} {b : Nat} {l : List (Nat × Nat)} (h : WQ W F b l w) (ha : Adv Nul w G w') : WQ W F b l w' := by
  obtain ⟨⟨⟨r, h1, h2⟩, h3, h4⟩, h5, h6⟩ := h
  refine ⟨⟨⟨r, h1.keep (ha.block b h1.lt (fun x => x)), h2.far ha (fun _ x => x.elim)⟩, h3, h4⟩, ha.bd h5, ?_⟩
  exact ⟨ha.os.trans h6.os, ha.tape.trans h6.tape, ha.output.trans h6.output, Nat.le_trans h6.size ha.size, fun k hk hn => (ha.block k (Nat.lt_of_lt_of_le hk h6.size) (fun x => x)).trans (h6.block k hk hn), h6.into⟩
theorem WQ.new (w : World) : Calls Tryz.prog 107 #[] w fun e w' => ∃ b F, e = .returned (.pointer (some ⟨b, 0, none⟩)) ∧ WQ w F b [] w' :=
  (new_any w).mono (by rintro e w' ⟨b, F, rfl, h1, h2, h3⟩; exact ⟨b, F, rfl, h1, h3, h2⟩)
theorem WQ.put {W w : World} {F : Nat → Prop} {b : Nat} {l : List (Nat × Nat)} (h : WQ W F b l w) (x n : Nat) (hn : n ≤ 64) (hx : x < 2 ^ n) (hm : wL l + n ≤ 1000000000) :
    Calls Tryz.prog 108 #[.pointer (some ⟨b, 0, none⟩), .int .u64 (x : Int), .int .i64 (n : Int)] w fun e w' => ∃ F', e = .returned (.pointer (some ⟨b, 0, none⟩)) ∧ WQ W F' b (l ++ [(x, n)]) w' ∧ Adv F w F' w' :=
  (put_ok b (wN l) (wL l) x n F w h.st h.bd hn hx hm).mono (by
    rintro e w' ⟨rfl, F', h1, h2, h3⟩
    exact ⟨F', rfl, ⟨by rw [wN_snoc, wL_snoc]; exact h1, h3, h.adv.trans h2⟩, h2⟩)
/-- the record of puts up to k -/
def preW (ps : List Pt) (k : Nat) : List (Nat × Nat) := (ps.length, 8) :: (ps.take k).flatMap pW
/-- .. and of the next one a home and j bytes -/
def preX (ps : List Pt) (k x : Nat) (d : List Nat) (j : Nat) : List (Nat × Nat) := preW ps k ++ ((x, 12) :: (d.take j).map bW)
theorem preX_next {ps : List Pt} {k x j : Nat} {d : List Nat} (h : j < d.length) : preX ps k x d j ++ [(d.getD j 0, 8)] = preX ps k x d (j + 1) := by
  unfold preX
  rw [List.take_succ_eq_append_getElem h, List.map_append, List.append_assoc, List.cons_append]
  simp [bW, List.getD_eq_getElem?_getD, List.getElem?_eq_getElem h]
theorem preW_next {ps : List Pt} {k : Nat} (h : k < ps.length) : preX ps k ps[k].a.toNat ps[k].d ps[k].d.length = preW ps (k + 1) := by
  unfold preX preW
  rw [List.take_length, List.take_succ_eq_append_getElem h, List.flatMap_append, List.cons_append]
  simp [pW]
theorem wL_preW {ps : List Pt} {k : Nat} (hp : ∀ p ∈ ps, p.d.length = 128) (hk : k ≤ ps.length) : wL (preW ps k) = 8 + 1036 * k := by
  unfold preW
  rw [wL_cons, wL_puts _ (fun p h => hp p (List.mem_of_mem_take h)), List.length_take, Nat.min_eq_left hk]
theorem wL_preX {ps : List Pt} {k x j : Nat} {d : List Nat} (hp : ∀ p ∈ ps, p.d.length = 128) (hk : k ≤ ps.length) (hj : j ≤ d.length) : wL (preX ps k x d j) = 8 + 1036 * k + (12 + 8 * j) := by
  unfold preX
  rw [wL_append, wL_preW hp hk, wL_cons, wL_bytes, List.length_take, Nat.min_eq_left hj]

/-- the loops -/
def EnL (W : World) (b : Nat) (N : Nat) (ps : List Pt) (t : Value) (wr : World) : Prop := ∃ (k : Nat) (F : Nat → Prop), k ≤ N ∧ t = .int .i64 (k : Int) ∧ WQ W F b (preW ps k) wr
def EnM (W : World) (b : Nat) (ps : List Pt) (k x : Nat) (d : List Nat) (t : Value) (wr : World) : Prop := ∃ (j : Nat) (F : Nat → Prop), j ≤ 128 ∧ t = .int .i64 (j : Int) ∧ WQ W F b (preX ps k x d j) wr
def EnR (w : World) (ps : List Pt) (e : Ending) (w' : World) : Prop := ∃ v F, e = .returned (.tuple #[v, .int .i64 0]) ∧ Sl w' F 5 1 v (recB ps).length ((recB ps).map u8) ∧ Adv Nul w F w'
theorem wrapU {x : Nat} (h : x < 18446744073709551616) : IntKind.u64.wrap (x : Int) = (x : Int) := by rw [IntKind.wrap_u64]; omega

set_option maxRecDepth 3000 in
set_option maxHeartbeats 6400000 in
theorem encode_any (A0 : Option Addr) (N k0 : Nat) (ps : List Pt) (G : Nat → Prop) (w : World) (h : QRd w G (.slice A0 N k0) ps) (ht : isTx ps 4096) (h8 : ∀ p ∈ ps, ∀ x ∈ p.d, x < 256) :
    Calls Tryz.prog 82 #[.slice A0 N k0] w (EnR w ps) := by
  have hN := h.len.1
  have hN24 : N ≤ 24 := by have := ht.1.2; omega
  have hd : ∀ p ∈ ps, p.d.length = 128 := fun p hp => (ht.row p hp).2
  have hNI : (N : Int) ≤ 24 := by omega
  have hwN : IntKind.u64.wrap (N : Int) = (N : Int) := wrapU (by omega)
  have HP := Lib.hid h
  have HN := Lib.hid hN
  have HT := Lib.hid ht
  have H8 := Lib.hid h8
  have HD := Lib.hid hd
  have HN24 := Lib.hid hN24
  clear h hN ht h8 hd hN24
  go_enter Tryz.func82, Tryz.ntmps82
  go_wp2_with fail
  refine (WQ.new w).mono ?_
  rintro e w1 ⟨b, F1, rfl, q1⟩
  have HQ1 := Lib.hid q1
  have HPUT := Lib.hid (q1.put N 8 (by decide) (by have := HN24.out; omega) (by decide))
  clear q1
  go_wp2_with fail
  refine HPUT.out.mono ?_
  rintro e w2 ⟨F2, rfl, q2, -⟩
  have HQ2 := Lib.hid q2
  clear q2
  go_wp2_with fail
  go_loopw [16] (EnL w b N ps) (fun t _ => N - (intOf t).toNat)
  case atStart => exact ⟨0, F2, Nat.zero_le _, rfl, by have := HQ2.out; unfold preW; rw [← HN.out]; exact this⟩
  case round =>
    obtain ⟨k, F, hk, rfl, hq⟩ := hrel
    have HQ := Lib.hid hq
    by_cases hlt : k < N
    · have hki : (k : Int) < (N : Int) := by omega
      have hkp : k < ps.length := by rw [← HN.out]; exact hlt
      obtain ⟨b1, o, a, q, rfl, hb1, ⟨c0, c1⟩, hr, -⟩ := HP.out.row hkp
      have hbk := hq.adv.block b1 hb1.1 (fun x => x)
      rw [← World.cell?_of_block hbk] at c0 c1
      have hdl := HD.out _ (List.getElem_mem hkp)
      have hrow := (HT.out.row _ (List.getElem_mem hkp)).1
      have hb8 := H8.out _ (List.getElem_mem hkp)
      have hnx := preW_next hkp
      obtain ⟨p, hp⟩ : ∃ p, p = ps[k] := ⟨_, rfl⟩
      rw [← hp] at c0 c1 hr hdl hrow hb8 hnx
      clear hp
      obtain ⟨pa, pd⟩ := p
      simp only at c0 c1 hr hdl hrow hb8 hnx
      obtain ⟨x, rfl⟩ := Int.eq_ofNat_of_zero_le hrow.1
      have hx : x < 2 ^ 12 := by have := hrow.2; omega
      rw [hdl] at c1 hr hnx
      obtain ⟨V, hV⟩ : ∃ V, V = wr.alloc (.cells #[.int .i64 (x : Int), .slice a 128 q] 94) := ⟨_, rfl⟩
      obtain ⟨z, hz⟩ : ∃ z, z = wr.heap.size := ⟨_, rfl⟩
      have hav : Adv Nul wr Nul V := by rw [hV]; exact (Adv.refl _ _).alloc _
      have HZB := Lib.hid (show Blk V z 94 #[.int .i64 (x : Int), .slice a 128 q] by rw [hV, hz]; exact Blk.new _ _ _)
      have HQV := Lib.hid (hq.over hav)
      have HRW := Lib.hid hr
      have hwx : IntKind.u64.wrap (x : Int) = (x : Int) := wrapU (by omega)
      have HV := Lib.hid hV
      have HZ := Lib.hid hz
      have HLT := Lib.hid hlt
      have HX := Lib.hid hx
      have HB8 := Lib.hid hb8
      have HNX := Lib.hid hnx
      have HDL := Lib.hid hdl
      have HKP := Lib.hid (Nat.le_of_lt hkp)
      have hput := (hq.over hav).put x 12 (by decide) hx (by rw [wL_preW HD.out (Nat.le_of_lt hkp)]; have := HN24.out; omega)
      have HPX := Lib.hid hput
      have HZF := Lib.hid (show ¬ F z from fun h => by have := hq.bd z h; omega)
      clear hq hlt hr hrow hb8 hnx hdl hx hav hV hz hput hkp hb1 hbk
      go_upto_region 5 with (fail)
      rw [← HV.out, ← HZ.out]
      clear c0 c1
      obtain ⟨z0, z1⟩ := put2 HZB.out
      go_wp2_with fail
      refine HPX.out.mono ?_
      rintro e w3 ⟨F3, rfl, q3, a3⟩
      have HQ3 := Lib.hid (show WQ w F3 b (preX ps k x pd 0) w3 from q3)
      have hz3 := put2 (HZB.out.keep (a3.block z HZB.out.lt HZF.out))
      obtain ⟨y0, y1⟩ := hz3
      clear q3 a3 z0 z1
      go_wp2_with fail
      go_loopw [28] (EnM w b ps k x pd) (fun t _ => 128 - (intOf t).toNat)
      case atStart => exact ⟨0, F3, Nat.zero_le _, rfl, HQ3.out⟩
      case round =>
        obtain ⟨j, F4, hj, rfl, hq4⟩ := hrel
        by_cases hlt : j < 128
        · have hji : (j : Int) < 128 := by omega
          obtain ⟨b2, o2, rfl, hb2, -⟩ := HRW.out.cells (by decide) (by decide)
          have hc := (HRW.out.far (fun k _ _ h => hq4.adv.block k h (fun h => h)) hq4.adv.size).at8 hlt
          obtain ⟨y, hy⟩ : ∃ y, y = pd.getD j 0 := ⟨_, rfl⟩
          rw [← hy] at hc
          have hy8 : y < 256 := by
            rw [hy, List.getD_eq_getElem?_getD, List.getElem?_eq_getElem (by have := HDL.out; omega)]
            exact HB8.out _ (List.getElem_mem _)
          have hwy : IntKind.u64.wrap (y : Int) = (y : Int) := wrapU (by omega)
          have hput := hq4.put y 8 (by decide) hy8 (by rw [wL_preX HD.out HKP.out (by have := HDL.out; omega)]; have := HN24.out; omega)
          have HPY := Lib.hid hput
          have hnx : preX ps k x pd j ++ [(y, 8)] = preX ps k x pd (j + 1) := by rw [hy]; exact preX_next (by have := HDL.out; omega)
          have HNX2 := Lib.hid hnx
          have HLT2 := Lib.hid hlt
          clear hq4 hlt hj hb2 hy hy8 hput hnx
          go_wp2_with fail
          refine HPY.out.mono ?_
          rintro e w5 ⟨F5, rfl, q5, -⟩
          rw [HNX2.out] at q5
          have HQ5 := Lib.hid q5
          clear q5
          go_wp2_with fail
          have hlt := HLT2.out
          exact ⟨⟨j + 1, F5, by omega, by go_num, HQ5.out⟩, by simp [intOf]; omega⟩
        · obtain rfl : j = 128 := by omega
          have HQ6 := Lib.hid hq4
          clear hq4 hlt hj
          go_wp2_with fail
          have hlt := HLT.out
          refine ⟨⟨k + 1, F4, by omega, by go_num, ?_⟩, by simp [intOf]; omega⟩
          rw [← HNX.out]
          exact HQ6.out
    · obtain rfl : k = N := by omega
      have hw := done_ok b _ _ F wr hq.st (by rw [wL_preW HD.out (by have := HN.out; omega)]; have := HN24.out; omega)
      have e1 : preW ps k = recW ps := by unfold preW recW; rw [HN.out, List.take_length]
      rw [e1] at hw
      have HDN := Lib.hid hw
      have HWL := Lib.hid (show (recB ps).length = qn (wL (recW ps)) by rw [recB, rowOf, be_length])
      clear hq hlt hk hw e1
      go_wp2_with fail
      refine HDN.out.mono ?_
      rintro e w7 ⟨v, F7, rfl, hs, a7⟩
      have HF := Lib.hid (show EnR w ps (.returned (.tuple #[v, .int .i64 0])) w7 from ⟨v, F7, rfl, by rw [HWL.out]; exact hs, (HQ.out.adv.sub (G := Nul) (fun _ x => x.elim)).trans a7⟩)
      clear hs a7
      go_wp2_with fail
      exact bodyPost_ret (v := .tuple #[v, .int .i64 0]) (by simp [results, Tryz.results82, go_sem]) rfl HF.out
end Go.Proofs.YtolcnbiaiolcoaaGreat
namespace Go.Proofs.YtolcnbiaiolcoaaGreat
open Go.RowKit

set_option maxRecDepth 3000 in
set_option maxHeartbeats 1600000 in
theorem gcut_any (e c : Nat) (A0 : Option Addr) (N k0 : Nat) (ps : List Pt) (G : Nat → Prop) (w : World) (h : QRd w G (.slice A0 N k0) ps) (ht : isTx ps 4096) (h8 : ∀ p ∈ ps, ∀ x ∈ p.d, x < 256) :
    Calls Tryz.prog 49 #[.int .u64 (e : Int), .int .u64 (c : Int), .slice A0 N k0] w (CutN w e c (recB ps)) := by
  have HE := Lib.hid (encode_any A0 N k0 ps G w h ht h8)
  have HL := Lib.hid (recB_small ht)
  clear h ht h8
  go_enter Tryz.func49, Tryz.ntmps49
  go_wp2_with fail
  refine HE.out.mono ?_
  rintro x w1 ⟨v, F, rfl, hs, a1⟩
  have HC := Lib.hid (pcutn_any e c v (recB ps) w1 hs.rd (by have := HL.out; omega))
  have HA := Lib.hid (a1.sub (G := Nul) (fun _ x => x.elim))
  have HBD := Lib.hid (show ∀ G, Bd G w → Bd G w1 from fun G hG => a1.bd hG)
  clear hs a1
  go_wp2_with fail
  refine HC.out.mono ?_
  rintro x w2 ⟨A, n, k, rfl, hp, a2⟩
  obtain ⟨E, hE⟩ : ∃ E, E = cutE e c (recB ps).length := ⟨_, rfl⟩
  have HF := Lib.hid (show CutN w e c (recB ps) (.returned (.tuple #[.slice A n k, .int .i64 E])) w2 from ⟨A, n, k, by rw [hE], fun G hG => hp G (HBD.out G hG), HA.out.trans a2⟩)
  rw [← hE]
  clear hp a2 hE
  go_wp2_with fail
  exact bodyPost_ret (v := .tuple #[.slice A n k, .int .i64 E]) (by simp [results, Tryz.results49, go_sem]) rfl HF.out
theorem PRd.len {w : World} {A : Option Addr} {n k : Nat} {ps : List Pc} (h : PRd w (.slice A n k) ps) : n = ps.length ∧ n ≤ k ∧ k ≤ maxLen := by
  obtain ⟨A', k', e, h1, h2, h3⟩ := h
  injection e with e1 e2 e3
  omega
theorem cutV_zero {ps : List Pt} {h : Int} (ht : isTx ps h) : cutV 0 0 (recB ps) = cutP 0 0 (recB ps) := by
  have hl := recB_small ht
  have hn : needN (recB ps).length ≤ 30 := needN_le (by decide) (by omega)
  unfold cutV cutE
  rw [if_pos (by omega)]
end Go.Proofs.YtolcnbiaiolcoaaGreat
