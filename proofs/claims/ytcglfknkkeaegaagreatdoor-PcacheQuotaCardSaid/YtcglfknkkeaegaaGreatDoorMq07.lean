/- encode: a transaction's record. cut, Need. The head at its place: words. A head's sector: the program's; its place. The disk, as numbers. The disk's memory, and its small calls. The disk: lay. -/
import Derived.Test.YtcglfknkkeaegaaGreatDoorMq06
import Derived.Test.YtcglfknkkeaegaaGreatDoorMq00
import Derived.Test.YtcglfknkkeaegaaGreatDoorMq05
import Derived.Test.YtcglfknkkeaegaaGreatDoorMq01
import Derived.Deep.MidRow
import Derived.Deep.RegionHeld3
namespace Go.Proofs.YtcglfknkkeaegaaGreatDoor
open Go.RowKit

/-- the writer at b has the bits of these numbers -/
structure WQ (W : World) (F : Nat → Prop) (b : Nat) (l : List (Nat × Nat)) (w : World) : Prop where
  st : WSt w F b (wN l) (wL l)
  bd : Bd F w
  adv : Adv Nul W F w
theorem WQ.over {W w w' : World} {F G : Nat → Prop} {b : Nat} {l : List (Nat × Nat)} (h : WQ W F b l w) (ha : Adv Nul w G w') : WQ W F b l w' := by
  obtain ⟨⟨⟨r, h1, h2⟩, h3, h4⟩, h5, h6⟩ := h
  refine ⟨⟨⟨r, h1.keep (ha.block b h1.lt (fun x => x)), h2.far ha (fun _ x => x.elim)⟩, h3, h4⟩, ha.bd h5, ?_⟩
  exact ⟨ha.os.trans h6.os, ha.tape.trans h6.tape, ha.output.trans h6.output, Nat.le_trans h6.size ha.size, fun k hk hn => (ha.block k (Nat.lt_of_lt_of_le hk h6.size) (fun x => x)).trans (h6.block k hk hn), h6.into⟩
theorem WQ.new (w : World) : Calls Tryz.prog 90 #[] w fun e w' => ∃ b F, e = .returned (.pointer (some ⟨b, 0, none⟩)) ∧ WQ w F b [] w' :=
  (new_any w).mono (by rintro e w' ⟨b, F, rfl, h1, h2, h3⟩; exact ⟨b, F, rfl, h1, h3, h2⟩)
theorem WQ.put {W w : World} {F : Nat → Prop} {b : Nat} {l : List (Nat × Nat)} (h : WQ W F b l w) (x n : Nat) (hn : n ≤ 64) (hx : x < 2 ^ n) (hm : wL l + n ≤ 1000000000) :
    Calls Tryz.prog 91 #[.pointer (some ⟨b, 0, none⟩), .int .u64 (x : Int), .int .i64 (n : Int)] w fun e w' => ∃ F', e = .returned (.pointer (some ⟨b, 0, none⟩)) ∧ WQ W F' b (l ++ [(x, n)]) w' ∧ Adv F w F' w' :=
  (put_ok b (wN l) (wL l) x n F w h.st h.bd hn hx hm).mono (by
    rintro e w' ⟨rfl, F', h1, h2, h3⟩
    exact ⟨F', rfl, ⟨by rw [wN_snoc, wL_snoc]; exact h1, h3, h.adv.trans h2⟩, h2⟩)
/-- the record of puts up to k -/
def preW (ps : List Pt) (k : Nat) : List (Nat × Nat) := (ps.length, 8) :: (ps.take k).flatMap pW
/-- .. and of the next one a home and j bytes -/
def preX (ps : List Pt) (k x : Nat) (d : List Nat) (j : Nat) : List (Nat × Nat) := preW ps k ++ ((x, 12) :: (d.take j).map bW)
theorem preX_next {ps : List Pt} {k x j : Nat} {d : List Nat} (h : j < d.length) : preX ps k x d j ++ [(d.getD j 0, 8)] = preX ps k x d (j + 1) := by
  unfold preX
  rw [List.take_succ_eq_append_getElem h, List.map_append, List.append_assoc, List.cons_append]
  simp [bW, List.getD_eq_getElem?_getD, List.getElem?_eq_getElem h]
theorem preW_next {ps : List Pt} {k : Nat} (h : k < ps.length) : preX ps k ps[k].a.toNat ps[k].d ps[k].d.length = preW ps (k + 1) := by
  unfold preX preW
  rw [List.take_length, List.take_succ_eq_append_getElem h, List.flatMap_append, List.cons_append]
  simp [pW]
theorem wL_preW {ps : List Pt} {k : Nat} (hp : ∀ p ∈ ps, p.d.length = 128) (hk : k ≤ ps.length) : wL (preW ps k) = 8 + 1036 * k := by
  unfold preW
  rw [wL_cons, wL_puts _ (fun p h => hp p (List.mem_of_mem_take h)), List.length_take, Nat.min_eq_left hk]
theorem wL_preX {ps : List Pt} {k x j : Nat} {d : List Nat} (hp : ∀ p ∈ ps, p.d.length = 128) (hk : k ≤ ps.length) (hj : j ≤ d.length) : wL (preX ps k x d j) = 8 + 1036 * k + (12 + 8 * j) := by
  unfold preX
  rw [wL_append, wL_preW hp hk, wL_cons, wL_bytes, List.length_take, Nat.min_eq_left hj]

/-- the loops -/
def EnL (W : World) (b : Nat) (N : Nat) (ps : List Pt) (t : Value) (wr : World) : Prop := ∃ (k : Nat) (F : Nat → Prop), k ≤ N ∧ t = .int .i64 (k : Int) ∧ WQ W F b (preW ps k) wr
def EnM (W : World) (b : Nat) (ps : List Pt) (k x : Nat) (d : List Nat) (t : Value) (wr : World) : Prop := ∃ (j : Nat) (F : Nat → Prop), j ≤ 128 ∧ t = .int .i64 (j : Int) ∧ WQ W F b (preX ps k x d j) wr
def EnR (w : World) (ps : List Pt) (e : Ending) (w' : World) : Prop := ∃ v F, e = .returned (.tuple #[v, .int .i64 0]) ∧ Sl w' F 5 1 v (recB ps).length ((recB ps).map u8) ∧ Adv Nul w F w'
theorem wrapU {x : Nat} (h : x < 18446744073709551616) : IntKind.u64.wrap (x : Int) = (x : Int) := by rw [IntKind.wrap_u64]; omega

set_option maxRecDepth 3000 in
set_option maxHeartbeats 6400000 in
theorem encode_any (A0 : Option Addr) (N k0 : Nat) (ps : List Pt) (G : Nat → Prop) (w : World) (h : QRd w G (.slice A0 N k0) ps) (ht : isTx ps 4096) (h8 : ∀ p ∈ ps, ∀ x ∈ p.d, x < 256) :
    Calls Tryz.prog 163 #[.slice A0 N k0] w (EnR w ps) := by
  have hN := h.len.1
  have hN24 : N ≤ 24 := by have := ht.1.2; omega
  have hd : ∀ p ∈ ps, p.d.length = 128 := fun p hp => (ht.row p hp).2
  have hNI : (N : Int) ≤ 24 := by omega
  have hwN : IntKind.u64.wrap (N : Int) = (N : Int) := wrapU (by omega)
  have HP := Lib.hid h
  have HN := Lib.hid hN
  have HT := Lib.hid ht
  have H8 := Lib.hid h8
  have HD := Lib.hid hd
  have HN24 := Lib.hid hN24
  clear h hN ht h8 hd hN24
  go_enter Tryz.func163, Tryz.ntmps163
  go_wp2_with fail
  refine (WQ.new w).mono ?_
  rintro e w1 ⟨b, F1, rfl, q1⟩
  have HQ1 := Lib.hid q1
  have HPUT := Lib.hid (q1.put N 8 (by decide) (by have := HN24.out; omega) (by decide))
  clear q1
  go_wp2_with fail
  refine HPUT.out.mono ?_
  rintro e w2 ⟨F2, rfl, q2, -⟩
  have HQ2 := Lib.hid q2
  clear q2
  go_wp2_with fail
  go_loopw [16] (EnL w b N ps) (fun t _ => N - (intOf t).toNat)
  case atStart => exact ⟨0, F2, Nat.zero_le _, rfl, by have := HQ2.out; unfold preW; rw [← HN.out]; exact this⟩
  case round =>
    obtain ⟨k, F, hk, rfl, hq⟩ := hrel
    have HQ := Lib.hid hq
    by_cases hlt : k < N
    · have hki : (k : Int) < (N : Int) := by omega
      have hkp : k < ps.length := by rw [← HN.out]; exact hlt
      obtain ⟨b1, o, a, q, rfl, hb1, ⟨c0, c1⟩, hr, -⟩ := HP.out.row hkp
      have hbk := hq.adv.block b1 hb1.1 (fun x => x)
      rw [← World.cell?_of_block hbk] at c0 c1
      have hdl := HD.out _ (List.getElem_mem hkp)
      have hrow := (HT.out.row _ (List.getElem_mem hkp)).1
      have hb8 := H8.out _ (List.getElem_mem hkp)
      have hnx := preW_next hkp
      obtain ⟨p, hp⟩ : ∃ p, p = ps[k] := ⟨_, rfl⟩
      rw [← hp] at c0 c1 hr hdl hrow hb8 hnx
      clear hp
      obtain ⟨pa, pd⟩ := p
      simp only at c0 c1 hr hdl hrow hb8 hnx
      obtain ⟨x, rfl⟩ := Int.eq_ofNat_of_zero_le hrow.1
      have hx : x < 2 ^ 12 := by have := hrow.2; omega
      rw [hdl] at c1 hr hnx
      obtain ⟨V, hV⟩ : ∃ V, V = wr.alloc (.cells #[.int .i64 (x : Int), .slice a 128 q] 133) := ⟨_, rfl⟩
      obtain ⟨z, hz⟩ : ∃ z, z = wr.heap.size := ⟨_, rfl⟩
      have hav : Adv Nul wr Nul V := by rw [hV]; exact (Adv.refl _ _).alloc _
      have HZB := Lib.hid (show Blk V z 133 #[.int .i64 (x : Int), .slice a 128 q] by rw [hV, hz]; exact Blk.new _ _ _)
      have HQV := Lib.hid (hq.over hav)
      have HRW := Lib.hid hr
      have hwx : IntKind.u64.wrap (x : Int) = (x : Int) := wrapU (by omega)
      have HV := Lib.hid hV
      have HZ := Lib.hid hz
      have HLT := Lib.hid hlt
      have HX := Lib.hid hx
      have HB8 := Lib.hid hb8
      have HNX := Lib.hid hnx
      have HDL := Lib.hid hdl
      have HKP := Lib.hid (Nat.le_of_lt hkp)
      have hput := (hq.over hav).put x 12 (by decide) hx (by rw [wL_preW HD.out (Nat.le_of_lt hkp)]; have := HN24.out; omega)
      have HPX := Lib.hid hput
      have HZF := Lib.hid (show ¬ F z from fun h => by have := hq.bd z h; omega)
      clear hq hlt hr hrow hb8 hnx hdl hx hav hV hz hput hkp hb1 hbk
      go_upto_region 5 with (fail)
      rw [← HV.out, ← HZ.out]
      clear c0 c1
      obtain ⟨z0, z1⟩ := put2 HZB.out
      go_wp2_with fail
      refine HPX.out.mono ?_
      rintro e w3 ⟨F3, rfl, q3, a3⟩
      have HQ3 := Lib.hid (show WQ w F3 b (preX ps k x pd 0) w3 from q3)
      have hz3 := put2 (HZB.out.keep (a3.block z HZB.out.lt HZF.out))
      obtain ⟨y0, y1⟩ := hz3
      clear q3 a3 z0 z1
      go_wp2_with fail
      go_loopw [28] (EnM w b ps k x pd) (fun t _ => 128 - (intOf t).toNat)
      case atStart => exact ⟨0, F3, Nat.zero_le _, rfl, HQ3.out⟩
      case round =>
        obtain ⟨j, F4, hj, rfl, hq4⟩ := hrel
        by_cases hlt : j < 128
        · have hji : (j : Int) < 128 := by omega
          obtain ⟨b2, o2, rfl, hb2, -⟩ := HRW.out.cells (by decide) (by decide)
          have hc := (HRW.out.far (fun k _ _ h => hq4.adv.block k h (fun h => h)) hq4.adv.size).at8 hlt
          obtain ⟨y, hy⟩ : ∃ y, y = pd.getD j 0 := ⟨_, rfl⟩
          rw [← hy] at hc
          have hy8 : y < 256 := by
            rw [hy, List.getD_eq_getElem?_getD, List.getElem?_eq_getElem (by have := HDL.out; omega)]
            exact HB8.out _ (List.getElem_mem _)
          have hwy : IntKind.u64.wrap (y : Int) = (y : Int) := wrapU (by omega)
          have hput := hq4.put y 8 (by decide) hy8 (by rw [wL_preX HD.out HKP.out (by have := HDL.out; omega)]; have := HN24.out; omega)
          have HPY := Lib.hid hput
          have hnx : preX ps k x pd j ++ [(y, 8)] = preX ps k x pd (j + 1) := by rw [hy]; exact preX_next (by have := HDL.out; omega)
          have HNX2 := Lib.hid hnx
          have HLT2 := Lib.hid hlt
          clear hq4 hlt hj hb2 hy hy8 hput hnx
          go_wp2_with fail
          refine HPY.out.mono ?_
          rintro e w5 ⟨F5, rfl, q5, -⟩
          rw [HNX2.out] at q5
          have HQ5 := Lib.hid q5
          clear q5
          go_wp2_with fail
          have hlt := HLT2.out
          exact ⟨⟨j + 1, F5, by omega, by go_num, HQ5.out⟩, by simp [intOf]; omega⟩
        · obtain rfl : j = 128 := by omega
          have HQ6 := Lib.hid hq4
          clear hq4 hlt hj
          go_wp2_with fail
          have hlt := HLT.out
          refine ⟨⟨k + 1, F4, by omega, by go_num, ?_⟩, by simp [intOf]; omega⟩
          rw [← HNX.out]
          exact HQ6.out
    · obtain rfl : k = N := by omega
      have hw := done_ok b _ _ F wr hq.st (by rw [wL_preW HD.out (by have := HN.out; omega)]; have := HN24.out; omega)
      have e1 : preW ps k = recW ps := by unfold preW recW; rw [HN.out, List.take_length]
      rw [e1] at hw
      have HDN := Lib.hid hw
      have HWL := Lib.hid (show (recB ps).length = qn (wL (recW ps)) by rw [recB, rowOf, be_length])
      clear hq hlt hk hw e1
      go_wp2_with fail
      refine HDN.out.mono ?_
      rintro e w7 ⟨v, F7, rfl, hs, a7⟩
      have HF := Lib.hid (show EnR w ps (.returned (.tuple #[v, .int .i64 0])) w7 from ⟨v, F7, rfl, by rw [HWL.out]; exact hs, (HQ.out.adv.sub (G := Nul) (fun _ x => x.elim)).trans a7⟩)
      clear hs a7
      go_wp2_with fail
      exact bodyPost_ret (v := .tuple #[v, .int .i64 0]) (by simp [results, Tryz.results163, go_sem]) rfl HF.out
end Go.Proofs.YtcglfknkkeaegaaGreatDoor
namespace Go.Proofs.YtcglfknkkeaegaaGreatDoor
open Go.RowKit

set_option maxRecDepth 3000 in
set_option maxHeartbeats 1600000 in
theorem gcut_any (e c : Nat) (A0 : Option Addr) (N k0 : Nat) (ps : List Pt) (G : Nat → Prop) (w : World) (h : QRd w G (.slice A0 N k0) ps) (ht : isTx ps 4096) (h8 : ∀ p ∈ ps, ∀ x ∈ p.d, x < 256) :
    Calls Tryz.prog 132 #[.int .u64 (e : Int), .int .u64 (c : Int), .slice A0 N k0] w (CutN w e c (recB ps)) := by
  have HE := Lib.hid (encode_any A0 N k0 ps G w h ht h8)
  have HL := Lib.hid (recB_small ht)
  clear h ht h8
  go_enter Tryz.func132, Tryz.ntmps132
  go_wp2_with fail
  refine HE.out.mono ?_
  rintro x w1 ⟨v, F, rfl, hs, a1⟩
  have HC := Lib.hid (pcutn_any e c v (recB ps) w1 hs.rd (by have := HL.out; omega))
  have HA := Lib.hid (a1.sub (G := Nul) (fun _ x => x.elim))
  have HBD := Lib.hid (show ∀ G, Bd G w → Bd G w1 from fun G hG => a1.bd hG)
  clear hs a1
  go_wp2_with fail
  refine HC.out.mono ?_
  rintro x w2 ⟨A, n, k, rfl, hp, a2⟩
  obtain ⟨E, hE⟩ : ∃ E, E = cutE e c (recB ps).length := ⟨_, rfl⟩
  have HF := Lib.hid (show CutN w e c (recB ps) (.returned (.tuple #[.slice A n k, .int .i64 E])) w2 from ⟨A, n, k, by rw [hE], fun G hG => hp G (HBD.out G hG), HA.out.trans a2⟩)
  rw [← hE]
  clear hp a2 hE
  go_wp2_with fail
  exact bodyPost_ret (v := .tuple #[.slice A n k, .int .i64 E]) (by simp [results, Tryz.results132, go_sem]) rfl HF.out
theorem PRd.len {w : World} {A : Option Addr} {n k : Nat} {ps : List Pc} (h : PRd w (.slice A n k) ps) : n = ps.length ∧ n ≤ k ∧ k ≤ maxLen := by
  obtain ⟨A', k', e, h1, h2, h3⟩ := h
  injection e with e1 e2 e3
  omega
end Go.Proofs.YtcglfknkkeaegaaGreatDoor
namespace Go.Proofs.YtcglfknkkeaegaaGreatDoor
open Go.RowKit

def hZ : Hd := ⟨0, 0, 0⟩
def hv (h : Hd) : Value := .agg #[.int .u64 (h.g : Int), .int .u64 (h.t : Int), .int .u64 (h.f : Int)]
/-- the head at its place -/
def unO (l : List Nat) (odd : Nat) : Option Hd := (unHd l).bind fun h => if h.g % 2 = odd then some h else none
theorem unO_none {l : List Nat} {odd : Nat} (h : unHd l = none) : unO l odd = none := by rw [unO, h]; rfl
theorem unO_no {l : List Nat} {odd : Nat} {h : Hd} (hl : unHd l = some h) (hn : h.g % 2 ≠ odd) : unO l odd = none := by rw [unO, hl]; exact if_neg hn
theorem unO_yes {l : List Nat} {odd : Nat} {h : Hd} (hl : unHd l = some h) (hn : h.g % 2 = odd) : unO l odd = some h := by rw [unO, hl]; exact if_pos hn
end Go.Proofs.YtcglfknkkeaegaaGreatDoor
namespace Go.Proofs.YtcglfknkkeaegaaGreatDoor
open Go.RowKit

def WrS (w : World) (F : Nat → Prop) (b : Nat) (ok : Prop) (N m : Nat) : Prop := (ok ∧ WSt w F b N m ∧ Bd F w) ∨ (¬ ok ∧ WErr w F b)
structure WE (V : World) (F : Nat → Prop) (b : Nat) (ok : Prop) (N m : Nat) (w : World) : Prop where
  ws : WrS w F b ok N m
  ad : Adv Nul V F w
section
variable {V w : World} {F : Nat → Prop} {b N m : Nat} {ok : Prop}
theorem WE.cells (h : WE V F b ok N m w) {y : Nat} {t : TypeId} {g t' f : Int} (hy : Blk V y t #[.int .u64 g, .int .u64 t', .int .u64 f]) :
    w.cell? ⟨y, 0, none⟩ = some (.int .u64 g) ∧ w.cell? ⟨y, 1, none⟩ = some (.int .u64 t') ∧ w.cell? ⟨y, 2, none⟩ = some (.int .u64 f) := Blk.three (hy.keep (h.ad.block y hy.lt (fun h => h)))
theorem WE.new (ha : Adv Nul V Nul w) : Calls Tryz.prog 90 #[] w fun e w' => ∃ b F, e = .returned (.pointer (some ⟨b, 0, none⟩)) ∧ WE V F b True 0 0 w' := by
  refine (new_any w).mono ?_
  rintro e w' ⟨b, F, rfl, h1, h2, h3⟩
  exact ⟨b, F, rfl, .inl ⟨trivial, h1, h3⟩, ha.trans h2⟩
theorem WE.put (h : WE V F b ok N m w) (x n : Nat) (hn : n ≤ 64) (hx : x < 18446744073709551616) (hm : m + n ≤ 1000000000) :
    Calls Tryz.prog 91 #[.pointer (some ⟨b, 0, none⟩), .int .u64 (x : Int), .int .i64 (n : Int)] w fun e w' => ∃ F', e = .returned (.pointer (some ⟨b, 0, none⟩)) ∧ WE V F' b (ok ∧ x < 2 ^ n) (N * 2 ^ n + x) (m + n) w' := by
  rcases h.ws with ⟨h1, h2, h3⟩ | ⟨h1, h2⟩
  · by_cases hx2 : x < 2 ^ n
    · refine (put_ok b N m x n F w h2 h3 hn hx2 hm).mono ?_
      rintro e w' ⟨rfl, F', k1, k2, k3⟩
      exact ⟨F', rfl, .inl ⟨⟨h1, hx2⟩, k1, k3⟩, h.ad.trans k2⟩
    · refine (put_bad b N m x n F w h2 h3 hx (.inr (.inr ⟨n, rfl, hn, Nat.le_of_not_lt hx2⟩))).mono ?_
      rintro e w' ⟨rfl, k1, k2⟩
      exact ⟨F, rfl, .inr ⟨fun h => hx2 h.2, k1⟩, h.ad.trans k2⟩
  · refine (put_err b x n F w h2).mono ?_
    rintro e w' ⟨rfl, rfl⟩
    exact ⟨F, rfl, .inr ⟨fun h => h1 h.1, h2⟩, h.ad⟩
theorem WE.done_ [Decidable ok] (h : WE V F b ok N m w) (hm : m ≤ 1000000000) :
    Calls Tryz.prog 94 #[.pointer (some ⟨b, 0, none⟩)] w fun e w' => ∃ A n k F', e = .returned (.tuple #[.slice A n k, .int .i64 (if ok then 0 else 2)]) ∧ (ok → n = qn m) ∧ (ok → Sl w' F' 5 1 (.slice A n k) n ((rowOf N m).map u8)) ∧ Adv Nul V F' w' := by
  rcases h.ws with ⟨h1, h2, h3⟩ | ⟨h1, h2⟩
  · refine (done_ok b N m F w h2 hm).mono ?_
    rintro e w' ⟨v, F', rfl, k1, k2⟩
    obtain ⟨A, k, rfl, _⟩ := k1.form0
    exact ⟨A, _, k, F', by rw [if_pos h1], fun _ => rfl, fun _ => k1, (h.ad.sub (fun _ x => x.elim)).trans k2⟩
  · refine (done_err b F w h2).mono ?_
    rintro e w' ⟨rfl, k2⟩
    exact ⟨none, 0, 0, Nul, by rw [if_neg h1], fun h => absurd h h1, fun h => absurd h h1, (h.ad.sub (fun _ x => x.elim)).trans k2⟩
end
/-- a head's sector in new memory, or none -/
def HsR (w : World) (e : Nat) (h : Hd) (x : Ending) (w' : World) : Prop :=
  ∃ A m k F, x = .returned (.tuple #[.slice A m k, .int .i64 (if hOk e h then 0 else 2)]) ∧ Adv Nul w F w' ∧ (hOk e h → m = 128 ∧ Sl w' F 5 1 (.slice A 128 k) 128 ((hSec e h).map u8)) ∧ (¬ hOk e h → A = none ∧ m = 0 ∧ k = 0)

theorem ret_int' {k : IntKind} {a b : Int} (h : a = b) : Ending.returned (.int k a) = .returned (.int k b) := by rw [h]
set_option maxRecDepth 3000 in
set_option maxHeartbeats 1600000 in
theorem place_any (g t f : Nat) (w : World) : Calls Tryz.prog 108 #[.agg #[.int .u64 (g : Int), .int .u64 (t : Int), .int .u64 (f : Int)]] w fun x w' => x = .returned (.int .i64 ((g % 2 : Nat) : Int)) ∧ Adv Nul w Nul w' := by
  go_enter Tryz.func108, Tryz.ntmps108
  go_wp2_with fail
  go_ret
  exact ⟨ret_int' (by first | omega | (simp; omega)), (Adv.refl _ _).alloc _⟩

set_option maxRecDepth 3000 in
set_option maxHeartbeats 3200000 in
theorem hseal_any (e : Nat) (h : Hd) (w : World) (ht : h.t < 18446744073709551616) (hf : h.f < 18446744073709551616) :
    Calls Tryz.prog 189 #[.int .u64 (e : Int), .agg #[.int .u64 (h.g : Int), .int .u64 (h.t : Int), .int .u64 (h.f : Int)]] w (HsR w e h) := by
  obtain ⟨g, t, f⟩ := h
  simp only at ht hf ⊢
  obtain ⟨y, hy⟩ : ∃ y, y = w.heap.size := ⟨_, rfl⟩
  obtain ⟨V, hV⟩ : ∃ V, V = w.alloc (.cells #[.int .u64 (g : Int), .int .u64 (t : Int), .int .u64 (f : Int)] 140) := ⟨_, rfl⟩
  have HY := Lib.hid (show Blk V y 140 #[.int .u64 (g : Int), .int .u64 (t : Int), .int .u64 (f : Int)] by rw [hV, hy]; exact Blk.new _ _ _)
  have HA := Lib.hid (show Adv Nul w Nul V by rw [hV]; exact (Adv.refl _ _).alloc _)
  have HV := Lib.hid hV
  have HYY := Lib.hid hy
  have HT64 := Lib.hid ht
  have HF64 := Lib.hid hf
  have K0 := Lib.hid (Blk.three (w := V.drew) HY.out)
  clear hV hy ht hf
  go_enter Tryz.func189, Tryz.ntmps189
  go_wp2_with fail
  rw [← HV.out, ← HYY.out]
  refine rstart (S := (fun w' => w'.cell? ⟨y, 0, none⟩ = some (.int .u64 (g : Int)) ∧ w'.cell? ⟨y, 1, none⟩ = some (.int .u64 (t : Int)) ∧ w'.cell? ⟨y, 2, none⟩ = some (.int .u64 (f : Int)))) (by first | with_reducible exact K4.out | with_reducible exact K3.out | with_reducible exact K2.out | with_reducible exact K1.out | with_reducible exact K0.out) (fun hH => ?_)
  refine tk (i := 1) (oi := ⟨some 10, .fieldAddr 140 (.tmp 3) 1, 0, "head.go:63", #[], none⟩) hH.out (by rintro w ⟨s0, s1, s2⟩; go_simp <;> with_reducible rfl) ?_
  simp only [Act.put, sA, sB, sC]
  refine tk (i := 2) (oi := ⟨some 11, .load 38 (.tmp 10), 38, "head.go:63", #[⟨1, .data⟩], none⟩) hH.out (by rintro w ⟨s0, s1, s2⟩; go_simp <;> with_reducible rfl) ?_
  simp only [Act.put, sA, sB, sC]
  refine tk (i := 4) (oi := ⟨some 13, .fieldAddr 140 (.tmp 3) 2, 0, "head.go:63", #[], none⟩) hH.out (by rintro w ⟨s0, s1, s2⟩; go_simp <;> with_reducible rfl) ?_
  simp only [Act.put, sA, sB, sC]
  refine tk (i := 5) (oi := ⟨some 14, .load 38 (.tmp 13), 38, "head.go:63", #[⟨4, .data⟩], none⟩) hH.out (by rintro w ⟨s0, s1, s2⟩; go_simp <;> with_reducible rfl) ?_
  simp only [Act.put, sA, sB, sC]
  refine rdy (i := 0) (oi := ⟨some 9, .call ⟨.value (.func 90), #[], #[]⟩, 158, "head.go:63", #[], none⟩) (fun K hK => ?_)
  go_simp
  refine (WE.new (Adv.refl Nul V).drew).mono ?_
  rintro x w1 ⟨b, F1, rfl, g1⟩
  have G1 := Lib.hid g1
  have K1 := Lib.hid (g1.cells HY.out)
  clear g1
  go_wp2_with fail
  refine hK.out _ _ (by first | with_reducible exact K4.out | with_reducible exact K3.out | with_reducible exact K2.out | with_reducible exact K1.out | with_reducible exact K0.out) (fun hHeld => ?_)
  replace hH := Lib.hid hHeld
  clear hK K hHeld
  try simp only [Act.put, sA, sB, sC]
  refine rdy (i := 3) (oi := ⟨some 12, .call ⟨.value (.func 91), #[.tmp 9, .tmp 11, .const (Go.Value.int Go.IntKind.i64 40)], #[158, 38, 3]⟩, 158, "head.go:63", #[⟨0, .data⟩, ⟨2, .data⟩, ⟨0, .chain⟩], none⟩) (fun K hK => ?_)
  go_simp
  refine (G1.out.put t 40 (by decide) HT64.out (by decide)).mono ?_
  rintro x w2 ⟨F2, rfl, g2⟩
  have G2 := Lib.hid g2
  have K2 := Lib.hid (g2.cells HY.out)
  clear g2
  go_wp2_with fail
  refine hK.out _ _ (by first | with_reducible exact K4.out | with_reducible exact K3.out | with_reducible exact K2.out | with_reducible exact K1.out | with_reducible exact K0.out) (fun hHeld => ?_)
  replace hH := Lib.hid hHeld
  clear hK K hHeld
  try simp only [Act.put, sA, sB, sC]
  refine rdy (i := 6) (oi := ⟨some 15, .call ⟨.value (.func 91), #[.tmp 12, .tmp 14, .const (Go.Value.int Go.IntKind.i64 24)], #[158, 38, 3]⟩, 158, "head.go:63", #[⟨3, .data⟩, ⟨5, .data⟩, ⟨3, .chain⟩], none⟩) (fun K hK => ?_)
  go_simp
  refine (G2.out.put f 24 (by decide) HF64.out (by decide)).mono ?_
  rintro x w3 ⟨F3, rfl, g3⟩
  have G3 := Lib.hid g3
  have K3 := Lib.hid (g3.cells HY.out)
  clear g3
  go_wp2_with fail
  refine hK.out _ _ (by first | with_reducible exact K4.out | with_reducible exact K3.out | with_reducible exact K2.out | with_reducible exact K1.out | with_reducible exact K0.out) (fun hHeld => ?_)
  replace hH := Lib.hid hHeld
  clear hK K hHeld
  try simp only [Act.put, sA, sB, sC]
  refine rdy (i := 7) (oi := ⟨some 16, .call ⟨.value (.func 94), #[.tmp 15], #[158]⟩, 119, "head.go:63", #[⟨6, .data⟩, ⟨6, .chain⟩], none⟩) (fun K hK => ?_)
  go_simp
  refine (G3.out.done_ (by decide)).mono ?_
  rintro x w4 ⟨A, m, k, F4, rfl, d4, s4, a4⟩
  obtain ⟨E, hE⟩ : ∃ E : Int, E = if (True ∧ t < 2 ^ 40) ∧ f < 2 ^ 24 then 0 else 2 := ⟨_, rfl⟩
  rw [← hE]
  have HE := Lib.hid hE
  clear hE
  have K4 := Lib.hid (Blk.three (HY.out.keep (a4.block y HY.out.lt (fun h => h))))
  have HD4 := Lib.hid d4
  have HS4 := Lib.hid s4
  have HA4 := Lib.hid a4
  clear d4 s4 a4
  go_wp2_with fail
  refine hK.out _ _ (by first | with_reducible exact K4.out | with_reducible exact K3.out | with_reducible exact K2.out | with_reducible exact K1.out | with_reducible exact K0.out) (fun hHeld => ?_)
  replace hH := Lib.hid hHeld
  clear hK K hHeld
  try simp only [Act.put, sA, sB, sC]
  refine tk (i := 8) (oi := ⟨some 8, .move (.tmp 16), 119, "head.go:63", #[⟨7, .data⟩], none⟩) hH.out (by rintro w ⟨s0, s1, s2⟩; go_simp <;> with_reducible rfl) ?_
  simp only [Act.put, sA, sB, sC]
  refine tk (i := 9) (oi := ⟨some 17, .extract (.tmp 8) 0, 118, "head.go:63", #[⟨8, .data⟩], none⟩) hH.out (by rintro w ⟨s0, s1, s2⟩; go_simp <;> with_reducible rfl) ?_
  simp only [Act.put, sA, sB, sC]
  refine tk (i := 10) (oi := ⟨some 18, .extract (.tmp 8) 1, 26, "head.go:63", #[⟨8, .data⟩, { on := 11, ground := Go.Ground.gcOnly Go.Departure.lateStores }], none⟩) hH.out (by rintro w ⟨s0, s1, s2⟩; go_simp <;> with_reducible rfl) ?_
  simp only [Act.put, sA, sB, sC]
  refine tk (i := 11) (oi := ⟨some 6, .assign (.tmp 17), 118, "head.go:63", #[⟨9, .data⟩, ⟨7, .chain⟩, ⟨0, .phase⟩, ⟨1, .phase⟩, ⟨2, .phase⟩, ⟨3, .phase⟩, ⟨4, .phase⟩, ⟨5, .phase⟩, ⟨6, .phase⟩, ⟨7, .phase⟩, ⟨8, .phase⟩, ⟨9, .phase⟩, { on := 10, ground := Go.Ground.textOnly Go.Departure.lateStores }], none⟩) hH.out (by rintro w ⟨s0, s1, s2⟩; go_simp <;> with_reducible rfl) ?_
  simp only [Act.put, sA, sB, sC]
  refine tk (i := 12) (oi := ⟨some 7, .assign (.tmp 18), 26, "head.go:63", #[⟨10, .data⟩, ⟨11, .chain⟩, ⟨0, .phase⟩, ⟨1, .phase⟩, ⟨2, .phase⟩, ⟨3, .phase⟩, ⟨4, .phase⟩, ⟨5, .phase⟩, ⟨6, .phase⟩, ⟨7, .phase⟩, ⟨8, .phase⟩, ⟨9, .phase⟩, ⟨10, .phase⟩, ⟨11, .phase⟩], none⟩) hH.out (by rintro w ⟨s0, s1, s2⟩; go_simp <;> with_reducible rfl) ?_
  simp only [Act.put, sA, sB, sC]
  refine wpAnyH_done (by kernel_rfl) ?_ _
  have HAW := Lib.hid (HA.out.trans HA4.out)
  by_cases hk : (True ∧ t < 2 ^ 40) ∧ f < 2 ^ 24
  · obtain rfl : E = 0 := by rw [HE.out, if_pos hk]
    obtain rfl : m = qn 64 := HD4.out hk
    have hs := HS4.out hk
    have er : rowOf ((0 * 2 ^ 40 + t) * 2 ^ 24 + f) (0 + 40 + 24) = hdata ⟨g, t, f⟩ := by
      rw [Nat.zero_mul, Nat.zero_add, show 0 + 40 + 24 = 64 from rfl, row64]; rfl
    rw [er] at hs
    have hseal : Calls Tryz.prog 164 #[.agg #[.int .u64 (e : Int), .int .u64 (g : Int), .bool true, .bool true, .slice A (qn 64) k]] w4 (SealO w4 (hPc e ⟨g, t, f⟩)) := seal_any (hPc e ⟨g, t, f⟩) _ w4 (show Rd w4 1 _ (hdata ⟨g, t, f⟩).length ((hdata ⟨g, t, f⟩).map u8) by rw [hdata_length]; exact hs.rd) (hdata_lt _)
    have HSEAL := Lib.hid hseal
    have HK := Lib.hid hk
    obtain ⟨s0, s1, s2⟩ := K4.out
    clear hk hs er hseal
    go_wp2_with fail
    refine HSEAL.out.mono ?_
    intro x w5 h5
    obtain ⟨A5, m5, k5, F5, rfl, a5, p5, n5⟩ := h5
    have hh : hOk e ⟨g, t, f⟩ ↔ (hPc e ⟨g, t, f⟩).ok := ⟨hPc_ok, fun o => ⟨⟨o.1, o.2.1⟩, HK.out.1.2, HK.out.2⟩⟩
    have hfin : HsR w e ⟨g, t, f⟩ (.returned (.tuple #[.slice A5 m5 k5, .int .i64 (sealE (hPc e ⟨g, t, f⟩))])) w5 := by
      refine ⟨A5, m5, k5, F5, ?_, (HAW.out.sub (fun _ x => x.elim)).trans a5, fun o => p5 (hh.mp o), fun o => ?_⟩
      · rw [sealE]
        by_cases o : (hPc e ⟨g, t, f⟩).ok
        · rw [if_pos o, if_pos (hh.mpr o)]
        · rw [if_neg o, if_neg (fun k => o (hh.mp k))]
      · obtain ⟨q1, q2, q3⟩ := n5 (fun k => o (hh.mpr k))
        exact ⟨q1, q2, q3⟩
    obtain ⟨E5, hE5⟩ : ∃ E, E = sealE (hPc e ⟨g, t, f⟩) := ⟨_, rfl⟩
    rw [← hE5] at hfin ⊢
    have HFIN := Lib.hid hfin
    clear hfin hE5 hh p5 n5 a5
    go_wp2_with fail
    exact bodyPost_ret (v := .tuple #[.slice A5 m5 k5, .int .i64 E5]) (by simp [results, Tryz.results189, go_sem]) rfl HFIN.out
  · obtain rfl : E = 2 := by rw [HE.out, if_neg hk]
    have hfin : HsR w e ⟨g, t, f⟩ (.returned (.tuple #[.slice none 0 0, .int .i64 2])) w4 := by
      have hn : ¬ hOk e ⟨g, t, f⟩ := fun o => hk ⟨⟨trivial, o.2.1⟩, o.2.2⟩
      exact ⟨none, 0, 0, Nul, by rw [if_neg hn], HAW.out.sub (fun _ x => x.elim), fun o => absurd o hn, fun _ => ⟨rfl, rfl, rfl⟩⟩
    have HFIN := Lib.hid hfin
    clear hfin hk
    go_wp2_with fail
    exact bodyPost_ret (v := .tuple #[.slice none 0 0, .int .i64 2]) (by simp [results, Tryz.results189, go_sem]) rfl HFIN.out
end Go.Proofs.YtcglfknkkeaegaaGreatDoor
namespace Go.Proofs.YtcglfknkkeaegaaGreatDoor

/-- What lasts, what waits, whether the power is off, how many steps the fuse still lets be. -/
structure DS where
  L : List (List Nat)
  Q : List (Nat × List Nat)
  dead : Bool
  fuse : Option Nat

/-- a write's first m bytes are laid -/
def layN (L : List (List Nat)) (q : Nat × List Nat) (m : Nat) : List (List Nat) := L.set q.1 (q.2.take m ++ (L.getD q.1 []).drop m)
/-- all that waits is written over what lasts -/
def lays (L : List (List Nat)) (Q : List (Nat × List Nat)) : List (List Nat) := Q.foldl (fun l q => l.set q.1 q.2) L
/-- the first k writes are laid, each by as many bytes as c says -/
def laysBy (c : Nat → Nat) (Q : List (Nat × List Nat)) (L : List (List Nat)) : Nat → List (List Nat)
  | 0 => L
  | k + 1 => layN (laysBy c Q L k) (Q.getD k (0, [])) (c k)

structure DS.ok (s : DS) (n : Nat) : Prop where
  len : s.L.length = n
  row : ∀ r ∈ s.L, r.length = 128
  at_ : ∀ q ∈ s.Q, q.1 < n ∧ q.2.length = 128
  dd : s.dead = true → s.fuse = some 0
  fz : ∀ f, s.fuse = some f → f < 9223372036854775808

def newS (n : Nat) : DS := ⟨List.replicate n (List.replicate 128 0), [], false, none⟩
def stepS (s : DS) : DS × Bool :=
  match s.fuse with
  | none => (s, true)
  | some 0 => ({ s with dead := true }, false)
  | some (k + 1) => ({ s with fuse := some k }, true)
def writeS (s : DS) (i : Int) (b : List Nat) : DS × Int :=
  if i < 0 ∨ (s.L.length : Int) ≤ i ∨ b.length ≠ 128 then (s, 2) else if (stepS s).2 then ({ (stepS s).1 with Q := s.Q ++ [(i.toNat, b)] }, 0) else ((stepS s).1, 7)
def flushS (s : DS) : DS × Int := if (stepS s).2 then ({ (stepS s).1 with L := lays s.L s.Q, Q := [] }, 0) else ((stepS s).1, 7)
/-- how many bytes of write i last -/
def kept (keep : List Int) (torn : Int) (q i : Nat) : Nat := if 0 < torn ∧ torn < 128 ∧ i + 1 = q then torn.toNat else if keep.getD i 0 ≠ 0 then 128 else 0
def isS (s : DS) (i : Nat) : List Nat := (lays s.L s.Q).getD i []

theorem stepS_L (s : DS) : (stepS s).1.L = s.L := by unfold stepS; split <;> rfl
theorem stepS_Q (s : DS) : (stepS s).1.Q = s.Q := by unfold stepS; split <;> rfl
theorem stepS_ok {s : DS} {n : Nat} (h : s.ok n) : (stepS s).1.ok n := by
  obtain ⟨L, Q, dead, fuse⟩ := s
  obtain ⟨h1, h2, h3, h4, h5⟩ := h
  match fuse, h4, h5 with
  | none, h4, h5 => exact ⟨h1, h2, h3, h4, h5⟩
  | some 0, h4, h5 => exact ⟨h1, h2, h3, fun _ => rfl, h5⟩
  | some (k + 1), h4, h5 =>
    refine ⟨h1, h2, h3, fun hd => ?_, fun f hf => ?_⟩
    · have := h4 hd; simp at this
    · have := h5 (k + 1) rfl
      simp [stepS] at hf
      omega

theorem layN_length (L : List (List Nat)) (q : Nat × List Nat) (m : Nat) : (layN L q m).length = L.length := by simp [layN]
theorem laysBy_length (c : Nat → Nat) (Q : List (Nat × List Nat)) (L : List (List Nat)) : ∀ k, (laysBy c Q L k).length = L.length
  | 0 => rfl
  | k + 1 => by rw [laysBy, layN_length, laysBy_length c Q L k]
theorem lays_length : ∀ (Q : List (Nat × List Nat)) (L : List (List Nat)), (lays L Q).length = L.length
  | [], _ => rfl
  | q :: Q, L => by
    show (lays (L.set q.1 q.2) Q).length = _
    rw [lays_length Q]; simp
theorem lays_snoc (L : List (List Nat)) (Q : List (Nat × List Nat)) (q : Nat × List Nat) : lays L (Q ++ [q]) = (lays L Q).set q.1 q.2 := by simp [lays]
theorem row_set {L : List (List Nat)} (h : ∀ r ∈ L, r.length = 128) (i : Nat) {x : List Nat} (hx : x.length = 128) : ∀ r ∈ L.set i x, r.length = 128 := fun r hr => by
  rcases List.mem_or_eq_of_mem_set hr with h1 | h1
  · exact h r h1
  · rw [h1]; exact hx
theorem row_at {L : List (List Nat)} (h : ∀ r ∈ L, r.length = 128) {i : Nat} (hi : i < L.length) : (L.getD i []).length = 128 := by
  rw [List.getD_eq_getElem?_getD, List.getElem?_eq_getElem hi]
  exact h _ (List.getElem_mem hi)
theorem layN_row {L : List (List Nat)} (h : ∀ r ∈ L, r.length = 128) {q : Nat × List Nat} (hq : q.1 < L.length) (hl : q.2.length = 128) (m : Nat) : ∀ r ∈ layN L q m, r.length = 128 := by
  refine row_set h _ ?_
  have := row_at h hq
  rw [List.length_append, List.length_take, List.length_drop, this, hl]; omega
theorem lays_row : ∀ (Q : List (Nat × List Nat)) (L : List (List Nat)), (∀ r ∈ L, r.length = 128) → (∀ q ∈ Q, q.2.length = 128) → ∀ r ∈ lays L Q, r.length = 128
  | [], _, h, _ => h
  | q :: Q, L, h, hq => lays_row Q (L.set q.1 q.2) (row_set h _ (hq q (by simp))) (fun x hx => hq x (by simp [hx]))
theorem getD_mem {Q : List (Nat × List Nat)} {k : Nat} (hk : k < Q.length) : Q.getD k (0, []) ∈ Q := by
  rw [List.getD_eq_getElem?_getD, List.getElem?_eq_getElem hk]
  exact List.getElem_mem hk
theorem laysBy_row (c : Nat → Nat) (Q : List (Nat × List Nat)) (L : List (List Nat)) (h : ∀ r ∈ L, r.length = 128) (hq : ∀ q ∈ Q, q.1 < L.length ∧ q.2.length = 128) : ∀ k, k ≤ Q.length → ∀ r ∈ laysBy c Q L k, r.length = 128
  | 0, _ => h
  | k + 1, hk => by
    rw [laysBy]
    have hm := hq _ (getD_mem (show k < Q.length by omega))
    exact layN_row (laysBy_row c Q L h hq k (by omega)) (by rw [laysBy_length]; exact hm.1) hm.2 _
/-- laid by 128 bytes each: as a whole -/
theorem laysBy_all (Q : List (Nat × List Nat)) (L : List (List Nat)) (h : ∀ r ∈ L, r.length = 128) (hq : ∀ q ∈ Q, q.1 < L.length ∧ q.2.length = 128) : ∀ k, k ≤ Q.length → laysBy (fun _ => 128) Q L k = lays L (Q.take k)
  | 0, _ => by simp [laysBy, lays]
  | k + 1, hk => by
    have hlt : k < Q.length := by omega
    have hm := hq _ (getD_mem hlt)
    have hr := row_at (laysBy_row (fun _ => 128) Q L h hq k (by omega)) (i := (Q.getD k (0, [])).1) (by rw [laysBy_length]; exact hm.1)
    rw [laysBy, List.take_succ_eq_append_getElem hlt, lays_snoc, ← laysBy_all Q L h hq k (by omega), layN, List.take_of_length_le (by omega), List.drop_of_length_le (by omega), List.append_nil]
    rw [List.getD_eq_getElem?_getD, List.getElem?_eq_getElem hlt]; rfl
theorem writeS_ok {s : DS} {n : Nat} (h : s.ok n) (i : Int) (b : List Nat) : (writeS s i b).1.ok n := by
  unfold writeS
  split
  · exact h
  · rename_i hc
    split
    · have h1 := stepS_ok h
      refine ⟨h1.len, h1.row, fun q hq => ?_, h1.dd, h1.fz⟩
      rcases List.mem_append.1 hq with hq | hq
      · exact h.at_ q hq
      · rw [List.mem_singleton] at hq
        subst hq
        have := h.len
        exact ⟨by show i.toNat < n; omega, by show b.length = 128; omega⟩
    · exact stepS_ok h
theorem flushS_ok {s : DS} {n : Nat} (h : s.ok n) : (flushS s).1.ok n := by
  unfold flushS
  split
  · have h1 := stepS_ok h
    exact ⟨by show (lays s.L s.Q).length = n; rw [lays_length, h.len], lays_row _ _ h.row (fun q hq => (h.at_ q hq).2), fun q hq => by simp at hq, h1.dd, h1.fz⟩
  · exact stepS_ok h
theorem newS_ok (n : Nat) : (newS n).ok n := ⟨by simp [newS], fun r hr => by rw [List.eq_of_mem_replicate hr]; simp, fun q hq => by simp [newS] at hq, fun h => by simp [newS] at h, fun f hf => by simp [newS] at hf⟩

/-- the writes that wait, as cells -/
def wcells (q : Nat × List Nat) : List Value := .int .i64 (q.1 : Int) :: q.2.map u8
theorem wcells_length {q : Nat × List Nat} (h : q.2.length = 128) : (wcells q).length = 129 := by simp [wcells, h]
theorem flat_at {α β : Type} (f : α → List β) (c : Nat) : ∀ (l : List α), (∀ x ∈ l, (f x).length = c) → ∀ (i j : Nat) (hi : i < l.length), j < c → (l.flatMap f)[i * c + j]? = (f l[i])[j]?
  | x :: l, h, 0, j, _, hj => by
    rw [List.flatMap_cons, List.getElem?_append_left (by rw [h x (by simp)]; omega)]; simp
  | x :: l, h, i + 1, j, hi, hj => by
    have h1 := h x (by simp)
    have e : (i + 1) * c + j = c + (i * c + j) := by rw [Nat.succ_mul]; omega
    rw [List.flatMap_cons, List.getElem?_append_right (by rw [h1]; omega), e, h1, show c + (i * c + j) - c = i * c + j by omega]
    exact flat_at f c l (fun y hy => h y (by simp [hy])) i j (by simpa using hi) hj
theorem flat_length {α β : Type} (f : α → List β) (c : Nat) : ∀ (l : List α), (∀ x ∈ l, (f x).length = c) → (l.flatMap f).length = l.length * c
  | [], _ => by simp
  | x :: l, h => by
    rw [List.flatMap_cons, List.length_append, h x (by simp), flat_length f c l (fun y hy => h y (by simp [hy])), List.length_cons, Nat.succ_mul]; omega
end Go.Proofs.YtcglfknkkeaegaaGreatDoor
namespace Go.Proofs.YtcglfknkkeaegaaGreatDoor
open Go.RowKit

/-! ### many cells at once -/
theorem setCells_heap (b : Nat) {k : Nat} (hk : k ≠ b) : ∀ (vs : List Value) (o : Nat) (w : World), (w.setCells b o vs).heap[k]? = w.heap[k]?
  | [], _, _ => rfl
  | v :: r, o, w => by
    rw [World.setCells, setCells_heap b hk r]
    exact heap_setCell_other w ⟨b, o, none⟩ k v hk
theorem Adv.setCells {F F' : Nat → Prop} {w : World} {g : Nat} : ∀ (vs : List Value) (o : Nat) (w' : World), Adv F w F' w' → (F g ∨ w.heap.size ≤ g) → Adv F w F' (w'.setCells g o vs)
  | [], _, _, h, _ => h
  | v :: r, o, w', h, hg => by
    rw [World.setCells]
    exact Adv.setCells r (o + 1) _ (h.setCell (p := ⟨g, o, none⟩) hg v) hg
theorem Blk.setCells {g : Nat} {t : TypeId} : ∀ (vs : List Value) (o : Nat) (w : World) (cs : Array Value), Blk w g t cs → ∃ cs', Blk (w.setCells g o vs) g t cs' ∧ cs'.size = cs.size
  | [], _, _, cs, h => ⟨cs, h, rfl⟩
  | v :: r, o, w, cs, h => by
    rw [World.setCells]
    obtain ⟨cs', h1, h2⟩ := Blk.setCells r (o + 1) _ _ (h.set_ o v)
    exact ⟨cs', h1, by rw [h2]; simp⟩

/-- A block of sectors. -/
structure Rows (w : World) (g : Nat) (t : TypeId) (L : List (List Nat)) : Prop where
  blk : ∃ cs, Blk w g t cs ∧ cs.size = L.length * 128
  row : ∀ i r, L[i]? = some r → r.length = 128 ∧ w.rangeAt g (i * 128) (r.map u8)

section
variable {w w' : World} {g : Nat} {t : TypeId} {L : List (List Nat)}
theorem Rows.keep (h : Rows w g t L) (hk : w'.heap[g]? = w.heap[g]?) : Rows w' g t L := by
  obtain ⟨cs, hb, hs⟩ := h.blk
  refine ⟨⟨cs, hb.keep hk, hs⟩, fun i r hr => ⟨(h.row i r hr).1, fun j v hv => ?_⟩⟩
  rw [← (h.row i r hr).2 j v hv]
  exact World.cell?_of_block hk
theorem Rows.there (h : Rows w g t L) {i m : Nat} (hi : i < L.length) (hm : m ≤ 128) : w.there g (i * 128) m := fun j hj => by
  obtain ⟨cs, hb, hs⟩ := h.blk
  refine ⟨?_, hb.frozen _⟩
  rw [hb.cell]
  have : i * 128 + j < cs.size := by
    have : (i + 1) * 128 ≤ L.length * 128 := Nat.mul_le_mul_right _ hi
    rw [Nat.succ_mul] at this
    omega
  rw [Array.getElem?_eq_getElem this]; rfl
theorem Rows.put (h : Rows w g t L) {i : Nat} (hi : i < L.length) (x : List Nat) (hx : x.length ≤ 128) : Rows (w.setCells g (i * 128) (x.map u8)) g t (L.set i (x ++ (L.getD i []).drop x.length)) := by
  obtain ⟨cs, hb, hs⟩ := h.blk
  obtain ⟨cs', hb', hs'⟩ := Blk.setCells (x.map u8) (i * 128) w cs hb
  have ht := h.there hi hx
  refine ⟨⟨cs', hb', by rw [hs', hs]; simp⟩, fun k r hr => ?_⟩
  by_cases hk : i = k
  · subst hk
    rw [List.getElem?_set_self hi] at hr
    injection hr with hr
    have hold := h.row i _ (List.getElem?_eq_getElem hi)
    have e : L.getD i [] = L[i] := by rw [List.getD_eq_getElem?_getD, List.getElem?_eq_getElem hi]; rfl
    rw [e] at hr
    subst hr
    refine ⟨by rw [List.length_append, List.length_drop, hold.1]; omega, fun j v hv => ?_⟩
    by_cases hj : j < x.length
    · rw [List.map_append, List.getElem?_append_left (by simpa using hj)] at hv
      exact World.rangeAt_setCells_same w g (i * 128) (x.map u8) (by rw [List.length_map]; exact ht) j v hv
    · rw [List.map_append, List.getElem?_append_right (by simpa using Nat.le_of_not_lt hj), List.length_map, List.map_drop, List.getElem?_drop, show x.length + (j - x.length) = j by omega] at hv
      rw [World.cell?_setCells_out g _ _ _ _ (fun _ _ => Or.inr (by simp; omega))]
      exact hold.2 j v hv
  · rw [List.getElem?_set_ne hk] at hr
    refine ⟨(h.row k r hr).1, World.rangeAt_setCells_apart (h.row k r hr).2 _ _ _ (Or.inr ?_)⟩
    rw [List.length_map, List.length_map, (h.row k r hr).1]
    rcases Nat.lt_or_gt_of_ne hk with h1 | h1
    · right
      have : (i + 1) * 128 ≤ k * 128 := Nat.mul_le_mul_right _ h1
      rw [Nat.succ_mul] at this
      omega
    · left
      have : (k + 1) * 128 ≤ i * 128 := Nat.mul_le_mul_right _ h1
      rw [Nat.succ_mul] at this
      omega
theorem Rows.putN (h : Rows w g t L) {q : Nat × List Nat} (hq : q.1 < L.length) (hl : q.2.length = 128) {m : Nat} (hm : m ≤ 128) : Rows (w.setCells g (q.1 * 128) ((q.2.take m).map u8)) g t (layN L q m) := by
  have h1 := h.put hq (q.2.take m) (by simp; omega)
  rw [List.length_take, hl, Nat.min_eq_left hm] at h1
  exact h1
theorem Rows.putAll (h : Rows w g t L) {i : Nat} (hi : i < L.length) (x : List Nat) (hx : x.length = 128) : Rows (w.setCells g (i * 128) (x.map u8)) g t (L.set i x) := by
  have h1 := h.put hi x (by omega)
  have e : (L.getD i []).drop x.length = [] := by
    apply List.drop_eq_nil_of_le
    rw [List.getD_eq_getElem?_getD, List.getElem?_eq_getElem hi, hx]
    exact Nat.le_of_eq (h.row i _ (List.getElem?_eq_getElem hi)).1
  rw [e, List.append_nil] at h1
  exact h1
theorem Rows.at_ (h : Rows w g t L) {i : Nat} (hi : i < L.length) : w.rangeAt g (i * 128) ((L.getD i []).map u8) := by
  rw [List.getD_eq_getElem?_getD, List.getElem?_eq_getElem hi]
  exact (h.row i _ (List.getElem?_eq_getElem hi)).2
end

theorem Sl.keepH {F : Nat → Prop} {w w' : World} {e : TypeId} {size n : Nat} {v : Value} {xs : List Value} (h : Sl w F e size v n xs) (hk : ∀ k, F k → w'.heap[k]? = w.heap[k]?) (hs : w.heap.size ≤ w'.heap.size) : Sl w' F e size v n xs :=
  ⟨own_keep h.own fun k hk' => hk k (h.inF k hk'), h.inF, fun k hk' => Nat.lt_of_lt_of_le (h.bd k hk') hs⟩
theorem Sl.keepB {F : Nat → Prop} {w w' : World} {e : TypeId} {size n : Nat} {v : Value} {xs : List Value} (h : Sl w F e size v n xs) (hk : ∀ k, v.ownBlock = some k → w'.heap[k]? = w.heap[k]?) (hs : w.heap.size ≤ w'.heap.size) : Sl w' F e size v n xs :=
  ⟨own_keep h.own hk, h.inF, fun k hk' => Nat.lt_of_lt_of_le (h.bd k hk') hs⟩

/-! ### the disk -/
structure DkB (w : World) (F : Nat → Prop) (d gl gr : Nat) (vQ : Value) (n : Nat) (L R : List (List Nat)) (Q : List (Nat × List Nat)) : Prop where
  lo : 1 ≤ n
  hi : n ≤ 4096
  lenL : L.length = n
  lenR : R.length = n
  qs : ∀ q ∈ Q, q.1 < n ∧ q.2.length = 128
  lasts : Rows w gl 113 L
  reads : Rows w gr 113 R
  waits : Sl w F 115 129 vQ Q.length (Q.flatMap wcells)
  ne : gl ≠ gr
  inD : F d
  inL : F gl
  inR : F gr
  head : ∃ cs, Blk w d 89 cs

def dhead (gl gr : Nat) (vQ : Value) (n : Nat) (s : DS) : Array Value := #[.slice (some ⟨gl, 0, none⟩) n n, .slice (some ⟨gr, 0, none⟩) n n, vQ, .bool s.dead, .bool s.fuse.isSome, .int .i64 ((s.fuse.getD 0 : Nat) : Int)]

structure DkR (w : World) (F : Nat → Prop) (d gl gr : Nat) (vQ : Value) (n : Nat) (R : List (List Nat)) (s : DS) : Prop where
  blk : Blk w d 89 (dhead gl gr vQ n s)
  b : DkB w F d gl gr vQ n s.L R s.Q

/-- The disk at block d, with the blocks F: n sectors, in the state s. -/
def Dk (w : World) (F : Nat → Prop) (d n : Nat) (s : DS) : Prop := s.ok n ∧ ∃ gl gr vQ, DkR w F d gl gr vQ n (lays s.L s.Q) s

section
variable {w w' : World} {F F' G : Nat → Prop} {d gl gr n : Nat} {vQ : Value} {L R : List (List Nat)} {Q : List (Nat × List Nat)} {s : DS}
theorem DkB.bd (h : DkB w F d gl gr vQ n L R Q) : Bd F w := h.waits.bd
theorem DkB.keep (h : DkB w F d gl gr vQ n L R Q) (hk : ∀ k, F k → w'.heap[k]? = w.heap[k]?) (hs : w.heap.size ≤ w'.heap.size) : DkB w' F d gl gr vQ n L R Q := by
  obtain ⟨cs, hc⟩ := h.head
  exact ⟨h.lo, h.hi, h.lenL, h.lenR, h.qs, h.lasts.keep (hk _ h.inL), h.reads.keep (hk _ h.inR), h.waits.keepH hk hs, h.ne, h.inD, h.inL, h.inR, ⟨cs, hc.keep (hk _ h.inD)⟩⟩
theorem DkR.keep (h : DkR w F d gl gr vQ n R s) (hk : ∀ k, F k → w'.heap[k]? = w.heap[k]?) (hs : w.heap.size ≤ w'.heap.size) : DkR w' F d gl gr vQ n R s := ⟨h.blk.keep (hk _ h.b.inD), h.b.keep hk hs⟩
theorem DkR.far (h : DkR w F d gl gr vQ n R s) (ha : Adv G w F' w') (hs : Sep G F) : DkR w' F d gl gr vQ n R s := h.keep (ha.far hs h.b.bd) ha.size
theorem Dk.bd (h : Dk w F d n s) : Bd F w := by
  obtain ⟨_, _, _, _, h⟩ := h
  exact h.b.bd
theorem Dk.far (h : Dk w F d n s) (ha : Adv G w F' w') (hs : Sep G F) : Dk w' F d n s := by
  obtain ⟨ho, gl, gr, vQ, h⟩ := h
  exact ⟨ho, gl, gr, vQ, h.far ha hs⟩
theorem Dk.drewN (h : Dk w F d n s) (k : Nat) : Dk (w.drewN k) F d n s := by
  obtain ⟨ho, gl, gr, vQ, h⟩ := h
  exact ⟨ho, gl, gr, vQ, h.keep (fun _ _ => rfl) (Nat.le_refl _)⟩
theorem DkB.gl_ne (h : DkB w F d gl gr vQ n L R Q) : gl ≠ d := by
  obtain ⟨cs, hc⟩ := h.head
  obtain ⟨cl, hl, _⟩ := h.lasts.blk
  exact hl.ne_ hc (by decide)
theorem DkB.gr_ne (h : DkB w F d gl gr vQ n L R Q) : gr ≠ d := by
  obtain ⟨cs, hc⟩ := h.head
  obtain ⟨cl, hl, _⟩ := h.reads.blk
  exact hl.ne_ hc (by decide)
/-- a cell of the head is stored -/
theorem DkB.set_ (h : DkB w F d gl gr vQ n L R Q) (i : Nat) (u : Value) : DkB (w.setCell ⟨d, i, none⟩ u) F d gl gr vQ n L R Q := by
  obtain ⟨cs, hc⟩ := h.head
  have hf : ∀ k, k ≠ d → (w.setCell ⟨d, i, none⟩ u).heap[k]? = w.heap[k]? := fun k hk => heap_setCell_other w _ k u hk
  have hz : w.heap.size ≤ (w.setCell ⟨d, i, none⟩ u).heap.size := by simp [World.setCell]
  exact ⟨h.lo, h.hi, h.lenL, h.lenR, h.qs, h.lasts.keep (hf _ h.gl_ne), h.reads.keep (hf _ h.gr_ne), h.waits.keepB (fun k hk => hf k (fun e => own_blk_ne h.waits.own hc (by decide) (by rw [hk, e]))) hz, h.ne, h.inD, h.inL, h.inR, ⟨_, hc.set_ i u⟩⟩
/-- sectors of what lasts are stored -/
theorem DkB.setL (h : DkB w F d gl gr vQ n L R Q) (o : Nat) (vs : List Value) {L' : List (List Nat)} (hl : L'.length = n) (hr : Rows (w.setCells gl o vs) gl 113 L') : DkB (w.setCells gl o vs) F d gl gr vQ n L' R Q := by
  obtain ⟨cs, hc⟩ := h.head
  obtain ⟨cl, hcl, _⟩ := h.lasts.blk
  have hf : ∀ k, k ≠ gl → (w.setCells gl o vs).heap[k]? = w.heap[k]? := fun k hk => setCells_heap gl hk vs o w
  have hz := (Adv.setCells vs o w (Adv.refl F w) (.inl h.inL)).size
  exact ⟨h.lo, h.hi, hl, h.lenR, h.qs, hr, h.reads.keep (hf _ h.ne.symm), h.waits.keepB (fun k hk => hf k (fun e => own_blk_ne h.waits.own hcl (by decide) (by rw [hk, e]))) hz, h.ne, h.inD, h.inL, h.inR, ⟨cs, hc.keep (hf _ h.gl_ne.symm)⟩⟩
theorem DkB.setR (h : DkB w F d gl gr vQ n L R Q) (o : Nat) (vs : List Value) {R' : List (List Nat)} (hl : R'.length = n) (hr : Rows (w.setCells gr o vs) gr 113 R') : DkB (w.setCells gr o vs) F d gl gr vQ n L R' Q := by
  obtain ⟨cs, hc⟩ := h.head
  obtain ⟨cl, hcl, _⟩ := h.reads.blk
  have hf : ∀ k, k ≠ gr → (w.setCells gr o vs).heap[k]? = w.heap[k]? := fun k hk => setCells_heap gr hk vs o w
  have hz := (Adv.setCells vs o w (Adv.refl F w) (.inl h.inR)).size
  exact ⟨h.lo, h.hi, h.lenL, hl, h.qs, h.lasts.keep (hf _ h.ne), hr, h.waits.keepB (fun k hk => hf k (fun e => own_blk_ne h.waits.own hcl (by decide) (by rw [hk, e]))) hz, h.ne, h.inD, h.inL, h.inR, ⟨cs, hc.keep (hf _ h.gr_ne.symm)⟩⟩
theorem DkR.c0 (h : DkR w F d gl gr vQ n R s) : w.cell? ⟨d, 0, none⟩ = some (.slice (some ⟨gl, 0, none⟩) n n) := h.blk.cell 0
theorem DkR.c1 (h : DkR w F d gl gr vQ n R s) : w.cell? ⟨d, 1, none⟩ = some (.slice (some ⟨gr, 0, none⟩) n n) := h.blk.cell 1
theorem DkR.c2 (h : DkR w F d gl gr vQ n R s) : w.cell? ⟨d, 2, none⟩ = some vQ := h.blk.cell 2
theorem DkR.c3 (h : DkR w F d gl gr vQ n R s) : w.cell? ⟨d, 3, none⟩ = some (.bool s.dead) := h.blk.cell 3
theorem DkR.c4 (h : DkR w F d gl gr vQ n R s) : w.cell? ⟨d, 4, none⟩ = some (.bool s.fuse.isSome) := h.blk.cell 4
theorem DkR.c5 (h : DkR w F d gl gr vQ n R s) : w.cell? ⟨d, 5, none⟩ = some (.int .i64 ((s.fuse.getD 0 : Nat) : Int)) := h.blk.cell 5
end

set_option maxRecDepth 3000 in
theorem made_r (d gl n : Nat) (w : World) (c0 : w.cell? ⟨d, 0, none⟩ = some (.slice (some ⟨gl, 0, none⟩) n n)) :
    Calls Tryz.prog 58 #[.pointer (some ⟨d, 0, none⟩)] w fun e w' => e = .returned (.bool true) ∧ w = w' := by
  go_enter Tryz.func58, Tryz.ntmps58
  go_wp2
  go_ret
  exact ⟨rfl, rfl⟩

set_option maxRecDepth 3000 in
theorem has_r (d gl n : Nat) (i : Int) (w : World) (c0 : w.cell? ⟨d, 0, none⟩ = some (.slice (some ⟨gl, 0, none⟩) n n)) :
    Calls Tryz.prog 138 #[.pointer (some ⟨d, 0, none⟩), .int .i64 i] w fun e w' => e = .returned (.bool (decide (0 ≤ i ∧ i < (n : Int)))) ∧ w = w' := by
  by_cases h1 : 0 ≤ i
  · by_cases h2 : i < (n : Int)
    · rw [decide_eq_true (show 0 ≤ i ∧ i < (n : Int) from ⟨h1, h2⟩)]
      go_enter Tryz.func138, Tryz.ntmps138
      go_wp2
      go_ret
      exact ⟨rfl, rfl⟩
    · rw [decide_eq_false (fun h => h2 h.2)]
      go_enter Tryz.func138, Tryz.ntmps138
      go_wp2
      go_ret
      exact ⟨rfl, rfl⟩
  · rw [decide_eq_false (fun h => h1 h.1)]
    go_enter Tryz.func138, Tryz.ntmps138
    go_wp2
    go_ret
    exact ⟨rfl, rfl⟩

set_option maxRecDepth 3000 in
theorem size_r (d gl n : Nat) (w : World) (c0 : w.cell? ⟨d, 0, none⟩ = some (.slice (some ⟨gl, 0, none⟩) n n)) :
    Calls Tryz.prog 41 #[.pointer (some ⟨d, 0, none⟩)] w fun e w' => e = .returned (.int .i64 (n : Int)) ∧ w = w' := by
  go_enter Tryz.func41, Tryz.ntmps41
  go_wp2_with (first
    | (go_at_call 58; refine (made_r _ _ _ _ c0).mono ?_; rintro e w1 ⟨rfl, rfl⟩)
    | fail)
  go_ret
  exact ⟨rfl, rfl⟩

set_option maxRecDepth 3000 in
theorem step_none (d : Nat) (w : World) (c3 : w.cell? ⟨d, 3, none⟩ = some (.bool false)) (c4 : w.cell? ⟨d, 4, none⟩ = some (.bool false)) :
    Calls Tryz.prog 137 #[.pointer (some ⟨d, 0, none⟩)] w fun e w' => e = .returned (.int .i64 0) ∧ w = w' := by
  go_enter Tryz.func137, Tryz.ntmps137
  go_wp2
  go_ret
  exact ⟨rfl, rfl⟩
set_option maxRecDepth 3000 in
theorem step_out (d : Nat) (b0 : Bool) (w : World) (c3 : w.cell? ⟨d, 3, none⟩ = some (.bool b0)) (c4 : w.cell? ⟨d, 4, none⟩ = some (.bool true)) (c5 : w.cell? ⟨d, 5, none⟩ = some (.int .i64 0)) (hfr : w.frozen? ⟨d, 3, none⟩ = false) :
    Calls Tryz.prog 137 #[.pointer (some ⟨d, 0, none⟩)] w fun e w' => e = .returned (.int .i64 7) ∧ w' = w.setCell ⟨d, 3, none⟩ (.bool true) := by
  go_enter Tryz.func137, Tryz.ntmps137
  go_wp2
  go_ret
  exact ⟨rfl, rfl⟩
set_option maxRecDepth 3000 in
theorem step_left (d : Nat) (K k : Int) (w : World) (c3 : w.cell? ⟨d, 3, none⟩ = some (.bool false)) (c4 : w.cell? ⟨d, 4, none⟩ = some (.bool true)) (c5 : w.cell? ⟨d, 5, none⟩ = some (.int .i64 K)) (hfr : w.frozen? ⟨d, 5, none⟩ = false) (hK : (K == 0) = false)
    (hw : IntKind.i64.wrap (K - 1) = k) :
    Calls Tryz.prog 137 #[.pointer (some ⟨d, 0, none⟩)] w fun e w' => e = .returned (.int .i64 0) ∧ w' = w.setCell ⟨d, 5, none⟩ (.int .i64 k) := by
  go_enter Tryz.func137, Tryz.ntmps137
  go_wp2
  go_ret
  exact ⟨rfl, rfl⟩

/-- step, at the head's cells -/
theorem step_r (d gl gr n : Nat) (vQ : Value) (F : Nat → Prop) (R : List (List Nat)) (s : DS) (w : World) (h : DkR w F d gl gr vQ n R s) (ho : s.ok n) :
    Calls Tryz.prog 137 #[.pointer (some ⟨d, 0, none⟩)] w fun e w' => e = .returned (.int .i64 (if (stepS s).2 then 0 else 7)) ∧ DkR w' F d gl gr vQ n R (stepS s).1 ∧ Adv F w F w' := by
  obtain ⟨L, Q, dead, fuse⟩ := s
  have hdd := ho.dd
  have hfz := ho.fz
  rcases fuse with _ | _ | k
  · have hd : dead = false := by
      cases dead with
      | false => rfl
      | true => have := hdd rfl; simp at this
    subst hd
    refine (step_none d w h.c3 h.c4).mono ?_
    rintro e w' ⟨rfl, rfl⟩
    exact ⟨rfl, h, Adv.refl _ _⟩
  · refine (step_out d dead w h.c3 h.c4 h.c5 (h.blk.frozen 3)).mono ?_
    rintro e w' ⟨rfl, rfl⟩
    exact ⟨rfl, ⟨h.blk.set_ 3 _, h.b.set_ 3 _⟩, (Adv.refl F w).setCell (.inl h.b.inD) _⟩
  · have hd : dead = false := by
      cases dead with
      | false => rfl
      | true => have := hdd rfl; simp at this
    subst hd
    have hk := hfz _ rfl
    refine (step_left d _ (k : Int) w h.c3 h.c4 h.c5 (h.blk.frozen 5) (by simp; omega) (by simp only [Option.getD_some]; rw [IntKind.wrap_i64]; omega)).mono ?_
    rintro e w' ⟨rfl, rfl⟩
    exact ⟨rfl, ⟨h.blk.set_ 5 _, h.b.set_ 5 _⟩, (Adv.refl F w).setCell (.inl h.b.inD) _⟩
end Go.Proofs.YtcglfknkkeaegaaGreatDoor
namespace Go.Proofs.YtcglfknkkeaegaaGreatDoor
open Go.RowKit

theorem step_copy_cells {P : Program} {w : World} {ops : Array Oper} {o : Oper} {a : Act} {K : Act → World → Prop} {Q : Exit → Act → World → Prop} {E : Prop} (hgd : o.guard = none) (d s : Operand) (dT sT : TypeId)
    (ho : o.op = .call { callee := .builtin .copy, args := #[d, s], argTypes := #[dT, sT] }) (elem : TypeId) (hu : P.underlying dT = some (.slice elem)) (hsz : (P.info? elem).map (·.size) = some 1)
    (b off dLen dCap sLen sCap : Nat) (ad : Addr) (hd : a.eval d = .slice (some ⟨b, off, none⟩) dLen dCap) (hs : a.eval s = .slice (some ad) sLen sCap)
    (cs : List Value) (hn : cs.length = Nat.min sLen dLen) (hsrc : ∀ j v, cs[j]? = some v → w.cell? (ad.add j) = some v) (ht : w.there b off cs.length) (h1 : ∀ v ∈ cs, v.oneCell' = true)
    (h : K (a.put o.dst (goInt cs.length)) (w.setCells b off cs)) :
    if Region.wanted o (yielded ops a.tmps) = true then Oper.wp P o a w K Q else E := by
  have hw : Region.wanted o (yielded ops a.tmps) = true := by simp [Region.wanted, hgd]
  rw [if_pos hw]
  have hrun := run_copy_cells (P := P) w dT sT o.type elem b off dLen dCap ad sLen sCap cs hu hsz hn hsrc (fun j hj => (ht j hj).1) (fun j hj => (ht j hj).2) h1
  unfold Oper.wp
  simp [execOp, ho, resolve, invoke, builtin, hd, hs, hrun, Result.andThen]
  exact h

theorem infoU8s : (Tryz.prog.info? 5).map (·.size) = some 1 := by kernel_rfl

set_option maxRecDepth 3000 in
set_option maxHeartbeats 1000000 in
theorem lay_r (d gl gr n : Nat) (vQ : Value) (F : Nat → Prop) (R : List (List Nat)) (s : DS) (q : Nat × List Nat) (m : Nat) (w : World) (h : DkR w F d gl gr vQ n R s) (hq : q.1 < n) (hl : q.2.length = 128) (hm : m ≤ 128) :
    Calls Tryz.prog 59 #[.pointer (some ⟨d, 0, none⟩), .agg (wcells q).toArray, .int .i64 (m : Int)] w fun e w' => e = .returned (.tuple #[]) ∧ DkR w' F d gl gr vQ n R { s with L := layN s.L q m } ∧ Adv F w F w' := by
  obtain ⟨W, hW⟩ : ∃ W, W = w.alloc (.cells (wcells q).toArray 115) := ⟨_, rfl⟩
  have hb0 : Blk W.drew w.heap.size 115 (wcells q).toArray := by rw [hW]; exact Blk.new _ _ _
  have hA : Adv F w F W.drew := by rw [hW]; exact ((Adv.refl F w).alloc _).drew
  have hR : DkR W.drew F d gl gr vQ n R s := h.keep (fun k hk => by rw [hW]; exact Below.heap_alloc _ _ _ (h.b.bd k hk)) hA.size
  have c0 := hR.c0
  have k0 : W.drew.cell? ⟨w.heap.size, 0, none⟩ = some (.int .i64 (q.1 : Int)) := hb0.cell 0
  have hsrc : ∀ j v, ((q.2.take m).map u8)[j]? = some v → W.drew.cell? ((⟨w.heap.size, 1, none⟩ : Addr).add j) = some v := by
    intro j v hv
    have hj : j < m := by
      have := (List.getElem?_eq_some_iff.1 hv).1
      simp at this; omega
    rw [add_none, hb0.cell, ← hv]
    simp only [wcells, List.getElem?_toArray]
    rw [show 1 + j = j + 1 by omega, List.getElem?_cons_succ, List.map_take, List.getElem?_take, if_pos hj]
  have ht : W.drew.there gl (q.1 * 128) ((q.2.take m).map u8).length := hR.b.lasts.there (by rw [hR.b.lenL]; exact hq) (by simp; omega)
  have hlen : ((q.2.take m).map u8).length = m := by simp; omega
  have hq0 : (0 : Int) ≤ (q.1 : Int) := by omega
  have hqn : (q.1 : Int) < (n : Int) := by omega
  have hm0 : (0 : Int) ≤ (m : Int) := by omega
  have hmn : (m : Int) ≤ 128 := by omega
  have hfin : DkR (W.drew.setCells gl (q.1 * 128) ((q.2.take m).map u8)) F d gl gr vQ n R { s with L := layN s.L q m } ∧ Adv F w F (W.drew.setCells gl (q.1 * 128) ((q.2.take m).map u8)) :=
    ⟨⟨hR.blk.keep (setCells_heap _ hR.b.gl_ne.symm _ _ _), hR.b.setL _ _ (by rw [layN_length, hR.b.lenL]) (hR.b.lasts.putN (by rw [hR.b.lenL]; exact hq) hl hm)⟩, Adv.setCells _ _ _ hA (.inl hR.b.inL)⟩
  have k1 : (W.drew.setCells gl (q.1 * 128) ((q.2.take m).map u8)).cell? ⟨w.heap.size, 0, none⟩ = some (.int .i64 (q.1 : Int)) :=
    (hb0.keep (setCells_heap _ (by have := h.b.bd gl h.b.inL; omega) _ _ _)).cell 0
  have c1 := hfin.1.c0
  have HS := Lib.hid hsrc
  have HT := Lib.hid ht
  have HL := Lib.hid hlen
  have HF := Lib.hid hfin
  obtain ⟨A, hAq⟩ : ∃ A, A = (wcells q).toArray := ⟨_, rfl⟩
  obtain ⟨X, hX⟩ : ∃ X, X = (q.2.take m).map u8 := ⟨_, rfl⟩
  have H1 : Hid (∀ v ∈ X, v.oneCell' = true) := by rw [hX]; exact u8_one _
  rw [← hX] at HS HT HL HF c1 k1
  obtain ⟨at_, hat⟩ : ∃ x, x = q.1 := ⟨_, rfl⟩
  rw [← hat] at HT HF k0 hq0 hqn k1 c1
  obtain ⟨z, hz⟩ : ∃ z, z = w.heap.size := ⟨_, rfl⟩
  rw [← hz] at HS k0 k1
  rw [← hAq] at hW ⊢
  have HW := Lib.hid hW
  have HZ := Lib.hid hz
  have C1 := Lib.hid c1
  have K1 := Lib.hid k1
  clear hb0 hA hR hsrc ht hlen hfin hX hAq h hW hz hat c1 k1
  go_enter Tryz.func59, Tryz.ntmps59
  go_wp2_with fail
  rw [← HW.out, ← HZ.out]
  refine rstart (S := (fun w' => w'.cell? ⟨d, 0, none⟩ = some (.slice (some ⟨gl, 0, none⟩) n n) ∧ w'.cell? ⟨z, 0, none⟩ = some (.int .i64 (at_ : Int)))) (by first | exact ⟨c0, k0⟩ | exact ⟨C1.out, K1.out⟩) (fun hH => ?_)
  refine tk (i := 0) (oi := ⟨some 6, .move (.tmp 0), 25, "disk.go:153", #[], none⟩) hH.out (by rintro w ⟨s0, s1⟩; go_simp <;> with_reducible rfl) ?_
  simp only [Act.put, sA, sB, sC]
  refine tk (i := 1) (oi := ⟨some 7, .nilCheck (.tmp 6), 0, "disk.go:153", #[⟨0, .data⟩], none⟩) hH.out (by rintro w ⟨s0, s1⟩; go_simp <;> with_reducible rfl) ?_
  simp only [Act.put, sA, sB, sC]
  refine tk (i := 2) (oi := ⟨some 8, .fieldAddr 89 (.tmp 7) 0, 0, "disk.go:153", #[⟨1, .data⟩], none⟩) hH.out (by rintro w ⟨s0, s1⟩; go_simp <;> with_reducible rfl) ?_
  simp only [Act.put, sA, sB, sC]
  refine tk (i := 3) (oi := ⟨some 9, .load 86 (.tmp 8), 86, "disk.go:153", #[⟨2, .data⟩], none⟩) hH.out (by rintro w ⟨s0, s1⟩; go_simp <;> with_reducible rfl) ?_
  simp only [Act.put, sA, sB, sC]
  refine tk (i := 4) (oi := ⟨some 10, .fieldAddr 115 (.tmp 4) 0, 0, "disk.go:153", #[], none⟩) hH.out (by rintro w ⟨s0, s1⟩; go_simp <;> with_reducible rfl) ?_
  simp only [Act.put, sA, sB, sC]
  refine tk (i := 5) (oi := ⟨some 11, .load 3 (.tmp 10), 3, "disk.go:153", #[⟨4, .data⟩], none⟩) hH.out (by rintro w ⟨s0, s1⟩; go_simp <;> with_reducible rfl) ?_
  simp only [Act.put, sA, sB, sC]
  refine tk (i := 6) (oi := ⟨some 12, .indexAddr 86 (.tmp 9) (.tmp 11), 0, "disk.go:153", #[⟨3, .data⟩, ⟨5, .data⟩], none⟩) hH.out (by rintro w ⟨s0, s1⟩; go_simp <;> with_reducible rfl) ?_
  simp only [Act.put, sA, sB, sC]
  refine tk (i := 7) (oi := ⟨some 13, .move (.tmp 2), 3, "disk.go:153", #[], none⟩) hH.out (by rintro w ⟨s0, s1⟩; go_simp <;> with_reducible rfl) ?_
  simp only [Act.put, sA, sB, sC]
  refine tk (i := 8) (oi := ⟨some 14, .slice 113 (.tmp 12) none (some (.tmp 13)) none, 118, "disk.go:153", #[⟨6, .data⟩, ⟨7, .data⟩], none⟩) hH.out (by rintro w ⟨s0, s1⟩; go_simp <;> with_reducible rfl) ?_
  simp only [Act.put, sA, sB, sC]
  refine tk (i := 9) (oi := ⟨some 15, .fieldAddr 115 (.tmp 4) 1, 0, "disk.go:153", #[], none⟩) hH.out (by rintro w ⟨s0, s1⟩; go_simp <;> with_reducible rfl) ?_
  simp only [Act.put, sA, sB, sC]
  refine tk (i := 10) (oi := ⟨some 16, .move (.tmp 2), 3, "disk.go:153", #[], none⟩) hH.out (by rintro w ⟨s0, s1⟩; go_simp <;> with_reducible rfl) ?_
  simp only [Act.put, sA, sB, sC]
  refine tk (i := 11) (oi := ⟨some 17, .slice 113 (.tmp 15) none (some (.tmp 16)) none, 118, "disk.go:153", #[⟨9, .data⟩, ⟨10, .data⟩], none⟩) hH.out (by rintro w ⟨s0, s1⟩; go_simp <;> with_reducible rfl) ?_
  simp only [Act.put, sA, sB, sC]
  refine rdy (i := 12) (oi := ⟨some 18, .call ⟨.builtin .copy, #[.tmp 14, .tmp 17], #[118, 118]⟩, 3, "disk.go:153", #[⟨8, .data⟩, ⟨11, .data⟩], none⟩) (fun K hK => ?_)
  refine step_copy_cells rfl (.tmp 14) (.tmp 17) 118 118 rfl 5 Tryz.underlying118 infoU8s gl (at_ * 128) m 128 m 128 ⟨z, 1, none⟩ rfl rfl X (by rw [HL.out]; exact (Nat.min_self m).symm) HS.out HT.out H1.out ?_
  refine hK.out _ _ (by first | exact ⟨c0, k0⟩ | exact ⟨C1.out, K1.out⟩) (fun hHeld => ?_)
  replace hH := Lib.hid hHeld
  clear hK K hHeld
  try simp only [Act.put, sA, sB, sC]
  refine wpAnyH_done (by kernel_rfl) ?_ _
  go_wp2
  go_end0
  exact ⟨rfl, HF.out⟩
end Go.Proofs.YtcglfknkkeaegaaGreatDoor
