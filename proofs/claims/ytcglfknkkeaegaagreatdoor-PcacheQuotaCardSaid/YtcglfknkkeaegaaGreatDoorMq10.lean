/- take: homes are as a transaction has them. lay: a piece is written at its place. Write, Sync. slices.Sorted(maps.Keys(m)) at a map of ints: the library's contracts. -/
import Derived.Test.YtcglfknkkeaegaaGreatDoorMq09
import Derived.Shelf.SlIterI.Nil
import Derived.Shelf.SortM.Plain
import Derived.Shelf.SortM.SortNone
namespace Go.Proofs.YtcglfknkkeaegaaGreatDoor
open Go.RowKit Go.Maps

section
variable {ops : Array Oper} {o : Oper} {a : Act} {w : World} {Q : Exit → Act → World → Prop} {K : Act → World → Prop} {E : Prop}
theorem st_load_sec (hgd : o.guard = none) (x : Operand) (ho : o.op = .load 182 x) (b off : Nat) (l : List Nat) (hl : l.length = 128) (hc : w.rangeAt b off (l.map u8)) (hx : a.eval x = .pointer (some ⟨b, off, none⟩))
    (h : K (a.put o.dst (.agg (l.map u8).toArray)) w) : if Region.wanted o (yielded ops a.tmps) = true then Oper.wp Tryz.prog o a w K Q else E := by
  rw [if_pos (by simp [Region.wanted, hgd])]
  exact wp_load_mid 182 x ho b off hx (l.map u8) _ hc Tryz.underlying182 rfl (by rw [sizeSec, List.length_map, hl]) h
theorem st_s2a_sec (hgd : o.guard = none) (x : Operand) (ho : o.op = .sliceToArrayPointer 182 x) (A : Option Addr) (c : Nat) (hx : a.eval x = .slice A 128 c)
    (h : K (a.put o.dst (.pointer A)) w) : if Region.wanted o (yielded ops a.tmps) = true then Oper.wp Tryz.prog o a w K Q else E := by
  rw [if_pos (by simp [Region.wanted, hgd])]
  unfold Oper.wp execOp
  simp [ho, hx, Instr.arrayAt, run_underlying Tryz.underlying182, Result.andThen]
  exact h
theorem st_upd (hgd : o.guard = none) (m x v : Operand) (ho : o.op = Op.mapUpdate 143 m x v) (b N i : Nat) (A : Nat → Option (List Nat)) (l : List Nat) (hM : Mp w b N A) (hm : a.eval m = .map (some b)) (hx : a.eval x = .int .i64 (i : Int)) (hv : a.eval v = .agg (l.map u8).toArray) (hi : i < N) (hN : N ≤ 4096)
    (hK : ∀ w', Mp w' b N (setA A i l) → w.grownBy w' (some b) → K (a.put o.dst undef) w') : if Region.wanted o (yielded ops a.tmps) = true then Oper.wp Tryz.prog o a w K Q else E := by
  rw [if_pos (by simp [Region.wanted, hgd])]
  obtain ⟨D, h, d⟩ := hM
  obtain ⟨w', hrun, r1, r2⟩ := h.update keyed_int Tryz.underlying143 (by have := cnt_le A N; unfold maxLen; omega) (key_ik (i := i) (by omega)) (secR_mk l)
  unfold Oper.wp
  simp [execOp, ho, hm, hx, hv, hrun, Result.andThen]
  refine hK w' ⟨_, ?_, d.put hi⟩ r2
  obtain ⟨es, c, h1, h2, h3, h4⟩ := r1
  refine ⟨es, c, h1, h2, ?_, h4⟩
  have e1 := (d.put (l := l) hi).size
  rw [h4] at e1
  rw [← e1]
  simp [Maps.size, length_sorted]
end

def putA (A : Nat → Option (List Nat)) (ps : List Pt) : Nat → Option (List Nat) := ps.foldl (fun A p => setA A p.a.toNat p.d) A
theorem putA_next (A : Nat → Option (List Nat)) (ps : List Pt) {k : Nat} (h : k < ps.length) : putA A (ps.take (k + 1)) = setA (putA A (ps.take k)) ps[k].a.toNat ps[k].d := by
  unfold putA
  rw [List.take_succ_eq_append_getElem h, List.foldl_append]
  rfl
def LS.putAll (g : LS) (ps : List Pt) (m : Nat) : LS := { g with next := g.next + m, A := putA g.A ps }
def TkL (w : World) (l b d n N : Nat) (g : LS) (ps : List Pt) (t : Value) (wr : World) : Prop := ∃ k : Nat, k ≤ ps.length ∧ t = .int .i64 (k : Int) ∧ Lg wr l b d n N { g with A := putA g.A (ps.take k) } ∧ Adv (LF l b) w (LF l b) wr
theorem Lg.setNext {w : World} {l b d n N : Nat} {g : LS} (h : Lg w l b d n N g) (m : Nat) : Lg (w.setCell ⟨l, 5, none⟩ (.int .u64 (m : Int))) l b d n N { g with next := m } :=
  ⟨h.blk.set_ 5 _, h.mp.keep (Below.heap_setCell w _ _ b (fun e => h.ne e.symm))⟩
theorem take_cells {w : World} {l z : Nat} {m u v : Value} {t : TypeId} (h1 : w.cell? ⟨l, 7, none⟩ = some m) (h2 : Blk w z t #[u, v]) : w.cell? ⟨l, 7, none⟩ = some m ∧ w.cell? ⟨z, 0, none⟩ = some u ∧ w.cell? ⟨z, 1, none⟩ = some v := ⟨h1, h2.cell 0, h2.cell 1⟩

set_option maxRecDepth 3000 in
set_option maxHeartbeats 6400000 in
theorem gtake_lg (l b d n N m : Nat) (g : LS) (A0 : Option Addr) (M k0 : Nat) (ps : List Pt) (w : World) (h : Lg w l b d n N g) (hq : QRd w (LF l b) (.slice A0 M k0) ps) (ht : isTx ps ((N - 2 - n : Nat) : Int)) (hN : N ≤ 4096) (hm : g.next + m < 18446744073709551616) :
    Calls Tryz.prog 114 #[.pointer (some ⟨l, 0, none⟩), .slice A0 M k0, .int .i64 (m : Int)] w fun e w' => e = .returned (.tuple #[]) ∧ Lg w' l b d n N (g.putAll ps m) ∧ Adv (LF l b) w (LF l b) w' := by
  have hM := hq.len.1
  have hM24 : M ≤ 24 := by have := ht.1.2; omega
  have hMI : (M : Int) ≤ 24 := by omega
  have HQ := Lib.hid hq
  have HM := Lib.hid hM
  have HT := Lib.hid ht
  have HN := Lib.hid hN
  have HL := Lib.hid h
  have HMM := Lib.hid hm
  clear h hq ht hN hm hM hM24
  go_enter Tryz.func114, Tryz.ntmps114
  go_wp2_with fail
  go_loopw [10] (TkL w l b d n N g ps) (fun t _ => M - (intOf t).toNat)
  case atStart => exact ⟨0, Nat.zero_le _, rfl, HL.out, Adv.refl _ _⟩
  case round =>
    obtain ⟨k, hk, rfl, hl, ha⟩ := hrel
    by_cases hlt : k < M
    · have hki : (k : Int) < (M : Int) := by omega
      have hkp : k < ps.length := by rw [← HM.out]; exact hlt
      obtain ⟨b1, o, a, q, rfl, hb1, ⟨c0, c1⟩, hr, hsep⟩ := (HQ.out.adv ha (fun _ x => x) (fun _ x => .inl x)).row hkp
      have hrow := HT.out.row _ (List.getElem_mem hkp)
      have hnx := putA_next g.A ps hkp
      obtain ⟨p, hp⟩ : ∃ p, p = ps[k] := ⟨_, rfl⟩
      rw [← hp] at c0 c1 hr hsep hrow hnx
      clear hp
      obtain ⟨pa, pd⟩ := p
      simp only at c0 c1 hr hsep hrow hnx
      obtain ⟨⟨hr0, hr1⟩, hdl⟩ := hrow
      obtain ⟨x, rfl⟩ := Int.eq_ofNat_of_zero_le hr0
      rw [hdl] at c1 hr hsep
      have hnx' : putA g.A (ps.take (k + 1)) = setA (putA g.A (ps.take k)) x pd := hnx
      obtain ⟨A', hA'⟩ : ∃ A', A' = putA g.A (ps.take k) := ⟨_, rfl⟩
      rw [← hA'] at hl hnx'
      obtain ⟨V, hV⟩ : ∃ V, V = wr.alloc (.cells #[.int .i64 (x : Int), .slice a 128 q] 133) := ⟨_, rfl⟩
      obtain ⟨z, hz⟩ : ∃ z, z = wr.heap.size := ⟨_, rfl⟩
      have hav : Adv Nul wr Nul V := by rw [hV]; exact (Adv.refl _ _).alloc _
      have hlv := hl.far hav (fun _ x _ => x)
      have hzb : Blk V z 133 #[.int .i64 (x : Int), .slice a 128 q] := by rw [hV, hz]; exact Blk.new _ _ _
      have hrv := hr.far (fun _ _ _ h => hav.block _ h (fun h => h)) hav.size
      obtain ⟨b2, o2, rfl, hb2, hcs⟩ := hrv.cells (by decide) (by decide)
      have hzl : z ≠ b := by rw [hz]; have := hl.mp.lt; omega
      have HC := Lib.hid (take_cells hlv.cells.2.2.2.2.2.2.2.1 hzb)
      have HCD := Lib.hid (take_cells (w := V.drew) hlv.cells.2.2.2.2.2.2.2.1 hzb)
      have HRNG := Lib.hid (show V.drew.rangeAt b2 o2 (pd.map u8) from hcs)
      have HMP := Lib.hid (show Mp V.drew b (N - 2 - n) A' from hlv.mp)
      have HLV := Lib.hid hlv
      have HZB := Lib.hid hzb
      have HZL := Lib.hid hzl
      have HAV := Lib.hid (show Adv (LF l b) w (LF l b) V by rw [hV]; exact ha.alloc _)
      have HDL := Lib.hid hdl
      have HX := Lib.hid (show x < N - 2 - n by omega)
      have HN2 := Lib.hid (show N - 2 - n ≤ 4096 by have := HN.out; omega)
      have HNX := Lib.hid hnx'
      have HV := Lib.hid hV
      have HZ := Lib.hid hz
      have HLT := Lib.hid hlt
      have HKP := Lib.hid hkp
      clear hlt hr hr0 hr1 hdl hnx hnx' hA' hav hlv hzb hrv hb2 hcs hzl hsep hb1 hl ha hV hz hkp hk
      go_upto_region 3 with (fail)
      rw [← HV.out, ← HZ.out]
      clear c0 c1
      obtain ⟨c7, z0, z1⟩ := HC.out
      refine rstart (S := (fun w' => w'.cell? ⟨l, 7, none⟩ = some (.map (some b)) ∧ w'.cell? ⟨z, 0, none⟩ = some (.int .i64 (x : Int)) ∧ w'.cell? ⟨z, 1, none⟩ = some (.slice (some ⟨b2, o2, none⟩) 128 q))) (by first | with_reducible exact HC6.out | with_reducible exact HCD.out | with_reducible exact HC.out) (fun hH => ?_)
      refine tk (i := 0) (oi := ⟨some 14, .move (.tmp 0), 72, "redo.go:162", #[], none⟩) hH.out (by rintro w ⟨s0, s1, s2⟩; go_simp <;> with_reducible rfl) ?_
      simp only [Act.put, sA, sB, sC]
      refine tk (i := 1) (oi := ⟨some 15, .nilCheck (.tmp 14), 0, "redo.go:162", #[⟨0, .data⟩], none⟩) hH.out (by rintro w ⟨s0, s1, s2⟩; go_simp <;> with_reducible rfl) ?_
      simp only [Act.put, sA, sB, sC]
      refine tk (i := 2) (oi := ⟨some 16, .fieldAddr 145 (.tmp 15) 5, 0, "redo.go:162", #[⟨1, .data⟩], none⟩) hH.out (by rintro w ⟨s0, s1, s2⟩; go_simp <;> with_reducible rfl) ?_
      simp only [Act.put, sA, sB, sC]
      refine tk (i := 3) (oi := ⟨some 17, .load 143 (.tmp 16), 143, "redo.go:162", #[⟨2, .data⟩], none⟩) hH.out (by rintro w ⟨s0, s1, s2⟩; go_simp <;> with_reducible rfl) ?_
      simp only [Act.put, sA, sB, sC]
      refine tk (i := 4) (oi := ⟨some 18, .fieldAddr 133 (.tmp 7) 0, 0, "redo.go:162", #[], none⟩) hH.out (by rintro w ⟨s0, s1, s2⟩; go_simp <;> with_reducible rfl) ?_
      simp only [Act.put, sA, sB, sC]
      refine tk (i := 5) (oi := ⟨some 19, .load 3 (.tmp 18), 3, "redo.go:162", #[⟨4, .data⟩], none⟩) hH.out (by rintro w ⟨s0, s1, s2⟩; go_simp <;> with_reducible rfl) ?_
      simp only [Act.put, sA, sB, sC]
      refine tk (i := 6) (oi := ⟨some 20, .fieldAddr 133 (.tmp 7) 1, 0, "redo.go:162", #[], none⟩) hH.out (by rintro w ⟨s0, s1, s2⟩; go_simp <;> with_reducible rfl) ?_
      simp only [Act.put, sA, sB, sC]
      refine tk (i := 7) (oi := ⟨some 21, .load 118 (.tmp 20), 118, "redo.go:162", #[⟨6, .data⟩], none⟩) hH.out (by rintro w ⟨s0, s1, s2⟩; go_simp <;> with_reducible rfl) ?_
      simp only [Act.put, sA, sB, sC]
      refine rdy (i := 8) (oi := ⟨some 22, .sliceToArrayPointer 182 (.tmp 21), 0, "redo.go:162", #[⟨7, .data⟩], none⟩) (fun K hK => ?_)
      refine st_s2a_sec rfl _ rfl (some ⟨b2, o2, none⟩) q rfl ?_
      refine hK.out _ _ (by first | with_reducible exact HC6.out | with_reducible exact HCD.out | with_reducible exact HC.out) (fun hHeld => ?_)
      replace hH := Lib.hid hHeld
      clear hK K hHeld
      try simp only [Act.put, sA, sB, sC]
      refine rdy (i := 9) (oi := ⟨some 23, .load 182 (.tmp 22), 182, "redo.go:162", #[⟨8, .data⟩], none⟩) (fun K hK => ?_)
      refine st_load_sec rfl _ rfl b2 o2 pd HDL.out HRNG.out rfl ?_
      refine hK.out _ _ (by first | with_reducible exact HC6.out | with_reducible exact HCD.out | with_reducible exact HC.out) (fun hHeld => ?_)
      replace hH := Lib.hid hHeld
      clear hK K hHeld
      try simp only [Act.put, sA, sB, sC]
      refine rdy (i := 10) (oi := ⟨none, .mapUpdate 143 (.tmp 17) (.tmp 19) (.tmp 23), 0, "redo.go:162", #[⟨3, .data⟩, ⟨5, .data⟩, ⟨9, .data⟩, ⟨0, .phase⟩, ⟨1, .phase⟩, ⟨2, .phase⟩, ⟨3, .phase⟩, ⟨4, .phase⟩, ⟨5, .phase⟩, ⟨6, .phase⟩, ⟨7, .phase⟩, ⟨8, .phase⟩, ⟨9, .phase⟩], none⟩) (fun K hK => ?_)
      refine st_upd rfl _ _ _ rfl b (N - 2 - n) x A' pd HMP.out rfl rfl rfl HX.out HN2.out ?_
      intro w6 hM6 hg6
      have hl6 : Lg w6 l b d n N { g with A := setA A' x pd } := ⟨HLV.out.blk.keep (hg6.block l HLV.out.blk.lt (fun e => HLV.out.ne (Option.some.inj e))), hM6⟩
      have HC6 := Lib.hid (take_cells hl6.cells.2.2.2.2.2.2.2.1 (HZB.out.keep (hg6.block z HZB.out.lt (fun e => HZL.out (Option.some.inj e)))))
      have HL6 := Lib.hid hl6
      have HA6 := Lib.hid (HAV.out.drew.grown hg6 (fun k e => .inl (.inr (Option.some.inj e).symm)))
      clear hM6 hg6 hl6
      refine hK.out _ _ (by first | with_reducible exact HC6.out | with_reducible exact HCD.out | with_reducible exact HC.out) (fun hHeld => ?_)
      replace hH := Lib.hid hHeld
      clear hK K hHeld
      try simp only [Act.put]
      refine wpAnyH_done (by kernel_rfl) ?_ _
      go_wp2_with fail
      have hlt := HLT.out
      have hkp := HKP.out
      exact ⟨⟨k + 1, by omega, by go_num, by rw [HNX.out]; exact HL6.out, HA6.out⟩, by simp [intOf] <;> omega⟩
    · obtain rfl : k = M := by have := HM.out; omega
      have e1 : ps.take k = ps := by rw [HM.out, List.take_length]
      rw [e1] at hl
      have c5 := hl.cells.2.2.2.2.2.1
      have hf := hl.blk.frozen 5
      obtain ⟨X, hX⟩ : ∃ X, X = g.next := ⟨_, rfl⟩
      have c5' : wr.cell? ⟨l, 5, none⟩ = some (.int .u64 (X : Int)) := by rw [hX]; exact c5
      have hw1 : IntKind.u64.wrap (m : Int) = (m : Int) := wrapU (by have := HMM.out; omega)
      have hw2 : IntKind.u64.wrap ((X : Int) + (m : Int)) = (X : Int) + (m : Int) := by
        have := wrapU (x := X + m) (by rw [hX]; exact HMM.out)
        rw [Int.natCast_add] at this
        exact this
      have HLS := Lib.hid (show Lg (wr.setCell ⟨l, 5, none⟩ (.int .u64 ((X : Int) + (m : Int)))) l b d n N (g.putAll ps m) by
        have := hl.setNext (g.next + m)
        rw [Int.natCast_add] at this
        rw [hX]
        exact this)
      have HAS := Lib.hid (ha.setCell (p := ⟨l, 5, none⟩) (.inl (.inl rfl)) (.int .u64 ((X : Int) + (m : Int))))
      clear hk hlt hl ha c5 e1 hX
      go_wp2_with fail
      go_end0
      exact ⟨rfl, HLS.out, HAS.out⟩
end Go.Proofs.YtcglfknkkeaegaaGreatDoor
namespace Go.Proofs.YtcglfknkkeaegaaGreatDoor
open Go.RowKit Go.Maps

theorem pcell5 {w : World} {z : Nat} {t : TypeId} {u0 u1 u2 u3 u4 : Value} (h : Blk w z t #[u0, u1, u2, u3, u4]) : w.cell? ⟨z, 0, none⟩ = some u0 ∧ w.cell? ⟨z, 1, none⟩ = some u1 ∧ w.cell? ⟨z, 2, none⟩ = some u2 ∧ w.cell? ⟨z, 3, none⟩ = some u3 ∧ w.cell? ⟨z, 4, none⟩ = some u4 := ⟨h.cell 0, h.cell 1, h.cell 2, h.cell 3, h.cell 4⟩
def LayR (w : World) (F : Nat → Prop) (d N : Nat) (r : DS × Int) (e : Ending) (w' : World) : Prop := e = .returned (.int .i64 r.2) ∧ ∃ F', Dk w' F' d N r.1 ∧ Adv F w F' w'

set_option maxRecDepth 3000 in
set_option maxHeartbeats 6400000 in
theorem glay_lg (l b d n N : Nat) (g : LS) (F : Nat → Prop) (s : DS) (p : Pc) (A : Option Addr) (k : Nat) (w : World) (h : Lg w l b d n N g) (hd : Dk w F d N s) (hsep : Sep F (LF l b)) (hok : p.ok) (hr : Rd w 1 (.slice A p.d.length k) p.d.length (p.d.map u8)) (h8 : ∀ x ∈ p.d, x < 256) (hq : s.Q.length ≤ 1000000) (hn : 1 ≤ n ∧ n ≤ 100000) :
    Calls Tryz.prog 134 #[.pointer (some ⟨l, 0, none⟩), .agg #[.int .u64 (p.e : Int), .int .u64 (p.c : Int), .bool p.f, .bool p.g, .slice A p.d.length k]] w (LayR w F d N (writeS s ((2 + p.c % n : Nat) : Int) (sealL p))) := by
  obtain ⟨V, hV⟩ : ∃ V, V = w.alloc (.cells #[.int .u64 (p.e : Int), .int .u64 (p.c : Int), .bool p.f, .bool p.g, .slice A p.d.length k] 177) := ⟨_, rfl⟩
  obtain ⟨z, hz⟩ : ∃ z, z = w.heap.size := ⟨_, rfl⟩
  have hav : Adv Nul w Nul V := by rw [hV]; exact (Adv.refl _ _).alloc _
  have hzb : Blk V z 177 #[.int .u64 (p.e : Int), .int .u64 (p.c : Int), .bool p.f, .bool p.g, .slice A p.d.length k] := by rw [hV, hz]; exact Blk.new _ _ _
  have HSEAL := Lib.hid (seal_any p (.slice A p.d.length k) V (hr.far (fun _ _ _ h => hav.block _ h (fun h => h)) hav.size) h8)
  have HLG := Lib.hid (h.far hav (fun _ x _ => x))
  have HDK := Lib.hid (hd.far hav (fun _ x _ => x))
  have HZB := Lib.hid hzb
  have HAV := Lib.hid hav
  have HSEP := Lib.hid hsep
  have HOK := Lib.hid hok
  have HQ := Lib.hid hq
  have HN := Lib.hid hn
  have HV := Lib.hid hV
  have HZ := Lib.hid hz
  have hzf : ¬ F z := fun x => by have := hd.bd z x; omega
  have HZF := Lib.hid hzf
  obtain ⟨R, hR⟩ : ∃ R, R = writeS s ((2 + p.c % n : Nat) : Int) (sealL p) := ⟨_, rfl⟩
  rw [← hR]
  have HR := Lib.hid hR
  obtain ⟨⟨e, c, f, gg, D⟩, hp⟩ : ∃ q, q = p := ⟨_, rfl⟩
  have HP := Lib.hid hp
  obtain ⟨m, hm⟩ : ∃ m, m = D.length := ⟨_, rfl⟩
  have hpm : p.d.length = m := by rw [← hp, hm]
  have hpe : p.e = e := by rw [← hp]
  have hpc : p.c = c := by rw [← hp]
  have hpf : p.f = f := by rw [← hp]
  have hpg : p.g = gg := by rw [← hp]
  rw [hpm, hpe, hpc, hpf, hpg] at HSEAL HZB HV ⊢
  rw [hpc] at HR
  have HRC := Lib.hid (show R = writeS s ((2 + c % n : Nat) : Int) (sealL p) from HR.out)
  obtain ⟨z0, z1, z2, z3, z4⟩ := pcell5 HZB.out
  clear h hd hsep hok hr h8 hq hn hV hz hav hzb hzf hR hp hm hpm hpe hpc hpf hpg HR
  go_enter Tryz.func134, Tryz.ntmps134
  go_upto_region 1 with (fail)
  rw [← HV.out, ← HZ.out]
  go_wp2_with fail
  refine HSEAL.out.mono ?_
  intro x w1 h1
  obtain ⟨A1, m1, k1, F1, rfl, a1, p1, -⟩ := h1
  obtain ⟨rfl, hs⟩ := p1 HOK.out
  have he : sealE p = 0 := by rw [sealE, if_pos HOK.out]
  rw [he]
  have a1' := a1.sub (G := Nul) (fun _ x => x.elim)
  have HL1 := Lib.hid (HLG.out.far a1' (fun _ x _ => x))
  have hd1 := HDK.out.far a1' (fun _ x _ => x)
  have HA1 := Lib.hid (HAV.out.trans a1')
  have HC := Lib.hid (show w1.cell? ⟨l, 0, none⟩ = some (.pointer (some ⟨d, 0, none⟩)) ∧ w1.cell? ⟨z, 1, none⟩ = some (.int .u64 (c : Int)) from ⟨HL1.out.cells.1, (HZB.out.keep (a1.block z HZB.out.lt (fun x => x))).cell 1⟩)
  have HCD := Lib.hid (show w1.drew.cell? ⟨l, 0, none⟩ = some (.pointer (some ⟨d, 0, none⟩)) ∧ w1.drew.cell? ⟨z, 1, none⟩ = some (.int .u64 (c : Int)) from HC.out)
  have HPL := Lib.hid (gplace_lg (w := w1.drew) c (show Lg w1.drew l b d n N g from ⟨HL1.out.blk, HL1.out.mp⟩) HN.out)
  have HWR := Lib.hid (show Calls Tryz.prog 165 #[.pointer (some ⟨d, 0, none⟩), .int .i64 ((2 + c % n : Nat) : Int), .slice A1 128 k1] w1.drew fun e w' => e = .returned (.int .i64 R.2) ∧ ∃ F', Dk w' F' d N R.1 ∧ Adv F w1.drew F' w' by
    rw [HRC.out]
    exact write_dk d N 128 _ _ F s (sealL p) w1.drew (hd1.far ((Adv.refl Nul w1).drew) (fun _ x _ => x)) hs.drew.rd (fun j hj hf => by
      rcases a1.into j (hs.inF j hj) with h | h
      · exact h
      · have := HDK.out.bd j hf; omega) HQ.out)
  have HFR := Lib.hid (show ∀ (F' : Nat → Prop) (w' : World), Adv F w1.drew F' w' → w'.cell? ⟨l, 0, none⟩ = some (.pointer (some ⟨d, 0, none⟩)) ∧ w'.cell? ⟨z, 1, none⟩ = some (.int .u64 (c : Int)) from fun F' w' a => by
    have hb : ∀ j, j < w1.heap.size → ¬ F j → w'.heap[j]? = w1.heap[j]? := a.block
    exact ⟨(HL1.out.blk.keep (hb l HL1.out.blk.lt (fun x => HSEP.out l x (.inl rfl)))).cell 0, (((HZB.out.keep (a1.block z HZB.out.lt (fun x => x))).keep (hb z (Nat.lt_of_lt_of_le HZB.out.lt a1.size) HZF.out))).cell 1⟩)
  obtain ⟨RE, hRE⟩ : ∃ E, E = R.2 := ⟨_, rfl⟩
  rw [← hRE] at HWR
  have HRE := Lib.hid hRE
  obtain ⟨pl, hpl⟩ : ∃ x, x = 2 + c % n := ⟨_, rfl⟩
  rw [← hpl] at HPL HWR
  clear a1 a1' hs p1 hd1 he hRE hpl z0 z1 z2 z3 z4
  obtain ⟨c0, z1⟩ := HC.out
  go_wp2_with fail
  refine rstart (S := (fun w' => w'.cell? ⟨l, 0, none⟩ = some (.pointer (some ⟨d, 0, none⟩)) ∧ w'.cell? ⟨z, 1, none⟩ = some (.int .u64 (c : Int)))) (by first | with_reducible exact HC9.out | with_reducible exact HCD.out | with_reducible exact HC.out) (fun hH => ?_)
  refine tk (i := 0) (oi := ⟨some 15, .move (.tmp 0), 72, "ring.go:61", #[], none⟩) hH.out (by rintro w ⟨s0, s1⟩; go_simp <;> with_reducible rfl) ?_
  simp only [Act.put, sA, sB, sC]
  refine tk (i := 1) (oi := ⟨some 16, .nilCheck (.tmp 15), 0, "ring.go:61", #[⟨0, .data⟩], none⟩) hH.out (by rintro w ⟨s0, s1⟩; go_simp <;> with_reducible rfl) ?_
  simp only [Act.put, sA, sB, sC]
  refine tk (i := 2) (oi := ⟨some 17, .fieldAddr 145 (.tmp 16) 0, 0, "ring.go:61", #[⟨1, .data⟩], none⟩) hH.out (by rintro w ⟨s0, s1⟩; go_simp <;> with_reducible rfl) ?_
  simp only [Act.put, sA, sB, sC]
  refine tk (i := 3) (oi := ⟨some 18, .load 25 (.tmp 17), 25, "ring.go:61", #[⟨2, .data⟩], none⟩) hH.out (by rintro w ⟨s0, s1⟩; go_simp <;> with_reducible rfl) ?_
  simp only [Act.put, sA, sB, sC]
  refine tk (i := 4) (oi := ⟨some 19, .move (.tmp 0), 72, "ring.go:61", #[], none⟩) hH.out (by rintro w ⟨s0, s1⟩; go_simp <;> with_reducible rfl) ?_
  simp only [Act.put, sA, sB, sC]
  refine tk (i := 5) (oi := ⟨some 20, .fieldAddr 177 (.tmp 3) 1, 0, "ring.go:61", #[], none⟩) hH.out (by rintro w ⟨s0, s1⟩; go_simp <;> with_reducible rfl) ?_
  simp only [Act.put, sA, sB, sC]
  refine tk (i := 6) (oi := ⟨some 21, .load 38 (.tmp 20), 38, "ring.go:61", #[⟨5, .data⟩], none⟩) hH.out (by rintro w ⟨s0, s1⟩; go_simp <;> with_reducible rfl) ?_
  simp only [Act.put, sA, sB, sC]
  refine tk (i := 8) (oi := ⟨some 23, .move (.tmp 5), 118, "ring.go:61", #[], none⟩) hH.out (by rintro w ⟨s0, s1⟩; go_simp <;> with_reducible rfl) ?_
  simp only [Act.put, sA, sB, sC]
  refine rdy (i := 7) (oi := ⟨some 22, .call ⟨.value (.func 145), #[.tmp 19, .tmp 21], #[72, 38]⟩, 3, "ring.go:61", #[⟨4, .data⟩, ⟨6, .data⟩], none⟩) (fun K hK => ?_)
  go_simp
  refine HPL.out.mono ?_
  rintro x w2 ⟨rfl, rfl⟩
  go_wp2_with fail
  refine hK.out _ _ (by first | with_reducible exact HC9.out | with_reducible exact HCD.out | with_reducible exact HC.out) (fun hHeld => ?_)
  replace hH := Lib.hid hHeld
  clear hK K hHeld
  try simp only [Act.put, sA, sB, sC]
  refine rdy (i := 9) (oi := ⟨some 24, .call ⟨.value (.func 165), #[.tmp 18, .tmp 22, .tmp 23], #[25, 3, 118]⟩, 26, "ring.go:61", #[⟨3, .data⟩, ⟨7, .data⟩, ⟨8, .data⟩, ⟨7, .chain⟩], none⟩) (fun K hK => ?_)
  go_simp
  refine HWR.out.mono ?_
  rintro x w9 ⟨rfl, F9, k9, a9⟩
  have HC9 := Lib.hid (HFR.out F9 w9 a9)
  have HK9 := Lib.hid k9
  have HA9 := Lib.hid a9
  clear k9 a9
  go_wp2_with fail
  refine hK.out _ _ (by first | with_reducible exact HC9.out | with_reducible exact HCD.out | with_reducible exact HC.out) (fun hHeld => ?_)
  replace hH := Lib.hid hHeld
  clear hK K hHeld
  try simp only [Act.put, sA, sB, sC]
  refine tk (i := 10) (oi := ⟨some 4, .assign (.tmp 24), 26, "ring.go:61", #[⟨9, .data⟩, ⟨9, .chain⟩, ⟨0, .phase⟩, ⟨1, .phase⟩, ⟨2, .phase⟩, ⟨3, .phase⟩, ⟨4, .phase⟩, ⟨5, .phase⟩, ⟨6, .phase⟩, ⟨7, .phase⟩, ⟨8, .phase⟩, ⟨9, .phase⟩], none⟩) hH.out (by rintro w ⟨s0, s1⟩; go_simp <;> with_reducible rfl) ?_
  simp only [Act.put, sA, sB, sC]
  refine wpAnyH_done (by kernel_rfl) ?_ _
  go_wp2_with fail
  go_ret
  refine ⟨by rw [HRE.out]; rfl, F9, HK9.out, ?_⟩
  have := HA1.out
  exact ⟨HA9.out.os.trans this.os, HA9.out.tape.trans this.tape, HA9.out.output.trans this.output, Nat.le_trans this.size HA9.out.size, fun j hj hn => (HA9.out.block j (Nat.lt_of_lt_of_le hj this.size) hn).trans (this.block j hj (fun x => x)), fun j hj => (HA9.out.into j hj).imp id (fun h => Nat.le_trans this.size h)⟩
end Go.Proofs.YtcglfknkkeaegaaGreatDoor
namespace Go.Proofs.YtcglfknkkeaegaaGreatDoor
open Go.RowKit Go.Maps

theorem PRdG.adv {w w' : World} {G G' F F' : Nat → Prop} {v : Value} {ps : List Pc} (h : PRdG w G v ps) (ha : Adv F w F' w') (hF : ∀ k, F k → G k) (hG : ∀ k, G' k → G k ∨ w.heap.size ≤ k) : PRdG w' G' v ps := by
  obtain ⟨A, k, rfl, h1, h2, h3⟩ := h
  refine ⟨A, k, rfl, h1, h2, fun hn => ?_⟩
  obtain ⟨b, o, rfl, ⟨hb, hg⟩, hc⟩ := h3 hn
  have hk : w'.heap[b]? = w.heap[b]? := ha.block b hb (fun h => hg (hF b h))
  refine ⟨b, o, rfl, ⟨Nat.lt_of_lt_of_le hb ha.size, fun h => ?_⟩, fun i hi => ?_⟩
  · rcases hG b h with h | h
    · exact hg h
    · omega
  · obtain ⟨a, q, c0, c1, c2, c3, c4, hr, hs⟩ := hc i hi
    have e : ∀ j, w'.cell? ⟨b, j, none⟩ = w.cell? ⟨b, j, none⟩ := fun j => World.cell?_of_block hk
    refine ⟨a, q, by rw [e]; exact c0, by rw [e]; exact c1, by rw [e]; exact c2, by rw [e]; exact c3, by rw [e]; exact c4, hr.far (fun j hj hn' hl => ha.block j hl (fun h => hs j hj hn' (hF j h))) ha.size, fun j hj hn' h => ?_⟩
    rcases hG j h with h | h
    · exact hs j hj hn' h
    · have := hr.lt hj hn'; omega
theorem PRdG.row {w : World} {G : Nat → Prop} {A : Option Addr} {n k : Nat} {ps : List Pc} (h : PRdG w G (.slice A n k) ps) {i : Nat} (hi : i < ps.length) : ∃ b o a q, A = some ⟨b, o, none⟩ ∧ Cells5 w b (o + i * 5) ps[i] (.slice a ps[i].d.length q) ∧ Rd w 1 (.slice a ps[i].d.length q) ps[i].d.length (ps[i].d.map u8) := by
  obtain ⟨b, o, a, q, h1, _, h2, h3⟩ := h.prd.row hi
  exact ⟨b, o, a, q, h1, h2, h3⟩
theorem cutP_ok {e c : Nat} {l : List Nat} (h : cutE e c l.length = 0) : ∀ p ∈ cutP e c l, p.ok := fun p hp => by
  obtain ⟨i, hi, rfl⟩ := List.getElem_of_mem hp
  rw [cutP_length] at hi
  rw [cutP_at e c l hi]
  unfold cutE at h
  split at h
  · rename_i hc
    refine ⟨hc.1, ?_, ?_⟩
    · show c + i ≤ _
      omega
    · show ((l.drop (i * 106)).take 106).length ≤ 106
      rw [List.length_take]; omega
  · cases h
theorem cutP_bytes {e c : Nat} {l : List Nat} (h : ∀ x ∈ l, x < 256) : ∀ p ∈ cutP e c l, ∀ x ∈ p.d, x < 256 := fun p hp x hx => by
  obtain ⟨i, hi, rfl⟩ := List.getElem_of_mem hp
  rw [cutP_length] at hi
  rw [cutP_at e c l hi] at hx
  exact h x (List.mem_of_mem_drop (List.mem_of_mem_take hx))

/-- A log and its disk. -/
structure Rs (w : World) (F : Nat → Prop) (d l b n N : Nat) (s : DS) (g : LS) : Prop where
  dk : Dk w F d N s
  lg : Lg w l b d n N g
  sep : Sep F (LF l b)
def UF (F : Nat → Prop) (l b : Nat) : Nat → Prop := fun k => F k ∨ LF l b k
section
variable {w w' : World} {F F' : Nat → Prop} {d l b n N : Nat} {s s' : DS} {g g' : LS}
theorem Rs.bd (h : Rs w F d l b n N s g) : Bd (UF F l b) w := fun k hk => by
  rcases hk with hk | hk
  · exact h.dk.bd k hk
  · exact h.lg.bd k hk
theorem Rs.over (h : Rs w F d l b n N s g) (ha : Adv Nul w F' w') : Rs w' F d l b n N s g :=
  ⟨h.dk.far ha (fun _ x _ => x), h.lg.far ha (fun _ x _ => x), h.sep⟩
theorem Rs.disk (h : Rs w F d l b n N s g) (ha : Adv F w F' w') (k : Dk w' F' d N s') : Rs w' F' d l b n N s' g :=
  ⟨k, h.lg.far ha h.sep, ha.sep h.sep h.lg.bd⟩
theorem Rs.log (h : Rs w F d l b n N s g) (ha : Adv (LF l b) w (LF l b) w') (k : Lg w' l b d n N g') : Rs w' F d l b n N s g' :=
  ⟨h.dk.far ha h.sep.symm, k, h.sep⟩
theorem adv_disk (ha : Adv F w F' w') : Adv (UF F l b) w (UF F' l b) w' :=
  ⟨ha.os, ha.tape, ha.output, ha.size, fun k hk hn => ha.block k hk (fun x => hn (.inl x)), fun k hk => by
    rcases hk with hk | hk
    · exact (ha.into k hk).imp .inl id
    · exact .inl (.inr hk)⟩
theorem adv_log (ha : Adv (LF l b) w (LF l b) w') : Adv (UF F l b) w (UF F l b) w' := ha.same (fun _ x => .inr x)
theorem adv_nul (ha : Adv Nul w F' w') : Adv (UF F l b) w (UF F l b) w' := ha.same (fun _ x => x.elim)
end
/-- what holds of each log -/
structure GOk (n N : Nat) (s : DS) (g : LS) : Prop where
  hn : 2 ≤ n ∧ n + 3 ≤ N ∧ N ≤ 4096
  q : s.Q.length ≤ 900000
  tn : g.h.t ≤ g.next
  fr : g.next - g.h.t ≤ n
  nx : g.next ≤ 1099511627776
  ep : g.ep ≤ 16777215

/-- a transaction's pieces are laid -/
def layAll (s : DS) (n : Nat) : List Pc → DS × Int
  | [] => (s, 0)
  | p :: ps => if (writeS s ((2 + p.c % n : Nat) : Int) (sealL p)).2 = 0 then layAll (writeS s ((2 + p.c % n : Nat) : Int) (sealL p)).1 n ps else writeS s ((2 + p.c % n : Nat) : Int) (sealL p)
def freeG (n : Nat) (g : LS) : Nat := n - (g.next - g.h.t)
def writeG (s : DS) (n N : Nat) (g : LS) (ps : List Pt) : (DS × LS) × Int :=
  if g.err = 0 then
    if isTx ps ((N - 2 - n : Nat) : Int) then
      if cutE g.ep g.next (recB ps).length = 0 ∧ needT ps ≤ freeG n g then
        if (layAll s n (cutP g.ep g.next (recB ps))).2 = 0 then (((layAll s n (cutP g.ep g.next (recB ps))).1, g.putAll ps (needT ps)), 0)
        else (((layAll s n (cutP g.ep g.next (recB ps))).1, { g with err := (layAll s n (cutP g.ep g.next (recB ps))).2 }), (layAll s n (cutP g.ep g.next (recB ps))).2)
      else ((s, g), 8)
    else ((s, g), 2)
  else ((s, g), g.err)
def WrR (w : World) (F : Nat → Prop) (d l b n N : Nat) (r : (DS × LS) × Int) (e : Ending) (w' : World) : Prop := e = .returned (.int .i64 r.2) ∧ ∃ F', Rs w' F' d l b n N r.1.1 r.1.2 ∧ Adv (UF F l b) w (UF F' l b) w'
def WrL (W : World) (F0 : Nat → Prop) (d l b n N : Nat) (s0 : DS) (g : LS) (P : List Pc) (t : Value) (wr : World) : Prop :=
  ∃ (k : Nat) (sk : DS) (Fk : Nat → Prop), k ≤ P.length ∧ t = .int .i64 (k : Int) ∧ layAll s0 n P = layAll sk n (P.drop k) ∧ sk.Q.length ≤ s0.Q.length + k ∧ Rs wr Fk d l b n N sk g ∧ Adv (UF F0 l b) W (UF Fk l b) wr
theorem wr_cells {w : World} {l b d n N : Nat} {g : LS} (h : Lg w l b d n N g) : w.cell? ⟨l, 6, none⟩ = some (.int .u64 (g.ep : Int)) ∧ w.cell? ⟨l, 5, none⟩ = some (.int .u64 (g.next : Int)) := ⟨h.cells.2.2.2.2.2.2.1, h.cells.2.2.2.2.2.1⟩

set_option maxRecDepth 3000 in
set_option maxHeartbeats 6400000 in
theorem gwrite_lg (l b d n N : Nat) (g : LS) (F : Nat → Prop) (s : DS) (A0 : Option Addr) (M k0 : Nat) (ps : List Pt) (w : World) (h : Rs w F d l b n N s g) (ok : GOk n N s g) (hq : QRd w (UF F l b) (.slice A0 M k0) ps) (h8 : ∀ p ∈ ps, ∀ x ∈ p.d, x < 256) :
    Calls Tryz.prog 100 #[.pointer (some ⟨l, 0, none⟩), .slice A0 M k0] w (WrR w F d l b n N (writeG s n N g ps)) := by
  obtain ⟨R, hR⟩ : ∃ R, R = writeG s n N g ps := ⟨_, rfl⟩
  rw [← hR]
  have HR := Lib.hid hR
  have HS := Lib.hid h
  have HOK := Lib.hid ok
  have HQ := Lib.hid hq
  have H8 := Lib.hid h8
  have HST := Lib.hid (gstays_lg h.lg)
  obtain ⟨E, hE⟩ : ∃ E, E = g.err := ⟨_, rfl⟩
  rw [← hE] at HST
  have HE := Lib.hid hE
  clear h ok hq h8 hR hE
  by_cases h0 : E = 0
  · subst h0
    have HHM := Lib.hid (ghomes_lg HS.out.lg HS.out.dk HOK.out.hn.2.2 (by have := HOK.out.hn; omega))
    obtain ⟨Hm, hHm⟩ : ∃ x, x = N - 2 - n := ⟨_, rfl⟩
    rw [← hHm] at HHM
    have HHm := Lib.hid hHm
    clear hHm
    go_enter Tryz.func100, Tryz.ntmps100
    go_wp2_with fail
    refine HST.out.mono ?_
    rintro x w1 ⟨rfl, rfl⟩
    go_wp2_with fail
    refine HHM.out.mono ?_
    rintro x w1 ⟨rfl, k1, rfl⟩
    have HA1 := Lib.hid ((Adv.refl Nul w).drewN k1)
    have HTX := Lib.hid (istx_any A0 M k0 ps (Hm : Int) _ (w.drewN k1) (HQ.out.step HA1.out))
    obtain ⟨B, hB⟩ : ∃ B, B = decide (isTx ps (Hm : Int)) := ⟨_, rfl⟩
    rw [← hB] at HTX
    have HB := Lib.hid hB
    clear hB
    go_wp2_with fail
    refine HTX.out.mono ?_
    rintro x w2 ⟨rfl, a2⟩
    have HA2 := Lib.hid (HA1.out.trans a2)
    have HS2 := Lib.hid (HS.out.over HA2.out)
    clear a2
    cases B with
    | false =>
      have HF := Lib.hid (show WrR w F d l b n N R (.returned (.int .i64 2)) w2 by
        rw [HR.out]
        unfold writeG
        rw [if_pos HE.out.symm, ← HHm.out, if_neg (of_decide_eq_false HB.out.symm)]
        exact ⟨rfl, F, HS2.out, adv_nul HA2.out⟩)
      go_wp2_with fail
      go_ret
      exact HF.out
    | true =>
      have HT := Lib.hid (of_decide_eq_true HB.out.symm)
      have HT4 := Lib.hid (show isTx ps 4096 from HT.out.mono (by have := HHm.out; have := HOK.out.hn; omega))
      obtain ⟨ep, hep⟩ : ∃ x, x = g.ep := ⟨_, rfl⟩
      obtain ⟨nx, hnx⟩ : ∃ x, x = g.next := ⟨_, rfl⟩
      have hc2 := wr_cells HS2.out.lg
      rw [← hep, ← hnx] at hc2
      have HC2 := Lib.hid hc2
      have HC2D := Lib.hid (show w2.drew.cell? ⟨l, 6, none⟩ = some (.int .u64 (ep : Int)) ∧ w2.drew.cell? ⟨l, 5, none⟩ = some (.int .u64 (nx : Int)) from hc2)
      have HKEEP := Lib.hid (show ∀ (w' : World), Adv Nul w2.drew Nul w' → w'.cell? ⟨l, 6, none⟩ = some (.int .u64 (ep : Int)) ∧ w'.cell? ⟨l, 5, none⟩ = some (.int .u64 (nx : Int)) from fun w' a => by
        have := wr_cells (HS2.out.over (Adv.of_drew a)).lg
        rw [← hep, ← hnx] at this
        exact this)
      have HCUT := Lib.hid (gcut_any ep nx A0 M k0 ps _ w2.drew (HQ.out.step (HA2.out.drew)) HT4.out H8.out)
      have HEP := Lib.hid hep
      have HNX := Lib.hid hnx
      obtain ⟨c6, c5⟩ := hc2
      clear hep hnx
      go_wp2_with fail
      refine rstart (S := (fun w' => w'.cell? ⟨l, 6, none⟩ = some (.int .u64 (ep : Int)) ∧ w'.cell? ⟨l, 5, none⟩ = some (.int .u64 (nx : Int)))) (by first | with_reducible exact HC3.out | with_reducible exact HC2D.out | with_reducible exact HC2.out) (fun hH => ?_)
      refine tk (i := 0) (oi := ⟨some 22, .move (.tmp 0), 72, "redo.go:92", #[], none⟩) hH.out (by rintro w ⟨s0, s1⟩; go_simp <;> with_reducible rfl) ?_
      simp only [Act.put, sA, sB, sC]
      refine tk (i := 1) (oi := ⟨some 23, .nilCheck (.tmp 22), 0, "redo.go:92", #[⟨0, .data⟩], none⟩) hH.out (by rintro w ⟨s0, s1⟩; go_simp <;> with_reducible rfl) ?_
      simp only [Act.put, sA, sB, sC]
      refine tk (i := 2) (oi := ⟨some 24, .fieldAddr 145 (.tmp 23) 4, 0, "redo.go:92", #[⟨1, .data⟩], none⟩) hH.out (by rintro w ⟨s0, s1⟩; go_simp <;> with_reducible rfl) ?_
      simp only [Act.put, sA, sB, sC]
      refine tk (i := 3) (oi := ⟨some 25, .load 38 (.tmp 24), 38, "redo.go:92", #[⟨2, .data⟩], none⟩) hH.out (by rintro w ⟨s0, s1⟩; go_simp <;> with_reducible rfl) ?_
      simp only [Act.put, sA, sB, sC]
      refine tk (i := 4) (oi := ⟨some 26, .move (.tmp 0), 72, "redo.go:92", #[], none⟩) hH.out (by rintro w ⟨s0, s1⟩; go_simp <;> with_reducible rfl) ?_
      simp only [Act.put, sA, sB, sC]
      refine tk (i := 5) (oi := ⟨some 27, .nilCheck (.tmp 26), 0, "redo.go:92", #[⟨4, .data⟩], none⟩) hH.out (by rintro w ⟨s0, s1⟩; go_simp <;> with_reducible rfl) ?_
      simp only [Act.put, sA, sB, sC]
      refine tk (i := 6) (oi := ⟨some 28, .fieldAddr 145 (.tmp 27) 3, 0, "redo.go:92", #[⟨5, .data⟩], none⟩) hH.out (by rintro w ⟨s0, s1⟩; go_simp <;> with_reducible rfl) ?_
      simp only [Act.put, sA, sB, sC]
      refine tk (i := 7) (oi := ⟨some 29, .load 38 (.tmp 28), 38, "redo.go:92", #[⟨6, .data⟩], none⟩) hH.out (by rintro w ⟨s0, s1⟩; go_simp <;> with_reducible rfl) ?_
      simp only [Act.put, sA, sB, sC]
      refine tk (i := 8) (oi := ⟨some 30, .move (.tmp 1), 134, "redo.go:92", #[], none⟩) hH.out (by rintro w ⟨s0, s1⟩; go_simp <;> with_reducible rfl) ?_
      simp only [Act.put, sA, sB, sC]
      refine rdy (i := 9) (oi := ⟨some 31, .call ⟨.value (.func 132), #[.tmp 25, .tmp 29, .tmp 30], #[38, 38, 134]⟩, 195, "redo.go:92", #[⟨3, .data⟩, ⟨7, .data⟩, ⟨8, .data⟩], none⟩) (fun K hK => ?_)
      go_simp
      refine HCUT.out.mono ?_
      intro x w3 h3
      obtain ⟨Ap, np, kp, rfl, hp3, a3⟩ := h3
      have HC3 := Lib.hid (HKEEP.out w3 a3)
      have HP3 := Lib.hid (hp3 (UF F l b) (HS2.out.over ((Adv.refl Nul w2).drew)).bd)
      have HA3 := Lib.hid (HA2.out.trans (Adv.of_drew a3))
      obtain ⟨CE, hCE⟩ : ∃ x, x = cutE ep nx (recB ps).length := ⟨_, rfl⟩
      rw [← hCE]
      have HCE := Lib.hid hCE
      clear hp3 a3 hCE
      go_wp2_with fail
      refine hK.out _ _ (by first | with_reducible exact HC3.out | with_reducible exact HC2D.out | with_reducible exact HC2.out) (fun hHeld => ?_)
      replace hH := Lib.hid hHeld
      clear hK K hHeld
      try simp only [Act.put, sA, sB, sC]
      refine tk (i := 10) (oi := ⟨some 21, .move (.tmp 31), 195, "redo.go:92", #[⟨9, .data⟩], none⟩) hH.out (by rintro w ⟨s0, s1⟩; go_simp <;> with_reducible rfl) ?_
      simp only [Act.put, sA, sB, sC]
      refine tk (i := 11) (oi := ⟨some 32, .extract (.tmp 21) 0, 173, "redo.go:92", #[⟨10, .data⟩], none⟩) hH.out (by rintro w ⟨s0, s1⟩; go_simp <;> with_reducible rfl) ?_
      simp only [Act.put, sA, sB, sC]
      refine tk (i := 12) (oi := ⟨some 33, .extract (.tmp 21) 1, 26, "redo.go:92", #[⟨10, .data⟩, { on := 13, ground := Go.Ground.gcOnly Go.Departure.lateStores }], none⟩) hH.out (by rintro w ⟨s0, s1⟩; go_simp <;> with_reducible rfl) ?_
      simp only [Act.put, sA, sB, sC]
      refine tk (i := 13) (oi := ⟨some 6, .assign (.tmp 32), 173, "redo.go:92", #[⟨11, .data⟩, ⟨9, .chain⟩, ⟨0, .phase⟩, ⟨1, .phase⟩, ⟨2, .phase⟩, ⟨3, .phase⟩, ⟨4, .phase⟩, ⟨5, .phase⟩, ⟨6, .phase⟩, ⟨7, .phase⟩, ⟨8, .phase⟩, ⟨9, .phase⟩, ⟨10, .phase⟩, ⟨11, .phase⟩, { on := 12, ground := Go.Ground.textOnly Go.Departure.lateStores }], none⟩) hH.out (by rintro w ⟨s0, s1⟩; go_simp <;> with_reducible rfl) ?_
      simp only [Act.put, sA, sB, sC]
      refine tk (i := 14) (oi := ⟨some 7, .assign (.tmp 33), 26, "redo.go:92", #[⟨12, .data⟩, ⟨13, .chain⟩, ⟨0, .phase⟩, ⟨1, .phase⟩, ⟨2, .phase⟩, ⟨3, .phase⟩, ⟨4, .phase⟩, ⟨5, .phase⟩, ⟨6, .phase⟩, ⟨7, .phase⟩, ⟨8, .phase⟩, ⟨9, .phase⟩, ⟨10, .phase⟩, ⟨11, .phase⟩, ⟨12, .phase⟩, ⟨13, .phase⟩], none⟩) hH.out (by rintro w ⟨s0, s1⟩; go_simp <;> with_reducible rfl) ?_
      simp only [Act.put, sA, sB, sC]
      refine wpAnyH_done (by kernel_rfl) ?_ _
      have HS3 := Lib.hid (HS.out.over HA3.out)
      have HBAD := Lib.hid (show ¬ (CE = 0 ∧ needT ps ≤ freeG n g) → ∀ w', Adv Nul w Nul w' → WrR w F d l b n N R (.returned (.int .i64 8)) w' from fun k w' a => by
        rw [HR.out]
        unfold writeG
        rw [if_pos HE.out.symm, ← HHm.out, if_pos HT.out, ← HEP.out, ← HNX.out, ← HCE.out, if_neg k]
        exact ⟨rfl, F, HS.out.over a, adv_nul a⟩)
      clear c6 c5
      by_cases hce : CE = 0
      · subst hce
        have hnp : np = needT ps := by
          rw [HP3.out.prd.len.1, cutV, if_pos HCE.out.symm, cutP_length]; rfl
        have HNP := Lib.hid hnp
        have HFREE := Lib.hid (gfree_lg HS3.out.lg (by have := HOK.out.hn; omega) HOK.out.tn HOK.out.fr)
        obtain ⟨fr, hfr⟩ : ∃ x, x = freeG n g := ⟨_, rfl⟩
        rw [show n - (g.next - g.h.t) = fr by rw [hfr]; rfl] at HFREE
        have HFR := Lib.hid hfr
        clear hnp hfr
        go_wp2_with fail
        refine HFREE.out.mono ?_
        rintro x w4 ⟨rfl, k4, rfl⟩
        have HA4 := Lib.hid (HA3.out.drewN k4)
        by_cases hgt : (fr : Int) < (np : Int)
        · have HF := Lib.hid (HBAD.out (fun k => by have := k.2; rw [← HFR.out, ← HNP.out] at this; omega) _ HA4.out)
          go_wp2_with fail
          go_ret
          exact HF.out
        · have hle : (np : Int) ≤ (fr : Int) := by omega
          clear hgt
          obtain ⟨P, hP⟩ : ∃ P, P = cutP ep nx (recB ps) := ⟨_, rfl⟩
          have hp4 : PRdG (w3.drewN k4) (UF F l b) (.slice Ap np kp) P := by
            have := HP3.out.adv ((Adv.refl Nul w3).drewN k4) (fun _ x => x.elim) (fun _ x => .inl x)
            rw [cutV, if_pos HCE.out.symm] at this
            rw [hP]; exact this
          have HP4 := Lib.hid hp4
          have hPl : np = P.length := hp4.prd.len.1
          have HPL := Lib.hid hPl
          have HPOK := Lib.hid (show ∀ p ∈ P, p.ok by rw [hP]; exact cutP_ok HCE.out.symm)
          have HP8 := Lib.hid (show ∀ p ∈ P, ∀ x ∈ p.d, x < 256 by rw [hP]; exact cutP_bytes (recB_lt ps))
          have hnpI : (np : Int) ≤ 4096 := by have := HOK.out.hn; have := HFR.out; unfold freeG at this; omega
          have HGOOD := Lib.hid (show writeG s n N g ps = (if (layAll s n P).2 = 0 then (((layAll s n P).1, g.putAll ps (needT ps)), 0) else (((layAll s n P).1, { g with err := (layAll s n P).2 }), (layAll s n P).2)) by
            unfold writeG
            rw [if_pos HE.out.symm, ← HHm.out, if_pos HT.out, ← HEP.out, ← HNX.out, if_pos ⟨HCE.out.symm, by rw [← HFR.out, ← HNP.out]; omega⟩, hP])
          have hnf : ((fr : Int) < (np : Int)) = False := eq_false (by omega)
          clear hp4 hPl hP hle
          go_wp2_with fail
          go_loopw [45] (WrL (w3.drewN k4) F d l b n N s g P) (fun t _ => np - (intOf t).toNat)
          case atStart => exact ⟨0, s, F, Nat.zero_le _, rfl, by rw [List.drop_zero], Nat.le_refl _, HS3.out.over ((Adv.refl Nul w3).drewN k4), Adv.refl _ _⟩
          case round =>
            obtain ⟨k, sk, Fk, hk, rfl, hlay, hqk, hrs, had⟩ := hrel
            by_cases hlt : k < np
            · have hki : (k : Int) < (np : Int) := by omega
              have hkp : k < P.length := by rw [← HPL.out]; exact hlt
              obtain ⟨b5, o5, a5, q5, rfl, c5s, hr5⟩ := (HP4.out.adv had (fun _ x => x) (fun _ x => had.into _ x)).row hkp
              have hok := HPOK.out _ (List.getElem_mem hkp)
              have hb8 := HP8.out _ (List.getElem_mem hkp)
              have hdr : P.drop k = P[k] :: P.drop (k + 1) := (List.getElem_cons_drop hkp).symm
              obtain ⟨p, hp⟩ : ∃ p, p = P[k] := ⟨_, rfl⟩
              rw [← hp] at c5s hr5 hok hb8 hdr
              clear hp
              rw [hdr] at hlay
              obtain ⟨Wr, hWr⟩ : ∃ x, x = writeS sk ((2 + p.c % n : Nat) : Int) (sealL p) := ⟨_, rfl⟩
              have hlay2 : layAll s n P = if Wr.2 = 0 then layAll Wr.1 n (P.drop (k + 1)) else Wr := by rw [hlay, hWr]; rfl
              have hqw : Wr.1.Q.length ≤ s.Q.length + (k + 1) := by rw [hWr]; exact Nat.le_trans (few_write sk _ _) (by omega)
              obtain ⟨V, hV⟩ : ∃ V, V = wr.alloc (.cells #[.int .u64 (p.e : Int), .int .u64 (p.c : Int), .bool p.f, .bool p.g, .slice a5 p.d.length q5] 177) := ⟨_, rfl⟩
              obtain ⟨z, hz⟩ : ∃ z, z = wr.heap.size := ⟨_, rfl⟩
              have hav : Adv Nul wr Nul V := by rw [hV]; exact (Adv.refl _ _).alloc _
              have hzb : Blk V z 177 #[.int .u64 (p.e : Int), .int .u64 (p.c : Int), .bool p.f, .bool p.g, .slice a5 p.d.length q5] := by rw [hV, hz]; exact Blk.new _ _ _
              have hrv := hrs.over hav
              have hcall : Calls Tryz.prog 134 #[.pointer (some ⟨l, 0, none⟩), .agg #[.int .u64 (p.e : Int), .int .u64 (p.c : Int), .bool p.f, .bool p.g, .slice a5 p.d.length q5]] V (LayR V Fk d N Wr) := by
                rw [hWr]
                exact glay_lg l b d n N g Fk sk p a5 q5 V hrv.lg hrv.dk hrv.sep hok (hr5.far (fun _ _ _ h => hav.block _ h (fun h => h)) hav.size) hb8 (by have := HOK.out.q; have := HPL.out; omega) (by have := HOK.out.hn; omega)
              have HLAY2 := Lib.hid hlay2
              have HQW := Lib.hid hqw
              have HV := Lib.hid hV
              have HZ := Lib.hid hz
              have HCALL := Lib.hid hcall
              have HRV := Lib.hid hrv
              have HADV := Lib.hid (had.trans (adv_nul (F := Fk) (l := l) (b := b) hav))
              have HC5 := Lib.hid c5s
              have HLT := Lib.hid hlt
              obtain ⟨pe, hpe⟩ : ∃ x, x = p.e := ⟨_, rfl⟩
              obtain ⟨pc, hpc⟩ : ∃ x, x = p.c := ⟨_, rfl⟩
              obtain ⟨pf, hpf⟩ : ∃ x, x = p.f := ⟨_, rfl⟩
              obtain ⟨pg, hpg⟩ : ∃ x, x = p.g := ⟨_, rfl⟩
              obtain ⟨pm, hpm⟩ : ∃ x, x = p.d.length := ⟨_, rfl⟩
              obtain ⟨i0, i1, i2, i3, i4⟩ := c5s
              obtain ⟨WE, hWE⟩ : ∃ x, x = Wr.2 := ⟨_, rfl⟩
              rw [← hpe] at i0 hzb HV HCALL
              rw [← hpc] at i1 hzb HV HCALL
              rw [← hpf] at i2 hzb HV HCALL
              rw [← hpg] at i3 hzb HV HCALL
              rw [← hpm] at i4 hzb HV HCALL
              have HWE := Lib.hid hWE
              have HZB := Lib.hid hzb
              clear hk hlay hqk hrs had hlt hkp hr5 hok hb8 hdr hlay2 hqw hV hz hav hzb hrv hcall hpe hpc hpf hpg hpm hWE hWr HC5
              go_upto_region 12 with (fail)
              rw [← HV.out, ← HZ.out]
              clear i0 i1 i2 i3 i4
              obtain ⟨z0, z1, z2, z3, z4⟩ := pcell5 HZB.out
              go_wp2_with fail
              refine HCALL.out.mono ?_
              rintro x w6 ⟨rfl, F6, k6, a6⟩
              rw [← HWE.out]
              have HS6 := Lib.hid (HRV.out.disk a6 k6)
              have HA6 := Lib.hid (HADV.out.trans (adv_disk (l := l) (b := b) a6))
              clear a6 k6 z0 z1 z2 z3 z4
              by_cases hwe : WE = 0
              · subst hwe
                go_wp2_with fail
                have hlt := HLT.out
                refine ⟨⟨k + 1, Wr.1, F6, by have := HPL.out; omega, by go_num, ?_, HQW.out, HS6.out, HA6.out⟩, by simp [intOf] <;> omega⟩
                rw [HLAY2.out, if_pos HWE.out.symm]
              · have hb : ((WE : Int) != 0) = true := by rw [bne_iff_ne]; exact hwe
                have hb2 : ((WE : Int) == 0) = false := by rw [beq_eq_false_iff_ne]; exact hwe
                have HKP := Lib.hid (gkeep_lg WE HS6.out.lg)
                have HNE := Lib.hid hwe
                clear hwe
                go_wp2_with fail
                refine HKP.out.mono ?_
                rintro x w7 ⟨rfl, l7, a7⟩
                have HF := Lib.hid (show WrR w F d l b n N R (.returned (.int .i64 WE)) w7 by
                  have e1 : layAll s n P = Wr := by rw [HLAY2.out, if_neg (by rw [← HWE.out]; exact HNE.out)]
                  rw [HR.out, HGOOD.out, e1, if_neg (by rw [← HWE.out]; exact HNE.out), ← HWE.out]
                  exact ⟨rfl, F6, HS6.out.log a7 l7, (adv_nul (HA4.out)).trans (HA6.out.trans (adv_log a7))⟩)
                clear l7 a7
                go_wp2_with fail
                go_ret
                exact HF.out
            · obtain rfl : k = np := by have := HPL.out; omega
              have e0 : P.drop k = [] := List.drop_eq_nil_of_le (by have := HPL.out; omega)
              rw [e0] at hlay
              have hlay2 : layAll s n P = (sk, 0) := hlay
              have HLAY := Lib.hid hlay2
              have HRS := Lib.hid hrs
              have HAD := Lib.hid had
              have htk := gtake_lg l b d n N k g A0 M k0 ps wr hrs.lg ((HQ.out.step HA4.out).adv had (fun _ x => x) (fun j x => .inl (.inr x))) (by rw [← HHm.out]; exact HT.out) HOK.out.hn.2.2 (by have := HOK.out.nx; omega)
              have HTK := Lib.hid htk
              clear hk hlay e0 hlay2 hqk hrs had hlt htk
              go_wp2_with fail
              refine HTK.out.mono ?_
              rintro x w7 ⟨rfl, l7, a7⟩
              have HF := Lib.hid (show WrR w F d l b n N R (.returned (.int .i64 0)) w7 by
                rw [HR.out, HGOOD.out, HLAY.out, if_pos rfl, ← HNP.out]
                exact ⟨rfl, Fk, HRS.out.log a7 l7, (adv_nul (HA4.out)).trans (HAD.out.trans (adv_log a7))⟩)
              clear l7 a7
              go_wp2_with fail
              go_ret
              exact HF.out
      · have hb : ((CE : Int) != 0) = true := by rw [bne_iff_ne]; exact hce
        have hb2 : ((CE : Int) == 0) = false := by rw [beq_eq_false_iff_ne]; exact hce
        have HF := Lib.hid (HBAD.out (fun k => hce k.1) _ HA3.out)
        clear hce
        go_wp2_with fail
        go_ret
        exact HF.out
  · have hb : ((E : Int) != 0) = true := by rw [bne_iff_ne]; exact h0
    have hb2 : ((E : Int) == 0) = false := by rw [beq_eq_false_iff_ne]; exact h0
    have HF := Lib.hid (show WrR w F d l b n N R (.returned (.int .i64 E)) w by
      rw [HR.out]
      unfold writeG
      rw [if_neg (by rw [← HE.out]; exact h0), ← HE.out]
      exact ⟨rfl, F, HS.out, Adv.refl _ _⟩)
    clear h0
    go_enter Tryz.func100, Tryz.ntmps100
    go_wp2_with fail
    refine HST.out.mono ?_
    rintro x w1 ⟨rfl, rfl⟩
    go_wp2_with fail
    go_ret
    exact HF.out

def syncG (s : DS) (g : LS) : (DS × LS) × Int := if g.err = 0 then (((flushS s).1, { g with err := (flushS s).2 }), (flushS s).2) else ((s, g), g.err)
set_option maxRecDepth 3000 in
set_option maxHeartbeats 1600000 in
theorem gsync_lg (l b d n N : Nat) (g : LS) (F : Nat → Prop) (s : DS) (w : World) (h : Rs w F d l b n N s g) :
    Calls Tryz.prog 73 #[.pointer (some ⟨l, 0, none⟩)] w (WrR w F d l b n N (syncG s g)) := by
  obtain ⟨R, hR⟩ : ∃ R, R = syncG s g := ⟨_, rfl⟩
  rw [← hR]
  have HST := Lib.hid (gstays_lg h.lg)
  have HS := Lib.hid h
  have HR := Lib.hid hR
  obtain ⟨E, hE⟩ : ∃ E, E = g.err := ⟨_, rfl⟩
  rw [← hE] at HST
  have HE := Lib.hid hE
  have c0 := h.lg.cells.1
  clear h hR hE
  by_cases h0 : E = 0
  · subst h0
    obtain ⟨X, hX⟩ : ∃ x, x = flushS s := ⟨_, rfl⟩
    have HFL := Lib.hid (flush_dk d N F s w HS.out.dk)
    rw [← hX] at HFL
    have HX := Lib.hid hX
    obtain ⟨XE, hXE⟩ : ∃ x, x = X.2 := ⟨_, rfl⟩
    rw [← hXE] at HFL
    have HXE := Lib.hid hXE
    clear hX hXE
    go_enter Tryz.func73, Tryz.ntmps73
    go_wp2_with fail
    refine HST.out.mono ?_
    rintro x w1 ⟨rfl, rfl⟩
    go_wp2_with fail
    refine HFL.out.mono ?_
    rintro x w2 ⟨rfl, k2, a2⟩
    have HS2 := Lib.hid (HS.out.disk a2 k2)
    have HKP := Lib.hid (gkeep_lg XE HS2.out.lg)
    have HA2 := Lib.hid (adv_disk (l := l) (b := b) a2)
    clear a2 k2 c0
    go_wp2_with fail
    refine HKP.out.mono ?_
    rintro x w3 ⟨rfl, l3, a3⟩
    have HF := Lib.hid (show WrR w F d l b n N R (.returned (.int .i64 XE)) w3 by
      rw [HR.out]
      unfold syncG
      rw [if_pos HE.out.symm, ← HX.out, ← HXE.out]
      exact ⟨rfl, F, HS2.out.log a3 l3, HA2.out.trans (adv_log a3)⟩)
    clear l3 a3
    go_wp2_with fail
    go_ret
    exact HF.out
  · have hb : ((E : Int) != 0) = true := by rw [bne_iff_ne]; exact h0
    have hb2 : ((E : Int) == 0) = false := by rw [beq_eq_false_iff_ne]; exact h0
    have HF := Lib.hid (show WrR w F d l b n N R (.returned (.int .i64 E)) w by
      rw [HR.out]
      unfold syncG
      rw [if_neg (by rw [← HE.out]; exact h0), ← HE.out]
      exact ⟨rfl, F, HS.out, Adv.refl _ _⟩)
    clear h0
    go_enter Tryz.func73, Tryz.ntmps73
    go_wp2_with fail
    refine HST.out.mono ?_
    rintro x w1 ⟨rfl, rfl⟩
    go_wp2_with fail
    go_ret
    exact HF.out
end Go.Proofs.YtcglfknkkeaegaaGreatDoor
namespace Go.Proofs.YtcglfknkkeaegaaGreatDoor
open Go.RowKit Go.Maps Go.Sort Go.Shelf

def keysA_ren : Go.Shelf.Ren := ⟨fun | 7 => 167 | 10 => 188 | n => n, fun | 23 => 143 | 26 => 3 | 3 => 182 | 28 => 227 | 0 => 0 | 27 => 226 | 33 => 157 | 4 => 4 | n => n, fun | n => n⟩
theorem keysA : SlLaysZI.n7 Tryz.prog keysA_ren := {
  mixed := by kernel_rfl,
  f7 := ⟨Tryz.f167.name, by decide, Tryz.func167.trans (congrArg some (by kernel_rfl))⟩,
  f10 := ⟨Tryz.f188.name, by decide, Tryz.func188.trans (congrArg some (by kernel_rfl))⟩,
  t0 := Tryz.underlying0,
  a0 := Tryz.isAgg0,
  z0 := Tryz.sizeOf0,
  v0 := Tryz.zeroValue0,
  t4 := Tryz.underlying4,
  a4 := Tryz.isAgg4,
  z4 := Tryz.sizeOf4,
  v4 := Tryz.zeroValue4,
  t23 := Tryz.underlying143,
  a23 := Tryz.isAgg143,
  z23 := Tryz.sizeOf143,
  v23 := Tryz.zeroValue143,
  t26 := Tryz.underlying3,
  a26 := Tryz.isAgg3,
  z26 := Tryz.sizeOf3,
  v26 := Tryz.zeroValue3,
  t27 := Tryz.underlying226,
  a27 := Tryz.isAgg226,
  z27 := Tryz.sizeOf226,
  v27 := Tryz.zeroValue226,
  t28 := Tryz.underlying227,
  a28 := Tryz.isAgg227,
  z28 := Tryz.sizeOf227,
  v28 := Tryz.zeroValue227,
  t33 := Tryz.underlying157,
  a33 := Tryz.isAgg157,
  z33 := Tryz.sizeOf157,
  v33 := Tryz.zeroValue157 }
def sortedA_ren : Go.Shelf.Ren := ⟨fun | 6 => 166 | 8 => 186 | 9 => 187 | 11 => 192 | 13 => 122 | 12 => 193 | 23 => 160 | 24 => 161 | 14 => 196 | 15 => 197 | 16 => 198 | 17 => 199 | 18 => 200 | 19 => 201 | 20 => 202 | 21 => 203 | 22 => 204 | 25 => 205 | 26 => 180 | 27 => 181 | 28 => 206 | 29 => 207 | 30 => 88 | 31 => 208 | n => n, fun | 26 => 3 | 28 => 227 | 24 => 41 | 0 => 0 | 3 => 3 | 37 => 166 | 48 => 221 | 50 => 38 | 4 => 4 | 40 => 215 | 39 => 214 | 45 => 97 | 5 => 5 | 9 => 9 | 51 => 237 | 55 => 240 | 57 => 247 | 58 => 153 | 33 => 157 | n => n, fun | n => n⟩
theorem sortedA : SlLaysZI.n6 Tryz.prog sortedA_ren := {
  mixed := by kernel_rfl,
  f6 := ⟨Tryz.f166.name, by decide, Tryz.func166.trans (congrArg some (by kernel_rfl))⟩,
  f8 := ⟨Tryz.f186.name, by decide, Tryz.func186.trans (congrArg some (by kernel_rfl))⟩,
  f11 := ⟨Tryz.f192.name, by decide, Tryz.func192.trans (congrArg some (by kernel_rfl))⟩,
  t0 := Tryz.underlying0,
  a0 := Tryz.isAgg0,
  z0 := Tryz.sizeOf0,
  v0 := Tryz.zeroValue0,
  t24 := Tryz.underlying41,
  a24 := Tryz.isAgg41,
  z24 := Tryz.sizeOf41,
  v24 := Tryz.zeroValue41,
  t26 := Tryz.underlying3,
  a26 := Tryz.isAgg3,
  z26 := Tryz.sizeOf3,
  v26 := Tryz.zeroValue3,
  t28 := Tryz.underlying227,
  a28 := Tryz.isAgg227,
  z28 := Tryz.sizeOf227,
  v28 := Tryz.zeroValue227,
  i26 := by kernel_rfl }
def sortA_ren : Go.Shelf.Ren := ⟨fun | 5 => 187 | 8 => 122 | 7 => 193 | 19 => 160 | 20 => 161 | 10 => 196 | 11 => 197 | 12 => 198 | 13 => 199 | 14 => 200 | 15 => 201 | 16 => 202 | 17 => 203 | 18 => 204 | 30 => 205 | 31 => 180 | 32 => 181 | 33 => 206 | 34 => 207 | 35 => 88 | 40 => 208 | n => n, fun | 23 => 41 | 25 => 3 | 3 => 3 | 32 => 166 | 22 => 41 | 0 => 0 | 44 => 221 | 46 => 38 | 4 => 4 | 36 => 215 | 35 => 214 | 41 => 97 | 5 => 5 | 9 => 9 | 53 => 237 | 57 => 240 | 63 => 247 | 64 => 153 | n => n, fun | n => n⟩
theorem sortA : SlLaysM.n5 Tryz.prog sortA_ren := {
  mixed := by kernel_rfl,
  f5 := ⟨Tryz.f187.name, by decide, Tryz.func187.trans (congrArg some (by kernel_rfl))⟩,
  f7 := ⟨Tryz.f193.name, by decide, Tryz.func193.trans (congrArg some (by kernel_rfl))⟩,
  f8 := Tryz.func122.trans (congrArg some (by kernel_rfl)),
  f10 := ⟨Tryz.f196.name, by decide, Tryz.func196.trans (congrArg some (by kernel_rfl))⟩,
  f11 := ⟨Tryz.f197.name, by decide, Tryz.func197.trans (congrArg some (by kernel_rfl))⟩,
  f12 := ⟨Tryz.f198.name, by decide, Tryz.func198.trans (congrArg some (by kernel_rfl))⟩,
  f13 := ⟨Tryz.f199.name, by decide, Tryz.func199.trans (congrArg some (by kernel_rfl))⟩,
  f14 := ⟨Tryz.f200.name, by decide, Tryz.func200.trans (congrArg some (by kernel_rfl))⟩,
  f15 := ⟨Tryz.f201.name, by decide, Tryz.func201.trans (congrArg some (by kernel_rfl))⟩,
  f16 := ⟨Tryz.f202.name, by decide, Tryz.func202.trans (congrArg some (by kernel_rfl))⟩,
  f17 := ⟨Tryz.f203.name, by decide, Tryz.func203.trans (congrArg some (by kernel_rfl))⟩,
  f18 := ⟨Tryz.f204.name, by decide, Tryz.func204.trans (congrArg some (by kernel_rfl))⟩,
  f19 := Tryz.func160.trans (congrArg some (by kernel_rfl)),
  f20 := Tryz.func161.trans (congrArg some (by kernel_rfl)),
  f30 := ⟨Tryz.f205.name, by decide, Tryz.func205.trans (congrArg some (by kernel_rfl))⟩,
  f31 := Tryz.func180.trans (congrArg some (by kernel_rfl)),
  f32 := Tryz.func181.trans (congrArg some (by kernel_rfl)),
  f33 := ⟨Tryz.f206.name, by decide, Tryz.func206.trans (congrArg some (by kernel_rfl))⟩,
  f34 := ⟨Tryz.f207.name, by decide, Tryz.func207.trans (congrArg some (by kernel_rfl))⟩,
  f35 := ⟨Tryz.f88.name, by decide, Tryz.func88.trans (congrArg some (by kernel_rfl))⟩,
  f40 := ⟨Tryz.f208.name, by decide, Tryz.func208.trans (congrArg some (by kernel_rfl))⟩,
  t0 := Tryz.underlying0,
  a0 := Tryz.isAgg0,
  z0 := Tryz.sizeOf0,
  v0 := Tryz.zeroValue0,
  t3 := Tryz.underlying3,
  a3 := Tryz.isAgg3,
  z3 := Tryz.sizeOf3,
  v3 := Tryz.zeroValue3,
  t4 := Tryz.underlying4,
  a4 := Tryz.isAgg4,
  z4 := Tryz.sizeOf4,
  v4 := Tryz.zeroValue4,
  t5 := Tryz.underlying5,
  a5 := Tryz.isAgg5,
  z5 := Tryz.sizeOf5,
  v5 := Tryz.zeroValue5,
  t9 := Tryz.underlying9,
  a9 := Tryz.isAgg9,
  z9 := Tryz.sizeOf9,
  v9 := Tryz.zeroValue9,
  t22 := Tryz.underlying41,
  a22 := Tryz.isAgg41,
  z22 := Tryz.sizeOf41,
  v22 := Tryz.zeroValue41,
  t23 := Tryz.underlying41,
  a23 := Tryz.isAgg41,
  z23 := Tryz.sizeOf41,
  v23 := Tryz.zeroValue41,
  t25 := Tryz.underlying3,
  a25 := Tryz.isAgg3,
  z25 := Tryz.sizeOf3,
  v25 := Tryz.zeroValue3,
  t32 := Tryz.underlying166,
  a32 := Tryz.isAgg166,
  z32 := Tryz.sizeOf166,
  v32 := Tryz.zeroValue166,
  t35 := Tryz.underlying214,
  a35 := Tryz.isAgg214,
  z35 := Tryz.sizeOf214,
  v35 := Tryz.zeroValue214,
  t36 := Tryz.underlying215,
  a36 := Tryz.isAgg215,
  z36 := Tryz.sizeOf215,
  v36 := Tryz.zeroValue215,
  t41 := Tryz.underlying97,
  a41 := Tryz.isAgg97,
  z41 := Tryz.sizeOf97,
  v41 := Tryz.zeroValue97,
  t44 := Tryz.underlying221,
  a44 := Tryz.isAgg221,
  z44 := Tryz.sizeOf221,
  v44 := Tryz.zeroValue221,
  t46 := Tryz.underlying38,
  a46 := Tryz.isAgg38,
  z46 := Tryz.sizeOf38,
  v46 := Tryz.zeroValue38,
  t53 := Tryz.underlying237,
  a53 := Tryz.isAgg237,
  z53 := Tryz.sizeOf237,
  v53 := Tryz.zeroValue237,
  t57 := Tryz.underlying240,
  a57 := Tryz.isAgg240,
  z57 := Tryz.sizeOf240,
  v57 := Tryz.zeroValue240,
  t63 := Tryz.underlying247,
  a63 := Tryz.isAgg247,
  z63 := Tryz.sizeOf247,
  v63 := Tryz.zeroValue247,
  t64 := Tryz.underlying153,
  a64 := Tryz.isAgg153,
  z64 := Tryz.sizeOf153,
  v64 := Tryz.zeroValue153 }
theorem sortsA (m : Nat) : AnyZI.SortsIn Tryz.prog sortedA_ren Fence.wide m :=
  ⟨fun blk off cap ss W hH hblk hsz => callsIn_wide.2 (AnyM.slices_Sort_int sortA blk off cap ss W hH hblk hsz),
   fun p cap W => callsIn_wide.2 (AnyM.slices_Sort_int_none sortA p cap W)⟩
theorem keys_call (mb : Option Nat) (w : World) : Calls Tryz.prog 167 #[.map mb] w fun e w' => e = .returned (.func (.func 188) #[] #[.pointer (some ⟨w.heap.size, 0, none⟩)]) ∧ w' = w.alloc (.cells #[.map mb] 143) :=
  (callsIn_wide (n := 5)).1 (AnyZI.keys_in keysA Fence.wide 5 trivial rfl mb w)
theorem sorted_call {H : Type} (b nn : Nat) (D0 : DataW H) (R : Value → Option (DataW H × List MemPlace)) (w : World) (hown : w.ownsMap Tryz.prog 3 R b nn D0) (hmax : Maps.size D0 ≤ maxLen) (hbytes : Maps.size D0 * 8 ≤ 140737488355328) :
    Calls Tryz.prog 166 #[.func (.func 188) #[] #[.pointer (some ⟨w.heap.size, 0, none⟩)]] (w.alloc (.cells #[.map (some b)] 143)) fun e w' => ∃ (v : Value) (ss : List Int), e = .returned v ∧ ss.Perm (intKeys D0) ∧
      w'.ownsRow w.heap.size 3 1 v ss.length ((ss.mergeSort (fun x y => decide (x ≤ y))).map encZ) ∧ Below w.heap.size w w' := by
  refine (callsIn_wide (n := 5)).1 ?_
  have hbl := hown.lt
  have hseq : SeqGives Fence.wide 2 Tryz.prog 188 #[.pointer (some ⟨w.heap.size, 0, none⟩)] encZ (fun ss => ss.Perm (intKeys D0)) (Maps.size D0) (w.alloc (.cells #[.map (some b)] 143)) :=
    AnyZI.keys_gives (ρ := keysA_ren) { keysA with } Fence.wide _ trivial rfl (by omega) w.heap.size b nn D0 _ (by simp) (by simp) (by
      obtain ⟨es, clock, hb, Ft, hs, hD⟩ := hown
      exact ⟨es, clock, (RowKit.Below.heap_alloc _ _ b hbl).trans hb, Ft, hs, hD⟩)
  have cS := AnyZI.sorted_in sortedA Fence.wide 5 trivial trivial trivial trivial rfl (by omega) (sortsA _) (enters_of Tryz.func187 (by kernel_rfl) rfl) 188 #[.pointer (some ⟨w.heap.size, 0, none⟩)] trivial (enters_of Tryz.func188 (by kernel_rfl) rfl) _ _ hmax hbytes _ hseq
  refine CallsIn.mono cS ?_
  rintro e w' ⟨v, ss, rfl, hS, hrow, hnil, hb⟩
  exact ⟨v, ss, rfl, hS, ownsRow_base_a hrow (by simp), ((Below.refl _ w).alloc (Nat.le_refl _) _).trans (hb.mono (by simp))⟩
end Go.Proofs.YtcglfknkkeaegaaGreatDoor
