/- The document's log is opened. -/
import Derived.Test.YtbdjlmdbnoghnaaGreatMh34
import Derived.Test.YtbdjlmdbnoghnaaGreatMh22
import Derived.Test.YtbdjlmdbnoghnaaGreatMh35
import Derived.Test.YtbdjlmdbnoghnaaGreatMh36
import Derived.Test.YtbdjlmdbnoghnaaGreatMh33
namespace Go.Proofs.YtbdjlmdbnoghnaaGreat
open Go.RowKit Go.Maps

variable {Z : Nat → Prop}

/-- the log's cells while it is made -/
def yc0 (x m T : Nat) : Array Value := #[.pointer (some ⟨x, 0, none⟩), .int .i64 (m : Int), .int .u64 (T : Int), .int .u64 0, .int .u64 0, .int .u64 0, .slice none 0 0, .int .i64 0]
theorem Blk.yset2 {w : World} {x y m T X : Nat} (h : Blk w y 52 (yc0 x m T)) : Blk (w.setCell ⟨y, 2, none⟩ (.int .u64 (X : Int))) y 52 (yc0 x m X) := h.set_ 2 _
def OyL (w : World) (s : DS) (x y m : Nat) (t : Value) (wr : World) : Prop := ∃ k : Nat, k ≤ 2 + m ∧ t = .int .i64 (k : Int) ∧ Blk wr y 52 (yc0 x m (topE s k)) ∧ Adv Nul w Nul wr
def OpY (Z : Nat → Prop) (w : World) (G : Nat → Prop) (x N : Nat) (s : DS) (n : Int) (e : Ending) (w' : World) : Prop :=
  (¬ (2 ≤ n ∧ n + 3 ≤ (N : Int)) ∧ e = .returned (.tuple #[.pointer none, .int .i64 2]) ∧ Adv Nul w Nul w') ∨
  ((2 ≤ n ∧ n + 3 ≤ (N : Int)) ∧ topE s (2 + n.toNat) = 16777215 ∧ e = .returned (.tuple #[.pointer none, .int .i64 8]) ∧ Adv Nul w Nul w') ∨
  ((2 ≤ n ∧ n + 3 ≤ (N : Int)) ∧ topE s (2 + n.toNat) < 16777215 ∧ ∃ y b, e = .returned (.tuple #[.pointer (some ⟨y, 0, none⟩), .int .i64 0]) ∧ Ys Z w' G x y b n.toNat N s (openS s n.toNat N) ∧ (w.heap.size ≤ y ∧ w.heap.size ≤ b) ∧ Adv Nul w Nul w')
theorem rk_len {w : World} {G : Nat → Prop} {x N : Nat} {s : DS} (h : Rk w G x N s) : ∃ A c, w.cell? ⟨x, 0, none⟩ = some (.slice A N c) := by
  obtain ⟨vL, vQ, ls, ps, h⟩ := h
  obtain ⟨A, c, e, _⟩ := h.l.form0
  exact ⟨A, c, by rw [← e]; exact h.c0⟩
theorem rd_cut {w : World} {g c a n : Nat} {l : List Nat} (h : Rd w 1 (.slice (some ⟨g, 0, none⟩) 128 c) 128 (l.map u8)) (hn : a + n ≤ 128) (h0 : 0 < n) : Rd w 1 (.slice (some ⟨g, a, none⟩) n (c - a)) n (((l.drop a).take n).map u8) := by
  obtain ⟨A', c', e, h1, h2, h3, h4, h5⟩ := h
  injection e with e1 e2 e3
  subst e1
  subst e3
  obtain ⟨ad, he, hb, hc⟩ := h5 (by decide)
  injection he with he
  subst he
  refine ⟨some ⟨g, a, none⟩, c - a, rfl, ?_, ?_, ?_, ?_, fun _ => ⟨⟨g, a, none⟩, rfl, hb, fun j u hj => ?_⟩⟩
  · omega
  · omega
  · simp only [List.length_map, List.length_take, List.length_drop] at h3 ⊢
    omega
  · exact fun k => by cases k
  · rw [List.getElem?_map, List.getElem?_take] at hj
    split at hj
    · rw [List.getElem?_drop, ← List.getElem?_map] at hj
      have := hc (a + j) u hj
      rw [add_none] at this ⊢
      rwa [Nat.zero_add] at this
    · simp at hj
theorem isu_form {w : World} {G : Nat → Prop} {L : List Nat} {v : Value} (h : IsU w G L v) : ∃ g c, v = .slice (some ⟨g, 0, none⟩) 128 c ∧ 128 ≤ c := by
  obtain ⟨g, c, e, _, hc⟩ := Sl.form h (by decide)
  exact ⟨g, c, e, hc⟩

def RdV (w : World) (L : List Nat) (v : Value) : Prop := Rd w 1 v 3 (L.map u8)
theorem RdV.drew {w : World} {L : List Nat} {v : Value} (h : RdV w L v) : RdV w.drew L v := Rd.far h (fun _ _ _ _ => rfl) (Nat.le_refl _)
theorem isu_front {w : World} {G : Nat → Prop} {L : List Nat} {g c : Nat} (h : IsU w G L (.slice (some ⟨g, 0, none⟩) 128 c)) : RdV w (L.take 3) (.slice (some ⟨g, 0, none⟩) 3 c) := rd_cut (a := 0) h.rd (by decide) (by decide)
theorem isu_back {w : World} {G : Nat → Prop} {L : List Nat} {g c : Nat} (h : IsU w G L (.slice (some ⟨g, 0, none⟩) 128 c)) : RdV w ((L.drop 120).take 3) (.slice (some ⟨g, 120, none⟩) 3 (c - 120)) := rd_cut (a := 120) h.rd (by decide) (by decide)
theorem yvalue_any {w : World} {L : List Nat} {v : Value} (h : RdV w L v) (h8 : ∀ z ∈ L, z < 256) : Calls Tryz.prog 33 #[v] w fun e w' => e = .returned (.int .u64 ((val L : Nat) : Int)) ∧ w = w' := rvalue_any _ 3 _ _ h (by decide) h8

def ym (x m T1 g t : Nat) (v : Value) : Array Value := #[.pointer (some ⟨x, 0, none⟩), .int .i64 (m : Int), .int .u64 (T1 : Int), .int .u64 (g : Int), .int .u64 (t : Int), .int .u64 (t : Int), v, .int .i64 0]
theorem ys_made {w V : World} {G : Nat → Prop} {x y b m N M T1 g t : Nat} {s : DS} (h : Rk w G x N s) (hz : Bd Z w) (hA : Adv Nul w Nul V) (hB : Blk V y 52 (ym x m T1 g t (.slice none 0 0))) (hC : Blk V b 53 (madeCells #[.slice none 0 0] (M * 1))) (hy : w.heap.size ≤ y) (hb : w.heap.size ≤ b) (hne : b ≠ y) (hM : M = N - 2 - m)
    (hg : (headO s).g = g) (ht : (headO s).t = t) (hT : T1 = topE s (2 + m) + 1) : Ys Z (V.setCell ⟨y, 6, none⟩ (.slice (some ⟨b, 0, none⟩) M M)) G x y b m N s (openL s m) ∧ Adv Nul w Nul (V.setCell ⟨y, 6, none⟩ (.slice (some ⟨b, 0, none⟩) M M)) := by
  have hA2 := hA.setCell (p := ⟨y, 6, none⟩) (.inr hy) (.slice (some ⟨b, 0, none⟩) M M)
  have hC2 := hC.far (p := ⟨y, 6, none⟩) hne (.slice (some ⟨b, 0, none⟩) M M)
  refine ⟨⟨h.far hA2 (fun _ x _ => x), ⟨?_, ⟨_, hC2, by rw [← hM, madeCells_size, Nat.mul_one]⟩, fun i hi => ⟨.slice none 0 0, ?_, rfl⟩, AOk.none _⟩, fun k hk hk2 => ?_, fun k e => Nat.lt_of_lt_of_le (hz k e) hA2.size⟩, hA2⟩
  · have h2 := hB.set_ 6 (.slice (some ⟨b, 0, none⟩) M M)
    have e : (ym x m T1 g t (.slice none 0 0)).setIfInBounds 6 (.slice (some ⟨b, 0, none⟩) M M) = ycells x m b (N - 2 - m) (openL s m) := by
      rw [← hM]
      show ym x m T1 g t (.slice (some ⟨b, 0, none⟩) M M) = ycells x m b M ⟨headO s, (headO s).t, topE s (2 + m) + 1, fun _ => none, 0⟩
      unfold ym ycells
      simp only [hg, ht, hT]
    rw [e] at h2
    exact h2
  · rw [hC2.cell i]
    exact made_nil (by omega)
  · have h1 := h.bd k hk
    rcases hk2 with e | e <;> omega
def OyR (Z : Nat → Prop) (W : World) (G : Nat → Prop) (x y b m N : Nat) (s : DS) (t14 t15 : Value) (wr : World) : Prop :=
  ∃ (k : Nat) (r : Rp), k ≤ m ∧ t15 = .int .i64 (k : Int) ∧ t14 = .int .u64 (r.floor : Int) ∧ SaysK s m ((N - 2 - m : Nat) : Int) (r0G (openL s m)) k r ∧ Ys Z wr G x y b m N s ((openL s m).at_ r) ∧ Adv (LF y b) W (LF y b) wr
theorem op_stop {w W wr w' : World} {G : Nat → Prop} {x y b m N k : Nat} {s : DS} {r : Rp} (hc : 2 ≤ (m : Int) ∧ (m : Int) + 3 ≤ (N : Int)) (hT : topE s (2 + m) < 16777215) (hs : SaysK s m ((N - 2 - m : Nat) : Int) (r0G (openL s m)) k r) (hno : ¬ RecOk s m ((N - 2 - m : Nat) : Int) r)
    (hY : Ys Z wr G x y b m N s ((openL s m).at_ r)) (hW : Adv Nul w Nul W) (hL : Adv (LF y b) W (LF y b) wr) (ha : Adv Nul wr Nul w') (hy : w.heap.size ≤ y) (hb : w.heap.size ≤ b) : OpY Z w G x N s (m : Int) (.returned (.tuple #[.pointer (some ⟨y, 0, none⟩), .int .i64 0])) w' := by
  have e := hs.stop (by omega) hno
  refine .inr (.inr ⟨hc, by rw [Int.toNat_natCast]; exact hT, y, b, rfl, ?_, ⟨hy, hb⟩, ?_⟩)
  · rw [Int.toNat_natCast, openS, e]
    exact hY.over ha
  · have h1 := hL.trans (ha.same (G := LF y b) (fun _ x => x.elim))
    exact ⟨h1.os.trans hW.os, h1.tape.trans hW.tape, h1.output.trans hW.output, Nat.le_trans hW.size h1.size, fun j hj _ => (h1.block j (Nat.lt_of_lt_of_le hj hW.size) (fun x => by rcases x with e | e <;> omega)).trans (hW.block j hj (fun x => x)), fun _ x => x.elim⟩
/-- what Next answers is joined just where a record is right -/
theorem next_join {s : DS} {n k : Nat} {H : Int} {r0 r : Rp} {ps : List Pc} (hn : 1 ≤ n) (hs : SaysK s n H r0 k r) (h : NextOf s n r.next (r0.next + n) r.floor ps) (hno : ¬ JoinOk ps) : ¬ RecOk s n H r := by
  rintro ⟨h1, h2, _, _⟩
  have hg := (scanV_good (s := s) (n := n) (c := r.next)).2
  have htop : r.next + (scanV s n r.next).length ≤ r0.next + n := good_le hn (fun c hc1 hc2 => by
    by_cases hc : c < r.next
    · exact hs.good c hc1 hc
    · have := hg (c - r.next) (by omega)
      rwa [show r.next + (c - r.next) = c by omega] at this)
  exact hno ((h.2 h1 h2 htop) ▸ h1)
theorem next_yes {s : DS} {n c T fl : Nat} {ps : List Pc} (h : NextOf s n c T fl ps) (hj : JoinOk ps) : ps = scanV s n c ∧ fl ≤ (hdP ps).e := by
  rcases h.1 with rfl | h
  · exact absurd hj.pos (by decide)
  · exact h
theorem next_small {s : DS} {n c T fl : Nat} {ps : List Pc} (hn : 1 ≤ n) (h : NextOf s n c T fl ps) : ps.length ≤ n ∧ (∀ p ∈ ps, p.d.length ≤ 1000) ∧ (∀ p ∈ ps, p.c < c + n + 1) := by
  rcases h.1 with rfl | ⟨rfl, _⟩
  · exact ⟨Nat.zero_le _, by simp, by simp⟩
  · refine ⟨scanV_len hn, scanV_small, fun p hp => ?_⟩
    obtain ⟨h1, h2⟩ := scanV_good (s := s) (n := n) (c := c)
    have hl := scanV_len (s := s) (n := n) (c := c) hn
    rw [h1] at hp
    obtain ⟨i, hi, rfl⟩ := List.mem_map.mp hp
    rw [List.mem_range] at hi
    have := (h2 i hi).2
    omega
theorem hd_row {ps : List Pc} (h : 0 < ps.length) : ps[0] = hdP ps := by
  unfold hdP
  cases ps with
  | nil => simp at h
  | cons p ps => rfl

set_option maxRecDepth 8000 in
set_option maxHeartbeats 6400000 in
theorem yopen_rk (x N : Nat) (G : Nat → Prop) (s : DS) (n : Int) (w : World) (h : Rk w G x N s) (hzb : Bd Z w) (hsb : SB s N) (hq : s.Q.length ≤ 1000000) (hN9 : N ≤ 900) (hN : 1 ≤ N ∧ N ≤ 4096) (hn0 : -9223372036854775808 ≤ n) (hn1 : n < 9223372036854775808) :
    Calls Tryz.prog 8 #[.pointer (some ⟨x, 0, none⟩), .int .i64 n] w (OpY Z w G x N s n) := by
  obtain ⟨AL, cL, hx0⟩ := rk_len h
  have HR := Lib.hid h
  have HZB := Lib.hid hzb
  have HSB := Lib.hid hsb
  have HQ := Lib.hid hq
  have HN := Lib.hid hN
  have HN9 := Lib.hid hN9
  have hw3 : wrap64 ((N : Int) - 3) = (N : Int) - 3 := by unfold wrap64; omega
  clear h hzb hsb hq hN hN9
  by_cases hn : 2 ≤ n ∧ n + 3 ≤ (N : Int)
  · obtain ⟨m, rfl⟩ := Int.eq_ofNat_of_zero_le (show 0 ≤ n by omega)
    have hmN : m + 3 ≤ N := by have := hn.2; omega
    have hm2 : 2 ≤ m := by have := hn.1; omega
    have hm2I : ¬ (m : Int) < 2 := by omega
    have hmI : ¬ (N : Int) - 3 < (m : Int) := by omega
    have HM := Lib.hid (And.intro hm2 hmN)
    have HNN := Lib.hid hn
    have h2m : (m : Int) ≤ 4096 := by have := HN.out; omega
    clear hn hn0 hn1 hmN hm2
    go_enter Tryz.func8, Tryz.ntmps8
    go_upto_region 4 with (fail)
    obtain ⟨y, hy⟩ : ∃ y, y = w.heap.size := ⟨_, rfl⟩
    obtain ⟨V, hV⟩ : ∃ V, V = w.alloc (.cells #[.pointer (some ⟨x, 0, none⟩), .int .i64 (m : Int), .int .u64 0, .int .u64 0, .int .u64 0, .int .u64 0, .slice none 0 0, .int .i64 0] 52) := ⟨_, rfl⟩
    have HB0 := Lib.hid (show Blk V y 52 (yc0 x m 0) by rw [hV, hy]; exact Blk.new _ _ _)
    have HA0 := Lib.hid (show Adv Nul w Nul V by rw [hV]; exact (Adv.refl _ _).alloc _)
    have HY := Lib.hid (show w.heap.size ≤ y by rw [hy]; exact Nat.le_refl _)
    rw [← hy, ← hV]
    clear hy hV hm2I hmI hw3 hx0
    go_wp2_with fail
    go_loopw [7] (OyL w s x y m) (fun t _ => 2 + m - (intOf t).toNat)
    case atStart => exact ⟨0, Nat.zero_le _, rfl, HB0.out, HA0.out⟩
    case round =>
      obtain ⟨k, hk, rfl, hB, hA⟩ := hrel
      have HB := Lib.hid hB
      have HA := Lib.hid hA
      have hwk : wrap64 (2 + (m : Int)) = 2 + (m : Int) := by unfold wrap64; omega
      by_cases hlt : k < 2 + m
      · have hki : (k : Int) < 2 + (m : Int) := by omega
        have HLT := Lib.hid hlt
        have HRr := Lib.hid (HR.out.far hA (fun _ x _ => x))
        have HSI := Lib.hid (HSB.out k (by have := HM.out; omega))
        obtain ⟨L, hL⟩ : ∃ L, L = isS s k := ⟨_, rfl⟩
        have HIS := Lib.hid (nis_any HRr.out (by have := HM.out; omega) HQ.out hL.symm rfl : Calls Tryz.prog 25 #[.pointer (some ⟨x, 0, none⟩), .int .i64 (k : Int)] wr _)
        rw [← hL] at HSI
        obtain ⟨T, hT⟩ : ∃ T, T = topE s k := ⟨_, rfl⟩
        have HNX := Lib.hid (show topE s (k + 1) = max (max (topE s k) (endX (isS s k))) (endY (isS s k)) from rfl)
        rw [← hL, ← hT] at HNX
        rw [← hT] at HB
        have f2 := HB.out.frozen 2
        have c2 : wr.cell? ⟨y, 2, none⟩ = some (.int .u64 (T : Int)) := HB.out.cell 2
        clear hB hA hlt hL hT
        go_upto_region 8 with (first
          | (go_at_call 25; refine HIS.out.mono ?_; rintro e w1 ⟨v1, rfl, u1, rfl⟩; obtain ⟨g1, d1, rfl, hd1⟩ := isu_form u1; have HU := Lib.hid u1; have HD1 := Lib.hid hd1; clear u1 hd1)
          | fail)
        have hd := HD1.out
        have k3 : (3 : Int) ≤ (d1 : Int) := by omega
        have k123 : (123 : Int) ≤ (d1 : Int) := by omega
        have n120 : (d1 = 120) = False := eq_false (by omega)
        have HV1 := Lib.hid (isu_front HU.out)
        have HV2 := Lib.hid (isu_back HU.out)
        have HB1 := Lib.hid (show ∀ z ∈ L.take 3, z < 256 from fun z hz => HSI.out z (List.mem_of_mem_take hz))
        have HB2 := Lib.hid (show ∀ z ∈ (L.drop 120).take 3, z < 256 from fun z hz => HSI.out z (List.mem_of_mem_drop (List.mem_of_mem_take hz)))
        clear hd
        refine rstart (S := (fun _ => True)) (by first | exact trivial) (fun hH => ?_)
        refine tk (i := 0) (oi := ⟨some 46, .move (.tmp 8), 53, "ref.go:96", #[], none⟩) hH.out (by rintro w _; go_simp <;> with_reducible rfl) ?_
        simp only [Act.put, sA, sB, sC]
        refine tk (i := 1) (oi := ⟨some 47, .slice 53 (.tmp 46) none (some (.const (Go.Value.int Go.IntKind.i64 3))) none, 53, "ref.go:96", #[⟨0, .data⟩], none⟩) hH.out (by rintro w _; go_simp <;> with_reducible rfl) ?_
        simp only [Act.put, sA, sB, sC]
        refine tk (i := 3) (oi := ⟨some 49, .move (.tmp 8), 53, "ref.go:96", #[], none⟩) hH.out (by rintro w _; go_simp <;> with_reducible rfl) ?_
        simp only [Act.put, sA, sB, sC]
        refine tk (i := 4) (oi := ⟨some 50, .slice 53 (.tmp 49) (some (.const (Go.Value.int Go.IntKind.i64 120))) (some (.const (Go.Value.int Go.IntKind.i64 123))) none, 53, "ref.go:96", #[⟨3, .data⟩], none⟩) hH.out (by rintro w _; go_simp <;> with_reducible rfl) ?_
        simp only [Act.put, sA, sB, sC]
        refine rdy (i := 2) (oi := ⟨some 48, .call ⟨.value (.func 33), #[.tmp 47], #[53]⟩, 49, "ref.go:96", #[⟨1, .data⟩], none⟩) (fun K hK => ?_)
        go_simp
        refine (yvalue_any HV1.out.drew HB1.out).mono ?_
        rintro e w2 ⟨rfl, rfl⟩
        go_wp2_with fail
        refine hK.out _ _ (by first | exact trivial) (fun hHeld => ?_)
        replace hH := Lib.hid hHeld
        clear hK K hHeld
        try simp only [Act.put, sA, sB, sC]
        refine rdy (i := 5) (oi := ⟨some 51, .call ⟨.value (.func 33), #[.tmp 50], #[53]⟩, 49, "ref.go:96", #[⟨4, .data⟩, ⟨2, .chain⟩], none⟩) (fun K hK => ?_)
        go_simp
        refine (yvalue_any HV2.out.drew HB2.out).mono ?_
        rintro e w3 ⟨rfl, rfl⟩
        go_wp2_with fail
        refine hK.out _ _ (by first | exact trivial) (fun hHeld => ?_)
        replace hH := Lib.hid hHeld
        clear hK K hHeld
        try simp only [Act.put, sA, sB, sC]
        refine tk (i := 6) (oi := ⟨some 9, .assign (.tmp 48), 49, "ref.go:96", #[⟨2, .data⟩, ⟨5, .chain⟩, ⟨0, .phase⟩, ⟨1, .phase⟩, ⟨2, .phase⟩, { on := 3, ground := Go.Ground.textOnly Go.Departure.lateStores }, { on := 4, ground := Go.Ground.textOnly Go.Departure.lateStoresUnsure }, { on := 5, ground := Go.Ground.textOnly Go.Departure.lateStoresUnsure }], none⟩) hH.out (by rintro w _; go_simp <;> with_reducible rfl) ?_
        simp only [Act.put, sA, sB, sC]
        refine tk (i := 7) (oi := ⟨some 10, .assign (.tmp 51), 49, "ref.go:96", #[⟨5, .data⟩, ⟨6, .chain⟩, ⟨0, .phase⟩, ⟨1, .phase⟩, ⟨2, .phase⟩, ⟨3, .phase⟩, ⟨4, .phase⟩, ⟨5, .phase⟩, ⟨6, .phase⟩], none⟩) hH.out (by rintro w _; go_simp <;> with_reducible rfl) ?_
        simp only [Act.put, sA, sB, sC]
        refine wpAnyH_done (by kernel_rfl) ?_ _
        obtain ⟨X, hX⟩ : ∃ X, X = val (L.take 3) := ⟨_, rfl⟩
        obtain ⟨Y, hY⟩ : ∃ Y, Y = val ((L.drop 120).take 3) := ⟨_, rfl⟩
        rw [← hX, ← hY]
        have hnx : topE s (k + 1) = max (max T X) Y := by rw [HNX.out, hX, hY]; rfl
        have HNX2 := Lib.hid hnx
        clear hX hY hnx HIS HU HV1 HV2 HB1 HB2 HSI HNX k3 k123 n120
        by_cases h1 : T < X
        · have i1 : (T : Int) < (X : Int) := by omega
          by_cases h2 : X < Y
          · have i2 : (X : Int) < (Y : Int) := by omega
            have HT := Lib.hid (show topE s (k + 1) = Y by rw [HNX2.out]; omega)
            clear h1 h2
            go_wp2_with fail
            exact ⟨⟨k + 1, HLT.out, by simp, by rw [HT.out]; exact HB.out.drew.yset2.yset2, (HA.out.drew.setCell (.inr HY.out) _).setCell (.inr HY.out) _⟩, by have := HLT.out; simp [intOf] <;> omega⟩
          · have i2 : ¬ (X : Int) < (Y : Int) := by omega
            have HT := Lib.hid (show topE s (k + 1) = X by rw [HNX2.out]; omega)
            clear h1 h2
            go_wp2_with fail
            exact ⟨⟨k + 1, HLT.out, by simp, by rw [HT.out]; exact HB.out.drew.yset2, HA.out.drew.setCell (.inr HY.out) _⟩, by have := HLT.out; simp [intOf] <;> omega⟩
        · have i1 : ¬ (T : Int) < (X : Int) := by omega
          by_cases h2 : T < Y
          · have i2 : (T : Int) < (Y : Int) := by omega
            have HT := Lib.hid (show topE s (k + 1) = Y by rw [HNX2.out]; omega)
            clear h1 h2
            go_wp2_with fail
            exact ⟨⟨k + 1, HLT.out, by simp, by rw [HT.out]; exact HB.out.drew.yset2, HA.out.drew.setCell (.inr HY.out) _⟩, by have := HLT.out; simp [intOf] <;> omega⟩
          · have i2 : ¬ (T : Int) < (Y : Int) := by omega
            have HT := Lib.hid (show topE s (k + 1) = T by rw [HNX2.out]; omega)
            clear h1 h2
            go_wp2_with fail
            exact ⟨⟨k + 1, HLT.out, by simp, by rw [HT.out]; exact HB.out.drew, HA.out.drew⟩, by have := HLT.out; simp [intOf] <;> omega⟩
      · obtain rfl : k = 2 + m := by omega
        clear hlt hk hwk
        obtain ⟨T, hT⟩ : ∃ T, T = topE s (2 + m) := ⟨_, rfl⟩
        rw [← hT] at hB
        rw [← hT] at HB
        have hTlt : T < 16777216 := by rw [hT]; exact topE_lt HSB.out _ (by have := HM.out; omega)
        have c2 : wr.cell? ⟨y, 2, none⟩ = some (.int .u64 (T : Int)) := HB.out.cell 2
        have f2 := HB.out.frozen 2
        have HT := Lib.hid hT
        clear hT hB hA
        by_cases hTm : T = 16777215
        · subst hTm
          have HF := Lib.hid (show OpY Z w G x N s (m : Int) (.returned (.tuple #[.pointer none, .int .i64 8])) wr from .inr (.inl ⟨HNN.out, HT.out.symm, rfl, HA.out⟩))
          clear hTlt
          go_wp2_with fail
          exact bodyPost_ret (v := .tuple #[.pointer none, .int .i64 8]) (by simp [results, Tryz.results8, go_sem]) rfl HF.out
        · have hTn : ¬ (16777215 : Int) ≤ (T : Int) := by omega
          obtain ⟨T1, hT1⟩ : ∃ T1, T1 = T + 1 := ⟨_, rfl⟩
          have eT : (T : Int) + 1 = (T1 : Int) := by omega
          have hT1b : (T1 : Int) ≤ 16777215 := by omega
          have HTN := Lib.hid (show T < 16777215 by omega)
          have HT1 := Lib.hid hT1
          have HB1 := Lib.hid (show Blk (wr.setCell ⟨y, 2, none⟩ (.int .u64 (T1 : Int))) y 52 (yc0 x m T1) from HB.out.yset2)
          have HA1 := Lib.hid (HA.out.setCell (p := ⟨y, 2, none⟩) (.inr HY.out) (.int .u64 (T1 : Int)))
          have HLD := Lib.hid (rload_dk x N G s 0 (wr.setCell ⟨y, 2, none⟩ (.int .u64 (T1 : Int))) (HR.out.far HA1.out (fun _ x _ => x)) HSB.out HQ.out HN.out.2 HN.out.1)
          clear hTm hT1 hTlt
          go_upto_region 16 with (fail)
          obtain ⟨W1, hW1⟩ : ∃ W1, W1 = wr.setCell ⟨y, 2, none⟩ (.int .u64 (T1 : Int)) := ⟨_, rfl⟩
          rw [← hW1] at HB1 HA1 HLD
          rw [← hW1]
          clear c2 f2 hW1
          go_wp2_with fail
          refine HLD.out.mono ?_
          rintro e w2 ⟨hl2, a2⟩
          rcases hl2 with ⟨_, rfl⟩ | ⟨hbad, _⟩
          · have HA2 := Lib.hid (HA1.out.trans a2)
            have HB2 := Lib.hid (HB1.out.keep (a2.block y HB1.out.lt (fun h => h)))
            obtain ⟨c, hc⟩ : ∃ c, c = curAt s 0 2 := ⟨_, rfl⟩
            rw [show ((0 : Int).toNat) = 0 from rfl, ← hc]
            obtain ⟨⟨g, t, f⟩, hh⟩ : ∃ x, x = c.getD hZ := ⟨_, rfl⟩
            rw [← hh]
            have HC := Lib.hid hc
            have HH := Lib.hid hh
            obtain ⟨V2, hV2⟩ : ∃ V, V = w2.alloc (.cells #[.int .u64 (g : Int), .int .u64 (t : Int), .int .u64 (f : Int)] 76) := ⟨_, rfl⟩
            obtain ⟨z, hz⟩ : ∃ z, z = w2.heap.size := ⟨_, rfl⟩
            have HZ := Lib.hid (show Blk V2 z 76 (h3 (g : Int) (t : Int) (f : Int)) by rw [hV2, hz]; exact Blk.new _ _ _)
            have HAV := Lib.hid (HA2.out.trans (show Adv Nul w2 Nul V2 by rw [hV2]; exact (Adv.refl _ _).alloc _))
            have HBV := Lib.hid (HB2.out.keep (show V2.heap[y]? = w2.heap[y]? by rw [hV2]; exact Below.heap_alloc _ _ _ HB2.out.lt))
            have HYZ := Lib.hid (show z ≠ y by have := HB2.out.lt; omega)
            have HVV := Lib.hid hV2
            have HZZ := Lib.hid hz
            clear a2 hc hh hV2 hz
            unfold hv
            simp only
            go_upto_region 17 with (fail)
            rw [← HVV.out, ← HZZ.out]
            obtain ⟨z0, z1, z2⟩ := HZ.out.three
            have hcs := HC.out
            have hhs := HH.out
            have d3 : V2.cell? ⟨y, 3, none⟩ = some (.int .u64 0) := HBV.out.cell 3
            have d4 : V2.cell? ⟨y, 4, none⟩ = some (.int .u64 0) := HBV.out.cell 4
            have d5 : V2.cell? ⟨y, 5, none⟩ = some (.int .u64 0) := HBV.out.cell 5
            have f3 := HBV.out.frozen 3
            have f4 := HBV.out.frozen 4
            have f5 := HBV.out.frozen 5
            rcases c with _ | q
            · have e : headO s = ⟨0, 0, 1⟩ := by unfold headO; rw [← hcs]; rfl
              have e2 : (⟨g, t, f⟩ : Hd) = ⟨0, 0, 0⟩ := hhs
              have HH0 := Lib.hid (show (headO s).g = g ∧ (headO s).t = t ∧ ((headO s).f : Int) = 1 by rw [e]; exact ⟨(congrArg Hd.g e2).symm, (congrArg Hd.t e2).symm, rfl⟩)
              clear hcs hhs e e2 HC HH
              simp only [Option.isSome_none]
              go_upto_region 20 with (fail)
              go_region
              obtain ⟨V4, hV4⟩ : ∃ V, V = (((V2.setCell ⟨y, 3, none⟩ (.int .u64 (g : Int))).setCell ⟨y, 4, none⟩ (.int .u64 (t : Int))).setCell ⟨y, 5, none⟩ (.int .u64 (t : Int))).drew := ⟨_, rfl⟩
              rw [← hV4]
              have HA4 := Lib.hid (show Adv Nul w Nul V4 by rw [hV4]; exact (((HAV.out.setCell (.inr HY.out) _).setCell (.inr HY.out) _).setCell (.inr HY.out) _).drew)
              have HB4 := Lib.hid (show Blk V4 y 52 #[.pointer (some ⟨x, 0, none⟩), .int .i64 (m : Int), .int .u64 (T1 : Int), .int .u64 (g : Int), .int .u64 (t : Int), .int .u64 (t : Int), .slice none 0 0, .int .i64 0] by rw [hV4]; exact (((HBV.out.set_ 3 _).set_ 4 _).set_ 5 _).drew)
              clear hV4 d3 d4 d5 f3 f4 f5
              obtain ⟨AL', cL', hx0⟩ := rk_len (HR.out.far HA4.out (fun _ x _ => x))
              obtain ⟨M0, hM0⟩ : ∃ M0, M0 = N - 2 - m := ⟨_, rfl⟩
              have HMM := Lib.hid hM0
              have eM : (N : Int) - 2 - (m : Int) = (M0 : Int) := by have := HM.out; omega
              have eM2 : wrap64 ((N : Int) - 2) = (N : Int) - 2 := by have := HN.out; unfold wrap64; omega
              have eM3 : wrap64 (M0 : Int) = (M0 : Int) := by have := HN.out; unfold wrap64; omega
              have hmk := made_homes M0 (by have := HN.out; omega) V4
              obtain ⟨b5, hb5⟩ : ∃ z, z = V4.heap.size := ⟨_, rfl⟩
              rw [← hb5] at hmk
              obtain ⟨V5, hV5⟩ : ∃ V, V = V4.alloc (.cells (madeCells #[.slice none 0 0] (M0 * 1)) 53) := ⟨_, rfl⟩
              rw [← hV5] at hmk
              have HB5 := Lib.hid (HB4.out.keep (show V5.heap[y]? = V4.heap[y]? by rw [hV5]; exact Below.heap_alloc _ _ _ HB4.out.lt))
              have r6 : V5.cell? ⟨y, 6, none⟩ = some (.slice none 0 0) := HB5.out.cell 6
              have g6 := HB5.out.frozen 6
              have HC5 := Lib.hid (show Blk V5 b5 53 (madeCells #[.slice none 0 0] (M0 * 1)) by rw [hV5, hb5]; exact Blk.new _ _ _)
              have HA5 := Lib.hid (show Adv Nul w Nul V5 by rw [hV5]; exact HA4.out.alloc _)
              have HBY := Lib.hid (show b5 ≠ y by have := HB4.out.lt; omega)
              have HNB := Lib.hid (show w.heap.size ≤ b5 by rw [hb5]; exact HA4.out.size)
              clear hV5 hb5 hM0
              go_upto_region 22 with (fail)
              obtain ⟨hys, hya⟩ := ys_made HR.out HZB.out HA5.out HB5.out HC5.out HY.out HNB.out HBY.out HMM.out HH0.out.1 HH0.out.2.1 (by rw [HT1.out, HT.out])
              obtain ⟨W5, hW5⟩ : ∃ W, W = V5.setCell ⟨y, 6, none⟩ (.slice (some ⟨b5, 0, none⟩) M0 M0) := ⟨_, rfl⟩
              rw [← hW5] at hys hya ⊢
              have HYS := Lib.hid hys
              have HYA := Lib.hid hya
              have HTN2 := Lib.hid (show topE s (2 + m) < 16777215 by rw [← HT.out]; exact HTN.out)
              have HH1 := Lib.hid (headO_small HSB.out (by have := HM.out; omega))
              clear hys hya hW5 r6 g6 hmk eM eM2 eM3 hx0 eT hT1b hTn z0 z1 z2
              go_wp2_with fail
              go_loopw [14, 15] (OyR Z W5 G x y b5 m N s) (fun _ t _ => m + 1 - (intOf t).toNat)
              case atStart => exact ⟨0, r0G (openL s m), Nat.zero_le _, rfl, congrArg (Value.int .u64) HH0.out.2.2.symm, SaysK.zero _ _ _ _, HYS.out, Adv.refl _ _⟩
              case round =>
                obtain ⟨k, r, hk, rfl, rfl, hsk, hyr, hal⟩ := hrel
                obtain ⟨rn, rf, rA⟩ := r
                have htop := hsk.top (by have := HM.out; omega)
                have hrn : rn ≤ (headO s).t + m := htop
                have HSTOP := Lib.hid (fun (hno : ¬ RecOk s m ((N - 2 - m : Nat) : Int) ⟨rn, rf, rA⟩) (w' : World) (ha : Adv Nul wr Nul w') => op_stop HNN.out HTN2.out hsk hno hyr HYA.out hal ha HY.out HNB.out)
                have HNEX := Lib.hid (ynext_lg x y b5 m N rf ((openL s m).at_ ⟨rn, rf, rA⟩) G s wr hyr HSB.out HQ.out ⟨HM.out.1, HM.out.2, HN.out.2⟩ (by have := HH1.out.2.1; have := HM.out; have := HN.out; show rn ≤ _; omega) (by have := HH1.out.2.1; show (headO s).t ≤ _; omega))
                have HJN := Lib.hid (fun ps (h : NextOf s m rn ((headO s).t + m) rf ps) (hno : ¬ JoinOk ps) => next_join (r := ⟨rn, rf, rA⟩) (by have := HM.out; omega) hsk h hno)
                have HSK := Lib.hid hsk
                have HYR := Lib.hid hyr
                have HAL := Lib.hid hal
                have HRN := Lib.hid hrn
                have HK := Lib.hid hk
                have hkI : (k : Int) ≤ (m : Int) := by omega
                clear hsk hyr hal htop hrn hk
                go_wp2_with fail
                refine HNEX.out.mono ?_
                rintro e w1 ⟨ps, A1, q1, rfl, p1, pd, n1, a1⟩
                have HPD := Lib.hid pd
                obtain ⟨hl1, hl2, hl3⟩ := next_small (by have := HM.out; omega) pd
                have HJ := Lib.hid (rjoin_any A1 q1 ps w1 p1 (by have := HN.out; have := HM.out; have := HN9.out; omega) hl2 (fun p hp => by have := hl3 p hp; have := HRN.out; have := HH1.out.2.1; have := HM.out; have := HN.out; simp only [LS.at_] at this hl3; have e := hl3 p hp; omega))
                have HP1 := Lib.hid p1
                have HN1 := Lib.hid n1
                have HA1 := Lib.hid a1
                have HL1 := Lib.hid hl1
                obtain ⟨pl, hpl⟩ : ∃ pl, pl = ps.length := ⟨_, rfl⟩
                rw [← hpl] at HJ HN1 HP1 HL1 ⊢
                have HPL := Lib.hid hpl
                clear p1 pd n1 a1 hl1 hl2 hl3 hpl
                go_wp2_with fail
                refine HJ.out.mono ?_
                rintro e w2 ⟨A2, k2, rfl, r2, a2⟩
                have HA2 := Lib.hid (HA1.out.trans a2)
                have hp2 := HP1.out.step a2
                by_cases hj : JoinOk ps
                · rw [(join_yes hj).1] at r2 ⊢
                  rw [(join_yes hj).2]
                  have h1 := hj.pos
                  obtain ⟨hps, hfl⟩ := next_yes HPD.out hj
                  simp only [LS.at_] at hps hfl
                  obtain ⟨b1, o1, q1', q2', rfl, hb1, hc5, -⟩ := hp2.row (i := 0) (by omega)
                  obtain ⟨e0, he0⟩ : ∃ e0, e0 = (hdP ps).e := ⟨_, rfl⟩
                  have c10 : w2.cell? ⟨b1, o1, none⟩ = some (.int .u64 (e0 : Int)) := by
                    have := hc5.1
                    rw [hd_row (by omega), ← he0, Nat.zero_mul, Nat.add_zero] at this
                    exact this
                  obtain ⟨D, hD⟩ : ∃ D, D = allD ps := ⟨_, rfl⟩
                  rw [← hD] at r2 ⊢
                  have hDl : D.length ≤ 8192 := by rw [hD]; exact hj.2.2
                  have hD8 : ∀ z ∈ D, z < 256 := by rw [hD]; exact allD_bytes (by rw [hps]; exact scanV_bytes HSB.out (by have := HM.out; omega) (by have := HM.out; omega))
                  have HOF := Lib.hid (rof_any (.slice A2 D.length k2) D (M0 : Int) w2 r2 hD8 (by omega))
                  have HY2 := Lib.hid (HYR.out.over HA2.out)
                  have c6 : w2.cell? ⟨y, 6, none⟩ = some (.slice (some ⟨b5, 0, none⟩) M0 M0) := by rw [HMM.out]; exact HY2.out.lg.cells.2.2.2.2.2.2.1
                  have HREC := Lib.hid (fun (h1 : decE D = 0) (h2 : isTx (decP D) (M0 : Int)) => (show RecOk s m ((N - 2 - m : Nat) : Int) ⟨rn, rf, rA⟩ from by
                    refine ⟨?_, ?_, ?_, ?_⟩
                    · simp only; rw [← hps]; exact hj
                    · simp only; rw [← hps]; exact hfl
                    · simp only; rw [← hps, ← hD]; exact h1
                    · simp only; rw [← hps, ← hD, ← HMM.out]; exact h2))
                  have HNRC := Lib.hid (fun (ho : RecOk s m ((N - 2 - m : Nat) : Int) ⟨rn, rf, rA⟩) => (show decE D = 0 ∧ isTx (decP D) (M0 : Int) from by
                    have h1 := ho.2.2.1
                    have h2 := ho.2.2.2
                    simp only at h1 h2
                    rw [← hps, ← hD] at h1 h2
                    rw [HMM.out]
                    exact ⟨h1, h2⟩))
                  have HNX := Lib.hid (show nextR s m ⟨rn, rf, rA⟩ = ⟨rn + pl, e0, putA rA (decP D)⟩ from by
                    unfold nextR
                    simp only
                    rw [← hps, ← hD, he0, HPL.out])
                  obtain ⟨dl, hdl⟩ : ∃ dl, dl = D.length := ⟨_, rfl⟩
                  rw [← hdl] at HOF ⊢
                  have HB1x := Lib.hid hb1
                  have HC10 := Lib.hid c10
                  have HPOS := Lib.hid (show 1 ≤ pl by rw [HPL.out]; exact h1)
                  clear r2 a2 hp2 hj h1 hps hfl hb1 hc5 he0 hD hDl hD8 hdl c10
                  go_wp2_with fail
                  refine HOF.out.mono ?_
                  rintro e w3 ⟨A3, n3, q3, rfl, qr3, a3⟩
                  have HA3 := Lib.hid (HA2.out.trans a3)
                  have HA23 := Lib.hid a3
                  obtain ⟨B, hB⟩ : ∃ B, B = decide (decE D = 0 ∧ isTx (decP D) (M0 : Int)) := ⟨_, rfl⟩
                  rw [← hB]
                  cases B with
                  | false =>
                    have HF := Lib.hid (HSTOP.out (fun ho => of_decide_eq_false hB.symm (HNRC.out ho)) _ HA3.out)
                    clear hB qr3 a3
                    go_wp2_with fail
                    exact bodyPost_ret (v := .tuple #[.pointer (some ⟨y, 0, none⟩), .int .i64 0]) (by simp [results, Tryz.results8, go_sem]) rfl HF.out
                  | true =>
                    obtain ⟨hde, htx⟩ := of_decide_eq_true hB.symm
                    have HY3 := Lib.hid (HYR.out.over HA3.out)
                    have HST := Lib.hid (HSK.out.step (by have := HM.out; omega) (HREC.out hde htx))
                    have HTK := Lib.hid (ytake_lg y x b5 m M0 (YK Z G y b5) ((openL s m).at_ ⟨rn, rf, rA⟩) A3 n3 q3 (decP D) w3 (by rw [HMM.out]; exact HY3.out.lg) HY3.out.bdk YK.iny YK.inb (qr3 hde _ (HY2.out.bdk)) htx (decP_bytes D) (by have := HN.out; have := HMM.out; omega))
                    have HC3 := Lib.hid (show w3.cell? ⟨b1, o1, none⟩ = some (.int .u64 (e0 : Int)) by rw [← HC10.out]; exact World.cell?_of_block (HA23.out.block b1 HB1x.out (fun x => x)))
                    have HB3 := Lib.hid (show b1 < w3.heap.size from Nat.lt_of_lt_of_le HB1x.out HA23.out.size)
                    have HNBx := Lib.hid (show ¬ LF y b5 b1 from fun x => by have := HYR.out.lg.bd b1 x; have := HN1.out b1 rfl; omega)
                    clear hB qr3 a3 hde htx
                    go_wp2_with fail
                    refine HTK.out.mono ?_
                    rintro e w4 ⟨rfl, l4, a4⟩
                    have c10 : w4.cell? ⟨b1, o1, none⟩ = some (.int .u64 (e0 : Int)) := by rw [← HC3.out]; exact World.cell?_of_block (a4.block b1 HB3.out HNBx.out)
                    have c5 : w4.cell? ⟨y, 5, none⟩ = some (.int .u64 (rn : Int)) := l4.blk.cell 5
                    have f5 := l4.blk.frozen 5
                    have hb15 : b1 ≠ y := fun e => HNBx.out (.inl e)
                    obtain ⟨nx, hnx⟩ : ∃ nx, nx = rn + pl := ⟨_, rfl⟩
                    have hbig : rn + pl ≤ 1099511640000 := by have := HRN.out; have := HL1.out; have := HH1.out.2.1; have := HM.out; have := HN.out; omega
                    have ew1 : IntKind.u64.wrap (pl : Int) = (pl : Int) := by rw [IntKind.wrap_u64]; omega
                    have ew2 : (rn : Int) + (pl : Int) = (nx : Int) := by omega
                    have ew3 : IntKind.u64.wrap (nx : Int) = (nx : Int) := by rw [IntKind.wrap_u64]; omega
                    have HY5 := Lib.hid (HY3.out.log ((a4.setCell (p := ⟨y, 5, none⟩) (.inl (.inl rfl)) (.int .u64 (nx : Int)))) (by rw [HMM.out] at l4; exact l4.setNext YK.iny nx))
                    have HA5x := Lib.hid ((HAL.out.trans (HA3.out.same (G := LF y b5) (fun _ x => x.elim))).trans (a4.setCell (p := ⟨y, 5, none⟩) (.inl (.inl rfl)) (.int .u64 (nx : Int))))
                    have hpl1 : 1 ≤ (pl : Int) := by have := HPOS.out; omega
                    have hpl0 : (0 : Int) < (pl : Int) := by omega
                    have HNE := Lib.hid hnx
                    have hst := HST.out.1
                    rw [HNX.out, ← hnx] at hst
                    have HST2 := Lib.hid hst
                    have HKM := Lib.hid HST.out.2
                    clear l4 a4 hbig hst hnx
                    go_wp2_with fail
                    exact ⟨⟨k + 1, ⟨nx, e0, putA rA (decP D)⟩, HKM.out, by simp, rfl, HST2.out, HY5.out, HA5x.out⟩, by have := HKM.out; simp [intOf] <;> omega⟩
                · rw [join_not hj]
                  have HF := Lib.hid (HSTOP.out (HJN.out ps HPD.out hj) _ HA2.out)
                  obtain ⟨jl, hjl⟩ : ∃ jl, jl = (joinV ps).length := ⟨_, rfl⟩
                  rw [← hjl] at r2 ⊢
                  clear r2 a2 hp2 hj hjl
                  go_wp2_with fail
                  exact bodyPost_ret (v := .tuple #[.pointer (some ⟨y, 0, none⟩), .int .i64 0]) (by simp [results, Tryz.results8, go_sem]) rfl HF.out
            · have e : headO s = ⟨g, t, f⟩ := by
                unfold headO
                rw [← hcs]
                exact hhs.symm
              have HH0 := Lib.hid (show (headO s).g = g ∧ (headO s).t = t ∧ ((headO s).f : Int) = (f : Int) by rw [e]; exact ⟨rfl, rfl, rfl⟩)
              clear hcs hhs e HC HH
              simp only [Option.isSome_some]
              go_upto_region 20 with (fail)
              go_region
              obtain ⟨V4, hV4⟩ : ∃ V, V = (((V2.setCell ⟨y, 3, none⟩ (.int .u64 (g : Int))).setCell ⟨y, 4, none⟩ (.int .u64 (t : Int))).setCell ⟨y, 5, none⟩ (.int .u64 (t : Int))).drew := ⟨_, rfl⟩
              rw [← hV4]
              have HA4 := Lib.hid (show Adv Nul w Nul V4 by rw [hV4]; exact (((HAV.out.setCell (.inr HY.out) _).setCell (.inr HY.out) _).setCell (.inr HY.out) _).drew)
              have HB4 := Lib.hid (show Blk V4 y 52 #[.pointer (some ⟨x, 0, none⟩), .int .i64 (m : Int), .int .u64 (T1 : Int), .int .u64 (g : Int), .int .u64 (t : Int), .int .u64 (t : Int), .slice none 0 0, .int .i64 0] by rw [hV4]; exact (((HBV.out.set_ 3 _).set_ 4 _).set_ 5 _).drew)
              clear hV4 d3 d4 d5 f3 f4 f5
              obtain ⟨AL', cL', hx0⟩ := rk_len (HR.out.far HA4.out (fun _ x _ => x))
              obtain ⟨M0, hM0⟩ : ∃ M0, M0 = N - 2 - m := ⟨_, rfl⟩
              have HMM := Lib.hid hM0
              have eM : (N : Int) - 2 - (m : Int) = (M0 : Int) := by have := HM.out; omega
              have eM2 : wrap64 ((N : Int) - 2) = (N : Int) - 2 := by have := HN.out; unfold wrap64; omega
              have eM3 : wrap64 (M0 : Int) = (M0 : Int) := by have := HN.out; unfold wrap64; omega
              have hmk := made_homes M0 (by have := HN.out; omega) V4
              obtain ⟨b5, hb5⟩ : ∃ z, z = V4.heap.size := ⟨_, rfl⟩
              rw [← hb5] at hmk
              obtain ⟨V5, hV5⟩ : ∃ V, V = V4.alloc (.cells (madeCells #[.slice none 0 0] (M0 * 1)) 53) := ⟨_, rfl⟩
              rw [← hV5] at hmk
              have HB5 := Lib.hid (HB4.out.keep (show V5.heap[y]? = V4.heap[y]? by rw [hV5]; exact Below.heap_alloc _ _ _ HB4.out.lt))
              have r6 : V5.cell? ⟨y, 6, none⟩ = some (.slice none 0 0) := HB5.out.cell 6
              have g6 := HB5.out.frozen 6
              have HC5 := Lib.hid (show Blk V5 b5 53 (madeCells #[.slice none 0 0] (M0 * 1)) by rw [hV5, hb5]; exact Blk.new _ _ _)
              have HA5 := Lib.hid (show Adv Nul w Nul V5 by rw [hV5]; exact HA4.out.alloc _)
              have HBY := Lib.hid (show b5 ≠ y by have := HB4.out.lt; omega)
              have HNB := Lib.hid (show w.heap.size ≤ b5 by rw [hb5]; exact HA4.out.size)
              clear hV5 hb5 hM0
              go_upto_region 22 with (fail)
              obtain ⟨hys, hya⟩ := ys_made HR.out HZB.out HA5.out HB5.out HC5.out HY.out HNB.out HBY.out HMM.out HH0.out.1 HH0.out.2.1 (by rw [HT1.out, HT.out])
              obtain ⟨W5, hW5⟩ : ∃ W, W = V5.setCell ⟨y, 6, none⟩ (.slice (some ⟨b5, 0, none⟩) M0 M0) := ⟨_, rfl⟩
              rw [← hW5] at hys hya ⊢
              have HYS := Lib.hid hys
              have HYA := Lib.hid hya
              have HTN2 := Lib.hid (show topE s (2 + m) < 16777215 by rw [← HT.out]; exact HTN.out)
              have HH1 := Lib.hid (headO_small HSB.out (by have := HM.out; omega))
              clear hys hya hW5 r6 g6 hmk eM eM2 eM3 hx0 eT hT1b hTn z0 z1 z2
              go_wp2_with fail
              go_loopw [14, 15] (OyR Z W5 G x y b5 m N s) (fun _ t _ => m + 1 - (intOf t).toNat)
              case atStart => exact ⟨0, r0G (openL s m), Nat.zero_le _, rfl, congrArg (Value.int .u64) HH0.out.2.2.symm, SaysK.zero _ _ _ _, HYS.out, Adv.refl _ _⟩
              case round =>
                obtain ⟨k, r, hk, rfl, rfl, hsk, hyr, hal⟩ := hrel
                obtain ⟨rn, rf, rA⟩ := r
                have htop := hsk.top (by have := HM.out; omega)
                have hrn : rn ≤ (headO s).t + m := htop
                have HSTOP := Lib.hid (fun (hno : ¬ RecOk s m ((N - 2 - m : Nat) : Int) ⟨rn, rf, rA⟩) (w' : World) (ha : Adv Nul wr Nul w') => op_stop HNN.out HTN2.out hsk hno hyr HYA.out hal ha HY.out HNB.out)
                have HNEX := Lib.hid (ynext_lg x y b5 m N rf ((openL s m).at_ ⟨rn, rf, rA⟩) G s wr hyr HSB.out HQ.out ⟨HM.out.1, HM.out.2, HN.out.2⟩ (by have := HH1.out.2.1; have := HM.out; have := HN.out; show rn ≤ _; omega) (by have := HH1.out.2.1; show (headO s).t ≤ _; omega))
                have HJN := Lib.hid (fun ps (h : NextOf s m rn ((headO s).t + m) rf ps) (hno : ¬ JoinOk ps) => next_join (r := ⟨rn, rf, rA⟩) (by have := HM.out; omega) hsk h hno)
                have HSK := Lib.hid hsk
                have HYR := Lib.hid hyr
                have HAL := Lib.hid hal
                have HRN := Lib.hid hrn
                have HK := Lib.hid hk
                have hkI : (k : Int) ≤ (m : Int) := by omega
                clear hsk hyr hal htop hrn hk
                go_wp2_with fail
                refine HNEX.out.mono ?_
                rintro e w1 ⟨ps, A1, q1, rfl, p1, pd, n1, a1⟩
                have HPD := Lib.hid pd
                obtain ⟨hl1, hl2, hl3⟩ := next_small (by have := HM.out; omega) pd
                have HJ := Lib.hid (rjoin_any A1 q1 ps w1 p1 (by have := HN.out; have := HM.out; have := HN9.out; omega) hl2 (fun p hp => by have := hl3 p hp; have := HRN.out; have := HH1.out.2.1; have := HM.out; have := HN.out; simp only [LS.at_] at this hl3; have e := hl3 p hp; omega))
                have HP1 := Lib.hid p1
                have HN1 := Lib.hid n1
                have HA1 := Lib.hid a1
                have HL1 := Lib.hid hl1
                obtain ⟨pl, hpl⟩ : ∃ pl, pl = ps.length := ⟨_, rfl⟩
                rw [← hpl] at HJ HN1 HP1 HL1 ⊢
                have HPL := Lib.hid hpl
                clear p1 pd n1 a1 hl1 hl2 hl3 hpl
                go_wp2_with fail
                refine HJ.out.mono ?_
                rintro e w2 ⟨A2, k2, rfl, r2, a2⟩
                have HA2 := Lib.hid (HA1.out.trans a2)
                have hp2 := HP1.out.step a2
                by_cases hj : JoinOk ps
                · rw [(join_yes hj).1] at r2 ⊢
                  rw [(join_yes hj).2]
                  have h1 := hj.pos
                  obtain ⟨hps, hfl⟩ := next_yes HPD.out hj
                  simp only [LS.at_] at hps hfl
                  obtain ⟨b1, o1, q1', q2', rfl, hb1, hc5, -⟩ := hp2.row (i := 0) (by omega)
                  obtain ⟨e0, he0⟩ : ∃ e0, e0 = (hdP ps).e := ⟨_, rfl⟩
                  have c10 : w2.cell? ⟨b1, o1, none⟩ = some (.int .u64 (e0 : Int)) := by
                    have := hc5.1
                    rw [hd_row (by omega), ← he0, Nat.zero_mul, Nat.add_zero] at this
                    exact this
                  obtain ⟨D, hD⟩ : ∃ D, D = allD ps := ⟨_, rfl⟩
                  rw [← hD] at r2 ⊢
                  have hDl : D.length ≤ 8192 := by rw [hD]; exact hj.2.2
                  have hD8 : ∀ z ∈ D, z < 256 := by rw [hD]; exact allD_bytes (by rw [hps]; exact scanV_bytes HSB.out (by have := HM.out; omega) (by have := HM.out; omega))
                  have HOF := Lib.hid (rof_any (.slice A2 D.length k2) D (M0 : Int) w2 r2 hD8 (by omega))
                  have HY2 := Lib.hid (HYR.out.over HA2.out)
                  have c6 : w2.cell? ⟨y, 6, none⟩ = some (.slice (some ⟨b5, 0, none⟩) M0 M0) := by rw [HMM.out]; exact HY2.out.lg.cells.2.2.2.2.2.2.1
                  have HREC := Lib.hid (fun (h1 : decE D = 0) (h2 : isTx (decP D) (M0 : Int)) => (show RecOk s m ((N - 2 - m : Nat) : Int) ⟨rn, rf, rA⟩ from by
                    refine ⟨?_, ?_, ?_, ?_⟩
                    · simp only; rw [← hps]; exact hj
                    · simp only; rw [← hps]; exact hfl
                    · simp only; rw [← hps, ← hD]; exact h1
                    · simp only; rw [← hps, ← hD, ← HMM.out]; exact h2))
                  have HNRC := Lib.hid (fun (ho : RecOk s m ((N - 2 - m : Nat) : Int) ⟨rn, rf, rA⟩) => (show decE D = 0 ∧ isTx (decP D) (M0 : Int) from by
                    have h1 := ho.2.2.1
                    have h2 := ho.2.2.2
                    simp only at h1 h2
                    rw [← hps, ← hD] at h1 h2
                    rw [HMM.out]
                    exact ⟨h1, h2⟩))
                  have HNX := Lib.hid (show nextR s m ⟨rn, rf, rA⟩ = ⟨rn + pl, e0, putA rA (decP D)⟩ from by
                    unfold nextR
                    simp only
                    rw [← hps, ← hD, he0, HPL.out])
                  obtain ⟨dl, hdl⟩ : ∃ dl, dl = D.length := ⟨_, rfl⟩
                  rw [← hdl] at HOF ⊢
                  have HB1x := Lib.hid hb1
                  have HC10 := Lib.hid c10
                  have HPOS := Lib.hid (show 1 ≤ pl by rw [HPL.out]; exact h1)
                  clear r2 a2 hp2 hj h1 hps hfl hb1 hc5 he0 hD hDl hD8 hdl c10
                  go_wp2_with fail
                  refine HOF.out.mono ?_
                  rintro e w3 ⟨A3, n3, q3, rfl, qr3, a3⟩
                  have HA3 := Lib.hid (HA2.out.trans a3)
                  have HA23 := Lib.hid a3
                  obtain ⟨B, hB⟩ : ∃ B, B = decide (decE D = 0 ∧ isTx (decP D) (M0 : Int)) := ⟨_, rfl⟩
                  rw [← hB]
                  cases B with
                  | false =>
                    have HF := Lib.hid (HSTOP.out (fun ho => of_decide_eq_false hB.symm (HNRC.out ho)) _ HA3.out)
                    clear hB qr3 a3
                    go_wp2_with fail
                    exact bodyPost_ret (v := .tuple #[.pointer (some ⟨y, 0, none⟩), .int .i64 0]) (by simp [results, Tryz.results8, go_sem]) rfl HF.out
                  | true =>
                    obtain ⟨hde, htx⟩ := of_decide_eq_true hB.symm
                    have HY3 := Lib.hid (HYR.out.over HA3.out)
                    have HST := Lib.hid (HSK.out.step (by have := HM.out; omega) (HREC.out hde htx))
                    have HTK := Lib.hid (ytake_lg y x b5 m M0 (YK Z G y b5) ((openL s m).at_ ⟨rn, rf, rA⟩) A3 n3 q3 (decP D) w3 (by rw [HMM.out]; exact HY3.out.lg) HY3.out.bdk YK.iny YK.inb (qr3 hde _ (HY2.out.bdk)) htx (decP_bytes D) (by have := HN.out; have := HMM.out; omega))
                    have HC3 := Lib.hid (show w3.cell? ⟨b1, o1, none⟩ = some (.int .u64 (e0 : Int)) by rw [← HC10.out]; exact World.cell?_of_block (HA23.out.block b1 HB1x.out (fun x => x)))
                    have HB3 := Lib.hid (show b1 < w3.heap.size from Nat.lt_of_lt_of_le HB1x.out HA23.out.size)
                    have HNBx := Lib.hid (show ¬ LF y b5 b1 from fun x => by have := HYR.out.lg.bd b1 x; have := HN1.out b1 rfl; omega)
                    clear hB qr3 a3 hde htx
                    go_wp2_with fail
                    refine HTK.out.mono ?_
                    rintro e w4 ⟨rfl, l4, a4⟩
                    have c10 : w4.cell? ⟨b1, o1, none⟩ = some (.int .u64 (e0 : Int)) := by rw [← HC3.out]; exact World.cell?_of_block (a4.block b1 HB3.out HNBx.out)
                    have c5 : w4.cell? ⟨y, 5, none⟩ = some (.int .u64 (rn : Int)) := l4.blk.cell 5
                    have f5 := l4.blk.frozen 5
                    have hb15 : b1 ≠ y := fun e => HNBx.out (.inl e)
                    obtain ⟨nx, hnx⟩ : ∃ nx, nx = rn + pl := ⟨_, rfl⟩
                    have hbig : rn + pl ≤ 1099511640000 := by have := HRN.out; have := HL1.out; have := HH1.out.2.1; have := HM.out; have := HN.out; omega
                    have ew1 : IntKind.u64.wrap (pl : Int) = (pl : Int) := by rw [IntKind.wrap_u64]; omega
                    have ew2 : (rn : Int) + (pl : Int) = (nx : Int) := by omega
                    have ew3 : IntKind.u64.wrap (nx : Int) = (nx : Int) := by rw [IntKind.wrap_u64]; omega
                    have HY5 := Lib.hid (HY3.out.log ((a4.setCell (p := ⟨y, 5, none⟩) (.inl (.inl rfl)) (.int .u64 (nx : Int)))) (by rw [HMM.out] at l4; exact l4.setNext YK.iny nx))
                    have HA5x := Lib.hid ((HAL.out.trans (HA3.out.same (G := LF y b5) (fun _ x => x.elim))).trans (a4.setCell (p := ⟨y, 5, none⟩) (.inl (.inl rfl)) (.int .u64 (nx : Int))))
                    have hpl1 : 1 ≤ (pl : Int) := by have := HPOS.out; omega
                    have hpl0 : (0 : Int) < (pl : Int) := by omega
                    have HNE := Lib.hid hnx
                    have hst := HST.out.1
                    rw [HNX.out, ← hnx] at hst
                    have HST2 := Lib.hid hst
                    have HKM := Lib.hid HST.out.2
                    clear l4 a4 hbig hst hnx
                    go_wp2_with fail
                    exact ⟨⟨k + 1, ⟨nx, e0, putA rA (decP D)⟩, HKM.out, by simp, rfl, HST2.out, HY5.out, HA5x.out⟩, by have := HKM.out; simp [intOf] <;> omega⟩
                · rw [join_not hj]
                  have HF := Lib.hid (HSTOP.out (HJN.out ps HPD.out hj) _ HA2.out)
                  obtain ⟨jl, hjl⟩ : ∃ jl, jl = (joinV ps).length := ⟨_, rfl⟩
                  rw [← hjl] at r2 ⊢
                  clear r2 a2 hp2 hj hjl
                  go_wp2_with fail
                  exact bodyPost_ret (v := .tuple #[.pointer (some ⟨y, 0, none⟩), .int .i64 0]) (by simp [results, Tryz.results8, go_sem]) rfl HF.out
          · exact absurd (fun j hj => by have := HM.out; omega) hbad
  · have HF := Lib.hid (show OpY Z w G x N s n (.returned (.tuple #[.pointer none, .int .i64 2])) w from .inl ⟨hn, rfl, Adv.refl _ _⟩)
    by_cases h2 : n < 2
    · clear hn
      go_enter Tryz.func8, Tryz.ntmps8
      go_wp2_with fail
      exact bodyPost_ret (v := .tuple #[.pointer none, .int .i64 2]) (by simp [results, Tryz.results8, go_sem]) rfl HF.out
    · have h3 : (N : Int) - 3 < n := by omega
      clear hn
      go_enter Tryz.func8, Tryz.ntmps8
      go_wp2_with fail
      exact bodyPost_ret (v := .tuple #[.pointer none, .int .i64 2]) (by simp [results, Tryz.results8, go_sem]) rfl HF.out
end Go.Proofs.YtbdjlmdbnoghnaaGreat
