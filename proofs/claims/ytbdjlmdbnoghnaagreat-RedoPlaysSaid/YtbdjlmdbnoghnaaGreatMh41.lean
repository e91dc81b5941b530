/- RedoPlays. -/
import Derived.Test.YtbdjlmdbnoghnaaGreatMh40
import Derived.Deep.DeepCutAuto
namespace Go.Proofs.YtbdjlmdbnoghnaaGreat
open Go.RowKit Go.Maps

def PlL (W : World) (d x m N M : Nat) (t15 t11 t13 : Value) (wr : World) : Prop :=
  ∃ (k l b y c : Nat) (s : DS) (g : LS) (F G : Nat → Prop), k ≤ M ∧ t15 = .int .i64 (k : Int) ∧ t11 = .pointer (some ⟨l, 0, none⟩) ∧ t13 = .pointer (some ⟨y, 0, none⟩) ∧ PlI W d x m N k l b y c s g F G wr
def PlD (W : World) (d x m N k : Nat) (t17 t11 t13 : Value) (wr : World) : Prop :=
  t17 = .bool true ∧ ∃ (l b y c : Nat) (s : DS) (g : LS) (F G : Nat → Prop), t11 = .pointer (some ⟨l, 0, none⟩) ∧ t13 = .pointer (some ⟨y, 0, none⟩) ∧ PlI W d x m N (k + 1) l b y c s g F G wr
def PlA (W : World) (d x m N k l b y c : Nat) (s : DS) (g : LS) (F G : Nat → Prop) (M : Nat) (t : Value) (wr : World) : Prop :=
  ∃ j : Nat, j ≤ M ∧ t = .int .i64 (j : Int) ∧ PlI W d x m N (k + 1) l b y c s g F G wr
def PlC (w : World) (b o k : Nat) (A : Option Addr) (n q : Nat) (od : Bool) : Prop := w.cell? ⟨b, o + k * 5 + 2, none⟩ = some (.slice A n q) ∧ w.cell? ⟨b, o + k * 5 + 3, none⟩ = some (.bool od)
def PlN (w : World) (b o k : Nat) (xn : Int) (A : Option Addr) (n q : Nat) : Prop := w.cell? ⟨b, o + k * 5 + 1, none⟩ = some (.int .i64 xn) ∧ w.cell? ⟨b, o + k * 5 + 4, none⟩ = some (.slice A n q)
/-- neither log is there -/
def PlZ (w : World) (t15 t13 : Value) (wr : World) : Prop := t15 = .int .i64 0 ∧ t13 = .pointer none ∧ wr = w

set_option maxRecDepth 3000 in
set_option maxHeartbeats 25600000 in
theorem rplays_walk (W : World) (size : Int) (_ : (Lit.int .i64 size).wf = true) (n : Int) (hwf : (Lit.int .i64 n).wf = true) (v : Value) (hv : ∃ ds, GDos W v ds) :
    Calls Tryz.prog 3 #[.int .i64 size, .int .i64 n, v] W fun e w' => e = .returned (.bool true) ∧ Below W.heap.size W w' := by
  obtain ⟨ds, hds⟩ := hv
  obtain ⟨A0, c0, rfl, hx1, hx2⟩ := hds.1.form
  obtain ⟨L, hL⟩ : ∃ L, L = ds.length := ⟨_, rfl⟩
  have hLI : (L : Int) ≤ 9223372036854775807 := by unfold maxLen at hx2; omega
  rw [← hL] at hds ⊢
  have HDS := Lib.hid hds
  have HL := Lib.hid hL
  obtain ⟨M, hM⟩ : ∃ M, M = min L 25 := ⟨_, rfl⟩
  have HM := Lib.hid hM
  have HWI := Lib.hid (within_any size 1 30 W (by decide))
  have HNN := Lib.hid (i64_two hwf)
  clear hds hx1 hx2 hL hM hwf
  go_enter Tryz.func3, Tryz.ntmps3
  go_wp2_with fail
  refine HWI.out.mono ?_
  rintro e W' ⟨y0, rfl, hy1, hy2, -, rfl⟩
  obtain ⟨N, rfl⟩ := Int.eq_ofNat_of_zero_le (show 0 ≤ y0 by omega)
  have HNB := Lib.hid (show 1 ≤ N ∧ N ≤ 30 by omega)
  have HNEW := Lib.hid (new_r N (by omega) (by omega) W)
  clear hy1 hy2
  go_wp2_with fail
  refine HNEW.out.mono ?_
  rintro e w2 ⟨d, F, rfl, k2, a2⟩
  have HRN := Lib.hid (rnew_r N (by have := HNB.out; omega) (by have := HNB.out; omega) w2)
  have HK2 := Lib.hid k2
  have HA2 := Lib.hid a2
  clear k2 a2
  go_wp2_with fail
  refine HRN.out.mono ?_
  rintro e w3 ⟨x, G, rfl, k3, a3⟩
  have HD := Lib.hid (HK2.out.far a3 (fun _ e _ => e))
  have HR := Lib.hid k3
  have HSEP := Lib.hid (show Sep F G from fun j e f => by
    rcases a3.into j f with h | h
    · exact h
    · have := HK2.out.bd j e; omega)
  have HADV := Lib.hid (show Adv Nul W Nul w3 from (HA2.out.sub (fun _ e => e.elim)).trans (a3.sub (fun _ e => e.elim)))
  have HLOW := Lib.hid (show ∀ j, F j ∨ G j → W.heap.size ≤ j from fun j e => by
    rcases e with e | e
    · rcases HA2.out.into j e with h | h
      · exact h.elim
      · exact h
    · rcases a3.into j e with h | h
      · exact h.elim
      · exact Nat.le_trans HA2.out.size h)
  have HOP := Lib.hid (gopen_dk d N F (newS N) n w3 HD.out (sb_new N) (by have := HNB.out; omega) HNN.out.1 HNN.out.2)
  clear k3 a3 HNEW HRN HWI HK2 HA2
  go_wp2_with fail
  refine HOP.out.mono ?_
  intro e w4 h4
  by_cases hn : 2 ≤ n ∧ n + 3 ≤ (N : Int)
  · obtain ⟨m, rfl⟩ := Int.eq_ofNat_of_zero_le (show 0 ≤ n by omega)
    have hmN : 2 ≤ m ∧ m + 3 ≤ N := by omega
    have HN := Lib.hid (show 2 ≤ m ∧ m + 3 ≤ N ∧ N ≤ 4096 by have := HNB.out; omega)
    have hnL : (newS N).L.length = N := by simp [newS]
    have hpi := PI.open_ (new_dall m N) hnL hmN
    have htop := hpi.top hnL (by omega)
    have HPI := Lib.hid hpi
    rcases h4 with ⟨hb, -⟩ | ⟨-, ht, -⟩ | ⟨-, -, l, b, rfl, rs4, nw4, a4⟩
    · exact absurd hn hb
    · rw [Int.toNat_natCast] at ht
      omega
    rw [Int.toNat_natCast] at rs4
    obtain ⟨g0, hg0⟩ : ∃ g, g = openS (newS N) m N := ⟨_, rfl⟩
    rw [← hg0] at rs4 HPI
    have HS4 := Lib.hid rs4
    have HNW4 := Lib.hid nw4
    have HA4 := Lib.hid a4
    have HG0 := Lib.hid hg0
    have HYO := Lib.hid (yopen_rk (Z := UF F l b) x N G (newS N) (m : Int) w4 (HR.out.far a4 (fun _ e _ => e)) rs4.bd (sb_new N) (by simp [newS]) (by have := HNB.out; omega) (by have := HNB.out; omega) HNN.out.1 HNN.out.2)
    have HTOP := Lib.hid htop
    have HNI := Lib.hid hn
    clear rs4 nw4 a4 hg0 htop hpi hnL hmN hn
    go_wp2_with fail
    refine HYO.out.mono ?_
    intro e w5 h5
    rcases h5 with ⟨hb, -⟩ | ⟨-, ht, -⟩ | ⟨-, -, y, c, rfl, ys5, nw5, a5⟩
    · exact absurd HNI.out hb
    · rw [Int.toNat_natCast] at ht
      have := HTOP.out
      omega
    rw [Int.toNat_natCast, ← HG0.out] at ys5
    have HI0 := Lib.hid (show PlI W d x m N 0 l b y c (newS N) g0 F G w5 from
      ⟨PlM.new HADV.out HD.out HR.out HSEP.out HLOW.out HS4.out HNW4.out HA4.out ys5 nw5 a5, HPI.out, by simp [newS]⟩)
    clear ys5 nw5 a5 HYO HNI HTOP HG0 HA4 HNW4 HS4 HPI HOP HLOW HADV HSEP HR HD
    go_wp2_with fail
    go_loopw [15, 11, 13, 12, 14] (fun t15 t11 t13 _ _ wr => PlL W d x m N M t15 t11 t13 wr) (fun t _ _ _ _ _ => M - (intOf t).toNat)
    case atStart => exact ⟨0, l, b, y, c, newS N, g0, F, G, Nat.zero_le _, rfl, rfl, rfl, HI0.out⟩
    case round =>
      clear HI0
      obtain ⟨k, l, b, y, c, s, g, F, G, hk, rfl, rfl, rfl, hi⟩ := hrel
      have HI := Lib.hid hi
      by_cases hlt : k < M
      · have hkl : k < ds.length := by have := HM.out; have := HL.out; omega
        have hkiL : (k : Int) < (L : Int) := by have := HL.out; omega
        have hk25 : (k : Int) < 25 := by have := HM.out; omega
        have HK := Lib.hid (show k < 25 by omega)
        have hbe := hi.mm.adv.toBelow
        obtain ⟨b0, o0, rfl, hb0, d0, d1, d2, d4, hfit⟩ := HDS.out.at_ hbe hkl
        have d3 := HDS.out.odd_ hbe hkl
        obtain ⟨D, hD⟩ : ∃ D, D = ds[k] := ⟨_, rfl⟩
        rw [← hD] at d0 d1 d2 d3 d4 hfit
        obtain ⟨xk, xn, pv, pds, od, kv, ks⟩ := D
        have hp := hfit.p
        have hfk := hfit.k
        have hfo := hfit.kold
        have hnn := hfit.nn
        simp only at hp hfk hfo hnn d0 d1 d2 d3 d4
        obtain ⟨Ap, cp, rfl, -, -⟩ := hp.1.form
        obtain ⟨np, hnp⟩ : ∃ y, y = pds.length := ⟨_, rfl⟩
        rw [← hnp] at hp d2
        obtain ⟨ak, ck, rfl, _, _⟩ := hfk.form
        obtain ⟨mk, hmk⟩ : ∃ mk, mk = ks.length := ⟨_, rfl⟩
        rw [← hmk] at hfk hfo d4
        have HDC := Lib.hid (show ∀ w', Below W.heap.size W w' → w'.cell? ⟨b0, o0 + k * 5, none⟩ = some (.int .i64 xk) ∧ PlN w' b0 o0 k xn ak mk ck from fun w' hb' => by
          have e : w'.heap[b0]? = wr.heap[b0]? := (hb'.block b0 hb0).trans (hbe.block b0 hb0).symm
          exact ⟨(World.cell?_of_block e).trans d0, (World.cell?_of_block e).trans d1, (World.cell?_of_block e).trans d4⟩)
        have HDP := Lib.hid (show ∀ w', Below W.heap.size W w' → PlC w' b0 o0 k Ap np cp od from fun w' hb' => by
          have e : w'.heap[b0]? = wr.heap[b0]? := (hb'.block b0 hb0).trans (hbe.block b0 hb0).symm
          exact ⟨(World.cell?_of_block e).trans d2, (World.cell?_of_block e).trans d3⟩)
        have HKS := Lib.hid hfk
        have HKO := Lib.hid hfo
        have HXN := Lib.hid hnn
        have HFEW := Lib.hid (few6_any W wr.drew _ pds 26 od hp (HI.out.step (Adv.refl Nul wr).drew).mm.adv.toBelow (by decide))
        have HPC := Lib.hid (show PlC wr b0 o0 k Ap np cp od from ⟨d2, d3⟩)
        have HPD := Lib.hid (show PlC wr.drew b0 o0 k Ap np cp od from ⟨d2, d3⟩)
        have H8 := Lib.hid (few_b8 (n := 26) (odd := od) hp.2)
        obtain ⟨ps, hps⟩ : ∃ ps, ps = fewP pds 26 od := ⟨_, rfl⟩
        rw [← hps] at HFEW H8
        have HLT := Lib.hid hlt
        clear hkl hbe hb0 hfit hD hp hnp hps hlt hk hi hfk hfo hnn hmk d0 d1 d2 d3 d4
        go_upto_region 13 with (fail)
        refine rstart (S := (fun w' => PlC w' b0 o0 k Ap np cp od)) (by first | with_reducible exact HPE.out | with_reducible exact HPC.out | with_reducible exact HPD.out) (fun hH => ?_)
        refine tk (i := 0) (oi := ⟨some 74, .move (.tmp 2), 22, "law.go:47", #[], none⟩) hH.out (by rintro w ⟨z0, z1⟩; go_simp <;> with_reducible rfl) ?_
        simp only [Act.put, sA, sB, sC]
        refine tk (i := 1) (oi := ⟨some 75, .move (.tmp 15), 3, "law.go:47", #[], none⟩) hH.out (by rintro w ⟨z0, z1⟩; go_simp <;> with_reducible rfl) ?_
        simp only [Act.put, sA, sB, sC]
        refine tk (i := 2) (oi := ⟨some 76, .indexAddr 22 (.tmp 74) (.tmp 75), 0, "law.go:47", #[⟨0, .data⟩, ⟨1, .data⟩], none⟩) hH.out (by rintro w ⟨z0, z1⟩; go_simp <;> with_reducible rfl) ?_
        simp only [Act.put, sA, sB, sC]
        refine tk (i := 3) (oi := ⟨some 77, .fieldAddr 41 (.tmp 76) 2, 0, "law.go:47", #[⟨2, .data⟩], none⟩) hH.out (by rintro w ⟨z0, z1⟩; go_simp <;> with_reducible rfl) ?_
        simp only [Act.put, sA, sB, sC]
        refine tk (i := 4) (oi := ⟨some 78, .load 37 (.tmp 77), 37, "law.go:47", #[⟨3, .data⟩], none⟩) hH.out (by rintro w ⟨z0, z1⟩; go_simp <;> with_reducible rfl) ?_
        simp only [Act.put, sA, sB, sC]
        refine tk (i := 5) (oi := ⟨some 79, .move (.tmp 2), 22, "law.go:47", #[], none⟩) hH.out (by rintro w ⟨z0, z1⟩; go_simp <;> with_reducible rfl) ?_
        simp only [Act.put, sA, sB, sC]
        refine tk (i := 6) (oi := ⟨some 80, .move (.tmp 15), 3, "law.go:47", #[], none⟩) hH.out (by rintro w ⟨z0, z1⟩; go_simp <;> with_reducible rfl) ?_
        simp only [Act.put, sA, sB, sC]
        refine tk (i := 7) (oi := ⟨some 81, .indexAddr 22 (.tmp 79) (.tmp 80), 0, "law.go:47", #[⟨5, .data⟩, ⟨6, .data⟩], none⟩) hH.out (by rintro w ⟨z0, z1⟩; go_simp <;> with_reducible rfl) ?_
        simp only [Act.put, sA, sB, sC]
        refine tk (i := 8) (oi := ⟨some 82, .fieldAddr 41 (.tmp 81) 3, 0, "law.go:47", #[⟨7, .data⟩], none⟩) hH.out (by rintro w ⟨z0, z1⟩; go_simp <;> with_reducible rfl) ?_
        simp only [Act.put, sA, sB, sC]
        refine tk (i := 9) (oi := ⟨some 83, .load 4 (.tmp 82), 4, "law.go:47", #[⟨8, .data⟩], none⟩) hH.out (by rintro w ⟨z0, z1⟩; go_simp <;> with_reducible rfl) ?_
        simp only [Act.put, sA, sB, sC]
        refine rdy (i := 10) (oi := ⟨some 84, .call ⟨.value (.func 9), #[.tmp 78, .const (Go.Value.int Go.IntKind.i64 26), .tmp 83], #[37, 3, 4]⟩, 37, "law.go:47", #[⟨4, .data⟩, ⟨9, .data⟩], none⟩) (fun K hK => ?_)
        go_simp
        refine HFEW.out.mono ?_
        rintro e w5 ⟨A5, q5, rfl, hq5, a5⟩
        have HPE := Lib.hid (HDP.out w5 ((HI.out.step (Adv.refl Nul wr).drew).step a5).mm.adv.toBelow)
        go_wp2_with fail
        refine hK.out _ _ (by first | with_reducible exact HPE.out | with_reducible exact HPC.out | with_reducible exact HPD.out) (fun hHeld => ?_)
        replace hH := Lib.hid hHeld
        clear hK K hHeld
        try simp only [Act.put, sA, sB, sC]
        refine tk (i := 11) (oi := ⟨some 16, .assign (.tmp 84), 37, "law.go:47", #[⟨10, .data⟩, ⟨10, .chain⟩, ⟨0, .phase⟩, ⟨1, .phase⟩, ⟨2, .phase⟩, ⟨3, .phase⟩, ⟨4, .phase⟩, ⟨5, .phase⟩, ⟨6, .phase⟩, ⟨7, .phase⟩, ⟨8, .phase⟩, ⟨9, .phase⟩, ⟨10, .phase⟩], none⟩) hH.out (by rintro w ⟨z0, z1⟩; go_simp <;> with_reducible rfl) ?_
        simp only [Act.put, sA, sB, sC]
        refine wpAnyH_done (by kernel_rfl) ?_ _
        obtain ⟨np5, hP⟩ : ∃ P, P = ps.length := ⟨_, rfl⟩
        rw [← hP] at hq5 ⊢
        have HI5 := Lib.hid ((HI.out.step (Adv.refl Nul wr).drew).step a5)
        have HQ5 := Lib.hid (show QPl w5 l b y c F G (.slice A5 np5 q5) ps from hq5 _ (HI.out.step (Adv.refl Nul wr).drew).mm.ys.bdk)
        have d0 := (HDC.out w5 HI5.out.mm.adv.toBelow).1
        clear hq5 a5 hP
        go_upto_region 15 with (fail)
        go_cut [89] (fun t89 wr' => t89 = .int .i64 xk ∧ w5 = wr')
        case first =>
          go_wp2_with fail
          go_meet
          exact ⟨rfl, rfl⟩
        case rest =>
        obtain ⟨rfl, rfl⟩ := hcut
        rename_i Kx hKx
        refine hKx _ _ ?_
        clear hKx Kx d0
        go_cut [17, 11, 13, 12, 14] (fun t17 t11 t13 _ _ wr => PlD W d x m N k t17 t11 t13 wr)
        case first =>
          by_cases h0 : xk = 0
          · have p0 : (xk == 0) = true := by simp [h0]
            clear h0
            as_aux_lemma =>
              obtain ⟨r, hr⟩ : ∃ r, r = writeG s m N g ps := ⟨_, rfl⟩
              have HPI := Lib.hid (HI5.out.write ⟨HN.out.2.1, HNB.out.2⟩ (by have := HK.out; omega) H8.out hr)
              have HW1 := Lib.hid (pl_write HI5.out.mm (HI5.out.gok HN.out (by have := HK.out; omega)) HQ5.out H8.out hr)
              have HW2 := Lib.hid (fun w' l b y c F G (k5 : PlM W d x m N l b y c r.1.1 s r.1.2 g F G w') (q5' : QPl w' l b y c F G (.slice A5 np5 q5) ps) => pl_ywrite k5 (HI5.out.gok HN.out (by have := HK.out; omega)) q5' H8.out hr)
              clear hr
              obtain ⟨⟨s1, g1⟩, e1⟩ := r
              simp only at HPI HW1 HW2
              go_wp2_with fail
              refine HW1.out.mono ?_
              rintro e w6 ⟨rfl, F6, m6, q6⟩
              have HY := Lib.hid (HW2.out w6 l b y c F6 G m6 q6)
              clear m6 q6
              go_wp2_with fail
              refine HY.out.mono ?_
              rintro e w7 ⟨rfl, G7, c7, m7⟩
              have HF := Lib.hid (show PlI W d x m N (k + 1) l b y c7 s1 g1 F6 G7 w7 from ⟨m7, HPI.out.1, HPI.out.2⟩)
              have hee : (e1 == e1) = true := by simp
              clear m7
              go_wp2_with fail
              go_meet
              exact ⟨rfl, l, b, y, c7, s1, g1, F6, G7, rfl, rfl, HF.out⟩
          · have p0 : (xk == 0) = false := beq_eq_false_iff_ne.2 h0
            by_cases h1 : xk = 1
            · have p1 : (xk == 1) = true := by simp [h1]
              clear h0 h1
              as_aux_lemma =>
                obtain ⟨r, hr⟩ : ∃ r, r = syncG s g := ⟨_, rfl⟩
                have HPI := Lib.hid (HI5.out.sync hr)
                have HW1 := Lib.hid (pl_sync HI5.out.mm hr)
                have HW2 := Lib.hid (fun w' l b y c F G (k5 : PlM W d x m N l b y c r.1.1 s r.1.2 g F G w') => pl_ysync k5 (by have := HNB.out; omega) (by have := HI5.out.q; have := HK.out; omega) hr)
                clear hr
                obtain ⟨⟨s1, g1⟩, e1⟩ := r
                simp only at HPI HW1 HW2
                go_wp2_with fail
                refine HW1.out.mono ?_
                rintro e w6 ⟨rfl, F6, m6⟩
                have HY := Lib.hid (HW2.out w6 l b y c F6 G m6)
                clear m6
                go_wp2_with fail
                refine HY.out.mono ?_
                rintro e w7 ⟨rfl, G7, c7, m7⟩
                have HF := Lib.hid (show PlI W d x m N (k + 1) l b y c7 s1 g1 F6 G7 w7 from ⟨m7, HPI.out.1, HPI.out.2⟩)
                have hee : (e1 == e1) = true := by simp
                clear m7
                go_wp2_with fail
                go_meet
                exact ⟨rfl, l, b, y, c7, s1, g1, F6, G7, rfl, rfl, HF.out⟩
            · have p1 : (xk == 1) = false := beq_eq_false_iff_ne.2 h1
              by_cases h2 : xk = 2
              · have p2 : (xk == 2) = true := by simp [h2]
                clear h0 h1 h2
                as_aux_lemma =>
                  obtain ⟨r, hr⟩ : ∃ r, r = checkG s m N g := ⟨_, rfl⟩
                  have HPI := Lib.hid (HI5.out.check ⟨HN.out.2.1, HNB.out.2⟩ (by have := HK.out; omega) hr)
                  have HW1 := Lib.hid (pl_check HI5.out.mm HN.out HI5.out.pi (by have := HK.out; omega) (by have := HI5.out.q; have := HK.out; omega) hr)
                  have HW2 := Lib.hid (fun w' l b y c F G (k5 : PlM W d x m N l b y c r.1.1 s r.1.2 g F G w') => pl_ycheck k5 HN.out HI5.out.pi (by have := HK.out; omega) (by have := HI5.out.q; have := HK.out; omega) hr)
                  clear hr
                  obtain ⟨⟨s1, g1⟩, e1⟩ := r
                  simp only at HPI HW1 HW2
                  go_wp2_with fail
                  refine HW1.out.mono ?_
                  rintro e w6 ⟨rfl, F6, m6⟩
                  have HY := Lib.hid (HW2.out w6 l b y c F6 G m6)
                  clear m6
                  go_wp2_with fail
                  refine HY.out.mono ?_
                  rintro e w7 ⟨rfl, G7, c7, m7⟩
                  have HF := Lib.hid (show PlI W d x m N (k + 1) l b y c7 s1 g1 F6 G7 w7 from ⟨m7, HPI.out.1, HPI.out.2⟩)
                  have hee : (e1 == e1) = true := by simp
                  clear m7
                  go_wp2_with fail
                  go_meet
                  exact ⟨rfl, l, b, y, c7, s1, g1, F6, G7, rfl, rfl, HF.out⟩
              · have p2 : (xk == 2) = false := beq_eq_false_iff_ne.2 h2
                by_cases h3 : xk = 3
                · have p3 : (xk == 3) = true := by simp [h3]
                  clear h0 h1 h2 h3
                  as_aux_lemma =>
                    obtain ⟨r, hr⟩ : ∃ r, r = fuseS s xn := ⟨_, rfl⟩
                    have HPI := Lib.hid (HI5.out.fuse xn hr)
                    have HW1 := Lib.hid (pl_fuse HI5.out.mm.drew xn HXN.out hr)
                    have HW2 := Lib.hid (fun w' (k5 : PlM W d x m N l b y c r.1 s g g F G w') => pl_arm k5 xn HXN.out hr)
                    clear hr
                    obtain ⟨s1, e1⟩ := r
                    simp only at HPI HW1 HW2
                    have K5 := Lib.hid (HDC.out _ (HI5.out.mm).adv.toBelow).2
                    have KD := Lib.hid (HDC.out _ (HI5.out.mm.drew).adv.toBelow).2

                    go_upto_region 28 with (fail)
                    refine rstart (S := (fun w' => PlN w' b0 o0 k xn ak mk ck)) (by first | with_reducible exact K9.out | with_reducible exact K7.out | with_reducible exact K6.out | with_reducible exact KD.out | with_reducible exact K5.out) (fun hH => ?_)
                    refine tk (i := 0) (oi := ⟨some 158, .move (.tmp 7), 24, "law.go:57", #[], none⟩) hH.out (by rintro w ⟨z0, z1⟩; go_simp <;> with_reducible rfl) ?_
                    simp only [Act.put, sA, sB, sC]
                    refine tk (i := 1) (oi := ⟨some 159, .move (.tmp 2), 22, "law.go:57", #[], none⟩) hH.out (by rintro w ⟨z0, z1⟩; go_simp <;> with_reducible rfl) ?_
                    simp only [Act.put, sA, sB, sC]
                    refine tk (i := 2) (oi := ⟨some 160, .move (.tmp 15), 3, "law.go:57", #[], none⟩) hH.out (by rintro w ⟨z0, z1⟩; go_simp <;> with_reducible rfl) ?_
                    simp only [Act.put, sA, sB, sC]
                    refine tk (i := 3) (oi := ⟨some 161, .indexAddr 22 (.tmp 159) (.tmp 160), 0, "law.go:57", #[⟨1, .data⟩, ⟨2, .data⟩], none⟩) hH.out (by rintro w ⟨z0, z1⟩; go_simp <;> with_reducible rfl) ?_
                    simp only [Act.put, sA, sB, sC]
                    refine tk (i := 4) (oi := ⟨some 162, .fieldAddr 41 (.tmp 161) 1, 0, "law.go:57", #[⟨3, .data⟩], none⟩) hH.out (by rintro w ⟨z0, z1⟩; go_simp <;> with_reducible rfl) ?_
                    simp only [Act.put, sA, sB, sC]
                    refine tk (i := 5) (oi := ⟨some 163, .load 3 (.tmp 162), 3, "law.go:57", #[⟨4, .data⟩], none⟩) hH.out (by rintro w ⟨z0, z1⟩; go_simp <;> with_reducible rfl) ?_
                    simp only [Act.put, sA, sB, sC]
                    refine tk (i := 7) (oi := ⟨some 165, .move (.tmp 9), 28, "law.go:57", #[], none⟩) hH.out (by rintro w ⟨z0, z1⟩; go_simp <;> with_reducible rfl) ?_
                    simp only [Act.put, sA, sB, sC]
                    refine tk (i := 8) (oi := ⟨some 166, .move (.tmp 2), 22, "law.go:57", #[], none⟩) hH.out (by rintro w ⟨z0, z1⟩; go_simp <;> with_reducible rfl) ?_
                    simp only [Act.put, sA, sB, sC]
                    refine tk (i := 9) (oi := ⟨some 167, .move (.tmp 15), 3, "law.go:57", #[], none⟩) hH.out (by rintro w ⟨z0, z1⟩; go_simp <;> with_reducible rfl) ?_
                    simp only [Act.put, sA, sB, sC]
                    refine tk (i := 10) (oi := ⟨some 168, .indexAddr 22 (.tmp 166) (.tmp 167), 0, "law.go:57", #[⟨8, .data⟩, ⟨9, .data⟩], none⟩) hH.out (by rintro w ⟨z0, z1⟩; go_simp <;> with_reducible rfl) ?_
                    simp only [Act.put, sA, sB, sC]
                    refine tk (i := 11) (oi := ⟨some 169, .fieldAddr 41 (.tmp 168) 1, 0, "law.go:57", #[⟨10, .data⟩], none⟩) hH.out (by rintro w ⟨z0, z1⟩; go_simp <;> with_reducible rfl) ?_
                    simp only [Act.put, sA, sB, sC]
                    refine tk (i := 12) (oi := ⟨some 170, .load 3 (.tmp 169), 3, "law.go:57", #[⟨11, .data⟩], none⟩) hH.out (by rintro w ⟨z0, z1⟩; go_simp <;> with_reducible rfl) ?_
                    simp only [Act.put, sA, sB, sC]
                    refine rdy (i := 6) (oi := ⟨some 164, .call ⟨.value (.func 16), #[.tmp 158, .tmp 163], #[24, 3]⟩, 25, "law.go:57", #[⟨0, .data⟩, ⟨5, .data⟩], none⟩) (fun K hK => ?_)
                    go_simp
                    refine HW1.out.mono ?_
                    rintro e w6 ⟨rfl, m6⟩
                    have HY := Lib.hid (HW2.out w6 m6)
                    have K6 := Lib.hid (HDC.out _ (m6).adv.toBelow).2
                    clear m6
                    go_wp2_with fail
                    refine hK.out _ _ (by first | with_reducible exact K9.out | with_reducible exact K7.out | with_reducible exact K6.out | with_reducible exact KD.out | with_reducible exact K5.out) (fun hHeld => ?_)
                    replace hH := Lib.hid hHeld
                    clear hK K hHeld
                    try simp only [Act.put, sA, sB, sC]
                    refine rdy (i := 13) (oi := ⟨some 171, .call ⟨.value (.func 17), #[.tmp 165, .tmp 170], #[28, 3]⟩, 3, "law.go:57", #[⟨7, .data⟩, ⟨12, .data⟩, ⟨6, .chain⟩], none⟩) (fun K hK => ?_)
                    go_simp
                    refine HY.out.mono ?_
                    rintro e w7 ⟨rfl, m7⟩
                    have K7 := Lib.hid (HDC.out _ (m7).adv.toBelow).2
                    have HF := Lib.hid (show PlI W d x m N (k + 1) l b y c s1 g F G w7 from ⟨m7, HPI.out.1, HPI.out.2⟩)
                    clear m7
                    go_wp2_with fail
                    refine hK.out _ _ (by first | with_reducible exact K9.out | with_reducible exact K7.out | with_reducible exact K6.out | with_reducible exact KD.out | with_reducible exact K5.out) (fun hHeld => ?_)
                    replace hH := Lib.hid hHeld
                    clear hK K hHeld
                    try simp only [Act.put, sA, sB, sC]
                    refine tk (i := 14) (oi := ⟨some 172, .binOp .eql 3 (.tmp 164) (.tmp 171) 3, 4, "law.go:57", #[⟨6, .data⟩, ⟨13, .data⟩], none⟩) hH.out (by rintro w ⟨z0, z1⟩; go_simp <;> with_reducible rfl) ?_
                    simp only [Act.put, sA, sB, sC]
                    refine tk (i := 15) (oi := ⟨some 17, .assign (.tmp 172), 4, "law.go:57", #[⟨14, .data⟩, ⟨13, .chain⟩, ⟨0, .phase⟩, ⟨1, .phase⟩, ⟨2, .phase⟩, ⟨3, .phase⟩, ⟨4, .phase⟩, ⟨5, .phase⟩, ⟨6, .phase⟩, ⟨7, .phase⟩, ⟨8, .phase⟩, ⟨9, .phase⟩, ⟨10, .phase⟩, ⟨11, .phase⟩, ⟨12, .phase⟩, ⟨13, .phase⟩, ⟨14, .phase⟩], none⟩) hH.out (by rintro w ⟨z0, z1⟩; go_simp <;> with_reducible rfl) ?_
                    simp only [Act.put, sA, sB, sC]
                    refine wpAnyH_done (by kernel_rfl) ?_ _
                    have hee : (e1 == e1) = true := by simp
                    go_wp2_with fail
                    go_meet
                    exact ⟨rfl, l, b, y, c, s1, g, F, G, rfl, rfl, HF.out⟩
                · have p3 : (xk == 3) = false := beq_eq_false_iff_ne.2 h3
                  clear h0 h1 h2 h3
                  as_aux_lemma =>
                    obtain ⟨s1, hs⟩ : ∃ r, r = crashS s ks xn := ⟨_, rfl⟩
                    obtain ⟨g1, hg⟩ : ∃ r, r = openS s1 m N := ⟨_, rfl⟩
                    have HPI := Lib.hid (HI5.out.crash ⟨HN.out.1, HN.out.2.1⟩ ks xn hs hg (by have := HK.out; omega))
                    have HW1 := Lib.hid (pl_crash HI5.out.mm.drew xn HKS.out HKO.out hs)
                    have HW2 := Lib.hid (fun w' (k5 : PlM W d x m N l b y c s1 s g g F G w') => pl_ycrash k5.drew xn HKS.out HKO.out (by have := HNB.out; omega) (by have := HI5.out.q; have := HK.out; omega) hs)
                    have HO1 := Lib.hid (fun w' G (k5 : PlM W d x m N l b y c s1 s1 g g F G w') => pl_open k5 ⟨HN.out.1, HN.out.2.1⟩ HPI.out.2.2.1 (by have := HNB.out; omega) HPI.out.2.2.2 hg)
                    have HO2 := Lib.hid (fun w' l b G (k5 : PlM W d x m N l b y c s1 s1 g1 g F G w') => pl_yopen k5 ⟨HN.out.1, HN.out.2.1⟩ HPI.out.2.2.1 (by have := HNB.out; omega) (by have := HPI.out.2.1; have := HK.out; omega) HPI.out.2.2.2 hg)
                    clear hs hg
                    have K5 := Lib.hid (HDC.out _ (HI5.out.mm).adv.toBelow).2
                    have KD := Lib.hid (HDC.out _ (HI5.out.mm.drew).adv.toBelow).2

                    go_upto_region 16 with (fail)
                    refine rstart (S := (fun w' => PlN w' b0 o0 k xn ak mk ck)) (by first | with_reducible exact K9.out | with_reducible exact K7.out | with_reducible exact K6.out | with_reducible exact KD.out | with_reducible exact K5.out) (fun hH => ?_)
                    refine tk (i := 0) (oi := ⟨some 90, .move (.tmp 7), 24, "law.go:59", #[], none⟩) hH.out (by rintro w ⟨z0, z1⟩; go_simp <;> with_reducible rfl) ?_
                    simp only [Act.put, sA, sB, sC]
                    refine tk (i := 1) (oi := ⟨some 91, .move (.tmp 2), 22, "law.go:59", #[], none⟩) hH.out (by rintro w ⟨z0, z1⟩; go_simp <;> with_reducible rfl) ?_
                    simp only [Act.put, sA, sB, sC]
                    refine tk (i := 2) (oi := ⟨some 92, .move (.tmp 15), 3, "law.go:59", #[], none⟩) hH.out (by rintro w ⟨z0, z1⟩; go_simp <;> with_reducible rfl) ?_
                    simp only [Act.put, sA, sB, sC]
                    refine tk (i := 3) (oi := ⟨some 93, .indexAddr 22 (.tmp 91) (.tmp 92), 0, "law.go:59", #[⟨1, .data⟩, ⟨2, .data⟩], none⟩) hH.out (by rintro w ⟨z0, z1⟩; go_simp <;> with_reducible rfl) ?_
                    simp only [Act.put, sA, sB, sC]
                    refine tk (i := 4) (oi := ⟨some 94, .fieldAddr 41 (.tmp 93) 4, 0, "law.go:59", #[⟨3, .data⟩], none⟩) hH.out (by rintro w ⟨z0, z1⟩; go_simp <;> with_reducible rfl) ?_
                    simp only [Act.put, sA, sB, sC]
                    refine tk (i := 5) (oi := ⟨some 95, .load 39 (.tmp 94), 39, "law.go:59", #[⟨4, .data⟩], none⟩) hH.out (by rintro w ⟨z0, z1⟩; go_simp <;> with_reducible rfl) ?_
                    simp only [Act.put, sA, sB, sC]
                    refine tk (i := 6) (oi := ⟨some 96, .move (.tmp 2), 22, "law.go:59", #[], none⟩) hH.out (by rintro w ⟨z0, z1⟩; go_simp <;> with_reducible rfl) ?_
                    simp only [Act.put, sA, sB, sC]
                    refine tk (i := 7) (oi := ⟨some 97, .move (.tmp 15), 3, "law.go:59", #[], none⟩) hH.out (by rintro w ⟨z0, z1⟩; go_simp <;> with_reducible rfl) ?_
                    simp only [Act.put, sA, sB, sC]
                    refine tk (i := 8) (oi := ⟨some 98, .indexAddr 22 (.tmp 96) (.tmp 97), 0, "law.go:59", #[⟨6, .data⟩, ⟨7, .data⟩], none⟩) hH.out (by rintro w ⟨z0, z1⟩; go_simp <;> with_reducible rfl) ?_
                    simp only [Act.put, sA, sB, sC]
                    refine tk (i := 9) (oi := ⟨some 99, .fieldAddr 41 (.tmp 98) 1, 0, "law.go:59", #[⟨8, .data⟩], none⟩) hH.out (by rintro w ⟨z0, z1⟩; go_simp <;> with_reducible rfl) ?_
                    simp only [Act.put, sA, sB, sC]
                    refine tk (i := 10) (oi := ⟨some 100, .load 3 (.tmp 99), 3, "law.go:59", #[⟨9, .data⟩], none⟩) hH.out (by rintro w ⟨z0, z1⟩; go_simp <;> with_reducible rfl) ?_
                    simp only [Act.put, sA, sB, sC]
                    refine rdy (i := 11) (oi := ⟨some 101, .call ⟨.value (.func 18), #[.tmp 90, .tmp 95, .tmp 100], #[24, 39, 3]⟩, 0, "law.go:59", #[⟨0, .data⟩, ⟨5, .data⟩, ⟨10, .data⟩], none⟩) (fun K hK => ?_)
                    go_simp
                    refine HW1.out.mono ?_
                    rintro e w6 ⟨rfl, m6⟩
                    have K6 := Lib.hid (HDC.out _ (m6).adv.toBelow).2
                    have K7 := Lib.hid (HDC.out _ (m6.drew).adv.toBelow).2
                    have HY := Lib.hid (HW2.out w6 m6)
                    clear m6
                    go_wp2_with fail
                    refine hK.out _ _ (by first | with_reducible exact K9.out | with_reducible exact K7.out | with_reducible exact K6.out | with_reducible exact KD.out | with_reducible exact K5.out) (fun hHeld => ?_)
                    replace hH := Lib.hid hHeld
                    clear hK K hHeld
                    try simp only [Act.put, sA, sB, sC]
                    refine wpAnyH_done (by kernel_rfl) ?_ _
                    go_upto_region 17 with (fail)
                    refine rstart (S := (fun w' => PlN w' b0 o0 k xn ak mk ck)) (by first | with_reducible exact K9.out | with_reducible exact K7.out | with_reducible exact K6.out | with_reducible exact KD.out | with_reducible exact K5.out) (fun hH => ?_)
                    refine tk (i := 0) (oi := ⟨some 102, .move (.tmp 9), 28, "law.go:60", #[], none⟩) hH.out (by rintro w ⟨z2, z3⟩; go_simp <;> with_reducible rfl) ?_
                    simp only [Act.put, sA, sB, sC]
                    refine tk (i := 1) (oi := ⟨some 103, .move (.tmp 2), 22, "law.go:60", #[], none⟩) hH.out (by rintro w ⟨z2, z3⟩; go_simp <;> with_reducible rfl) ?_
                    simp only [Act.put, sA, sB, sC]
                    refine tk (i := 2) (oi := ⟨some 104, .move (.tmp 15), 3, "law.go:60", #[], none⟩) hH.out (by rintro w ⟨z2, z3⟩; go_simp <;> with_reducible rfl) ?_
                    simp only [Act.put, sA, sB, sC]
                    refine tk (i := 3) (oi := ⟨some 105, .indexAddr 22 (.tmp 103) (.tmp 104), 0, "law.go:60", #[⟨1, .data⟩, ⟨2, .data⟩], none⟩) hH.out (by rintro w ⟨z2, z3⟩; go_simp <;> with_reducible rfl) ?_
                    simp only [Act.put, sA, sB, sC]
                    refine tk (i := 4) (oi := ⟨some 106, .fieldAddr 41 (.tmp 105) 4, 0, "law.go:60", #[⟨3, .data⟩], none⟩) hH.out (by rintro w ⟨z2, z3⟩; go_simp <;> with_reducible rfl) ?_
                    simp only [Act.put, sA, sB, sC]
                    refine tk (i := 5) (oi := ⟨some 107, .load 39 (.tmp 106), 39, "law.go:60", #[⟨4, .data⟩], none⟩) hH.out (by rintro w ⟨z2, z3⟩; go_simp <;> with_reducible rfl) ?_
                    simp only [Act.put, sA, sB, sC]
                    refine tk (i := 6) (oi := ⟨some 108, .move (.tmp 2), 22, "law.go:60", #[], none⟩) hH.out (by rintro w ⟨z2, z3⟩; go_simp <;> with_reducible rfl) ?_
                    simp only [Act.put, sA, sB, sC]
                    refine tk (i := 7) (oi := ⟨some 109, .move (.tmp 15), 3, "law.go:60", #[], none⟩) hH.out (by rintro w ⟨z2, z3⟩; go_simp <;> with_reducible rfl) ?_
                    simp only [Act.put, sA, sB, sC]
                    refine tk (i := 8) (oi := ⟨some 110, .indexAddr 22 (.tmp 108) (.tmp 109), 0, "law.go:60", #[⟨6, .data⟩, ⟨7, .data⟩], none⟩) hH.out (by rintro w ⟨z2, z3⟩; go_simp <;> with_reducible rfl) ?_
                    simp only [Act.put, sA, sB, sC]
                    refine tk (i := 9) (oi := ⟨some 111, .fieldAddr 41 (.tmp 110) 1, 0, "law.go:60", #[⟨8, .data⟩], none⟩) hH.out (by rintro w ⟨z2, z3⟩; go_simp <;> with_reducible rfl) ?_
                    simp only [Act.put, sA, sB, sC]
                    refine tk (i := 10) (oi := ⟨some 112, .load 3 (.tmp 111), 3, "law.go:60", #[⟨9, .data⟩], none⟩) hH.out (by rintro w ⟨z2, z3⟩; go_simp <;> with_reducible rfl) ?_
                    simp only [Act.put, sA, sB, sC]
                    refine rdy (i := 11) (oi := ⟨some 113, .call ⟨.value (.func 19), #[.tmp 102, .tmp 107, .tmp 112], #[28, 39, 3]⟩, 0, "law.go:60", #[⟨0, .data⟩, ⟨5, .data⟩, ⟨10, .data⟩], none⟩) (fun K hK => ?_)
                    go_simp
                    refine HY.out.mono ?_
                    rintro e w7 ⟨rfl, G7, m7⟩
                    have K9 := Lib.hid (HDC.out _ (m7).adv.toBelow).2
                    have HO := Lib.hid (HO1.out w7 G7 m7)
                    clear m7
                    go_wp2_with fail
                    refine hK.out _ _ (by first | with_reducible exact K9.out | with_reducible exact K7.out | with_reducible exact K6.out | with_reducible exact KD.out | with_reducible exact K5.out) (fun hHeld => ?_)
                    replace hH := Lib.hid hHeld
                    clear hK K hHeld
                    try simp only [Act.put, sA, sB, sC]
                    refine wpAnyH_done (by kernel_rfl) ?_ _
                    go_wp2_with fail
                    refine HO.out.mono ?_
                    rintro e w8 ⟨l8, b8, rfl, m8⟩
                    have HOY := Lib.hid (HO2.out w8 l8 b8 G7 m8)
                    clear m8
                    go_wp2_with fail
                    refine HOY.out.mono ?_
                    rintro e w9 ⟨y9, c9, rfl, m9⟩
                    have HF := Lib.hid (show PlI W d x m N (k + 1) l8 b8 y9 c9 s1 g1 F G7 w9 from ⟨m9, HPI.out.1, HPI.out.2.1⟩)
                    clear m9
                    go_wp2_with fail
                    go_meet
                    exact ⟨rfl, l8, b8, y9, c9, s1, g1, F, G7, rfl, rfl, HF.out⟩
        case rest =>
        as_aux_lemma =>
          obtain ⟨rfl, l, b, y, c, s, g, F, G, rfl, rfl, hi⟩ := hcut
          have HI6 := Lib.hid hi
          have HS := Lib.hid (show s.Q.length ≤ 1000000 by have := hi.q; have := HK.out; omega)
          clear hi HI HI5 HQ5 HDC HDP HKS HKO HXN HFEW HPC HPD HPE H8
          obtain ⟨H, hH⟩ : ∃ H, H = N - 2 - m := ⟨_, rfl⟩
          obtain ⟨fr, hfr⟩ : ∃ fr, fr = m - (g.next - g.h.t) := ⟨_, rfl⟩
          have HH := Lib.hid hH
          have HLN := Lib.hid (fun w' (k6 : PlM W d x m N l b y c s s g g F G w') => (show w'.cell? ⟨y, 6, none⟩ = some (.slice (some ⟨c, 0, none⟩) H H) by rw [hH]; exact pl_len k6))
          have HHO := Lib.hid (fun w' (k6 : PlM W d x m N l b y c s s g g F G w') => pl_homes k6 HN.out.2.2 (by have := HN.out; omega) hH)
          have HFR := Lib.hid (fun w' (k6 : PlM W d x m N l b y c s s g g F G w') => pl_free k6 HI6.out.pi (by have := HN.out; omega) hfr)
          have HYF := Lib.hid (fun w' (k6 : PlM W d x m N l b y c s s g g F G w') => pl_yfree k6 HI6.out.pi (by have := HN.out; omega) hfr)
          have L6 := Lib.hid (HLN.out _ HI6.out.mm)
          have LD := Lib.hid (HLN.out _ HI6.out.mm.drew)
          have HHO6 := Lib.hid (HHO.out _ HI6.out.mm.drew)
          have r1 : ((H : Int) != (H : Int)) = false := by simp
          have r2 : ((fr : Int) != (fr : Int)) = false := by simp
          clear hH hfr
          go_upto_region 29 with (fail)
          refine rstart (S := (fun w' => w'.cell? ⟨y, 6, none⟩ = some (.slice (some ⟨c, 0, none⟩) H H))) (by first | with_reducible exact L9.out | with_reducible exact L8.out | with_reducible exact L7.out | with_reducible exact LD.out | with_reducible exact L6.out) (fun hH => ?_)
          refine tk (i := 0) (oi := ⟨some 173, .move (.tmp 17), 4, "law.go:65", #[], none⟩) hH.out (by rintro w z0; go_simp <;> with_reducible rfl) ?_
          simp only [Act.put, sA, sB, sC]
          refine tk (i := 1) (oi := ⟨some 174, .unOp .not 4 (.tmp 173), 4, "law.go:65", #[⟨0, .data⟩], none⟩) hH.out (by rintro w z0; go_simp <;> with_reducible rfl) ?_
          simp only [Act.put, sA, sB, sC]
          refine tk (i := 2) (oi := ⟨some 175, .move (.tmp 174), 4, "law.go:65", #[⟨1, .data⟩], none⟩) hH.out (by rintro w z0; go_simp <;> with_reducible rfl) ?_
          simp only [Act.put, sA, sB, sC]
          refine tk (i := 3) (oi := { dst := some 176, op := .move (.tmp 11), type := 31, pos := "law.go:65", after := #[⟨2, .guard⟩], guard := some (2, false) }) hH.out (by rintro w z0; go_simp <;> with_reducible rfl) ?_
          simp only [Act.put, sA, sB, sC]
          refine tk (i := 5) (oi := { dst := some 178, op := .move (.tmp 13), type := 34, pos := "law.go:65", after := #[⟨2, .guard⟩], guard := some (2, false) }) hH.out (by rintro w z0; go_simp <;> with_reducible rfl) ?_
          simp only [Act.put, sA, sB, sC]
          refine tk (i := 6) (oi := { dst := some 179, op := .nilCheck (.tmp 178), type := 0, pos := "law.go:65", after := #[⟨5, .data⟩, ⟨2, .guard⟩], guard := some (2, false) }) hH.out (by rintro w z0; go_simp <;> with_reducible rfl) ?_
          simp only [Act.put, sA, sB, sC]
          refine tk (i := 7) (oi := { dst := some 180, op := .fieldAddr 52 (.tmp 179) 6, type := 0, pos := "law.go:65", after := #[⟨6, .data⟩, ⟨2, .guard⟩], guard := some (2, false) }) hH.out (by rintro w z0; go_simp <;> with_reducible rfl) ?_
          simp only [Act.put, sA, sB, sC]
          refine tk (i := 8) (oi := { dst := some 181, op := .load 50 (.tmp 180), type := 50, pos := "law.go:65", after := #[⟨7, .data⟩, ⟨2, .guard⟩], guard := some (2, false) }) hH.out (by rintro w z0; go_simp <;> with_reducible rfl) ?_
          simp only [Act.put, sA, sB, sC]
          refine tk (i := 9) (oi := { dst := some 182, op := .call ⟨.builtin .len, #[.tmp 181], #[50]⟩, type := 3, pos := "law.go:65", after := #[⟨8, .data⟩, ⟨2, .guard⟩], guard := some (2, false) }) hH.out (by rintro w z0; go_simp <;> with_reducible rfl) ?_
          simp only [Act.put, sA, sB, sC]
          refine rdy (i := 4) (oi := { dst := some 177, op := .call ⟨.value (.func 20), #[.tmp 176], #[31]⟩, type := 3, pos := "law.go:65", after := #[⟨3, .data⟩, ⟨2, .chain⟩, ⟨2, .guard⟩], guard := some (2, false) }) (fun K hK => ?_)
          go_simp
          refine HHO6.out.mono ?_
          rintro e w7 ⟨rfl, j7, hw7⟩
          have HM7 := Lib.hid (show PlM W d x m N l b y c s s g g F G w7 by rw [hw7]; exact HI6.out.mm.drew.step ((Adv.refl Nul _).drewN j7))
          have L7 := Lib.hid (HLN.out _ HM7.out)
          have HFR7 := Lib.hid (HFR.out _ HM7.out)
          clear hw7
          go_wp2_with fail
          refine hK.out _ _ (by first | with_reducible exact L9.out | with_reducible exact L8.out | with_reducible exact L7.out | with_reducible exact LD.out | with_reducible exact L6.out) (fun hHeld => ?_)
          replace hH := Lib.hid hHeld
          clear hK K hHeld
          try simp only [Act.put, sA, sB, sC]
          refine tk (i := 10) (oi := { dst := some 183, op := .binOp .neq 3 (.tmp 177) (.tmp 182) 3, type := 4, pos := "law.go:65", after := #[⟨4, .data⟩, ⟨9, .data⟩, ⟨2, .guard⟩], guard := some (2, false) }) hH.out (by rintro w z0; go_simp <;> with_reducible rfl) ?_
          simp only [Act.put, sA, sB, sC]
          refine tk (i := 11) (oi := ⟨some 184, .pick (.tmp 175) (.const (Go.Value.bool true)) (.tmp 183), 4, "law.go:65", #[⟨2, .data⟩, ⟨10, .data⟩], none⟩) hH.out (by rintro w z0; go_simp <;> with_reducible rfl) ?_
          simp only [Act.put, sA, sB, sC]
          refine tk (i := 12) (oi := ⟨some 185, .move (.tmp 184), 4, "law.go:65", #[⟨11, .data⟩, ⟨4, .chain⟩], none⟩) hH.out (by rintro w z0; go_simp <;> with_reducible rfl) ?_
          simp only [Act.put, sA, sB, sC]
          refine tk (i := 13) (oi := { dst := some 186, op := .move (.tmp 11), type := 31, pos := "law.go:65", after := #[⟨12, .guard⟩], guard := some (12, false) }) hH.out (by rintro w z0; go_simp <;> with_reducible rfl) ?_
          simp only [Act.put, sA, sB, sC]
          refine tk (i := 15) (oi := { dst := some 188, op := .move (.tmp 13), type := 34, pos := "law.go:65", after := #[⟨12, .guard⟩], guard := some (12, false) }) hH.out (by rintro w z0; go_simp <;> with_reducible rfl) ?_
          simp only [Act.put, sA, sB, sC]
          refine rdy (i := 14) (oi := { dst := some 187, op := .call ⟨.value (.func 21), #[.tmp 186], #[31]⟩, type := 3, pos := "law.go:65", after := #[⟨13, .data⟩, ⟨12, .chain⟩, ⟨12, .guard⟩], guard := some (12, false) }) (fun K hK => ?_)
          go_simp
          refine HFR7.out.mono ?_
          rintro e w8 ⟨rfl, j8, hw8⟩
          have HM8 := Lib.hid (show PlM W d x m N l b y c s s g g F G w8 by rw [hw8]; exact HM7.out.step ((Adv.refl Nul _).drewN j8))
          have L8 := Lib.hid (HLN.out _ HM8.out)
          have HYF8 := Lib.hid (HYF.out _ HM8.out)
          clear hw8
          go_wp2_with fail
          refine hK.out _ _ (by first | with_reducible exact L9.out | with_reducible exact L8.out | with_reducible exact L7.out | with_reducible exact LD.out | with_reducible exact L6.out) (fun hHeld => ?_)
          replace hH := Lib.hid hHeld
          clear hK K hHeld
          try simp only [Act.put, sA, sB, sC]
          refine rdy (i := 16) (oi := { dst := some 189, op := .call ⟨.value (.func 22), #[.tmp 188], #[34]⟩, type := 3, pos := "law.go:65", after := #[⟨15, .data⟩, ⟨14, .chain⟩, ⟨12, .guard⟩], guard := some (12, false) }) (fun K hK => ?_)
          go_simp
          refine HYF8.out.mono ?_
          rintro e w9 ⟨rfl, j9, hw9⟩
          have HM9 := Lib.hid (show PlM W d x m N l b y c s s g g F G w9 by rw [hw9]; exact HM8.out.step ((Adv.refl Nul _).drewN j9))
          have L9 := Lib.hid (HLN.out _ HM9.out)
          clear hw9
          go_wp2_with fail
          refine hK.out _ _ (by first | with_reducible exact L9.out | with_reducible exact L8.out | with_reducible exact L7.out | with_reducible exact LD.out | with_reducible exact L6.out) (fun hHeld => ?_)
          replace hH := Lib.hid hHeld
          clear hK K hHeld
          try simp only [Act.put, sA, sB, sC]
          refine tk (i := 17) (oi := { dst := some 190, op := .binOp .neq 3 (.tmp 187) (.tmp 189) 3, type := 4, pos := "law.go:65", after := #[⟨14, .data⟩, ⟨16, .data⟩, ⟨12, .guard⟩], guard := some (12, false) }) hH.out (by rintro w z0; go_simp <;> with_reducible rfl) ?_
          simp only [Act.put, sA, sB, sC]
          refine tk (i := 18) (oi := ⟨some 191, .pick (.tmp 185) (.const (Go.Value.bool true)) (.tmp 190), 4, "law.go:65", #[⟨12, .data⟩, ⟨17, .data⟩], none⟩) hH.out (by rintro w z0; go_simp <;> with_reducible rfl) ?_
          simp only [Act.put, sA, sB, sC]
          refine wpAnyH_done (by kernel_rfl) ?_ _
          have HI9 := Lib.hid (show PlI W d x m N (k + 1) l b y c s g F G w9 from ⟨HM9.out, HI6.out.pi, HI6.out.q⟩)
          clear HHO HFR HYF L6 LD HHO6 HM7 HM8 HM9 L7 L8 L9 HFR7 HYF8
          go_wp2_with fail
          go_loopw [18] (PlA W d x m N k l b y c s g F G N) (fun t _ => N - (intOf t).toNat)
          case atStart => exact ⟨0, Nat.zero_le _, rfl, HI9.out⟩
          case round =>
            obtain ⟨j, hj, rfl, hij⟩ := hrel
            have HIJ := Lib.hid hij
            by_cases hjN : j < N
            · as_aux_lemma =>
                have HJN := Lib.hid hjN
                have hjI : (j : Int) < (N : Int) := by omega
                have hjB : (j : Int) ≤ 30 := by have := HNB.out; omega
                obtain ⟨X, hX⟩ : ∃ X, X = isS s j := ⟨_, rfl⟩
                have HRD := Lib.hid (pl_dread hij.mm hjN hX)
                have HIS := Lib.hid (fun w' (k6 : PlM W d x m N l b y c s s g g F G w') => pl_is k6 hjN HS.out hX)
                clear hij hj hjN hX HIJ
                go_wp2_with fail
                refine HRD.out.mono ?_
                rintro e w10 ⟨z, rfl, rd, hXl, m10⟩
                have HX1 := Lib.hid rd
                have HXL := Lib.hid hXl
                have HM10 := Lib.hid m10
                have HIS2 := Lib.hid (HIS.out w10 m10)
                clear rd hXl m10
                go_wp2_with (first
                  | (go_at_call 25; refine HIS2.out.mono ?_; rintro e w11 ⟨v11, rfl, r11, rfl⟩; have HX2 := Lib.hid r11; clear r11)
                  | (go_at_call 24; refine (same_eq _ _ 128 X _ HX1.out HX2.out).mono ?_; rintro e w12 ⟨rfl, j12, hw12⟩; have HM12 := Lib.hid (show PlM W d x m N l b y c s s g g F G w12 by rw [hw12]; exact HM10.out.step ((Adv.refl Nul _).drewN j12)); clear hw12)
                  | fail)
                have hjn := HJN.out
                exact ⟨⟨j + 1, by omega, by go_num, HM12.out, HI6.out.pi, HI6.out.q⟩, by simp [intOf] <;> omega⟩
            · obtain rfl : N = j := by omega
              clear hij hj hjN
              go_wp2_with fail
              go_loopw [21] (PlA W d x m N k l b y c s g F G H) (fun t _ => H - (intOf t).toNat)
              case atStart => exact ⟨0, Nat.zero_le _, rfl, HIJ.out⟩
              case round =>
                clear HIJ
                obtain ⟨j, hj, rfl, hij⟩ := hrel
                have HIJ := Lib.hid hij
                have ln := HLN.out _ hij.mm
                by_cases hjH : j < H
                · as_aux_lemma =>
                    have HJN := Lib.hid hjH
                    have hjI : (j : Int) < (H : Int) := by omega
                    have hjB : (j : Int) ≤ 30 := by have := HNB.out; have := HH.out; omega
                    have hjM : j < N - 2 - m := by have := HH.out; omega
                    obtain ⟨X, hX⟩ : ∃ X, X = homeG s m g j := ⟨_, rfl⟩
                    have HRD := Lib.hid (pl_read hij.mm HN.out HI6.out.pi.aok hjM hX)
                    have HIS := Lib.hid (fun w' (k6 : PlM W d x m N l b y c s s g g F G w') => pl_yhome k6 HN.out HS.out hjM hX)
                    clear hij hj hjH hX hjM HIJ
                    go_wp2_with fail
                    refine HRD.out.mono ?_
                    rintro e w10 ⟨z, rfl, rd, hXl, m10⟩
                    have HX1 := Lib.hid rd
                    have HXL := Lib.hid hXl
                    have HM10 := Lib.hid m10
                    have HIS2 := Lib.hid (HIS.out w10 m10)
                    clear rd hXl m10 ln
                    go_wp2_with (first
                      | (go_at_call 27; refine HIS2.out.mono ?_; rintro e w11 ⟨A11, q11, rfl, r11, -, a11⟩; have HX2 := Lib.hid r11; have HX3 := Lib.hid (rd_over HX1.out a11); have HM11 := Lib.hid (HM10.out.step a11); clear r11 a11)
                      | (go_at_call 24; refine (same_eq _ _ 128 X _ HX3.out HX2.out).mono ?_; rintro e w12 ⟨rfl, j12, hw12⟩; have HM12 := Lib.hid (show PlM W d x m N l b y c s s g g F G w12 by rw [hw12]; exact HM11.out.step ((Adv.refl Nul _).drewN j12)); clear hw12)
                      | fail)
                    have hjn := HJN.out
                    exact ⟨⟨j + 1, by omega, by go_num, HM12.out, HI6.out.pi, HI6.out.q⟩, by simp [intOf] <;> omega⟩
                · obtain rfl : H = j := by omega
                  clear hij hj hjH
                  go_wp2_with fail
                  have hlt := HLT.out
                  exact ⟨⟨k + 1, l, b, y, c, s, g, F, G, by omega, by go_num, rfl, rfl, HIJ.out⟩, by simp [intOf] <;> omega⟩
      · obtain rfl : k = M := by omega
        have hkL : ((k : Int) < (L : Int)) = False ∨ (((k : Int) < (L : Int)) = True ∧ ((k : Int) < 25) = False) := by
          have := HM.out
          by_cases c : k < L
          · exact .inr ⟨eq_true (by omega), eq_false (by omega)⟩
          · exact .inl (eq_false (by omega))
        have HLVS := Lib.hid (glives_any wr)
        clear hlt hk hi
        rcases hkL with hkL | ⟨hkL, hk25⟩
        all_goals
          go_wp2_with fail
          refine HLVS.out.mono ?_
          rintro e w9 ⟨rfl, a9⟩
          have HFIN := Lib.hid (HI.out.mm.adv.trans a9)
          clear a9
          go_wp2_with fail
          go_ret
          exact ⟨rfl, HFIN.out.toBelow⟩
  · have HBAD := Lib.hid hn
    rcases h4 with ⟨-, rfl, a4⟩ | ⟨hb, -⟩ | ⟨hb, -⟩
    · clear hn
      have HA4 := Lib.hid a4
      have HYO := Lib.hid (yopen_rk (Z := Nul) x N G (newS N) n w4 (HR.out.far a4 (fun _ e _ => e)) (fun _ e => e.elim) (sb_new N) (by simp [newS]) (by have := HNB.out; omega) (by have := HNB.out; omega) HNN.out.1 HNN.out.2)
      clear a4
      go_wp2_with fail
      refine HYO.out.mono ?_
      intro e w5 h5
      rcases h5 with ⟨-, rfl, a5⟩ | ⟨hb, -⟩ | ⟨hb, -⟩
      · have HA5 := Lib.hid ((HADV.out.trans HA4.out).trans a5)
        have HLVS := Lib.hid (glives_any w5)
        clear a5 HYO HOP
        go_wp2_with fail
        go_loopw [15, 11, 13, 12, 14] (fun t15 _ t13 _ _ wr => PlZ w5 t15 t13 wr) (fun _ _ _ _ _ _ => 0)
        case atStart => exact ⟨rfl, rfl, rfl⟩
        case round =>
          obtain ⟨rfl, rfl, rfl⟩ := hrel
          by_cases h0 : (0 : Int) < (L : Int)
          all_goals
            go_wp2_with fail
            refine HLVS.out.mono ?_
            rintro e w9 ⟨rfl, a9⟩
            have HFIN := Lib.hid (HA5.out.trans a9)
            clear a9
            go_wp2_with fail
            go_ret
            exact ⟨rfl, HFIN.out.toBelow⟩
      · exact absurd hb HBAD.out
      · exact absurd hb HBAD.out
    · exact absurd hb hn
    · exact absurd hb hn
end Go.Proofs.YtbdjlmdbnoghnaaGreat
