/- The program's cache: placeFor, Put, Get. Bytes as a text; whether bytes are the same. The number's sector: encoded, decoded. -/
import Derived.Test.YtcglfknkkeaegaaGreatDoorMq19
import Derived.Great.BuildSlice
import Derived.Great.FillDense
import Derived.Test.YtcglfknkkeaegaaGreatDoorMq01
import Derived.Laws.BytesArg
import Derived.Test.YtcglfknkkeaegaaGreatDoorMq16
import Derived.Test.YtcglfknkkeaegaaGreatDoorMq00
namespace Go.Proofs.YtcglfknkkeaegaaGreatDoor
open Go.ChangeShapes Go.WideShapes Go.ChangeAt Go.RowKit Go.Maps
set_option maxRecDepth 3000 in
theorem kop_bslice {T e : TypeId} {C Z : Array Value} {s by_ : Nat} {ops : Array Oper} {rest : List Oper} {o : Oper} {a : Act} {w : World} {Q : Exit → Act → World → Prop} (hgd : o.guard = none) (x : Operand) (ho : o.op = .buildSlice T 1 #[(0, x)]) (hu : Tryz.prog.underlying T = some (.slice e)) (hi : (Tryz.prog.info? e).map (fun i => (i.zero, i.size, i.bytes)) = some (some (.agg Z), s, by_)) (hx : a.eval x = .agg C) (hC : C.size = s) (h0 : 0 < s) (hs : s ≤ 1000)
    (h : ∀ z w', w.heap.size ≤ z → Blk w' z e C → Adv Nul w Nul w' → wpList Tryz.prog ops Q rest (a.put o.dst (.slice (some ⟨z, 0, none⟩) 1 1)) w') : wpList Tryz.prog ops Q (o :: rest) a w := by
  obtain ⟨ie, hie, hz, hsz, _⟩ := info_parts hi
  have hf := Great.fill_whole h0 [Value.agg C] ((Array.range (1 * s)).map ((Value.agg Z).cells[· % (Value.agg Z).cells.size]!)) (fun v hv => by
    rw [List.mem_singleton] at hv
    subst hv
    simpa [Value.cells] using hC) (by simp)
  have hr := run_buildSlice (P := Tryz.prog) w T e 1 #[(0, .agg C)] C ie _ hu hie hz (by rw [hsz]; omega) (by rw [hsz]; omega) (by rw [hsz]; simpa [Value.cells] using hf)
  refine wpList_plain hgd fun K hK => ?_
  have hk := hK _ _ (h _ _ (Nat.le_refl _) (Blk.new _ _ _) ((Adv.refl Nul w).alloc _))
  have e0 : (#[(0, x)] : Array (Nat × Operand)).map (fun (i, x) => (i, a.eval x)) = #[(0, .agg C)] := by simp [hx]
  unfold Oper.wp execOp
  simp only [ho, e0, Sem.run_bind, Sem.run_pure, hr, Result.andThen_ok]
  exact hk
set_option maxRecDepth 3000 in
theorem kpw_guard {ops : Array Oper} {rest : List Oper} {o : Oper} {a : Act} {w : World} {Q : Exit → Act → World → Prop} (hw : Region.wanted o (yielded ops a.tmps) = true) (h : wpList Tryz.prog ops Q ({ o with guard := none } :: rest) a w) : wpList Tryz.prog ops Q (o :: rest) a w := by
  unfold wpList at h ⊢
  rw [if_pos hw]
  rw [if_pos (by simp [Region.wanted])] at h
  exact h
set_option maxRecDepth 3000 in
theorem built_pl (i : Nat) (x : Slt) : Tryz.prog.built 125 [(0, .int .i64 (i : Int)), (1, .agg (tc x))] = some (plcA i x) := by
  obtain ⟨u, i2, g, a, v, d, s⟩ := x
  kernel_rfl
set_option maxRecDepth 3000 in
theorem kop_pl {ops : Array Oper} {rest : List Oper} {o : Oper} {a : Act} {w : World} {Q : Exit → Act → World → Prop} (hgd : o.guard = none) (x y : Operand) (ho : o.op = .build 125 #[(0, x), (1, y)]) (i : Nat) (t : Slt) (hx : a.eval x = .int .i64 (i : Int)) (hy : a.eval y = .agg (tc t))
    (h : wpList Tryz.prog ops Q rest (a.put o.dst (.agg (plcA i t))) w) : wpList Tryz.prog ops Q (o :: rest) a w := by
  have e : ((#[(0, x), (1, y)] : Array (Nat × Operand)).map fun (i, x) => (i, a.eval x)).toList = [(0, .int .i64 (i : Int)), (1, .agg (tc t))] := by simp [hx, hy]
  refine wpList_build hgd 125 _ ho (by rw [e, built_pl i t]; rfl) ?_
  rw [e, built_pl i t]
  exact h
set_option maxRecDepth 3000 in
theorem Blk.tb1 {w : World} {z : Nat} {t : TypeId} {x : Slt} (h : Blk w z t (tc x)) : w.rangeAt z 1 (bkc (bkT x)).toList := fun j v hv => by
  have hj : j < 3 := (List.getElem?_eq_some_iff.1 hv).1
  rw [h.cell]
  match j, hj with
  | 0, _ => exact hv
  | 1, _ => exact hv
  | 2, _ => exact hv
/-! Where a block is to be kept. -/
set_option maxRecDepth 3000 in
theorem next_cases {R : RgS} (h : COk R) : ((nextS R).e = 0 ∧ ∃ i : Nat, (nextS R).i = (i : Int) ∧ i < R.n ∧ R.p.testBit i = false ∧ (nextS R).s.n = R.n ∧ (nextS R).s.u = R.u ∧ (nextS R).s.p = R.p) ∨ ((nextS R).e = 8 ∧ (nextS R).s = R ∧ ∀ i, i < R.n → R.p.testBit i = true) := by
  by_cases h0 : freeN R = 0
  · by_cases hp : R.p = 2 ^ R.n - 1
    · right
      rw [next_all (all_used h h0) hp]
      exact ⟨rfl, rfl, fun i hi => by show R.p.testBit i = true; rw [hp, every_bit, decide_eq_true hi]⟩
    · left
      obtain ⟨i, t, e, e2⟩ := next_turn h (all_used h h0) hp
      rw [e2]
      obtain ⟨h1, h2, _, h3, h4, h5⟩ := turn_keep _ _ _ _ h e
      exact ⟨rfl, i, rfl, h1, h2, h3, h4, h5⟩
  · left
    obtain ⟨e, hlt⟩ := next_free h h0
    have hb := (ctz_bit h0 (freeN_lt R h)).1
    rw [freeN_bit h, Bool.and_eq_true] at hb
    rw [e]
    refine ⟨rfl, _, rfl, hlt, ?_, rfl, rfl, rfl⟩
    cases hq : R.p.testBit (Lib.ctz 64 (freeN R))
    · rfl
    · have := h.sub _ hq
      rw [this] at hb
      simp at hb
set_option maxRecDepth 3000 in
theorem next_n {R : RgS} (h : COk R) : (nextS R).s.n = R.n := by
  rcases next_cases h with ⟨_, i, _, _, _, e, _⟩ | ⟨_, e, _⟩
  · exact e
  · rw [e]
structure PF where
  i : Int
  e : Int
  R : RgS
def plF (L : List Slt) (R : RgS) (b : Bk) : PF := match atL L b with
  | some i => ⟨(i : Int), 0, R⟩
  | none => ⟨(nextS R).i, (nextS R).e, (nextS R).s⟩
set_option maxRecDepth 3000 in
set_option maxHeartbeats 3200000 in
theorem placefor_p {w : World} {E : PE} (h : Pk w E) {b : Bk} (hb : WfB b) : Calls Tryz.prog 66 #[.pointer (some ⟨E.c, 0, none⟩), .agg (bkc b)] w fun e w' => e = .returned (.tuple #[.int .i64 (plF E.L E.R b).i, .int .i64 (plF E.L E.R b).e]) ∧ Pk w' (E.setR (plF E.L E.R b).R) ∧ Adv E.V w E.V w' := by
  have HN := Lib.hid (fun W (r : Pk W E) => (cnext_any W E.r E.R r.cl r.tz).mono (R' := fun e w' => e = .returned (.tuple #[.int .i64 (nextS E.R).i, .int .i64 (nextS E.R).e]) ∧ Pk w' (E.setR (nextS E.R).s) ∧ Adv E.V W E.V w') fun e w' ⟨a, b, c⟩ => ⟨a, r.ring b (next_n h.cl.ok) c⟩)
  have HP := Lib.hid h
  have HB := Lib.hid hb
  obtain ⟨c, hc⟩ : ∃ c, c = E.c := ⟨_, rfl⟩
  obtain ⟨r, hr⟩ : ∃ c, c = E.r := ⟨_, rfl⟩
  obtain ⟨m, hm⟩ : ∃ c, c = E.m := ⟨_, rfl⟩
  have HS := Lib.hid (show ∀ W, Pk W E → (W.cell? ⟨c, 4, none⟩ = some (.map (some m)) ∧ W.cell? ⟨c, 1, none⟩ = some (.pointer (some ⟨r, 0, none⟩))) ∧ Mb W m E.L from fun W k => by rw [hc, hm, hr]; exact ⟨⟨k.c4, k.c1⟩, k.mp⟩)
  obtain ⟨X, hX⟩ : ∃ X, X = plF E.L E.R b := ⟨_, rfl⟩
  have HX := Lib.hid hX
  rw [← hc, ← hX]
  rw [← hr] at HN
  clear h hb hc hr hm hX
  go_enter Tryz.func66, Tryz.ntmps66
  go_upto_region 1 with (first
    | (refine kop_box rfl _ rfl rfl ?_; intro z w1 hz hb ha; have HZB := Lib.hid hb; have HA1 := Lib.hid ha; have HP1 := Lib.hid (HP.out.step ha.drew); clear hz hb ha)
    | fail)
  have K0 := Lib.hid (show ((w1.drew.cell? ⟨c, 4, none⟩ = some (.map (some m)) ∧ w1.drew.cell? ⟨c, 1, none⟩ = some (.pointer (some ⟨r, 0, none⟩))) ∧ Mb w1.drew m E.L) ∧ Blk w1.drew z 37 (bkc b) from ⟨HS.out _ HP1.out, HZB.out.drew⟩)
  refine rstart (S := (fun w' => ((w'.cell? ⟨c, 4, none⟩ = some (.map (some m)) ∧ w'.cell? ⟨c, 1, none⟩ = some (.pointer (some ⟨r, 0, none⟩))) ∧ Mb w' m E.L) ∧ Blk w' z 37 (bkc b))) (by first | with_reducible exact K0.out) (fun hH => ?_)
  refine tk (i := 0) (oi := ⟨some 9, .move (.tmp 0), 29, "change.go:16", #[], none⟩) hH.out (by rintro w ⟨⟨⟨s4, s1⟩, hm7⟩, hz7⟩; go_simp <;> with_reducible rfl) ?_
  simp only [Act.put, sA, sB, sC]
  refine tk (i := 1) (oi := ⟨some 10, .nilCheck (.tmp 9), 0, "change.go:16", #[⟨0, .data⟩], none⟩) hH.out (by rintro w ⟨⟨⟨s4, s1⟩, hm7⟩, hz7⟩; go_simp <;> with_reducible rfl) ?_
  simp only [Act.put, sA, sB, sC]
  refine tk (i := 2) (oi := ⟨some 11, .fieldAddr 76 (.tmp 10) 4, 0, "change.go:16", #[⟨1, .data⟩], none⟩) hH.out (by rintro w ⟨⟨⟨s4, s1⟩, hm7⟩, hz7⟩; go_simp <;> with_reducible rfl) ?_
  simp only [Act.put, sA, sB, sC]
  refine tk (i := 3) (oi := ⟨some 12, .load 74 (.tmp 11), 74, "change.go:16", #[⟨2, .data⟩], none⟩) hH.out (by rintro w ⟨⟨⟨s4, s1⟩, hm7⟩, hz7⟩; go_simp <;> with_reducible rfl) ?_
  simp only [Act.put, sA, sB, sC]
  refine wpAnyH_take (i := 4) (oi := ⟨some 13, .load 37 (.tmp 3), 37, "change.go:16", #[], none⟩) (v := .agg (bkc b)) rfl (by kernel_rfl) (by kernel_rfl) (by kernel_rfl) (fun _ _ _ h => h) (kyl_load rfl (.tmp 3) rfl z rfl (fun _ h => h.2) Tryz.underlying37 rfl sizeBk rfl) hH.out ?_
  simp only [Act.put, sA, sB, sC]
  refine wpAnyH_take (i := 5) (oi := ⟨some 14, .lookup 74 (.tmp 12) (.tmp 13) true, 97, "change.go:16", #[⟨3, .data⟩, ⟨4, .data⟩], none⟩) (v := .tuple #[.int .i64 (((atL E.L b).getD 0 : Nat) : Int), .bool (atL E.L b).isSome]) rfl (by kernel_rfl) (by kernel_rfl) (by kernel_rfl) (fun _ _ _ h => h) (pyl_look rfl (.tmp 12) (.tmp 13) rfl m b E.L (fun _ h => h.1.2) rfl rfl HB.out) hH.out ?_
  simp only [Act.put, sA, sB, sC]
  refine tk (i := 6) (oi := ⟨some 8, .move (.tmp 14), 97, "change.go:16", #[⟨5, .data⟩], none⟩) hH.out (by rintro w ⟨⟨⟨s4, s1⟩, hm7⟩, hz7⟩; go_simp <;> with_reducible rfl) ?_
  simp only [Act.put, sA, sB, sC]
  refine tk (i := 7) (oi := ⟨some 15, .extract (.tmp 8) 0, 3, "change.go:16", #[⟨6, .data⟩], none⟩) hH.out (by rintro w ⟨⟨⟨s4, s1⟩, hm7⟩, hz7⟩; go_simp <;> with_reducible rfl) ?_
  simp only [Act.put, sA, sB, sC]
  refine tk (i := 8) (oi := ⟨some 16, .extract (.tmp 8) 1, 4, "change.go:16", #[⟨6, .data⟩, { on := 9, ground := Go.Ground.gcOnly Go.Departure.lateStores }], none⟩) hH.out (by rintro w ⟨⟨⟨s4, s1⟩, hm7⟩, hz7⟩; go_simp <;> with_reducible rfl) ?_
  simp only [Act.put, sA, sB, sC]
  refine tk (i := 9) (oi := ⟨some 6, .assign (.tmp 15), 3, "change.go:16", #[⟨7, .data⟩, ⟨0, .phase⟩, ⟨1, .phase⟩, ⟨2, .phase⟩, ⟨3, .phase⟩, ⟨4, .phase⟩, ⟨5, .phase⟩, ⟨6, .phase⟩, ⟨7, .phase⟩, { on := 8, ground := Go.Ground.textOnly Go.Departure.lateStores }], none⟩) hH.out (by rintro w ⟨⟨⟨s4, s1⟩, hm7⟩, hz7⟩; go_simp <;> with_reducible rfl) ?_
  simp only [Act.put, sA, sB, sC]
  refine tk (i := 10) (oi := ⟨some 7, .assign (.tmp 16), 4, "change.go:16", #[⟨8, .data⟩, ⟨9, .chain⟩, ⟨0, .phase⟩, ⟨1, .phase⟩, ⟨2, .phase⟩, ⟨3, .phase⟩, ⟨4, .phase⟩, ⟨5, .phase⟩, ⟨6, .phase⟩, ⟨7, .phase⟩, ⟨8, .phase⟩, ⟨9, .phase⟩], none⟩) hH.out (by rintro w ⟨⟨⟨s4, s1⟩, hm7⟩, hz7⟩; go_simp <;> with_reducible rfl) ?_
  simp only [Act.put, sA, sB, sC]
  refine wpAnyH_done (by kernel_rfl) ?_ _
  have c1 := K0.out.1.1.2
  cases hat : atL E.L b with
  | some i =>
    obtain rfl : X = ⟨(i : Int), 0, E.R⟩ := by rw [HX.out]; unfold plF; rw [hat]
    clear hat HN
    go_wp2_with fail
    go_ret2
    exact ⟨rfl, HP1.out, adv_wk HA1.out.drew⟩
  | none =>
    obtain ⟨xi, xe, xs⟩ := X
    have HI := Lib.hid (show (nextS E.R).i = xi ∧ (nextS E.R).e = xe ∧ (nextS E.R).s = xs by
      have := HX.out
      unfold plF at this
      rw [hat] at this
      injection this with a b c
      exact ⟨a.symm, b.symm, c.symm⟩)
    rw [HI.out.1, HI.out.2.1, HI.out.2.2] at HN
    clear hat
    go_wp2_with (first
      | (go_at_call 95; refine (HN.out _ HP1.out).mono ?_; rintro e w2 ⟨rfl, h2, a2⟩; have HP2 := Lib.hid h2; have HA2 := Lib.hid ((adv_wk HA1.out.drew).trans a2); clear h2 a2)
      | fail)
    go_ret2
    exact ⟨rfl, HP2.out, HA2.out⟩
set_option maxRecDepth 3000 in
/-- one place in a slice -/
theorem PlR.one {w : World} {G : Nat → Prop} {z i : Nat} {x : Slt} (h : Blk w z 125 (plcA i x)) (hz : ¬ G z) : PlR w G (.slice (some ⟨z, 0, none⟩) 1 1) [(i, x)] :=
  ⟨_, 1, rfl, fun _ => ⟨z, 0, rfl, h.lt, hz, fun k hk => by
    obtain rfl : k = 0 := by simpa using hk
    exact Blk.range h⟩⟩
set_option maxRecDepth 3000 in
theorem plF_yes {L : List Slt} {R : RgS} (h : PRg L R) {x : Slt} (hx : okT x) (he : (plF L R (bkT x)).e = 0) : ∃ i : Nat, (plF L R (bkT x)).i = (i : Int) ∧ LayOk L i x ∧ PRg L (plF L R (bkT x)).R ∧ (∀ hi : i < L.length, bkT L[i] ≠ bkT x → L[i].d = false) := by
  unfold plF at he ⊢
  cases hat : atL L (bkT x) with
  | some i =>
    obtain ⟨hi, h1, h2⟩ := (atL_some h.wl).1 hat
    refine ⟨i, rfl, ⟨hi, .inr hx, .inr ?_⟩, h, fun _ hne => absurd h2 hne⟩
    rw [atL_set0 h.wl hi, if_pos ⟨h1, h2⟩]
  | none =>
    rw [hat] at he
    simp only at he ⊢
    rcases next_cases h.ck with ⟨_, i, e, hlt, hp, en, eu, ep⟩ | ⟨e, _⟩
    · have hi : i < L.length := by rw [← h.n]; exact hlt
      refine ⟨i, e, ⟨hi, .inr hx, .inr ?_⟩, ⟨h.wl, next_ok h.ck, by rw [en]; exact h.n, fun j hj => by rw [eu]; exact h.u j hj, fun j hj => by rw [ep]; exact h.p j hj⟩, fun _ _ => by rw [← h.p i hi]; exact hp⟩
      rw [atL_set0 h.wl hi]
      split
      · rfl
      · exact hat
    · rw [e] at he; exact absurd he (by decide)
set_option maxRecDepth 3000 in
theorem plF_full {L : List Slt} {R : RgS} (h : PRg L R) {b : Bk} (he : (plF L R b).e ≠ 0) : (plF L R b).e = 8 ∧ (plF L R b).R = R ∧ (∀ i (hi : i < L.length), L[i].d = true) := by
  unfold plF at he ⊢
  cases hat : atL L b with
  | some i => rw [hat] at he; exact absurd rfl he
  | none =>
    rw [hat] at he
    simp only at he ⊢
    rcases next_cases h.ck with ⟨e, _⟩ | ⟨e, e2, e3⟩
    · exact absurd e he
    · exact ⟨e, e2, fun i hi => by rw [← h.p i hi]; exact e3 i (by rw [h.n]; exact hi)⟩
/-- a slot put: what is answered, what is kept -/
structure PutR where
  s : DS
  g : LS
  L : List Slt
  R : RgS
  e : Int
def putE (E : PE) (x : Slt) : PutR :=
  if okT x then
    if (plF E.L E.R (bkT x)).e = 0 then
      if (wrtG E.s E.n E.N E.g (putsT [((plF E.L E.R (bkT x)).i.toNat, x)])).2 = 0 then
        ⟨(wrtG E.s E.n E.N E.g (putsT [((plF E.L E.R (bkT x)).i.toNat, x)])).1.1, (wrtG E.s E.n E.N E.g (putsT [((plF E.L E.R (bkT x)).i.toNat, x)])).1.2, E.L.set (plF E.L E.R (bkT x)).i.toNat x, useR (plF E.L E.R (bkT x)).R (plF E.L E.R (bkT x)).i.toNat x.d, 0⟩
      else ⟨(wrtG E.s E.n E.N E.g (putsT [((plF E.L E.R (bkT x)).i.toNat, x)])).1.1, (wrtG E.s E.n E.N E.g (putsT [((plF E.L E.R (bkT x)).i.toNat, x)])).1.2, E.L, (plF E.L E.R (bkT x)).R, (wrtG E.s E.n E.N E.g (putsT [((plF E.L E.R (bkT x)).i.toNat, x)])).2⟩
    else ⟨E.s, E.g, E.L, (plF E.L E.R (bkT x)).R, (plF E.L E.R (bkT x)).e⟩
  else ⟨E.s, E.g, E.L, E.R, 2⟩
def PE.put (E : PE) (F' : Nat → Prop) (r : PutR) : PE := ((E.log F' r.s r.g).setL r.L).setR r.R
def PPut (w : World) (E : PE) (r : PutR) (e : Ending) (w' : World) : Prop := e = .returned (.int .i64 r.e) ∧ ∃ F', Pk w' (E.put F' r) ∧ Adv E.V w (E.put F' r).V w'
section
variable {w : World} {E : PE} {x : Slt}
set_option maxRecDepth 3000 in
set_option maxHeartbeats 6400000 in
theorem put_no (h : Pk w E) (hx : WfT x) (hn : ¬ okT x) : Calls Tryz.prog 34 #[.pointer (some ⟨E.c, 0, none⟩), .agg (tc x)] w (PPut w E ⟨E.s, E.g, E.L, E.R, 2⟩) := by
  have HP := Lib.hid h
  have HEN := Lib.hid (sencode_any x hx)
  have HFR := Lib.hid (free_any x hx)
  have HFIN := Lib.hid (show ∀ (e : Ending) W, e = .returned (.int .i64 2) → Adv Nul w Nul W → PPut w E ⟨E.s, E.g, E.L, E.R, 2⟩ e W from fun e W a b => ⟨a, E.F, h.step b, adv_wk b⟩)
  have HM := Lib.hid (fun W (r : Pk W E) => pmade_any W E r)
  obtain ⟨c, hc⟩ : ∃ c, c = E.c := ⟨_, rfl⟩
  rw [← hc] at HM ⊢
  clear hc
  by_cases h0 : x = zeroT
  · have his : isT x := .inl h0
    have HIS := Lib.hid his
    rw [decide_eq_true h0] at HFR
    clear h hx hn h0 his
    go_enter Tryz.func34, Tryz.ntmps34
    go_wp2_with (first
      | (refine kop_box rfl _ rfl rfl ?_; intro z w1 hz hb ha; have HZ := Lib.hid hz; have HZB := Lib.hid hb; have HA1 := Lib.hid ha; have HM1 := Lib.hid (HM.out w1 (HP.out.step ha)); clear hz hb ha)
      | (go_at_call 46; refine HM1.out.mono ?_; rintro e w2 ⟨rfl, rfl⟩)
      | (refine kop_load rfl _ rfl z HZB.out rfl Tryz.underlying44 rfl sizeT (tc_size x) ?_)
      | (go_at_call 65; refine (HEN.out _).mono ?_; rintro e w7 ⟨A7, m7, k7, F7, rfl, a7, _, _⟩; rw [if_pos HIS.out]; have HA7 := Lib.hid (HA1.out.trans a7); have HZ7 := Lib.hid (HZB.out.over a7); clear a7)
      | (refine kpw_guard rfl ?_; refine kop_load rfl _ rfl z HZ7.out rfl Tryz.underlying44 rfl sizeT (tc_size x) ?_)
      | (go_at_call 33; refine (HFR.out _).mono ?_; rintro e w8 ⟨rfl, a8⟩; have HA8 := Lib.hid (HA7.out.nul.trans a8); clear a8)
      | fail)
    go_ret
    exact HFIN.out _ _ rfl HA8.out
  · have his : ¬ isT x := fun k => k.elim h0 hn
    have HIS := Lib.hid his
    clear h hx hn h0 his
    go_enter Tryz.func34, Tryz.ntmps34
    go_wp2_with (first
      | (refine kop_box rfl _ rfl rfl ?_; intro z w1 hz hb ha; have HZ := Lib.hid hz; have HZB := Lib.hid hb; have HA1 := Lib.hid ha; have HM1 := Lib.hid (HM.out w1 (HP.out.step ha)); clear hz hb ha)
      | (go_at_call 46; refine HM1.out.mono ?_; rintro e w2 ⟨rfl, rfl⟩)
      | (refine kop_load rfl _ rfl z HZB.out rfl Tryz.underlying44 rfl sizeT (tc_size x) ?_)
      | (go_at_call 65; refine (HEN.out _).mono ?_; rintro e w7 ⟨A7, m7, k7, F7, rfl, a7, _, _⟩; rw [if_neg HIS.out]; have HA7 := Lib.hid (HA1.out.trans a7).nul; clear a7)
      | fail)
    go_ret
    exact HFIN.out _ _ rfl HA7.out
set_option maxRecDepth 3000 in
set_option maxHeartbeats 6400000 in
/-- no place -/
theorem put_full (h : Pk w E) (hx : WfT x) (hk : okT x) {i er : Int} {R1 : RgS} (he : er ≠ 0) (hp : plF E.L E.R (bkT x) = ⟨i, er, R1⟩) : Calls Tryz.prog 34 #[.pointer (some ⟨E.c, 0, none⟩), .agg (tc x)] w (PPut w E ⟨E.s, E.g, E.L, R1, er⟩) := by
  have HP := Lib.hid h
  have HIS := Lib.hid (show isT x from .inr hk)
  have HEN := Lib.hid (sencode_any x hx)
  have HFR := Lib.hid (free_any x hx)
  rw [decide_eq_false (okT_ne hk)] at HFR
  have HFIN := Lib.hid (show ∀ (e : Ending) W, e = .returned (.int .i64 er) → Pk W (E.setR R1) → Adv E.V w E.V W → PPut w E ⟨E.s, E.g, E.L, R1, er⟩ e W from fun e W a b c => ⟨a, E.F, b, c⟩)
  have HM := Lib.hid (fun W (r : Pk W E) => pmade_any W E r)
  have HPF := Lib.hid (fun W (r : Pk W E) => placefor_p r hx.b)
  rw [hp] at HPF
  simp only at HPF
  have heb : (er != 0) = true := by rw [bne_iff_ne]; exact he
  obtain ⟨c, hc⟩ : ∃ c, c = E.c := ⟨_, rfl⟩
  rw [← hc] at HM HPF ⊢
  clear h hx hk hp hc he
  go_enter Tryz.func34, Tryz.ntmps34
  go_wp2_with (first
    | (refine kop_box rfl _ rfl rfl ?_; intro z w1 hz hb ha; have HZ := Lib.hid hz; have HZB := Lib.hid hb; have HA1 := Lib.hid ha; have HM1 := Lib.hid (HM.out w1 (HP.out.step ha)); clear hz hb ha)
    | (go_at_call 46; refine HM1.out.mono ?_; rintro e w2 ⟨rfl, rfl⟩)
    | (refine kop_load rfl _ rfl z HZB.out rfl Tryz.underlying44 rfl sizeT (tc_size x) ?_)
    | (go_at_call 65; refine (HEN.out _).mono ?_; rintro e w7 ⟨A7, m7, k7, F7, rfl, a7, _, _⟩; rw [if_pos HIS.out]; have HA7 := Lib.hid (HA1.out.trans a7); have HZ7 := Lib.hid (HZB.out.over a7); clear a7)
    | (refine kpw_guard rfl ?_; refine kop_load rfl _ rfl z HZ7.out rfl Tryz.underlying44 rfl sizeT (tc_size x) ?_)
    | (go_at_call 33; refine (HFR.out _).mono ?_; rintro e w8 ⟨rfl, a8⟩; have HA8 := Lib.hid (HA7.out.nul.trans a8); have HZ8 := Lib.hid (HZ7.out.over a8); clear a8)
    | (refine gop_load (t := 37) (C := bkc (bkT x)) rfl _ rfl z (Blk.tb1 HZ8.out) rfl Tryz.underlying37 rfl sizeBk rfl ?_)
    | (go_at_call 66; refine (HPF.out _ (HP.out.step HA8.out)).mono ?_; rintro e w9 ⟨rfl, h9, a9⟩; have HP9 := Lib.hid h9; have HA9 := Lib.hid ((adv_wk HA8.out).trans a9); clear h9 a9)
    | fail)
  go_ret
  exact HFIN.out _ _ rfl HP9.out HA9.out
set_option maxRecDepth 3000 in
set_option maxHeartbeats 6400000 in
/-- a place, and what the log answers -/
theorem put_at (h : Pk w E) (hw : WOk E.n E.N E.s E.g) (hx : WfT x) (hk : okT x) {i : Nat} {R1 : RgS} (hp : plF E.L E.R (bkT x) = ⟨(i : Int), 0, R1⟩) (hl : LayOk E.L i x) {s2 : DS} {g2 : LS} {er : Int} (hW : wrtG E.s E.n E.N E.g (putsT [(i, x)]) = ((s2, g2), er)) :
    Calls Tryz.prog 34 #[.pointer (some ⟨E.c, 0, none⟩), .agg (tc x)] w (PPut w E (if er = 0 then ⟨s2, g2, E.L.set i x, useR R1 i x.d, 0⟩ else ⟨s2, g2, E.L, R1, er⟩)) := by
  have HP := Lib.hid h
  have HIS := Lib.hid (show isT x from .inr hk)
  have HEN := Lib.hid (sencode_any x hx)
  have HFR := Lib.hid (free_any x hx)
  rw [decide_eq_false (okT_ne hk)] at HFR
  have HM := Lib.hid (fun W (r : Pk W E) => pmade_any W E r)
  have HPF := Lib.hid (fun W (r : Pk W E) => placefor_p r hx.b)
  rw [hp] at HPF
  simp only at HPF
  have HCH := Lib.hid (fun W z (r : Pk W (E.setR R1)) (hb : Blk W z 125 (plcA i x)) (hz : ¬ E.V z) => show Calls Tryz.prog 67 #[.pointer (some ⟨E.c, 0, none⟩), .slice (some ⟨z, 0, none⟩) 1 1] W (PCh W (E.setR R1) [(i, x)] ((s2, g2), er)) by
    rw [← hW]
    exact change_p r hw (PlR.one hb hz) (by show 1 ≤ 64; omega) ⟨hl, trivial⟩)
  have HV := Lib.hid (show ∀ z, w.heap.size ≤ z → ¬ E.V z from fun z hz k => by have := h.bd z k; omega)
  have HLT := Lib.hid hl.lt
  have hi64 : (i : Int) ≤ 64 := by have := h.ln; have := hl.lt; omega
  unfold PCh PE.chg at HCH
  simp only at HCH
  by_cases he : er = 0
  · subst he
    rw [if_pos rfl]
    have HUS := Lib.hid (fun W F' (r : Pk W (((E.setR R1).log F' s2 g2).setL (setsL E.L [(i, x)]))) => show Calls Tryz.prog 68 #[.pointer (some ⟨E.c, 0, none⟩), .int .i64 (i : Int)] W fun e w' => e = .returned (.tuple #[]) ∧ Pk w' (((E.log F' s2 g2).setL (E.L.set i x)).setR (useR R1 i x.d)) ∧ Adv ((E.log F' s2 g2).setL (E.L.set i x)).V W ((E.log F' s2 g2).setL (E.L.set i x)).V w' by
      have hlt : i < (E.L.set i x).length := by rw [List.length_set]; exact HLT.out
      have h2 := use_p (i := i) r hlt
      have e : (E.L.set i x)[i]'hlt = x := by rw [List.getElem_set, if_pos rfl]
      refine h2.mono ?_
      rintro e1 w1 ⟨a, b, c⟩
      refine ⟨a, ?_, c⟩
      have e2 : (((E.setR R1).log F' s2 g2).setL (setsL E.L [(i, x)])).L[i]'hlt = x := e
      rw [e2] at b
      exact b)
    have HFIN := Lib.hid (show ∀ (e : Ending) W F', e = .returned (.int .i64 0) → Pk W (((E.log F' s2 g2).setL (E.L.set i x)).setR (useR R1 i x.d)) → Adv E.V w ((E.log F' s2 g2).setL (E.L.set i x)).V W → PPut w E ⟨s2, g2, E.L.set i x, useR R1 i x.d, 0⟩ e W from fun e W F' a b c => ⟨a, F', b, c⟩)
    have HCH2 := Lib.hid (fun W z (r : Pk W (E.setR R1)) (hb : Blk W z 125 (plcA i x)) (hz : ¬ E.V z) => (HCH.out W z r hb hz).mono (R' := fun e w' => e = .returned (.int .i64 0) ∧ ∃ F', Pk w' (((E.setR R1).log F' s2 g2).setL (setsL E.L [(i, x)])) ∧ Adv E.V W ((E.log F' s2 g2).setL (E.L.set i x)).V w') fun e w' ⟨a, F', b, c⟩ => ⟨a, F', by rw [if_pos rfl] at b; exact b, c⟩)
    obtain ⟨c, hc⟩ : ∃ c, c = E.c := ⟨_, rfl⟩
    rw [← hc] at HM HPF HUS HCH2 ⊢
    clear h hw hx hk hp hl hW hc HCH
    go_enter Tryz.func34, Tryz.ntmps34
    go_wp2_with (first
      | (refine kop_box rfl _ rfl rfl ?_; intro z w1 hz hb ha; have HZ := Lib.hid hz; have HZB := Lib.hid hb; have HA1 := Lib.hid ha; have HM1 := Lib.hid (HM.out w1 (HP.out.step ha)); clear hz hb ha)
      | (go_at_call 46; refine HM1.out.mono ?_; rintro e w2 ⟨rfl, rfl⟩)
      | (refine kop_load rfl _ rfl z HZB.out rfl Tryz.underlying44 rfl sizeT (tc_size x) ?_)
      | (go_at_call 65; refine (HEN.out _).mono ?_; rintro e w7 ⟨A7, m7, k7, F7, rfl, a7, _, _⟩; rw [if_pos HIS.out]; have HA7 := Lib.hid (HA1.out.trans a7); have HZ7 := Lib.hid (HZB.out.over a7); clear a7)
      | (refine kpw_guard rfl ?_; refine kop_load rfl _ rfl z HZ7.out rfl Tryz.underlying44 rfl sizeT (tc_size x) ?_)
      | (go_at_call 33; refine (HFR.out _).mono ?_; rintro e w8 ⟨rfl, a8⟩; have HA8 := Lib.hid (HA7.out.nul.trans a8); have HZ8 := Lib.hid (HZ7.out.over a8); clear a8)
      | (refine gop_load (t := 37) (C := bkc (bkT x)) rfl _ rfl z (Blk.tb1 HZ8.out) rfl Tryz.underlying37 rfl sizeBk rfl ?_)
      | (go_at_call 66; refine (HPF.out _ (HP.out.step HA8.out)).mono ?_; rintro e w9 ⟨rfl, h9, a9⟩; have HP9 := Lib.hid h9; have HA9 := Lib.hid ((adv_wk HA8.out).trans a9); have HZ9 := Lib.hid (HZ8.out.keep (a9.block z HZ8.out.lt (HV.out z HZ.out))); clear h9 a9)
      | (refine kop_load rfl _ rfl z HZ9.out rfl Tryz.underlying44 rfl sizeT (tc_size x) ?_)
      | (refine kop_pl rfl _ _ rfl i x rfl rfl ?_)
      | (refine kop_bslice rfl _ rfl Tryz.underlying126 infoPl rfl (plcA_size i x) (by decide) (by decide) ?_; intro y wx hy hb ha; have HY := Lib.hid (HV.out y (Nat.le_trans HA9.out.size hy)); have HYB := Lib.hid hb; have HPX := Lib.hid (HP9.out.step ha); have HAX := Lib.hid (HA9.out.trans (adv_wk ha)); clear hy hb ha)
      | (go_at_call 67; refine (HCH2.out _ y HPX.out HYB.out HY.out).mono ?_; rintro e w10 ⟨rfl, F10, h10, a10⟩; have HP10 := Lib.hid h10; have HA10 := Lib.hid (HAX.out.trans a10); clear h10 a10)
      | (go_at_call 68; refine (HUS.out _ F10 HP10.out).mono ?_; rintro e w11 ⟨rfl, h11, a11⟩; have HP11 := Lib.hid h11; have HA11 := Lib.hid (HA10.out.trans a11); clear h11 a11)
      | fail)
    go_ret
    exact HFIN.out _ _ F10 rfl HP11.out HA11.out
  · rw [if_neg he]
    have heb : (er != 0) = true := by rw [bne_iff_ne]; exact he
    have HFIN := Lib.hid (show ∀ (e : Ending) W F', e = .returned (.int .i64 er) → Pk W ((E.setR R1).log F' s2 g2) → Adv E.V w (E.log F' s2 g2).V W → PPut w E ⟨s2, g2, E.L, R1, er⟩ e W from fun e W F' a b c => ⟨a, F', b, c⟩)
    have HCH2 := Lib.hid (fun W z (r : Pk W (E.setR R1)) (hb : Blk W z 125 (plcA i x)) (hz : ¬ E.V z) => (HCH.out W z r hb hz).mono (R' := fun e w' => e = .returned (.int .i64 er) ∧ ∃ F', Pk w' ((E.setR R1).log F' s2 g2) ∧ Adv E.V W (E.log F' s2 g2).V w') fun e w' ⟨a, F', b, c⟩ => ⟨a, F', by rw [if_neg he] at b; exact b, c⟩)
    obtain ⟨c, hc⟩ : ∃ c, c = E.c := ⟨_, rfl⟩
    rw [← hc] at HM HPF HCH2 ⊢
    clear h hw hx hk hp hl hW hc HCH he
    go_enter Tryz.func34, Tryz.ntmps34
    go_wp2_with (first
      | (refine kop_box rfl _ rfl rfl ?_; intro z w1 hz hb ha; have HZ := Lib.hid hz; have HZB := Lib.hid hb; have HA1 := Lib.hid ha; have HM1 := Lib.hid (HM.out w1 (HP.out.step ha)); clear hz hb ha)
      | (go_at_call 46; refine HM1.out.mono ?_; rintro e w2 ⟨rfl, rfl⟩)
      | (refine kop_load rfl _ rfl z HZB.out rfl Tryz.underlying44 rfl sizeT (tc_size x) ?_)
      | (go_at_call 65; refine (HEN.out _).mono ?_; rintro e w7 ⟨A7, m7, k7, F7, rfl, a7, _, _⟩; rw [if_pos HIS.out]; have HA7 := Lib.hid (HA1.out.trans a7); have HZ7 := Lib.hid (HZB.out.over a7); clear a7)
      | (refine kpw_guard rfl ?_; refine kop_load rfl _ rfl z HZ7.out rfl Tryz.underlying44 rfl sizeT (tc_size x) ?_)
      | (go_at_call 33; refine (HFR.out _).mono ?_; rintro e w8 ⟨rfl, a8⟩; have HA8 := Lib.hid (HA7.out.nul.trans a8); have HZ8 := Lib.hid (HZ7.out.over a8); clear a8)
      | (refine gop_load (t := 37) (C := bkc (bkT x)) rfl _ rfl z (Blk.tb1 HZ8.out) rfl Tryz.underlying37 rfl sizeBk rfl ?_)
      | (go_at_call 66; refine (HPF.out _ (HP.out.step HA8.out)).mono ?_; rintro e w9 ⟨rfl, h9, a9⟩; have HP9 := Lib.hid h9; have HA9 := Lib.hid ((adv_wk HA8.out).trans a9); have HZ9 := Lib.hid (HZ8.out.keep (a9.block z HZ8.out.lt (HV.out z HZ.out))); clear h9 a9)
      | (refine kop_load rfl _ rfl z HZ9.out rfl Tryz.underlying44 rfl sizeT (tc_size x) ?_)
      | (refine kop_pl rfl _ _ rfl i x rfl rfl ?_)
      | (refine kop_bslice rfl _ rfl Tryz.underlying126 infoPl rfl (plcA_size i x) (by decide) (by decide) ?_; intro y wx hy hb ha; have HY := Lib.hid (HV.out y (Nat.le_trans HA9.out.size hy)); have HYB := Lib.hid hb; have HPX := Lib.hid (HP9.out.step ha); have HAX := Lib.hid (HA9.out.trans (adv_wk ha)); clear hy hb ha)
      | (go_at_call 67; refine (HCH2.out _ y HPX.out HYB.out HY.out).mono ?_; rintro e w10 ⟨rfl, F10, h10, a10⟩; have HP10 := Lib.hid h10; have HA10 := Lib.hid (HAX.out.trans a10); clear h10 a10)
      | fail)
    go_ret
    exact HFIN.out _ _ F10 rfl HP10.out HA10.out
end
set_option maxRecDepth 3000 in
theorem put_p {w : World} {E : PE} {x : Slt} (h : Pk w E) (hg : PRg E.L E.R) (hw : WOk E.n E.N E.s E.g) (hx : WfT x) :
    Calls Tryz.prog 34 #[.pointer (some ⟨E.c, 0, none⟩), .agg (tc x)] w (PPut w E (putE E x)) := by
  unfold putE
  by_cases hk : okT x
  · rw [if_pos hk]
    by_cases he : (plF E.L E.R (bkT x)).e = 0
    · obtain ⟨i, hi, hl, _⟩ := plF_yes hg hk he
      rw [if_pos he, hi, Int.toNat_natCast]
      obtain ⟨W, hW⟩ : ∃ W, W = wrtG E.s E.n E.N E.g (putsT [(i, x)]) := ⟨_, rfl⟩
      rw [← hW]
      obtain ⟨⟨s2, g2⟩, er⟩ := W
      exact put_at h hw hx hk (by rw [← hi, ← he]) hl hW.symm
    · rw [if_neg he]
      exact put_full h hx hk he rfl
  · rw [if_neg hk]
    exact put_no h hx hk
set_option maxRecDepth 3000 in
set_option maxHeartbeats 3200000 in
theorem get_p {w : World} {E : PE} (h : Pk w E) {b : Bk} (hb : WfB b) : Calls Tryz.prog 12 #[.pointer (some ⟨E.c, 0, none⟩), .agg (bkc b)] w fun e w' => e = .returned (.tuple #[.agg (tc (((atL E.L b).map (fun i => E.L.getD i zeroT)).getD zeroT)), .bool (atL E.L b).isSome]) ∧ Pk w' (E.setR (((atL E.L b).map (fun i => doS 2 E.R i)).getD E.R)) ∧ Adv E.V w E.V w' := by
  have HP := Lib.hid h
  have HB := Lib.hid hb
  have HM := Lib.hid (fun W (r : Pk W E) => pmade_any W E r)
  have HT := Lib.hid (fun W (r : Pk W E) (i : Nat) (hi : i < E.L.length) => (ctouch_any (i : Int) W E.r E.R r.cl).mono (R' := fun e w' => e = .returned (.int .i64 (doE 2 E.R (i : Int))) ∧ Pk w' (E.setR (doS 2 E.R i)) ∧ Adv E.V W E.V w') fun e w' ⟨x1, x2, x3⟩ => ⟨x1, by
    have e0 : doC 2 E.R (i : Int) = doS 2 E.R i := by unfold doC; rw [if_pos ⟨by omega, by rw [h.ln.2.2]; omega⟩, Int.toNat_natCast]
    rw [e0] at x2
    exact r.ring x2 (doS_n _ _ _) x3⟩)
  obtain ⟨c, hc⟩ : ∃ c, c = E.c := ⟨_, rfl⟩
  obtain ⟨m, hm⟩ : ∃ c, c = E.m := ⟨_, rfl⟩
  obtain ⟨r, hr⟩ : ∃ c, c = E.r := ⟨_, rfl⟩
  obtain ⟨q, hq⟩ : ∃ c, c = E.q := ⟨_, rfl⟩
  obtain ⟨n, hn⟩ : ∃ c, c = E.L.length := ⟨_, rfl⟩
  have HS := Lib.hid (show ∀ W, Pk W E → (W.cell? ⟨c, 4, none⟩ = some (.map (some m)) ∧ W.cell? ⟨c, 1, none⟩ = some (.pointer (some ⟨r, 0, none⟩))) ∧ Mb W m E.L from fun W k => by rw [hc, hm, hr]; exact ⟨⟨k.c4, k.c1⟩, k.mp⟩)
  have HS2 := Lib.hid (show ∀ W R, Pk W (E.setR R) → W.cell? ⟨c, 3, none⟩ = some (.slice (some ⟨q, 0, none⟩) n n) ∧ Blk W q 44 (tcs E.L) from fun W R k => by rw [hc, hq, hn]; exact ⟨k.c3, k.sl⟩)
  have hn64 : (n : Int) ≤ 64 := by have := h.ln; omega
  obtain ⟨XA, hXA⟩ : ∃ X, X = tc (((atL E.L b).map (fun i => E.L.getD i zeroT)).getD zeroT) := ⟨_, rfl⟩
  obtain ⟨XB, hXB⟩ : ∃ X, X = (atL E.L b).isSome := ⟨_, rfl⟩
  obtain ⟨XR, hXR⟩ : ∃ X, X = ((atL E.L b).map (fun i => doS 2 E.R i)).getD E.R := ⟨_, rfl⟩
  have HX := Lib.hid (And.intro hXA (And.intro hXB hXR))
  rw [← hXA, ← hXB, ← hXR]
  clear hXA hXB hXR
  rw [← hc] at HM ⊢
  rw [← hr] at HT
  have HN := Lib.hid hn
  have HV := Lib.hid (show ∀ z, w.heap.size ≤ z → ¬ E.V z from fun z hz k => by have := h.bd z k; omega)
  have HZT := Lib.hid infoT
  have HBU := Lib.hid builtT
  obtain ⟨Z, hZ⟩ : ∃ C, C = tc zeroT := ⟨_, rfl⟩
  have HZS := Lib.hid (show Z.size = 7 by rw [hZ]; rfl)
  have HZ1 := Lib.hid (show Z.all (·.oneCell') = true by rw [hZ]; exact tc_one _)
  rw [← hZ] at HZT HBU
  have HZZ := Lib.hid hZ
  clear h hb hc hm hr hq hn hZ
  go_enter Tryz.func12, Tryz.ntmps12
  go_upto_region 3 with (first
    | (refine kop_box rfl _ rfl rfl ?_; intro z w1 hz hb ha; have HZB := Lib.hid hb; have HA1 := Lib.hid ha; have HZN := Lib.hid hz; clear hz hb ha)
    | (refine kop_alloc rfl rfl HZT.out ?_; intro y w2 hz hb ha; have HY := Lib.hid (Nat.le_trans HA1.out.size hz); have HYB := Lib.hid hb; have HA2 := Lib.hid (HA1.out.trans ha); have HZB2 := Lib.hid (HZB.out.over ha); have HP2 := Lib.hid (HP.out.step (HA1.out.trans ha)); have HM2 := Lib.hid (HM.out w2 HP2.out); clear hz hb ha)
    | (go_at_call 46; refine HM2.out.mono ?_; rintro e w3 ⟨rfl, rfl⟩)
    | fail)
  have K0 := Lib.hid (show ((w2.drew.cell? ⟨c, 4, none⟩ = some (.map (some m)) ∧ w2.drew.cell? ⟨c, 1, none⟩ = some (.pointer (some ⟨r, 0, none⟩))) ∧ Mb w2.drew m E.L) ∧ Blk w2.drew z 37 (bkc b) from ⟨HS.out _ (HP2.out.step (Adv.refl Nul w2).drew), HZB2.out.drew⟩)
  refine rstart (S := (fun w' => ((w'.cell? ⟨c, 4, none⟩ = some (.map (some m)) ∧ w'.cell? ⟨c, 1, none⟩ = some (.pointer (some ⟨r, 0, none⟩))) ∧ Mb w' m E.L) ∧ Blk w' z 37 (bkc b))) (by first | with_reducible exact K0.out) (fun hH => ?_)
  refine tk (i := 0) (oi := ⟨some 13, .move (.tmp 0), 29, "pcache.go:58", #[], none⟩) hH.out (by rintro w ⟨⟨⟨s4, s1⟩, hm7⟩, hz7⟩; go_simp <;> with_reducible rfl) ?_
  simp only [Act.put, sA, sB, sC]
  refine tk (i := 1) (oi := ⟨some 14, .nilCheck (.tmp 13), 0, "pcache.go:58", #[⟨0, .data⟩], none⟩) hH.out (by rintro w ⟨⟨⟨s4, s1⟩, hm7⟩, hz7⟩; go_simp <;> with_reducible rfl) ?_
  simp only [Act.put, sA, sB, sC]
  refine tk (i := 2) (oi := ⟨some 15, .fieldAddr 76 (.tmp 14) 4, 0, "pcache.go:58", #[⟨1, .data⟩], none⟩) hH.out (by rintro w ⟨⟨⟨s4, s1⟩, hm7⟩, hz7⟩; go_simp <;> with_reducible rfl) ?_
  simp only [Act.put, sA, sB, sC]
  refine tk (i := 3) (oi := ⟨some 16, .load 74 (.tmp 15), 74, "pcache.go:58", #[⟨2, .data⟩], none⟩) hH.out (by rintro w ⟨⟨⟨s4, s1⟩, hm7⟩, hz7⟩; go_simp <;> with_reducible rfl) ?_
  simp only [Act.put, sA, sB, sC]
  refine wpAnyH_take (i := 4) (oi := ⟨some 17, .load 37 (.tmp 3), 37, "pcache.go:58", #[], none⟩) (v := .agg (bkc b)) rfl (by kernel_rfl) (by kernel_rfl) (by kernel_rfl) (fun _ _ _ h => h) (kyl_load rfl (.tmp 3) rfl z rfl (fun _ h => h.2) Tryz.underlying37 rfl sizeBk rfl) hH.out ?_
  simp only [Act.put, sA, sB, sC]
  refine wpAnyH_take (i := 5) (oi := ⟨some 18, .lookup 74 (.tmp 16) (.tmp 17) true, 97, "pcache.go:58", #[⟨3, .data⟩, ⟨4, .data⟩], none⟩) (v := .tuple #[.int .i64 (((atL E.L b).getD 0 : Nat) : Int), .bool (atL E.L b).isSome]) rfl (by kernel_rfl) (by kernel_rfl) (by kernel_rfl) (fun _ _ _ h => h) (pyl_look rfl (.tmp 16) (.tmp 17) rfl m b E.L (fun _ h => h.1.2) rfl rfl HB.out) hH.out ?_
  simp only [Act.put, sA, sB, sC]
  refine tk (i := 6) (oi := ⟨some 12, .move (.tmp 18), 97, "pcache.go:58", #[⟨5, .data⟩], none⟩) hH.out (by rintro w ⟨⟨⟨s4, s1⟩, hm7⟩, hz7⟩; go_simp <;> with_reducible rfl) ?_
  simp only [Act.put, sA, sB, sC]
  refine tk (i := 7) (oi := ⟨some 19, .extract (.tmp 12) 0, 3, "pcache.go:58", #[⟨6, .data⟩], none⟩) hH.out (by rintro w ⟨⟨⟨s4, s1⟩, hm7⟩, hz7⟩; go_simp <;> with_reducible rfl) ?_
  simp only [Act.put, sA, sB, sC]
  refine tk (i := 8) (oi := ⟨some 20, .extract (.tmp 12) 1, 4, "pcache.go:58", #[⟨6, .data⟩, { on := 9, ground := Go.Ground.gcOnly Go.Departure.lateStores }], none⟩) hH.out (by rintro w ⟨⟨⟨s4, s1⟩, hm7⟩, hz7⟩; go_simp <;> with_reducible rfl) ?_
  simp only [Act.put, sA, sB, sC]
  refine tk (i := 9) (oi := ⟨some 6, .assign (.tmp 19), 3, "pcache.go:58", #[⟨7, .data⟩, ⟨0, .phase⟩, ⟨1, .phase⟩, ⟨2, .phase⟩, ⟨3, .phase⟩, ⟨4, .phase⟩, ⟨5, .phase⟩, ⟨6, .phase⟩, ⟨7, .phase⟩, { on := 8, ground := Go.Ground.textOnly Go.Departure.lateStores }], none⟩) hH.out (by rintro w ⟨⟨⟨s4, s1⟩, hm7⟩, hz7⟩; go_simp <;> with_reducible rfl) ?_
  simp only [Act.put, sA, sB, sC]
  refine tk (i := 10) (oi := ⟨some 7, .assign (.tmp 20), 4, "pcache.go:58", #[⟨8, .data⟩, ⟨9, .chain⟩, ⟨0, .phase⟩, ⟨1, .phase⟩, ⟨2, .phase⟩, ⟨3, .phase⟩, ⟨4, .phase⟩, ⟨5, .phase⟩, ⟨6, .phase⟩, ⟨7, .phase⟩, ⟨8, .phase⟩, ⟨9, .phase⟩], none⟩) hH.out (by rintro w ⟨⟨⟨s4, s1⟩, hm7⟩, hz7⟩; go_simp <;> with_reducible rfl) ?_
  simp only [Act.put, sA, sB, sC]
  refine wpAnyH_done (by kernel_rfl) ?_ _
  have c1 := K0.out.1.1.2
  have HPD := Lib.hid (HP2.out.step (Adv.refl Nul w2).drew)
  have HYD := Lib.hid (HYB.out.drew)
  have HAD := Lib.hid (HA2.out.drew)
  cases hat : atL E.L b with
  | none =>
    have HY2 := Lib.hid (show XA = Z ∧ XB = false ∧ XR = E.R by
      obtain ⟨x1, x2, x3⟩ := HX.out
      rw [hat] at x1 x2 x3
      exact ⟨x1.trans HZZ.out.symm, x2, x3⟩)
    clear hat
    go_wp2_with (first
      | (refine kop_zero HBU.out rfl rfl ?_)
      | (refine kop_store rfl _ _ rfl y HYD.out rfl rfl sizeT HZS.out HZS.out HZ1.out ?_; intro w4 hb ha; have HY4 := Lib.hid hb; have HA4 := Lib.hid (HAD.out.fresh HY.out ha); clear hb ha)
      | fail)
    exact bodyPost_ret (v := .tuple #[.agg Z, .bool false]) (kres2 (C := Z) rfl _ _ rfl rfl HY4.out Tryz.underlying44 rfl (by rw [HZS.out]; exact sizeT)) rfl ⟨by rw [HY2.out.1, HY2.out.2.1], by rw [HY2.out.2.2]; exact HP.out.step HA4.out, adv_wk HA4.out⟩
  | some i =>
    have hi : i < E.L.length := atL_lt hat
    have HI := Lib.hid hi
    have HTI := Lib.hid (fun W (r : Pk W E) => HT.out W r i hi)
    generalize doE 2 E.R (i : Int) = de at HTI
    have hin : (i : Int) < (n : Int) := by have := HN.out; omega
    have HY2 := Lib.hid (show XA = tc (E.L[i]'HI.out) ∧ XB = true ∧ XR = doS 2 E.R i by
      obtain ⟨x1, x2, x3⟩ := HX.out
      rw [hat] at x1 x2 x3
      refine ⟨x1.trans ?_, x2, x3⟩
      show tc (E.L.getD i zeroT) = _
      rw [List.getD_eq_getElem?_getD, List.getElem?_eq_getElem hi]; rfl)
    clear hat hi HT
    go_wp2_with (first
      | (go_at_call 47; refine (HTI.out _ HPD.out).mono ?_; rintro e w4 ⟨rfl, h4, a4⟩; have HP4 := Lib.hid h4; have HA4 := Lib.hid ((adv_wk HAD.out).trans a4); have HY4 := Lib.hid (HYD.out.keep (a4.block y HYD.out.lt (HV.out y HY.out))); have c3 := (HS2.out _ _ h4).1; have HQ4 := Lib.hid (HS2.out _ _ h4).2; clear h4 a4)
      | (refine rop_load rfl _ rfl q i HQ4.out HI.out rfl ?_)
      | (refine kop_store rfl _ _ rfl y HY4.out rfl rfl sizeT (tc_size _) HZS.out (tc_one _) ?_; intro w5 hb ha; have HY5 := Lib.hid hb; have HA5 := Lib.hid ha; clear hb ha)
      | fail)
    have hf : Pk w5 (E.setR (doS 2 E.R i)) ∧ Adv E.V w E.V w5 := ⟨HP4.out.far HA5.out (fun k hk => by rw [show k = y from hk]; exact HV.out y HY.out) (fun x => by have : (0 : Nat) = y := x; have := HP.out.tz.lt; have := HY.out; omega), ⟨HA5.out.os.trans HA4.out.os, HA5.out.tape.trans HA4.out.tape, HA5.out.output.trans HA4.out.output, Nat.le_trans HA4.out.size HA5.out.size, fun k hk hv => (HA5.out.block k (Nat.lt_of_lt_of_le hk HA4.out.size) (fun e => by have : k = y := e; have := HY.out; omega)).trans (HA4.out.block k hk hv), fun _ hk => .inl hk⟩⟩
    exact bodyPost_ret (v := .tuple #[.agg (tc (E.L[i]'HI.out)), .bool true]) (kres2 (C := tc (E.L[i]'HI.out)) rfl _ _ rfl rfl HY5.out Tryz.underlying44 rfl sizeT) rfl ⟨by rw [HY2.out.1, HY2.out.2.1], by rw [HY2.out.2.2]; exact hf.1, hf.2⟩
end Go.Proofs.YtcglfknkkeaegaaGreatDoor
namespace Go.Proofs.YtcglfknkkeaegaaGreatDoor
open Go.ChangeShapes Go.WideShapes Go.ChangeAt Go.RowKit

/-- bytes as a text -/
def itxt (l : List Nat) : ByteArray := strOfNums (l.map Int.ofNat)
set_option maxRecDepth 3000 in
theorem itxt_inj {a b : List Nat} (ha : ∀ x ∈ a, x < 256) (hb : ∀ x ∈ b, x < 256) (h : itxt a = itxt b) : a = b := by
  have h1 := congrArg (fun s => s.data.toList) h
  simp only [itxt, strOfNums_data, List.map_map] at h1
  have e : ∀ l : List Nat, (∀ x ∈ l, x < 256) → l = ((l.map ((fun n : Int => UInt8.ofNat n.toNat) ∘ Int.ofNat)).map UInt8.toNat) := fun l hl => by
    rw [List.map_map]
    conv => lhs; rw [← List.map_id l]
    refine List.map_congr_left fun x hx => ?_
    have := hl x hx
    simp [Function.comp]
    omega
  rw [e a ha, e b hb, h1]
set_option maxRecDepth 3000 in
theorem iconvert_rd {w : World} {A : Option Addr} {n c : Nat} {l : List Nat} (h : Rd w 1 (.slice A n c) n (l.map u8)) : (convert 118 9 (.slice A n c)).run Tryz.prog w = .ok (.string (itxt l)) w := by
  have hl : l.length = n := by obtain ⟨_, _, _, _, _, h, _⟩ := h; simpa using h
  obtain ⟨A', c', e, _, _, _, hA, hc⟩ := h
  injection e with e1 e2 e3
  subst e1 e3
  by_cases h0 : 0 < n
  · obtain ⟨ad, rfl, hb, hcell⟩ := hc h0
    obtain ⟨b, o, spot⟩ := ad
    have h00 := hcell 0 _ (List.getElem?_eq_getElem (by simp; omega))
    have hspot : spot = none := by simpa [Addr.add] using World.cell?_spot h00
    subst hspot
    refine run_convert_bytes_arg (P := Tryz.prog) w 118 5 Tryz.underlying118 Tryz.underlying5 b o n c (l.map Int.ofNat) (by simp [hl]) (fun i hi => ?_) 9 Tryz.underlying9
    have h := hcell i (u8 l[i]) (by rw [List.getElem?_map, List.getElem?_eq_getElem (by omega)]; rfl)
    rw [add_none] at h
    rw [h, List.getD_eq_getElem?_getD, List.getElem?_map, List.getElem?_eq_getElem (by omega)]
    rfl
  · obtain rfl : n = 0 := by omega
    obtain rfl : l = [] := List.eq_nil_of_length_eq_zero hl
    have := run_convert_bytes_string (P := Tryz.prog) w 118 9 5 A 0 c Tryz.underlying118 Tryz.underlying5 Tryz.underlying9
    rw [this]
    cases A with
    | none => simp [Conv.bytesToString]; rfl
    | some ad =>
      rw [run_bytesToString w ad 0 c [] (by simpa using run_loadCells_list (P := Tryz.prog) w ad [] (by simp))]
      rfl

set_option maxRecDepth 3000 in
theorem iequal_any (v1 v2 : Value) (n1 n2 : Nat) (l1 l2 : List Nat) (w : World) (h1 : Rd w 1 v1 n1 (l1.map u8)) (h2 : Rd w 1 v2 n2 (l2.map u8)) (hl1 : ∀ x ∈ l1, x < 256) (hl2 : ∀ x ∈ l2, x < 256) :
    Calls Tryz.prog 117 #[v1, v2] w fun e w' => e = .returned (.bool (decide (l1 = l2))) ∧ w = w' := by
  obtain ⟨A1, c1, rfl, _, _⟩ := h1.form
  obtain ⟨A2, c2, rfl, _, _⟩ := h2.form
  have e1 := iconvert_rd h1
  have e2 := iconvert_rd h2
  have e : ((itxt l1).toList == (itxt l2).toList) = decide (l1 = l2) := by
    by_cases h : l1 = l2
    · subst h; simp
    · rw [decide_eq_false h, beq_eq_false_iff_ne]
      refine fun h' => h (itxt_inj hl1 hl2 ?_)
      rw [ByteArray.toList_eq, ByteArray.toList_eq] at h'
      exact ByteArray.ext (Array.ext' h')
  obtain ⟨s1, hs1⟩ : ∃ s, s = itxt l1 := ⟨_, rfl⟩
  obtain ⟨s2, hs2⟩ : ∃ s, s = itxt l2 := ⟨_, rfl⟩
  rw [← hs1] at e1 e
  rw [← hs2] at e2 e
  rw [← e]
  clear h1 h2 hl1 hl2 hs1 hs2 e
  go_enter Tryz.func117, Tryz.ntmps117
  go_wp2
  go_ret
  exact ⟨rfl, rfl⟩
end Go.Proofs.YtcglfknkkeaegaaGreatDoor
namespace Go.Proofs.YtcglfknkkeaegaaGreatDoor
open Go.ChangeShapes Go.WideShapes Go.ChangeAt Go.RowKit Go.Maps
set_option maxRecDepth 3000 in
theorem digit_mod (x a m : Nat) : x % 256 ^ a / 256 ^ m % 256 = if m < a then x / 256 ^ m % 256 else 0 := by
  split
  · rename_i h
    obtain ⟨d, rfl⟩ : ∃ d, a = m + (d + 1) := ⟨a - m - 1, by omega⟩
    rw [Nat.pow_add, Nat.mod_mul_right_div_self, Nat.pow_succ]
    exact Nat.mod_mod_of_dvd _ (Nat.dvd_mul_left _ _)
  · rename_i h
    have h1 : x % 256 ^ a < 256 ^ m := Nat.lt_of_lt_of_le (Nat.mod_lt _ (Nat.pow_pos (by decide))) (Nat.pow_le_pow_right (by decide) (by omega))
    rw [Nat.div_eq_of_lt h1]
set_option maxRecDepth 3000 in
theorem numS_step (x : Nat) {k : Nat} (hk : k < 128) : (be 128 (x % 256 ^ k)).set (127 - k) (x / 256 ^ k % 256) = be 128 (x % 256 ^ (k + 1)) := by
  apply List.ext_getElem?
  intro i
  by_cases hi : i < 128
  · rw [be_get 128 _ i hi, List.getElem?_set, be_length, digit_mod]
    by_cases e : 127 - k = i
    · rw [if_pos e, if_pos (by omega), if_pos (by omega)]
      have : 128 - 1 - i = k := by omega
      rw [this]
    · rw [if_neg e, be_get 128 _ i hi, digit_mod]
      by_cases c : 128 - 1 - i < k
      · rw [if_pos c, if_pos (by omega)]
      · rw [if_neg c, if_neg (by omega)]
  · rw [List.getElem?_eq_none (by rw [List.length_set, be_length]; omega), List.getElem?_eq_none (by rw [be_length]; omega)]
set_option maxRecDepth 3000 in
theorem numS_end {x k : Nat} (h : x / 256 ^ k = 0) : be 128 (x % 256 ^ k) = numS x := by
  rw [Nat.mod_eq_of_lt ((Nat.div_eq_zero_iff_lt (Nat.pow_pos (by decide))).1 h)]
  rfl
def EncN (x : Nat) (w : World) (z : Nat) (t0 t4 : Value) (wr : World) : Prop := ∃ k j : Nat, k ≤ 8 ∧ j = 127 - k ∧ t0 = .int .u64 ((x / 256 ^ k : Nat) : Int) ∧ t4 = .int .i64 (j : Int) ∧
  Blk wr z 5 ((be 128 (x % 256 ^ k)).map u8).toArray ∧ Adv Nul w (fun k => k = z) wr
set_option maxRecDepth 3000 in
theorem Blk.set8 {w : World} {z j y : Nat} {l : List Nat} {v : Int} (h : Blk w z 5 (l.map u8).toArray) (hv : v = (y : Int)) : Blk (w.setCell ⟨z, j, none⟩ (.int .u8 v)) z 5 ((l.set j y).map u8).toArray := by
  have := h.set_ j (.int .u8 v)
  rw [List.map_set, show u8 y = .int .u8 v from by rw [hv]; rfl]
  rwa [List.setIfInBounds_toArray] at this
def EnR8 (x : Nat) (w : World) (e : Ending) (w' : World) : Prop := ∃ z, e = .returned (.slice (some ⟨z, 0, none⟩) 128 128) ∧ Sl w' (fun k => k = z) 5 1 (.slice (some ⟨z, 0, none⟩) 128 128) 128 ((numS x).map u8) ∧ Adv Nul w (fun k => k = z) w'
set_option maxRecDepth 3000 in
set_option maxHeartbeats 3200000 in
theorem encnum_any (x : Nat) (hx : x < 18446744073709551616) (w : World) : Calls Tryz.prog 72 #[.int .u64 (x : Int)] w (EnR8 x w) := by
  obtain ⟨z, hz⟩ : ∃ z, z = w.heap.size := ⟨_, rfl⟩
  have hmk := tmade_128 w
  obtain ⟨L, hL⟩ : ∃ L, L = ((List.replicate 128 0).map u8).toArray := ⟨_, rfl⟩
  have HST := Lib.hid (show EncN x w z (.int .u64 (x : Int)) (.int .i64 127) (w.alloc (.cells L 5)) from
    ⟨0, 127, by decide, rfl, by simp, rfl, by
      rw [hz, hL]
      have : be 128 (x % 256 ^ 0) = List.replicate 128 0 := by rw [Nat.pow_zero, Nat.mod_one]; exact pbe_0 128
      rw [this]
      exact Blk.new w 5 _, ⟨rfl, rfl, rfl, by simp, fun k hk _ => Below.heap_alloc _ _ _ hk, fun k hk => .inr (by rw [hk, hz]; exact Nat.le_refl _)⟩⟩)
  rw [← hL, ← hz] at hmk
  have HX := Lib.hid hx
  clear hL hz hx
  go_enter Tryz.func72, Tryz.ntmps72
  go_wp2_with fail
  go_loopw [0, 4] (EncN x w z) (fun _ t _ => (intOf t).toNat)
  case atStart => exact HST.out
  case round =>
    obtain ⟨k, j, hk, hj, rfl, rfl, hs, ha⟩ := hrel
    have HS := Lib.hid hs
    have HA := Lib.hid ha
    have HJ := Lib.hid hj
    have HK := Lib.hid hk
    obtain ⟨y, hy⟩ : ∃ y, y = x / 256 ^ k := ⟨_, rfl⟩
    rw [← hy]
    have HY := Lib.hid hy
    have HY64 := Lib.hid (show y < 18446744073709551616 from Nat.lt_of_le_of_lt (by rw [hy]; exact Nat.div_le_self _ _) HX.out)
    by_cases h0 : y = 0
    · have HF := Lib.hid (show be 128 (x % 256 ^ k) = numS x from numS_end (by rw [← hy]; exact h0))
      subst h0
      clear hs ha hj hk hy
      go_wp2_with fail
      go_ret
      exact ⟨z, rfl, by have := HS.out; rw [HF.out] at this; exact this.sl8 (numS_length x), HA.out⟩
    · have hk8 : k < 8 := by
        rcases Nat.lt_or_ge k 8 with c | c
        · exact c
        · obtain rfl : k = 8 := by omega
          exact absurd (hy.trans (Nat.div_eq_of_lt HX.out)) h0
      have HK8 := Lib.hid hk8
      have hpos : (0 : Int) < (y : Int) := by omega
      have hj128 : (j : Int) < 128 := by omega
      have hj1 : (1 : Int) ≤ (j : Int) := by omega
      have hw8 : IntKind.u8.wrap (y : Int) = ((y % 256 : Nat) : Int) := by
        simp [IntKind.wrap, IntKind.signed, IntKind.bits]
      have hc : ∃ old, wr.cell? ⟨z, j, none⟩ = some (.int .u8 (old : Int)) := ⟨(be 128 (x % 256 ^ k))[j]'(by rw [be_length]; omega), by
        rw [hs.cell j, List.getElem?_toArray, List.getElem?_map, List.getElem?_eq_getElem (by rw [be_length]; omega)]; rfl⟩
      have hf : wr.frozen? ⟨z, j, none⟩ = false := hs.frozen j
      obtain ⟨old, hc⟩ := hc
      clear hs ha hj hk hy h0 hk8
      go_wp2_with fail
      have hkk := HK8.out
      have hjj := HJ.out
      have hyy := HY.out
      refine ⟨⟨k + 1, j - 1, by omega, by omega, ?_, by go_num, ?_, ?_⟩, by simp [intOf]; omega⟩
      · rw [Nat.pow_succ, ← Nat.div_div_eq_div_mul, ← hyy]; rfl
      · have h1 := HS.out.set8 (j := j) (y := y % 256) (v := (y : Int) % 256) (by omega)
        rw [hjj, hyy, numS_step x (by omega), ← hyy, ← hjj] at h1
        exact h1
      · exact HA.out.trans ((Adv.refl (fun k => k = z) wr).setCell (p := ⟨z, j, none⟩) (.inl rfl) _)
def DecN (x n : Nat) (w : World) (t4 t9 : Value) (wr : World) : Prop := ∃ k y : Nat, k ≤ n ∧ t9 = .int .i64 (k : Int) ∧ t4 = .int .u64 (y : Int) ∧ y = x / 256 ^ (128 - k) ∧ wr = w
set_option maxRecDepth 3000 in
set_option maxHeartbeats 3200000 in
theorem decnum_any (x : Nat) (hx : x ≤ 1099511627775) (v : Value) (w : World) (hr : Rd w 1 v 128 ((numS x).map u8)) : Calls Tryz.prog 78 #[v] w fun e w' => e = .returned (.tuple #[.int .u64 (x : Int), .bool true]) ∧ Adv Nul w Nul w' := by
  obtain ⟨A, c, rfl, _, _⟩ := hr.form
  obtain ⟨b, o, rfl, _, hc⟩ := hr.cells (by decide) (by decide)
  have HEN := Lib.hid (encnum_any x (by omega))
  have HR := Lib.hid hr
  have HC := Lib.hid (show ∀ k (hk : k < 128), w.cell? ⟨b, o + k, none⟩ = some (.int .u8 ((x / 256 ^ (127 - k) % 256 : Nat) : Int)) from fun k hk => hc k _ (by
    have e : (numS x)[k]? = some (x / 256 ^ (127 - k) % 256) := be_get 128 x k hk
    rw [List.getElem?_map, e]; rfl))
  have HX := Lib.hid hx
  obtain ⟨n, hn⟩ : ∃ n, n = 128 := ⟨_, rfl⟩
  have HN := Lib.hid hn
  clear hr hc hx hn
  go_enter Tryz.func78, Tryz.ntmps78
  go_wp2_with fail
  go_loopw [4, 9] (DecN x n w) (fun _ t _ => n - (intOf t).toNat)
  case atStart => exact ⟨0, 0, Nat.zero_le _, rfl, rfl, by
    show 0 = x / 256 ^ 128
    rw [Nat.div_eq_of_lt]
    exact Nat.lt_of_lt_of_le (Nat.lt_of_le_of_lt HX.out (show 1099511627775 < 256 ^ 8 by decide)) (show 256 ^ 8 ≤ 256 ^ 128 from Nat.pow_le_pow_right (by decide) (by decide)), rfl⟩
  case round =>
    obtain ⟨k, y, hk, rfl, rfl, hy, rfl⟩ := hrel
    have HY := Lib.hid hy
    by_cases hlt : k < n
    · have hk128 : (k : Int) < 128 := by have := HN.out; omega
      obtain ⟨d, hd⟩ : ∃ d, d = x / 256 ^ (127 - k) % 256 := ⟨_, rfl⟩
      have c0 := HC.out k (by have := HN.out; omega)
      rw [← hd] at c0
      have HD := Lib.hid hd
      have HK := Lib.hid hlt
      clear hy hd hk hlt
      go_wp2_with fail
      have hkk := HK.out
      have hnn := HN.out
      have he : y * 256 + d = x / 256 ^ (127 - k) := by
        rw [HY.out, HD.out, show 128 - k = (127 - k) + 1 by omega, Nat.pow_succ, ← Nat.div_div_eq_div_mul]
        omega
      have hle : y * 256 + d ≤ x := by rw [he]; exact Nat.div_le_self _ _
      have hxx := HX.out
      have hd : d < 256 := by rw [HD.out]; exact Nat.mod_lt _ (by decide)
      refine ⟨⟨k + 1, y * 256 + d, by omega, by go_num, ?_, by rw [he, show 128 - (k + 1) = 127 - k by omega], rfl⟩, by simp [intOf]; omega⟩
      have w1 : IntKind.u64.wrap ((y : Int) * 256) = ((y * 256 : Nat) : Int) := by rw [IntKind.wrap_u64]; omega
      have w2 : IntKind.u64.wrap (d : Int) = (d : Int) := by rw [IntKind.wrap_u64]; omega
      rw [w1, w2, u64_or_nat _ _ (by omega) (by omega), Nat.mul_comm y 256, ← Nat.two_pow_add_eq_or_of_lt (i := 8) hd y]
    · have HF := Lib.hid (show y = x by rw [HY.out, show k = 128 by have := HN.out; omega]; simp)
      obtain rfl : n = 128 := HN.out
      obtain rfl : k = 128 := by omega
      obtain rfl : y = x := HF.out
      have hmx : (y : Int) ≤ 1099511627775 := by have := HX.out; omega
      have hmb : decide ((y : Int) ≤ 1099511627775) = true := decide_eq_true hmx
      clear hy hk hlt
      go_wp2_with (first
        | (go_at_call 72; refine (HEN.out _).mono ?_; rintro e w2 ⟨z, rfl, s2, a2⟩; have HS2 := Lib.hid s2; have HA2 := Lib.hid a2; clear s2 a2)
        | (go_at_call 117; refine (iequal_any _ _ _ _ (numS y) (numS y) _ (HR.out.far (fun _ _ _ hl => HA2.out.block _ hl (fun x => x)) HA2.out.size) HS2.out.rd (numS_lt y) (numS_lt y)).mono ?_; rintro e w3 ⟨rfl, rfl⟩; rw [decide_eq_true (Eq.refl (numS y))])
        | fail)
      go_ret2
      exact ⟨rfl, HA2.out.nul⟩
end Go.Proofs.YtcglfknkkeaegaaGreatDoor
