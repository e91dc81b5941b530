/- The program's cache: Open. Slots sorted by their blocks: slices.SortFunc of at most twelve. -/
import Derived.Test.YtcglfknkkeaegaaGreatDoorMq21
import Derived.Test.YtcglfknkkeaegaaGreatDoorMq15
import Derived.Test.YtcglfknkkeaegaaGreatDoorMq19
import Derived.Test.YtcglfknkkeaegaaGreatDoorMq02
import Derived.Test.YtcglfknkkeaegaaGreatDoorMq06
namespace Go.Proofs.YtcglfknkkeaegaaGreatDoor
open Go.ChangeShapes Go.WideShapes Go.ChangeAt Go.RowKit Go.Maps
set_option maxRecDepth 3000 in
theorem pmade_slots (n : Nat) (hn : n ≤ 64) (w : World) : (Instr.makeSlice 57 (.int .i64 (n : Int)) (.int .i64 (n : Int))).run Tryz.prog w = .ok (.slice (some ⟨w.heap.size, 0, none⟩) n n) (w.alloc (.cells (tcs (List.replicate n zeroT)) 44)) := by
  obtain ⟨ie, hie, hz, hs, hb⟩ := info_parts infoT
  have h := run_make (P := Tryz.prog) w 57 44 ie _ Tryz.underlying57 hie hz .i64 .i64 n n (by omega) (Int.le_refl _) (by rw [hb]; omega) (by omega)
  rw [hs] at h
  have e : madeCells (Value.agg (tc zeroT)).cells ((n : Int).toNat * 7) = tcs (List.replicate n zeroT) := by
    refine tcs_ext (by simp [madeCells]) fun k hk j hj => ?_
    rw [List.length_replicate] at hk
    rw [List.getElem_replicate]
    have hlt : k * 7 + j < (n : Int).toNat * 7 := by rw [Int.toNat_natCast]; omega
    have hm : (k * 7 + j) % 7 = j := by omega
    have hcs : (Value.agg (tc zeroT)).cells = tc zeroT := rfl
    rw [hcs]
    unfold madeCells
    rw [Array.getElem?_map, Array.getElem?_eq_getElem (by simpa using hlt)]
    have hz7 : (tc zeroT).size = 7 := rfl
    simp only [Array.getElem_range, Option.map_some, hz7, hm]
    rw [Array.getElem?_eq_getElem (show j < (tc zeroT).size from hj), getElem!_pos (tc zeroT) j hj]
    rfl
  rw [e] at h
  exact h
section
variable {ops : Array Oper} {rest : List Oper} {o : Oper} {a : Act} {w : World} {Q : Exit → Act → World → Prop}
set_option maxRecDepth 3000 in
theorem kop_mkslots (hgd : o.guard = none) (x y : Operand) (n : Nat) (hn : n ≤ 64) (ho : o.op = .makeSlice 57 x y) (hx : a.eval x = .int .i64 (n : Int)) (hy : a.eval y = .int .i64 (n : Int))
    (h : ∀ z w', w.heap.size ≤ z → Blk w' z 44 (tcs (List.replicate n zeroT)) → Adv Nul w Nul w' → wpList Tryz.prog ops Q rest (a.put o.dst (.slice (some ⟨z, 0, none⟩) n n)) w') : wpList Tryz.prog ops Q (o :: rest) a w := by
  refine wpList_plain hgd fun K hK => ?_
  unfold Oper.wp execOp
  simp only [ho, hx, hy, Sem.run_bind, pmade_slots n hn, Result.andThen_ok]
  exact hK _ _ (h _ _ (Nat.le_refl _) (Blk.new _ _ _) ((Adv.refl _ _).alloc _))
set_option maxRecDepth 3000 in
theorem kop_mkpl (hgd : o.guard = none) (ho : o.op = .makeMap 74 none)
    (h : ∀ mo w', w.heap.size ≤ mo → (∀ n, Mb w' mo (List.replicate n zeroT)) → Adv Nul w Nul w' → wpList Tryz.prog ops Q rest (a.put o.dst (.map (some mo))) w') : wpList Tryz.prog ops Q (o :: rest) a w := by
  refine wpList_plain hgd fun K hK => ?_
  have hk := hK _ _ (h _ _ (Nat.le_refl _) (fun n => Mb.new w n) ((Adv.refl Nul w).alloc (.map #[] 0)))
  unfold Oper.wp execOp
  simp only [ho, Option.map_none]
  exact hk
def pc0 (l r q m n : Nat) : Array Value := #[.pointer (some ⟨l, 0, none⟩), .pointer (some ⟨r, 0, none⟩), .int .u64 0, .slice (some ⟨q, 0, none⟩) n n, .map (some m)]
set_option maxRecDepth 3000 in
theorem built_pkc (l r q m n : Nat) : Tryz.prog.built 76 [(0, .pointer (some ⟨l, 0, none⟩)), (1, .pointer (some ⟨r, 0, none⟩)), (3, .slice (some ⟨q, 0, none⟩) n n), (4, .map (some m))] = some (pc0 l r q m n) := by kernel_rfl
set_option maxRecDepth 3000 in
theorem kop_pkc (hgd : o.guard = none) (x y u v : Operand) (ho : o.op = .build 76 #[(0, x), (1, y), (3, u), (4, v)]) (l r q m n : Nat) (hx : a.eval x = .pointer (some ⟨l, 0, none⟩)) (hy : a.eval y = .pointer (some ⟨r, 0, none⟩)) (hu : a.eval u = .slice (some ⟨q, 0, none⟩) n n) (hv : a.eval v = .map (some m))
    (h : wpList Tryz.prog ops Q rest (a.put o.dst (.agg (pc0 l r q m n))) w) : wpList Tryz.prog ops Q (o :: rest) a w := by
  have e : ((#[(0, x), (1, y), (3, u), (4, v)] : Array (Nat × Operand)).map fun (i, x) => (i, a.eval x)).toList = [(0, .pointer (some ⟨l, 0, none⟩)), (1, .pointer (some ⟨r, 0, none⟩)), (3, .slice (some ⟨q, 0, none⟩) n n), (4, .map (some m))] := by simp [hx, hy, hu, hv]
  refine wpList_build hgd 76 _ ho (by rw [e, built_pkc l r q m n]; rfl) ?_
  rw [e, built_pkc l r q m n]
  exact h
end
def openE (F : Nat → Prop) (d l b n N : Nat) (s : DS) (c r q m k : Nat) : PE := ⟨F, d, l, b, n, N, s, openS s n N, c, r, q, m, List.replicate k zeroT, cNew k, 0⟩
/-- what opening leaves -/
structure OpK (w : World) (F : Nat → Prop) (d n N : Nat) (s : DS) (L : List Slt) (num : Nat) (e : Ending) (E : PE) (w' : World) : Prop where
  e : e = .returned (.tuple #[.pointer (some ⟨E.c, 0, none⟩), .int .i64 0])
  pk : Pk w' E
  rg : PRg E.L E.R
  eF : E.F = F
  ed : E.d = d
  en : E.n = n
  eN : E.N = N
  es : E.s = s
  eg : E.g = openS s n N
  eL : E.L = L
  eR : E.R = ldR L L.length
  eN2 : E.num = num
  adv : Adv F w E.V w'
set_option maxRecDepth 3000 in
theorem open_pk {w w1 w2 w3 w4 w5 : World} {F : Nat → Prop} {d n N k r l b q m c : Nat} {s : DS} (hd : Dk w F d N s) (ht : Tz w) (h0 : ¬ F 0) (hk : 1 ≤ k ∧ k ≤ 64) (hr : Cl w1 r (cNew k)) (a1 : Adv Nul w (One r) w1) (hs : Rs w2 F d l b n N s (openS s n N)) (hl : w1.heap.size ≤ l ∧ w1.heap.size ≤ b) (a2 : Adv Nul w1 Nul w2)
    (hq : w2.heap.size ≤ q) (hqb : Blk w3 q 44 (tcs (List.replicate k zeroT))) (a3 : Adv Nul w2 Nul w3) (hm : w3.heap.size ≤ m) (hmb : ∀ n, Mb w4 m (List.replicate n zeroT)) (a4 : Adv Nul w3 Nul w4) (hc : w4.heap.size ≤ c) (hcb : Blk w5 c 76 (pc0 l r q m k)) (a5 : Adv Nul w4 Nul w5) :
    Pk w5 (openE F d l b n N s c r q m k) ∧ (∀ j, (openE F d l b n N s c r q m k).V j → F j ∨ w.heap.size ≤ j) := by
  have hF : ∀ j, F j → j < w.heap.size := hd.bd
  have s1 := a1.size
  have s2 := a2.size
  have s3 := a3.size
  have s4 := a4.size
  have hr1 : w.heap.size ≤ r := by rcases a1.into r rfl with x | x; exact x.elim; exact x
  have hr2 := hr.lt
  have h00 := ht.lt
  have hU : ∀ j, UF F l b j → F j ∨ w1.heap.size ≤ j := fun j hj => by
    rcases hj with x | x | x
    · exact .inl x
    · rw [show j = l from x]; exact .inr hl.1
    · rw [show j = b from x]; exact .inr hl.2
  have hUb : ∀ j, UF F l b j → j < w2.heap.size := hs.bd
  have hV : ∀ j, (openE F d l b n N s c r q m k).V j → F j ∨ w.heap.size ≤ j := fun j hj => by
    rcases hj with x | x | x | x | x
    · rcases hU j x with y | y
      · exact .inl y
      · exact .inr (by omega)
    · rw [x]; exact .inr (by show _ ≤ c; omega)
    · rw [x]; exact .inr hr1
    · rw [x]; exact .inr (by show _ ≤ q; omega)
    · rw [x]; exact .inr (by show _ ≤ m; omega)
  have e5 : pcells (openE F d l b n N s c r q m k) = pc0 l r q m k := by
    unfold pcells openE pc0
    simp only [List.length_replicate]
    rfl
  refine ⟨⟨((hs.over a3).over a4).over a5, by rw [e5]; exact hcb, ?_, (hqb.over a4).over a5, (hmb k).keep (a5.block m (hmb k).lt (fun x => x)), (PRg.new hk.1 hk.2).wl, ⟨by show 1 ≤ (List.replicate k zeroT).length; rw [List.length_replicate]; exact hk.1, by show (List.replicate k zeroT).length ≤ 64; rw [List.length_replicate]; exact hk.2, by show k = (List.replicate k zeroT).length; rw [List.length_replicate]⟩, ?_, fun x => ?_, fun x => ?_, fun x => ?_, fun x => ?_, fun x => ?_⟩, hV⟩
  · exact (((hr.far a2 (fun x => x)).far a3 (fun x => x)).far a4 (fun x => x)).far a5 (fun x => x)
  · exact ((((ht.far (adv_wk (G := Nul) a1) (fun x => x)).far a2 (fun x => x)).far a3 (fun x => x)).far a4 (fun x => x)).far a5 (fun x => x)
  · have := hUb c x; omega
  · rcases hU r x with y | y
    · have := hF r y; omega
    · omega
  · have := hUb q x; omega
  · have := hUb m x; omega
  · rcases hV 0 x with y | y
    · exact h0 y
    · omega
set_option maxRecDepth 3000 in
set_option maxHeartbeats 6400000 in
theorem open_good {w : World} {F : Nat → Prop} {d n N : Nat} {s : DS} {L : List Slt} {num : Nat} {rest : List (List Nat)} (h : Dk w F d N s) (hsb : SB s N) (hn : 20 ≤ n) (hk : 1 ≤ L.length ∧ L.length ≤ 64) (hf : n + 3 + L.length ≤ N) (hN : N ≤ 1100) (htop : topE s (2 + n) < 16777215) (hw : WL L) (hx : num ≤ 1099511627775)
    (hh : homesL s n (openS s n N) (N - 2 - n) = HL num L rest) (ht : Tz w) (h0 : ¬ F 0) :
    Calls Tryz.prog 10 #[.pointer (some ⟨d, 0, none⟩), .int .i64 (n : Int), .int .i64 (L.length : Int)] w fun e w' => ∃ E, OpK w F d n N s L num e E w' := by
  obtain ⟨k, hkl⟩ : ∃ k, k = L.length := ⟨_, rfl⟩
  rw [← hkl] at hk hf ⊢
  have HSZ := Lib.hid (fun W (r : Dk W F d N s) => size_dk d N F s W r)
  have HD := Lib.hid h
  have HNW := Lib.hid (cnew_yes k hk.1 hk.2)
  have HOP := Lib.hid (fun W (r : Dk W F d N s) => (gopen_dk d N F s (n : Int) W r hsb (by omega) (by omega) (by omega)).mono (R' := fun e w' => ∃ l b, e = .returned (.tuple #[.pointer (some ⟨l, 0, none⟩), .int .i64 0]) ∧ Rs w' F d l b n N s (openS s n N) ∧ (W.heap.size ≤ l ∧ W.heap.size ≤ b) ∧ Adv Nul W Nul w') fun e w' k => by
    rcases k with ⟨x, _⟩ | ⟨_, x, _⟩ | ⟨_, _, l, b, x1, x2, x3, x4⟩
    · exact absurd (show 2 ≤ (n : Int) ∧ (n : Int) + 3 ≤ (N : Int) by omega) x
    · rw [Int.toNat_natCast] at x; omega
    · rw [Int.toNat_natCast] at x2
      exact ⟨l, b, x1, x2, x3, x4⟩)
  have hnn : 2 ≤ n ∧ n + 3 ≤ N ∧ N ≤ 4096 := by omega
  have hhm : ∀ i, i < N - 2 - n → (HL num L rest)[i]? = some (homeG s n (openS s n N) i) := fun i hi => by
    rw [← hh]
    unfold homesL
    rw [List.getElem?_map, List.getElem?_range hi]
    rfl
  have hh0 : homeG s n (openS s n N) 0 = numS num := by
    have := hhm 0 (by omega)
    exact (Option.some.inj this).symm
  have hh1 : ∀ i (hi : i < L.length), homeG s n (openS s n N) (1 + i) = secT L[i] := fun i hi => by
    have h2 := hhm (1 + i) (by omega)
    unfold HL at h2
    rw [Nat.add_comm 1 i, List.getElem?_cons_succ, List.getElem?_append_left (by rw [List.length_map]; exact hi), List.getElem?_map, List.getElem?_eq_getElem hi] at h2
    rw [Nat.add_comm 1 i]
    exact (Option.some.inj h2).symm
  have HLD := Lib.hid (fun W l b c r q m (p : Pk W (openE F d l b n N s c r q m k)) => show Calls Tryz.prog 44 #[.pointer (some ⟨c, 0, none⟩)] W fun e w' => e = .returned (.int .i64 0) ∧ Pk w' ((((openE F d l b n N s c r q m k).setN num).setL L).setR (ldR L L.length)) ∧ Adv (openE F d l b n N s c r q m k).V W (openE F d l b n N s c r q m k).V w' from
    load_p p hnn (openS_A s n N) (by show 1 + L.length ≤ N - 2 - n; omega) hw (by show List.replicate k zeroT = _; rw [hkl]) (by show cNew k = _; rw [hkl]) hx hh0 hh1)
  have HPK := Lib.hid (fun w1 w2 w3 w4 w5 r l b q m c (hr : Cl w1 r (cNew k)) (a1 : Adv Nul w (One r) w1) (hs : Rs w2 F d l b n N s (openS s n N)) (hl : w1.heap.size ≤ l ∧ w1.heap.size ≤ b) (a2 : Adv Nul w1 Nul w2) (hq : w2.heap.size ≤ q) (hqb : Blk w3 q 44 (tcs (List.replicate k zeroT))) (a3 : Adv Nul w2 Nul w3) (hm : w3.heap.size ≤ m) (hmb : ∀ n, Mb w4 m (List.replicate n zeroT)) (a4 : Adv Nul w3 Nul w4) (hc : w4.heap.size ≤ c) (hcb : Blk w5 c 76 (pc0 l r q m k)) (a5 : Adv Nul w4 Nul w5) =>
    open_pk h ht h0 hk hr a1 hs hl a2 hq hqb a3 hm hmb a4 hc hcb a5)
  have HFIN := Lib.hid (fun w5 w6 l b c r q m (hv : ∀ j, (openE F d l b n N s c r q m k).V j → F j ∨ w.heap.size ≤ j) (a5 : Adv Nul w Nul w5) (p : Pk w6 ((((openE F d l b n N s c r q m k).setN num).setL L).setR (ldR L L.length))) (a6 : Adv (openE F d l b n N s c r q m k).V w5 (openE F d l b n N s c r q m k).V w6) => show ∃ E, OpK w F d n N s L num (.returned (.tuple #[.pointer (some ⟨c, 0, none⟩), .int .i64 0])) E w6 from
    ⟨_, rfl, p, by
      have := ld_prg hw (by omega) (by omega) L.length (Nat.le_refl _)
      rw [ldL_all] at this
      exact this, rfl, rfl, rfl, rfl, rfl, rfl, rfl, rfl, rfl, ⟨a6.os.trans a5.os, a6.tape.trans a5.tape, a6.output.trans a5.output, Nat.le_trans a5.size a6.size, fun j hj hF => (a6.block j (Nat.lt_of_lt_of_le hj a5.size) (fun x => by
        rcases hv j x with y | y
        · exact hF y
        · omega)).trans (a5.block j hj (fun x => x)), hv⟩⟩)
  have hk64 : (k : Int) ≤ 64 := by omega
  have hk1 : (1 : Int) ≤ (k : Int) := by omega
  have HK64 := Lib.hid hk.2
  have hn20 : (20 : Int) ≤ (n : Int) := by omega
  have hN1 : (N : Int) ≤ 1100 := by omega
  have hN0 : ((N : Int) == 0) = false := by rw [beq_eq_false_iff_ne]; omega
  have hfi : (1 : Int) + (k : Int) ≤ (N : Int) - 2 - (n : Int) := by omega
  clear h hsb hn hk hf hN htop hw hx hh ht h0 hkl hnn hhm hh0 hh1
  go_enter Tryz.func10, Tryz.ntmps10
  go_wp2_with (first
    | (go_at_call 41; refine (HSZ.out _ HD.out).mono ?_; rintro e w0 ⟨rfl, rfl⟩)
    | (go_at_call 42; refine (HNW.out _).mono ?_; rintro e w1 ⟨r, rfl, h1, a1⟩; have HR1 := Lib.hid h1; have HA1 := Lib.hid a1; have HD1 := Lib.hid (HD.out.far (adv_wk (G := Nul) a1) (fun _ x _ => x)); clear h1 a1)
    | (go_at_call 41; refine (HSZ.out _ HD1.out).mono ?_; rintro e w0 ⟨rfl, rfl⟩)
    | (go_at_call 43; refine (HOP.out _ HD1.out).mono ?_; rintro e w2 ⟨l, b, rfl, h2, hl2, a2⟩; have HR2 := Lib.hid h2; have HL2 := Lib.hid hl2; have HA2 := Lib.hid a2; clear h2 hl2 a2)
    | (refine kop_mkslots rfl _ _ k HK64.out rfl rfl rfl ?_; intro q w3 hz hb ha; have HQ3 := Lib.hid hz; have HQB3 := Lib.hid hb; have HA3 := Lib.hid ha; clear hz hb ha)
    | (refine kop_mkpl rfl rfl ?_; intro m w4 hz hb ha; have HM4 := Lib.hid hz; have HMB4 := Lib.hid hb; have HA4 := Lib.hid ha; clear hz hb ha)
    | (refine kop_pkc rfl _ _ _ _ rfl l r q m k rfl rfl rfl rfl ?_)
    | (refine kop_box rfl _ rfl rfl ?_; intro c w5 hz hb ha; have HPK5 := Lib.hid (HPK.out _ _ _ _ _ r l b q m c HR1.out HA1.out HR2.out HL2.out HA2.out HQ3.out HQB3.out HA3.out HM4.out HMB4.out HA4.out hz hb ha); have HA5 := Lib.hid ((((HA1.out.sub (G := Nul) (fun _ x => x.elim)).trans HA2.out).trans HA3.out).trans (HA4.out.trans ha)); clear hz hb ha)
    | (go_at_call 44; refine (HLD.out _ l b c r q m HPK5.out.1).mono ?_; rintro e w6 ⟨rfl, h6, a6⟩; have HFN := Lib.hid (HFIN.out w5 w6 l b c r q m HPK5.out.2 HA5.out h6 a6); clear h6 a6)
    | fail)
  go_ret2
  exact HFN.out
end Go.Proofs.YtcglfknkkeaegaaGreatDoor
namespace Go.Proofs.YtcglfknkkeaegaaGreatDoor
open Go.ChangeShapes Go.WideShapes Go.ChangeAt Go.RowKit Go.Maps
set_option maxRecDepth 3000 in
set_option maxHeartbeats 3200000 in
theorem len64_any (n : Nat) (h : n ≤ 12) (w : World) : Calls Tryz.prog 161 #[.int .u64 (n : Int)] w fun e w' => (∃ l : Int, e = .returned (.int .i64 l)) ∧ w = w' := by
  have : n = 0 ∨ n = 1 ∨ n = 2 ∨ n = 3 ∨ n = 4 ∨ n = 5 ∨ n = 6 ∨ n = 7 ∨ n = 8 ∨ n = 9 ∨ n = 10 ∨ n = 11 ∨ n = 12 := by omega
  rcases this with rfl | rfl | rfl | rfl | rfl | rfl | rfl | rfl | rfl | rfl | rfl | rfl | rfl
  all_goals
    go_enter Tryz.func161, Tryz.ntmps161
    go_wp2_with fail
    go_ret
    exact ⟨⟨_, rfl⟩, rfl⟩
set_option maxRecDepth 3000 in
theorem len_any (n : Nat) (h : n ≤ 12) (w : World) : Calls Tryz.prog 122 #[.int .u64 (n : Int)] w fun e w' => (∃ l : Int, e = .returned (.int .i64 l)) ∧ w = w' := by
  have HL := Lib.hid (len64_any n h w)
  have hn : (n : Int) ≤ 12 := by omega
  clear h
  go_enter Tryz.func122, Tryz.ntmps122
  go_wp2_with (first
    | (go_at_call 161; refine HL.out.mono ?_; rintro e w1 ⟨⟨l, rfl⟩, rfl⟩)
    | fail)
  go_ret
  exact ⟨⟨_, rfl⟩, rfl⟩
set_option maxRecDepth 3000 in
set_option maxHeartbeats 1600000 in
theorem list1_any (x y : Slt) (w : World) : Calls Tryz.prog 86 #[.agg (tc x), .agg (tc y)] w fun e w' => e = .returned (.int .i64 (ordB (bkT x) (bkT y))) ∧ Adv Nul w Nul w' := by
  have HO := Lib.hid (order_any (bkT x) (bkT y))
  generalize ordB (bkT x) (bkT y) = r at HO ⊢
  go_enter Tryz.func86, Tryz.ntmps86
  go_wp2_with (first
    | (refine kop_box rfl _ rfl rfl ?_; intro p w1 hz hb ha; have HBP := Lib.hid hb; have HA1 := Lib.hid ((Adv.refl Nul w).trans ha); clear hz hb ha)
    | (refine kop_box rfl _ rfl rfl ?_; intro q w2 hz hb ha; have HBQ := Lib.hid hb; have HB2 := Lib.hid (HBP.out.over ha); have HA2 := Lib.hid (HA1.out.trans ha); clear hz hb ha)
    | (refine gop_load (t := 37) (C := bkc (bkT x)) rfl _ rfl p (Blk.tb1 HB2.out) rfl Tryz.underlying37 rfl sizeBk rfl ?_)
    | (refine gop_load (t := 37) (C := bkc (bkT y)) rfl _ rfl q (Blk.tb1 HBQ.out) rfl Tryz.underlying37 rfl sizeBk rfl ?_)
    | (go_at_call 31; refine (HO.out _).mono ?_; rintro e w3 ⟨rfl, a3⟩; have HA3 := Lib.hid (HA2.out.trans a3); clear a3)
    | fail)
  go_ret
  exact ⟨rfl, HA3.out⟩
/-- a row of slots in a block, room behind it -/
structure TB (w : World) (g cap : Nat) (l : List Slt) : Prop where
  ex : ∃ cur, Blk w g 44 cur ∧ cur.size = cap * 7 ∧ l.length ≤ cap ∧ cap ≤ maxLen ∧ ∀ k (hk : k < l.length) j, j < 7 → cur[k * 7 + j]? = (tc l[k])[j]?
set_option maxRecDepth 3000 in
theorem TB.lt {w : World} {g cap : Nat} {l : List Slt} (h : TB w g cap l) : g < w.heap.size := by obtain ⟨cur, h1, _⟩ := h.ex; exact h1.lt
set_option maxRecDepth 3000 in
theorem TB.keep {w w' : World} {g cap : Nat} {l : List Slt} (h : TB w g cap l) (hk : w'.heap[g]? = w.heap[g]?) : TB w' g cap l := by
  obtain ⟨cur, h1, h2⟩ := h.ex
  exact ⟨cur, h1.keep hk, h2⟩
set_option maxRecDepth 3000 in
theorem TB.drew {w : World} {g cap : Nat} {l : List Slt} (h : TB w g cap l) : TB w.drew g cap l := h.keep rfl
set_option maxRecDepth 3000 in
theorem TB.row {w : World} {g cap k : Nat} {l : List Slt} (h : TB w g cap l) (hk : k < l.length) : w.rangeAt g (k * 7) (tc l[k]).toList := by
  obtain ⟨cur, h1, _, _, _, h2⟩ := h.ex
  intro j v hv
  have hj : j < 7 := (List.getElem?_eq_some_iff.1 hv).1
  rw [h1.cell, h2 k hk j hj, ← Array.getElem?_toList]
  exact hv
set_option maxRecDepth 3000 in
theorem TB.there {w : World} {g cap k : Nat} {l : List Slt} (h : TB w g cap l) (hk : k < l.length) : w.there g (k * 7) 7 := by
  obtain ⟨cur, h1, _, _, _, h2⟩ := h.ex
  exact fun j hj => ⟨by rw [h1.cell, h2 k hk j hj]; have : j < (tc l[k]).size := hj; rw [Array.getElem?_eq_getElem this]; rfl, h1.frozen _⟩
set_option maxRecDepth 3000 in
theorem TB.set {w : World} {g cap i : Nat} {l : List Slt} (h : TB w g cap l) (hi : i < l.length) (x : Slt) : TB (w.setCells g (i * 7) (tc x).toList) g cap (l.set i x) := by
  obtain ⟨cur, h1, hs, hc, hm, h2⟩ := h.ex
  have hl : ((tc x).toList).length = 7 := rfl
  obtain ⟨C', a1, a2, a3, a4⟩ := Blk.putMid (tc x).toList (i * 7) w cur h1 (by rw [hs, hl]; omega)
  rw [hl] at a3 a4
  refine ⟨C', a1, by rw [a2, hs], by rw [List.length_set]; exact hc, hm, fun k hk j hj => ?_⟩
  rw [List.length_set] at hk
  rw [List.getElem_set]
  by_cases c : i = k
  · subst c
    rw [if_pos rfl, a4 j hj, Array.getElem?_toList]
  · rw [if_neg c, a3 _ (by omega), h2 k hk j hj]
set_option maxRecDepth 3000 in
theorem swap_l (P S : List Slt) (a x : Slt) : ((P ++ a :: x :: S).set (P.length + 1) a).set P.length x = P ++ x :: a :: S := by
  induction P with
  | nil => rfl
  | cons p P ih =>
    simp only [List.cons_append, List.length_cons, List.set_cons_succ, ih]
set_option maxRecDepth 3000 in
theorem tst_store {ops : Array Oper} {o : Oper} {a : Act} {w : World} {K : Act → World → Prop} {Q : Exit → Act → World → Prop} {E : Prop} (hgd : o.guard = none) (x y : Operand) (ho : o.op = .store 44 x y) (z cap i : Nat) {L : List Slt} (s : Slt) (hB : TB w z cap L) (hi : i < L.length) (hx : a.eval x = .pointer (some ⟨z, i * 7, none⟩)) (hy : a.eval y = .agg (tc s))
    (h : ∀ w', TB w' z cap (L.set i s) → Adv (One z) w (One z) w' → K (a.put o.dst undef) w') : if Region.wanted o (yielded ops a.tmps) = true then Oper.wp Tryz.prog o a w K Q else E := by
  rw [if_pos (by simp [Region.wanted, hgd])]
  exact wp_store_mid 44 x y ho z (i * 7) (tc s) hx hy (by rw [tc_size]; exact hB.there hi) (by rw [sizeT]; rfl) (tc_one s) (h _ (hB.set hi s) (Adv.isetCells (tc s).toList (i * 7) _ (Adv.refl _ _) (.inl rfl)))
set_option maxRecDepth 3000 in
theorem gst_load {ops : Array Oper} {o : Oper} {a : Act} {w : World} {K : Act → World → Prop} {Q : Exit → Act → World → Prop} {E : Prop} {t : TypeId} {C : Array Value} {n off : Nat} {d : TypeDesc} (hgd : o.guard = none) (x : Operand) (ho : o.op = .load t x) (z : Nat) (hR : w.rangeAt z off C.toList) (hx : a.eval x = .pointer (some ⟨z, off, none⟩))
    (hu : Tryz.prog.underlying t = some d) (hd : d.isRow = true) (hs : (Tryz.prog.info? t).map (·.size) = some n) (hC : C.size = n)
    (h : K (a.put o.dst (.agg C)) w) : if Region.wanted o (yielded ops a.tmps) = true then Oper.wp Tryz.prog o a w K Q else E := by
  rw [if_pos (by simp [Region.wanted, hgd])]
  refine wp_load_mid t x ho z off hx C.toList d hR hu hd (by rw [hs, Array.length_toList, hC]) ?_
  rw [Array.toArray_toList]
  exact h
def InsO (w : World) (g cap n : Nat) (l : List Slt) (t8 : Value) (wr : World) : Prop := ∃ i : Nat, 1 ≤ i ∧ i ≤ n ∧ t8 = .int .i64 (i : Int) ∧ TB wr g cap (srtT (l.take i) ++ l.drop i) ∧ Adv (One g) w (One g) wr
def InsI (w : World) (g cap i : Nat) (A : List Slt) (x : Slt) (rest : List Slt) (t9 : Value) (wr : World) : Prop := ∃ P S, A = P ++ S ∧ P.length ≤ i ∧ t9 = .int .i64 (P.length : Int) ∧ TB wr g cap (P ++ x :: (S ++ rest)) ∧ (∀ y ∈ S, lessT x y) ∧ Adv (One g) w (One g) wr
set_option maxRecDepth 3000 in
theorem srt_take {l : List Slt} {i : Nat} (hi : i < l.length) : srtT (l.take (i + 1)) = insT l[i] (srtT (l.take i)) := by
  unfold srtT
  rw [List.take_succ_eq_append_getElem hi, List.foldl_append]
  rfl
end Go.Proofs.YtcglfknkkeaegaaGreatDoor
