/- The statement DirEntries, walked. -/
import Derived.Test.YtgcbnaleajccgaaDrV
namespace Go.Proofs.Ytgcbnaleajccgaa
open Go.ChangeShapes Go.WideShapes Go.ChangeAt Go.RowKit

theorem dstep_append_own {w : World} {ops : Array Oper} {o : Oper} {a : Act} {K : Act → World → Prop} {Q : Exit → Act → World → Prop} {E : Prop} (hgd : o.guard = none) (s x : Operand) (t e : TypeId)
    (ho : o.op = .call { callee := .builtin .append, args := #[s, x], argTypes := #[t, t] }) (ht : Try.prog.underlying t = some (.slice e)) {z : Value} {size bytes : Nat} (hi : (Try.prog.info? e).map (fun i => (i.zero, i.size, i.bytes)) = some (some z, size, bytes)) (hzs : z.cells.size = size) (hsz : 0 < size)
    {v : Value} {n : Nat} {xs : List Value} (hs : a.eval s = v) (hown : w.ownsRow 0 e size v n xs) (ad : Addr) (m c : Nat) (hx : a.eval x = .slice (some ad) m c) (news : List Value) (hl : news.length = m * size) (hnews : ∀ j u, news[j]? = some u → w.cell? (ad.add j) = some u) (h1 : ∀ u ∈ news, u.oneCell' = true)
    (h63 : n + m ≤ maxLen) (hb : (n + m) * bytes ≤ 140737488355328)
    (h : ∀ v' w', w'.ownsRow 0 e size v' (n + m) (xs ++ news) → w.grownBy w' v.ownBlock → (v'.ownBlock = v.ownBlock ∨ v'.ownBlock = some w.heap.size) → K (a.put o.dst v') w') :
    if Region.wanted o (yielded ops a.tmps) = true then Oper.wp Try.prog o a w K Q else E := by
  rw [if_pos (by simp [Region.wanted, hgd])]
  obtain ⟨i0, hi0, hz0, hz1, hz2⟩ := info_parts hi
  obtain ⟨v', w', hrun, h2, h3, _, h5⟩ := run_append_own_at (P := Try.prog) w 0 t o.type e i0 z size bytes ht hi0 hz0 hz1 hz2 hzs hsz v n xs hown ad m c news hl hnews h1 h63 hb (Nat.zero_le _)
  unfold Oper.wp execOp
  simp only [ho, resolve, invoke, builtin, Sem.run_bind, Sem.run_pure, Result.andThen_ok, List.map_toArray, List.map_cons, List.map_nil, hs, hx, hrun]
  exact h v' w' h2 h3 h5
theorem slice_of {w : World} {e : TypeId} {v : Value} {n size : Nat} {xs : List Value} (h : w.ownsRow 0 e size v n xs) : ∃ A c, v = .slice A n c := by
  rcases h.2 with ⟨rfl, h0⟩ | ⟨g, cap, cur, rfl, _⟩
  · exact ⟨none, 0, by rw [h0]⟩
  · exact ⟨_, _, rfl⟩
/-- two rows of rows of one's own -/
structure Tw (W : World) (qa qc : List Value) (va vc : Value) (w : World) : Prop where
  ex : ∃ Fa Fc, Sl w Fa 31 1 va qa.length qa ∧ Sl w Fc 31 1 vc qc.length qc ∧ Sep Fa Fc ∧ Adv Nul W (fun j => Fa j ∨ Fc j) w
section
variable {W w w' : World} {qa qc : List Value} {va vc : Value}
theorem Tw.nil (W : World) : Tw W [] [] (.slice none 0 0) (.slice none 0 0) W := ⟨⟨Nul, Nul, Sl.nil _ _ _, Sl.nil _ _ _, fun _ h => h.elim, ⟨rfl, rfl, rfl, Nat.le_refl _, fun _ _ _ => rfl, fun _ h => (h.elim id id).elim⟩⟩⟩
theorem Tw.adv (h : Tw W qa qc va vc w) : Adv Nul W Nul w := by
  obtain ⟨Fa, Fc, _, _, _, h4⟩ := h.ex
  exact h4.sub (fun _ h => h.elim)
theorem Tw.step {F : Nat → Prop} (h : Tw W qa qc va vc w) (a : Adv Nul w F w') : Tw W qa qc va vc w' := by
  obtain ⟨Fa, Fc, h1, h2, h3, h4⟩ := h.ex
  exact ⟨Fa, Fc, h1.far a (fun _ h _ => h), h2.far a (fun _ h _ => h), h3, h4.over a⟩
theorem Tw.swap (h : Tw W qa qc va vc w) : Tw W qc qa vc va w := by
  obtain ⟨Fa, Fc, h1, h2, h3, h4⟩ := h.ex
  refine ⟨Fc, Fa, h2, h1, fun k a b => h3 k b a, ⟨h4.os, h4.tape, h4.output, h4.size, h4.block, fun k hk => h4.into k hk.symm⟩⟩
theorem Tw.owna {n : Nat} (h : Tw W qa qc va vc w) (hn : qa.length = n) : w.ownsRow 0 31 1 va n qa := by
  obtain ⟨Fa, Fc, h1, _⟩ := h.ex
  rw [← hn]; exact h1.own
theorem Tw.push {v' x : Value} {n : Nat} (h : Tw W qa qc va vc w) (hn : qa.length = n) (hown : w'.ownsRow 0 31 1 v' (n + 1) (qa ++ [x])) (hg : w.grownBy w' va.ownBlock) (hat : v'.ownBlock = va.ownBlock ∨ v'.ownBlock = some w.heap.size) : Tw W (qa ++ [x]) qc v' vc w' := by
  subst hn
  obtain ⟨Fa, Fc, h1, h2, h3, h4⟩ := h.ex
  have hF' : ∀ j, (Fa j ∨ v'.ownBlock = some j) → Fa j ∨ w.heap.size ≤ j := by
    rintro j (h | h)
    · exact .inl h
    · rcases hat with e | e
      · exact .inl (h1.inF j (by rw [← e]; exact h))
      · rw [e] at h; injection h with h; right; omega
  have hA : Adv Fa w (fun j => Fa j ∨ v'.ownBlock = some j) w' := by
    have h5 := (Adv.refl Fa w).grown hg (fun j hj => .inl (h1.inF j hj))
    exact ⟨h5.os, h5.tape, h5.output, h5.size, h5.block, hF'⟩
  refine ⟨fun j => Fa j ∨ v'.ownBlock = some j, Fc, ⟨by rw [List.length_append]; exact hown, fun j hj => .inr hj, ?_⟩, h2.far hA h3, ?_, ?_⟩
  · rintro j (h | h)
    · exact Nat.lt_of_lt_of_le (h1.bd j h) hA.size
    · exact (hown.lt j h).2
  · intro j hj hc
    rcases hF' j hj with h | h
    · exact h3 j h hc
    · have := h2.bd j hc; omega
  · refine ⟨hA.os.trans h4.os, hA.tape.trans h4.tape, hA.output.trans h4.output, Nat.le_trans h4.size hA.size, fun j hj hn => ?_, fun j hj => ?_⟩
    · refine (hA.block j (Nat.lt_of_lt_of_le hj h4.size) (fun f => ?_)).trans (h4.block j hj hn)
      rcases h4.into j (.inl f) with h | h
      · exact h
      · omega
    · rcases hj with hj | hj
      · rcases hF' j hj with h | h
        · exact h4.into j (.inl h)
        · right; have := h4.size; omega
      · exact h4.into j (.inr hj)
end
/-- rows of one's own, the first of the two -/
structure RwT (w : World) (qa : List Value) (L : List (List Nat)) : Prop where
  len : qa.length = L.length
  row : ∀ (i : Nat) (c : Value) (r : List Nat), qa[i]? = some c → L[i]? = some r → w.ownsRow 0 5 1 c r.length (r.map u8)
section
variable {w w' : World} {qa : List Value} {L : List (List Nat)} {va : Value} {n : Nat} {xs : List Value}
theorem RwT.step {F : Nat → Prop} (h : RwT w qa L) (a : Adv Nul w F w') : RwT w' qa L := ⟨h.len, fun i c r hc hr => own_adv (h.row i c r hc hr) a⟩
theorem RwT.kept (h : RwT w qa L) (hg : w.grownBy w' va.ownBlock) (hx : w.ownsRow 0 31 1 va n xs) : RwT w' qa L := ⟨h.len, fun i c r hc hr => (h.row i c r hc hr).kept hg (own_apart (h.row i c r hc hr) hx (by decide))⟩
theorem RwT.push {x : Value} {r : List Nat} {L' : List (List Nat)} (h : RwT w qa L) (hx : w.ownsRow 0 31 1 va n xs) (hg : w.grownBy w' va.ownBlock) (ho : w.ownsRow 0 5 1 x r.length (r.map u8)) (hL : L' = L ++ [r]) : RwT w' (qa ++ [x]) L' := by
  subst hL
  have h' := h.kept hg hx
  have ho' := ho.kept hg (own_apart ho hx (by decide))
  refine ⟨by simp [h.len], fun i c q hc hq => ?_⟩
  by_cases hi : i < qa.length
  · rw [List.getElem?_append_left hi] at hc
    rw [List.getElem?_append_left (by rw [← h.len]; exact hi)] at hq
    exact h'.row i c q hc hq
  · rw [List.getElem?_append_right (by omega)] at hc
    rw [List.getElem?_append_right (by rw [← h.len]; omega)] at hq
    rw [← h.len] at hq
    obtain ⟨h1, rfl⟩ := List.getElem?_eq_some_iff.1 hc
    obtain ⟨h2, rfl⟩ := List.getElem?_eq_some_iff.1 hq
    simpa using ho'
end
/-- rows that came in, cut -/
structure RwV (W : World) (qc : List Value) (L : List (List Nat)) : Prop where
  len : qc.length = L.length
  row : ∀ (i : Nat) (c : Value) (r : List Nat), qc[i]? = some c → L[i]? = some r → In W c r
theorem RwV.push {W : World} {qc : List Value} {L L' : List (List Nat)} {x : Value} {r : List Nat} (h : RwV W qc L) (ho : In W x r) (hL : L' = L ++ [r]) : RwV W (qc ++ [x]) L' := by
  subst hL
  refine ⟨by simp [h.len], fun i c q hc hq => ?_⟩
  by_cases hi : i < qc.length
  · rw [List.getElem?_append_left hi] at hc
    rw [List.getElem?_append_left (by rw [← h.len]; exact hi)] at hq
    exact h.row i c q hc hq
  · rw [List.getElem?_append_right (by omega)] at hc
    rw [List.getElem?_append_right (by rw [← h.len]; omega)] at hq
    rw [← h.len] at hq
    obtain ⟨h1, rfl⟩ := List.getElem?_eq_some_iff.1 hc
    obtain ⟨h2, rfl⟩ := List.getElem?_eq_some_iff.1 hq
    simpa using ho
def Lk (ls : List (List Nat)) (k : Nat) : List (List Nat) := (ls.take k).map (·.take 130)
theorem Lk_succ (ls : List (List Nat)) (k : Nat) (h : k < ls.length) : Lk ls (k + 1) = Lk ls k ++ [(ls[k]).take 130] := by
  unfold Lk; rw [List.take_succ_eq_append_getElem h, List.map_append]; rfl
theorem Lk_length (ls : List (List Nat)) (k : Nat) : (Lk ls k).length = min k ls.length := by simp [Lk]
theorem Tw.rda {W w : World} {qa qc : List Value} {va vc : Value} {L : List (List Nat)} (h : Tw W qa qc va vc w) (hr : RwT w qa L) : RwD w va L := by
  obtain ⟨Fa, Fc, h1, _⟩ := h.ex
  exact ⟨qa, by rw [← hr.len]; exact h1.rd, hr.len, fun i c r hc hq => own_rd (hr.row i c r hc hq)⟩
theorem Tw.rdc {W w : World} {qa qc : List Value} {va vc : Value} {L : List (List Nat)} (h : Tw W qa qc va vc w) (hr : RwV W qc L) : RwD w vc L := by
  have ha := h.adv
  obtain ⟨Fa, Fc, _, h1, _⟩ := h.ex
  exact ⟨qc, by rw [← hr.len]; exact h1.rd, hr.len, fun i c r hc hq => ((hr.row i c r hc hq).far ha.toBelow).rd⟩
theorem RwV.all8 {W : World} {qc : List Value} {L : List (List Nat)} (h : RwV W qc L) : All8 L := by
  intro r hr
  obtain ⟨i, hi, rfl⟩ := List.mem_iff_getElem.1 hr
  have := h.len
  exact (h.row i _ _ (List.getElem?_eq_getElem (by omega)) (List.getElem?_eq_getElem hi)).lt
theorem RwI.at_ {w : World} {A : Option Addr} {n c i : Nat} {rs : List (List Nat)} (h : RwI w (.slice A n c) rs) (hi : i < rs.length) : ∃ b o A' q, A = some ⟨b, o, none⟩ ∧ b < w.heap.size ∧ w.cell? ⟨b, o + i, none⟩ = some (.slice A' (rs[i]).length q) ∧ In w (.slice A' (rs[i]).length q) (rs[i]) := by
  obtain ⟨qc, h1, h2, h3⟩ := h.ex
  obtain ⟨A0, c0, e, _⟩ := h1.form
  injection e with e1 e2 e3
  subst e2
  obtain ⟨b, o, rfl, hb, hc⟩ := h1.cells (by omega) (by decide)
  have hci := List.getElem?_eq_getElem (l := qc) (i := i) (by omega)
  have h4 := h3 i _ _ hci (List.getElem?_eq_getElem hi)
  have h5 := hc i _ hci
  obtain ⟨A', q, e, _⟩ := h4.rd.form
  rw [e] at h4 h5
  exact ⟨b, o, A', q, rfl, hb, h5, h4⟩
theorem In.cutx {w : World} {a : Option Addr} {n q : Nat} {p : List Nat} (h : In w (.slice a n q) p) (hn : n = p.length) : In w (.slice a (p.take 130).length q) (p.take 130) := by
  have h1 : Rd w 1 (.slice a n q) n (p.map u8) := by rw [hn]; exact hn ▸ h.rd
  have e : (p.take (p.take 130).length) = p.take 130 := by
    rw [List.length_take]
    rcases Nat.le_total 130 p.length with h | h
    · rw [Nat.min_eq_left h]
    · rw [Nat.min_eq_right h, List.take_of_length_le (Nat.le_refl _), List.take_of_length_le h]
  have x := h1.xfront (n := (p.take 130).length) (by rw [hn, List.length_take]; omega)
  rw [e] at x
  refine ⟨x, fun b hb hl => h.old b (by cases a <;> exact hb) (by rw [List.length_take] at hl; omega), fun x hx => h.lt x (List.mem_of_mem_take hx)⟩
set_option maxRecDepth 3000 in
theorem cutx_any (a : Option Addr) (n q m : Nat) (hm : m = min 130 n) (hn : n ≤ maxLen) (hq : n ≤ q) (hqm : q ≤ maxLen) (w : World) : Calls Try.prog 13 #[.slice a n q, .int .i64 130] w fun e w' => e = .returned (.slice a m q) ∧ w = w' := by
  unfold maxLen at hn hqm
  by_cases hlt : 130 < n
  · obtain rfl : m = 130 := by omega
    have hni : (130 : Int) < (n : Int) := by omega
    clear hm
    go_enter Try.func13, Try.ntmps13
    go_wp2
    go_ret
    exact ⟨rfl, rfl⟩
  · obtain rfl : m = n := by omega
    have hni : ¬ (130 : Int) < (m : Int) := by omega
    clear hm
    go_enter Try.func13, Try.ntmps13
    go_wp2
    go_ret
    exact ⟨rfl, rfl⟩
def TeL (w : World) (ls : List (List Nat)) (t3 t4 t5 : Value) (wr : World) : Prop := ∃ (k : Nat) (qa qc : List Value), t5 = .int .i64 (k : Int) ∧ k ≤ ls.length ∧ k ≤ 7 ∧ Tw w qa qc t3 t4 wr ∧ RwT wr qa (Lk ls k) ∧ RwV w qc (Lk ls k)

set_option maxRecDepth 3000 in
set_option maxHeartbeats 3200000 in
theorem entries_walk (w : World) (v0 : Value) (h0 : ∃ l, RwI w v0 l) : Calls Try.prog 4 #[v0] w fun e w' => e = .returned (.bool true) ∧ Below w.heap.size w w' := by
  obtain ⟨ls, hl⟩ := h0
  obtain ⟨A, c, rfl, hnc, hcm⟩ := hl.rd.form
  obtain ⟨N, hN⟩ : ∃ N, N = ls.length := ⟨_, rfl⟩
  have hN9 : (N : Int) ≤ 9223372036854775807 := by unfold maxLen at hcm; omega
  rw [← hN] at hl ⊢
  have HL := Lib.hid hl
  have HN := Lib.hid hN
  clear hl hnc hcm hN
  go_enter Try.func4, Try.ntmps4
  go_wp2_with fail
  go_loopw [3, 4, 5] (TeL w ls) (fun _ _ t _ => N - (intOf t).toNat)
  case atStart => exact ⟨0, [], [], rfl, Nat.zero_le _, Nat.zero_le _, Tw.nil w, ⟨rfl, fun i c r h => by simp at h⟩, ⟨rfl, fun i c r h => by simp at h⟩⟩
  case round =>
    obtain ⟨k, qa, qc, rfl, hk, hk7, hT, hR, hV⟩ := hrel
    rw [← HN.out] at hk
    have hLk : (Lk ls k).length = k := by rw [Lk_length, ← HN.out]; omega
    have hasl : qa.length = k := hR.len.trans hLk
    have hcsl : qc.length = k := hV.len.trans hLk
    have HASL := Lib.hid hasl
    have HCSL := Lib.hid hcsl
    obtain ⟨A3, c3, rfl⟩ := slice_of (hT.owna hasl)
    obtain ⟨A4, c4, rfl⟩ := slice_of (hT.swap.owna hcsl)
    have HT := Lib.hid hT
    have HR := Lib.hid hR
    have HV := Lib.hid hV
    have HLL := Lib.hid hLk
    clear hT hR hV hLk hasl hcsl
    have hcase : (k < N ∧ k < 7) ∨ ((k : Int) < N ∧ (7 : Int) ≤ k ∧ k = 7) ∨ ((N : Int) ≤ k ∧ k = k ∧ k = N) := by omega
    rcases hcase with hlt | ⟨hlt, hle, hke⟩ | ⟨hlt, hle, hke⟩
    · have hkl : k < ls.length := by rw [← HN.out]; exact hlt.1
      obtain ⟨b, o, a, q, rfl, hb, hcell, hin⟩ := HL.out.at_ hkl
      have hlk := Lk_succ ls k hkl
      obtain ⟨p, hp⟩ : ∃ p, p = ls[k] := ⟨_, rfl⟩
      rw [← hp] at hcell hin hlk
      obtain ⟨n, hn⟩ : ∃ n, n = p.length := ⟨_, rfl⟩
      rw [← hn] at hcell hin
      have hnm : n ≤ q ∧ q ≤ maxLen := by
        obtain ⟨_, _, e, h1, h2⟩ := hin.rd.form
        injection e with _ e1 e2
        rw [hn, e2]
        exact ⟨h1, h2⟩
      obtain ⟨m, hm⟩ : ∃ m, m = (p.take 130).length := ⟨_, rfl⟩
      have HCUT := Lib.hid (cutx_any a n q m (by rw [hm, List.length_take, ← hn]) (Nat.le_trans hnm.1 hnm.2) hnm.1 hnm.2)
      have hcx := hin.cutx hn
      rw [← hm] at hcx
      have HIN := Lib.hid hcx
      have HM := Lib.hid hm.symm
      have HML := Lib.hid (show m ≤ 130 by rw [hm, List.length_take]; omega)
      have HLK := Lib.hid hlk
      have HROW := Lib.hid (fun w' (h : Adv Nul w Nul w') => show w'.cell? ⟨b, o + k, none⟩ = some (.slice a n q) from (World.cell?_of_block (a := ⟨b, o + k, none⟩) (h.block b hb (fun x => x))).trans hcell)
      have K0 := Lib.hid (HROW.out wr.drew HT.out.adv.drew)
      have HLT := Lib.hid hlt
      have hki : (k : Int) < (N : Int) := by omega
      have hk7i : (k : Int) < 7 := by omega
      clear hp hn hnm hm hcx hlk hb hcell hin hkl hlt hk hk7
      go_wp2_with fail
      go_upto_region 5 with (fail)
      refine rstart (S := (fun w' => w'.cell? ⟨b, o + k, none⟩ = some (.slice a n q))) (by first | with_reducible exact K7.out | with_reducible exact K6.out | with_reducible exact K5.out | with_reducible exact K4.out | with_reducible exact K3.out | with_reducible exact K2.out | with_reducible exact K1.out | with_reducible exact K0.out) (fun hH => ?_)
      refine tk (i := 0) (oi := ⟨some 20, .move (.tmp 3), 24, "law.go:50", #[], none⟩) hH.out (by rintro w s0; go_simp <;> with_reducible rfl) ?_
      simp only [Act.put, sA, sB, sC]
      refine tk (i := 1) (oi := ⟨some 21, .move (.tmp 0), 24, "law.go:50", #[], none⟩) hH.out (by rintro w s0; go_simp <;> with_reducible rfl) ?_
      simp only [Act.put, sA, sB, sC]
      refine tk (i := 2) (oi := ⟨some 22, .move (.tmp 5), 3, "law.go:50", #[], none⟩) hH.out (by rintro w s0; go_simp <;> with_reducible rfl) ?_
      simp only [Act.put, sA, sB, sC]
      refine tk (i := 3) (oi := ⟨some 23, .indexAddr 24 (.tmp 21) (.tmp 22), 0, "law.go:50", #[⟨1, .data⟩, ⟨2, .data⟩], none⟩) hH.out (by rintro w s0; go_simp <;> with_reducible rfl) ?_
      simp only [Act.put, sA, sB, sC]
      refine tk (i := 4) (oi := ⟨some 24, .load 31 (.tmp 23), 31, "law.go:50", #[⟨3, .data⟩], none⟩) hH.out (by rintro w s0; go_simp <;> with_reducible rfl) ?_
      simp only [Act.put, sA, sB, sC]
      refine tk (i := 9) (oi := ⟨some 29, .move (.tmp 4), 24, "law.go:50", #[], none⟩) hH.out (by rintro w s0; go_simp <;> with_reducible rfl) ?_
      simp only [Act.put, sA, sB, sC]
      refine tk (i := 10) (oi := ⟨some 30, .move (.tmp 0), 24, "law.go:50", #[], none⟩) hH.out (by rintro w s0; go_simp <;> with_reducible rfl) ?_
      simp only [Act.put, sA, sB, sC]
      refine tk (i := 11) (oi := ⟨some 31, .move (.tmp 5), 3, "law.go:50", #[], none⟩) hH.out (by rintro w s0; go_simp <;> with_reducible rfl) ?_
      simp only [Act.put, sA, sB, sC]
      refine tk (i := 12) (oi := ⟨some 32, .indexAddr 24 (.tmp 30) (.tmp 31), 0, "law.go:50", #[⟨10, .data⟩, ⟨11, .data⟩], none⟩) hH.out (by rintro w s0; go_simp <;> with_reducible rfl) ?_
      simp only [Act.put, sA, sB, sC]
      refine tk (i := 13) (oi := ⟨some 33, .load 31 (.tmp 32), 31, "law.go:50", #[⟨12, .data⟩], none⟩) hH.out (by rintro w s0; go_simp <;> with_reducible rfl) ?_
      simp only [Act.put, sA, sB, sC]
      refine rdy (i := 5) (oi := ⟨some 25, .call ⟨.value (.func 13), #[.tmp 24, .const (Go.Value.int Go.IntKind.i64 130)], #[31, 3]⟩, 31, "law.go:50", #[⟨4, .data⟩], none⟩) (fun K hK => ?_)
      go_simp
      refine (HCUT.out wr.drew).mono ?_
      rintro x w1 ⟨rfl, hw1⟩
      have HT1 := Lib.hid (show Tw w qa qc (.slice A3 k c3) (.slice A4 k c4) w1 by rw [← hw1]; exact HT.out.step (Adv.refl Nul wr).drew)
      have HR1 := Lib.hid (show RwT w1 qa (Lk ls k) by rw [← hw1]; exact HR.out.step (Adv.refl Nul wr).drew)
      have HI1 := Lib.hid ((HIN.out.far HT1.out.adv.toBelow).rd)
      rw [HM.out] at HI1
      have K1 := Lib.hid (HROW.out w1 HT1.out.adv)
      clear hw1
      go_wp2_with fail
      refine hK.out _ _ (by first | with_reducible exact K7.out | with_reducible exact K6.out | with_reducible exact K5.out | with_reducible exact K4.out | with_reducible exact K3.out | with_reducible exact K2.out | with_reducible exact K1.out | with_reducible exact K0.out) (fun hHeld => ?_)
      replace hH := Lib.hid hHeld
      clear hK K hHeld
      try simp only [Act.put, sA, sB, sC]
      refine rdy (i := 6) (oi := ⟨some 26, .call ⟨.value (.func 12), #[.tmp 25], #[31]⟩, 31, "law.go:50", #[⟨5, .data⟩, ⟨5, .chain⟩], none⟩) (fun K hK => ?_)
      go_simp
      refine (copy_any (.slice a m q) m (p.take 130) _ HI1.out (by have := HML.out; omega)).mono ?_
      rintro x w2 ⟨v2, F2, rfl, h2, a2⟩
      obtain ⟨A2, c2, rfl, _⟩ := h2.form0
      have a2' := a2.sub (G := Nul) (fun _ h => h.elim)
      obtain ⟨y3, hy3⟩ : ∃ y, y = w2.heap.size := ⟨_, rfl⟩
      obtain ⟨w3, hw3⟩ : ∃ w3, w3 = w2.alloc (.cells #[.slice A2 m c2] 31) := ⟨_, rfl⟩
      have HT3 := Lib.hid (show Tw w qa qc (.slice A3 k c3) (.slice A4 k c4) w3 by rw [hw3]; exact (HT1.out.step a2').step ((Adv.refl Nul w2).alloc _))
      have HR3 := Lib.hid (show RwT w3 qa (Lk ls k) by rw [hw3]; exact (HR1.out.step a2').step ((Adv.refl Nul w2).alloc _))
      have HO3 := Lib.hid (show w3.ownsRow 0 5 1 (.slice A2 m c2) (p.take 130).length ((p.take 130).map u8) by rw [hw3, HM.out]; exact h2.own.alloc _)
      have HNEW3 := Lib.hid (show ∀ j u, [Value.slice A2 m c2][j]? = some u → w3.cell? ((⟨y3, 0, none⟩ : Addr).add j) = some u by rw [hw3, hy3]; exact cell_one_new _ _ _)
      have K2 := Lib.hid (HROW.out w2 (HT1.out.step a2').adv)
      have K3 := Lib.hid (HROW.out w3 HT3.out.adv)
      have HW3 := Lib.hid hw3
      have HY3 := Lib.hid hy3
      clear h2 a2 a2' hw3 hy3
      go_wp2_with fail
      refine hK.out _ _ (by first | with_reducible exact K7.out | with_reducible exact K6.out | with_reducible exact K5.out | with_reducible exact K4.out | with_reducible exact K3.out | with_reducible exact K2.out | with_reducible exact K1.out | with_reducible exact K0.out) (fun hHeld => ?_)
      replace hH := Lib.hid hHeld
      clear hK K hHeld
      try simp only [Act.put, sA, sB, sC]
      refine rdy (i := 7) (oi := ⟨some 27, .buildSlice 24 1 #[(0, .tmp 26)], 24, "law.go:50", #[⟨6, .data⟩], none⟩) (fun K hK => ?_)
      go_simp
      rw [← HW3.out, ← HY3.out]
      refine hK.out _ _ (by first | with_reducible exact K7.out | with_reducible exact K6.out | with_reducible exact K5.out | with_reducible exact K4.out | with_reducible exact K3.out | with_reducible exact K2.out | with_reducible exact K1.out | with_reducible exact K0.out) (fun hHeld => ?_)
      replace hH := Lib.hid hHeld
      clear hK K hHeld
      try simp only [Act.put, sA, sB, sC]
      refine rdy (i := 8) (oi := ⟨some 28, .call ⟨.builtin .append, #[.tmp 20, .tmp 27], #[24, 24]⟩, 24, "law.go:50", #[⟨0, .data⟩, ⟨7, .data⟩, ⟨6, .chain⟩], none⟩) (fun K hK => ?_)
      refine dstep_append_own rfl (.tmp 20) (.tmp 27) 24 31 rfl Try.underlying24 infoBytes1 rfl (by decide) rfl (HT3.out.owna HASL.out) ⟨y3, 0, none⟩ 1 1 rfl [.slice A2 m c2] rfl HNEW3.out (by intro u hu; obtain rfl := List.mem_singleton.1 hu; rfl) (by have := HLT.out.2; unfold maxLen; omega) (by have := HLT.out.2; omega) ?_
      intro v' w4 hown hg hat
      obtain ⟨A3', c3', rfl⟩ := slice_of hown
      have HR4 := Lib.hid (HR3.out.push (HT3.out.owna HASL.out) hg HO3.out HLK.out)
      have HT4 := Lib.hid (HT3.out.push HASL.out hown hg hat)
      have K4 := Lib.hid (HROW.out w4 HT4.out.adv)
      clear hown hg hat
      refine hK.out _ _ (by first | with_reducible exact K7.out | with_reducible exact K6.out | with_reducible exact K5.out | with_reducible exact K4.out | with_reducible exact K3.out | with_reducible exact K2.out | with_reducible exact K1.out | with_reducible exact K0.out) (fun hHeld => ?_)
      replace hH := Lib.hid hHeld
      clear hK K hHeld
      try simp only [Act.put, sA, sB, sC]
      refine rdy (i := 14) (oi := ⟨some 34, .call ⟨.value (.func 13), #[.tmp 33, .const (Go.Value.int Go.IntKind.i64 130)], #[31, 3]⟩, 31, "law.go:50", #[⟨13, .data⟩, ⟨8, .chain⟩], none⟩) (fun K hK => ?_)
      go_simp
      refine (HCUT.out w4).mono ?_
      rintro x w5 ⟨rfl, hw5⟩
      have HT5 := Lib.hid (show Tw w (qa ++ [.slice A2 m c2]) qc (.slice A3' (k + 1) c3') (.slice A4 k c4) w5 by rw [← hw5]; exact HT4.out)
      have HR5 := Lib.hid (show RwT w5 (qa ++ [.slice A2 m c2]) (Lk ls (k + 1)) by rw [← hw5]; exact HR4.out)
      obtain ⟨y6, hy6⟩ : ∃ y, y = w5.heap.size := ⟨_, rfl⟩
      obtain ⟨w6, hw6⟩ : ∃ w6, w6 = w5.alloc (.cells #[.slice a m q] 31) := ⟨_, rfl⟩
      have HT6 := Lib.hid (show Tw w (qa ++ [.slice A2 m c2]) qc (.slice A3' (k + 1) c3') (.slice A4 k c4) w6 by rw [hw6]; exact HT5.out.step ((Adv.refl Nul w5).alloc _))
      have HR6 := Lib.hid (show RwT w6 (qa ++ [.slice A2 m c2]) (Lk ls (k + 1)) by rw [hw6]; exact HR5.out.step ((Adv.refl Nul w5).alloc _))
      have HNEW6 := Lib.hid (show ∀ j u, [Value.slice a m q][j]? = some u → w6.cell? ((⟨y6, 0, none⟩ : Addr).add j) = some u by rw [hw6, hy6]; exact cell_one_new _ _ _)
      have K5 := Lib.hid (HROW.out w5 HT5.out.adv)
      have K6 := Lib.hid (HROW.out w6 HT6.out.adv)
      have HW6 := Lib.hid hw6
      have HY6 := Lib.hid hy6
      clear hw5 hw6 hy6
      go_wp2_with fail
      refine hK.out _ _ (by first | with_reducible exact K7.out | with_reducible exact K6.out | with_reducible exact K5.out | with_reducible exact K4.out | with_reducible exact K3.out | with_reducible exact K2.out | with_reducible exact K1.out | with_reducible exact K0.out) (fun hHeld => ?_)
      replace hH := Lib.hid hHeld
      clear hK K hHeld
      try simp only [Act.put, sA, sB, sC]
      refine rdy (i := 15) (oi := ⟨some 35, .buildSlice 24 1 #[(0, .tmp 34)], 24, "law.go:50", #[⟨14, .data⟩], none⟩) (fun K hK => ?_)
      go_simp
      rw [← HW6.out, ← HY6.out]
      refine hK.out _ _ (by first | with_reducible exact K7.out | with_reducible exact K6.out | with_reducible exact K5.out | with_reducible exact K4.out | with_reducible exact K3.out | with_reducible exact K2.out | with_reducible exact K1.out | with_reducible exact K0.out) (fun hHeld => ?_)
      replace hH := Lib.hid hHeld
      clear hK K hHeld
      try simp only [Act.put, sA, sB, sC]
      refine rdy (i := 16) (oi := ⟨some 36, .call ⟨.builtin .append, #[.tmp 29, .tmp 35], #[24, 24]⟩, 24, "law.go:50", #[⟨9, .data⟩, ⟨15, .data⟩, ⟨14, .chain⟩], none⟩) (fun K hK => ?_)
      refine dstep_append_own rfl (.tmp 29) (.tmp 35) 24 31 rfl Try.underlying24 infoBytes1 rfl (by decide) rfl (HT6.out.swap.owna HCSL.out) ⟨y6, 0, none⟩ 1 1 rfl [.slice a m q] rfl HNEW6.out (by intro u hu; obtain rfl := List.mem_singleton.1 hu; rfl) (by have := HLT.out.2; unfold maxLen; omega) (by have := HLT.out.2; omega) ?_
      intro v' w7 hown hg hat
      obtain ⟨A4', c4', rfl⟩ := slice_of hown
      have HR7 := Lib.hid (HR6.out.kept hg (HT6.out.swap.owna HCSL.out))
      have HT7 := Lib.hid (HT6.out.swap.push HCSL.out hown hg hat).swap
      have K7 := Lib.hid (HROW.out w7 HT7.out.adv)
      clear hown hg hat
      refine hK.out _ _ (by first | with_reducible exact K7.out | with_reducible exact K6.out | with_reducible exact K5.out | with_reducible exact K4.out | with_reducible exact K3.out | with_reducible exact K2.out | with_reducible exact K1.out | with_reducible exact K0.out) (fun hHeld => ?_)
      replace hH := Lib.hid hHeld
      clear hK K hHeld
      try simp only [Act.put, sA, sB, sC]
      refine tk (i := 17) (oi := ⟨some 3, .assign (.tmp 28), 24, "law.go:50", #[⟨8, .data⟩, ⟨16, .chain⟩, ⟨0, .phase⟩, ⟨1, .phase⟩, ⟨2, .phase⟩, ⟨3, .phase⟩, ⟨4, .phase⟩, ⟨5, .phase⟩, ⟨6, .phase⟩, ⟨7, .phase⟩, ⟨8, .phase⟩, { on := 9, ground := Go.Ground.textOnly Go.Departure.lateStores }, { on := 10, ground := Go.Ground.textOnly Go.Departure.lateStores }, { on := 11, ground := Go.Ground.textOnly Go.Departure.lateStores }, { on := 12, ground := Go.Ground.textOnly Go.Departure.lateStores }, { on := 13, ground := Go.Ground.textOnly Go.Departure.lateStores }, { on := 14, ground := Go.Ground.textOnly Go.Departure.lateStoresUnsure }, { on := 15, ground := Go.Ground.textOnly Go.Departure.lateStores }, { on := 16, ground := Go.Ground.textOnly Go.Departure.lateStoresUnsure }], none⟩) hH.out (by rintro w s0; go_simp <;> with_reducible rfl) ?_
      simp only [Act.put, sA, sB, sC]
      refine tk (i := 18) (oi := ⟨some 4, .assign (.tmp 36), 24, "law.go:50", #[⟨16, .data⟩, ⟨17, .chain⟩, ⟨0, .phase⟩, ⟨1, .phase⟩, ⟨2, .phase⟩, ⟨3, .phase⟩, ⟨4, .phase⟩, ⟨5, .phase⟩, ⟨6, .phase⟩, ⟨7, .phase⟩, ⟨8, .phase⟩, ⟨9, .phase⟩, ⟨10, .phase⟩, ⟨11, .phase⟩, ⟨12, .phase⟩, ⟨13, .phase⟩, ⟨14, .phase⟩, ⟨15, .phase⟩, ⟨16, .phase⟩, ⟨17, .phase⟩], none⟩) hH.out (by rintro w s0; go_simp <;> with_reducible rfl) ?_
      simp only [Act.put, sA, sB, sC]
      refine wpAnyH_done (by kernel_rfl) ?_ _
      go_wp2_with fail
      have hV7 := HV.out.push HIN.out HLK.out
      exact ⟨⟨k + 1, _, _, by go_num, by have := HLT.out; have := HN.out; omega, by have := HLT.out; omega, HT7.out, HR7.out, hV7⟩, by have := HLT.out; simp [intOf] <;> omega⟩
    all_goals
      obtain ⟨L, hL⟩ : ∃ L, L = Lk ls k := ⟨_, rfl⟩
      have hL7 : (Lk ls k).length ≤ 7 := by rw [HLL.out]; exact hk7
      have HA := Lib.hid HT.out.adv
      have HX := Lib.hid (dentries_any _ _ wr (HT.out.rda HR.out) HV.out.all8)
      have HY := Lib.hid (fun w' (a : Adv Nul wr Nul w') => q9entries_any (.slice A4 k c4) _ w' ((HT.out.step a).rdc HV.out) HV.out.all8 hL7)
      unfold EntR at HX HY
      rw [← hL] at HX HY
      obtain ⟨E, hE⟩ : ∃ E, E = entE L := ⟨_, rfl⟩
      obtain ⟨M, hM⟩ : ∃ M, M = entL L := ⟨_, rfl⟩
      obtain ⟨n, hn⟩ : ∃ n, n = M.length := ⟨_, rfl⟩
      rw [← hE, ← hM, ← hn] at HX HY
      have HNN := Lib.hid hn
      clear hL hE hM hn hL7 hk hk7 hke
      go_wp2_with (first
        | (go_at_call 14; refine HX.out.mono ?_; rintro x w2 ⟨A5, c5, rfl, h2, a2⟩; have HR2 := Lib.hid h2; have HA2 := Lib.hid a2; clear h2 a2)
        | (go_at_call 15; refine (HY.out _ HA2.out).mono ?_; rintro x w3 ⟨A6, c6, rfl, h3, a3⟩; have HR3 := Lib.hid h3; replace HR2 := Lib.hid (HR2.out.step a3); have HA3 := Lib.hid (HA.out.trans (HA2.out.trans a3)); clear h3 a3)
        | (go_at_call 16; refine (same9_any _ _ _ _ _ HR2.out HR3.out).mono ?_; rintro x w4 ⟨rfl, j, hw4⟩; rw [decide_eq_true (rfl : M = M)]; have HA4 := Lib.hid (show Adv Nul w Nul w4 by rw [hw4]; exact HA3.out.drewN j); clear hw4)
        | (go_at_call 11; refine (lives9_any _).mono ?_; rintro x w5 ⟨rfl, a5⟩; have HA5 := Lib.hid (HA4.out.trans a5); clear a5)
        | fail)
      go_ret
      exact ⟨rfl, HA5.out.toBelow⟩
end Go.Proofs.Ytgcbnaleajccgaa
