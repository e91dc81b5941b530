/- The program's map: rows held against each other, Load. -/
import Derived.Test.YtekafclhddhnpaaAmE
import Derived.DeepKeys
namespace Go.Proofs.Ytekafclhddhnpaa
open Go.ChangeShapes Go.WideShapes Go.ChangeAt Go.RowKit

def lit8 (x : Nat) : Lit := .int .u8 (x : Int)
theorem mapM_some {α β : Type} (f : α → Option β) (g : α → β) : ∀ L : List α, (∀ x ∈ L, f x = some (g x)) → L.mapM f = some (L.map g)
  | [], _ => rfl
  | x :: L, h => by
    rw [List.mapM_cons, h x (by simp), mapM_some f g L (fun y hy => h y (by simp [hy]))]
    rfl
theorem flat_one {α β : Type} (f : α → β) : ∀ L : List α, (L.map (fun i => [f i])).flatten = L.map f
  | [] => rfl
  | x :: L => by rw [List.map_cons, List.flatten_cons, flat_one f L]; rfl
theorem map_range (l : List Nat) : (List.range l.length).map (fun i => lit8 (l.getD i 0)) = l.map lit8 := by
  apply List.ext_getElem (by simp)
  intro i h1 h2
  simp at h1
  rw [List.getElem_map, List.getElem_map, List.getElem_range, List.getD_eq_getElem?_getD, List.getElem?_eq_getElem h1]
  rfl
theorem cellsU8 : Try.prog.cellsOf 5 = 1 := by kernel_rfl
theorem cellsRow : Try.prog.cellsOf 55 = 128 := by kernel_rfl
theorem key_u8 (d x : Nat) (h : x < 256) : Try.prog.keyLits (d + 1) 5 [u8 x] = some [lit8 x] := by
  unfold Program.keyLits
  rw [Try.underlying5]
  have : (Lit.int .u8 (x : Int)).wf = true := by simp [Lit.wf, IntKind.min, IntKind.max, IntKind.signed, IntKind.bits]; omega
  simp [u8, lit8, this]
theorem key_row (l : List Nat) (hl : l.length = 128) (h : ∀ x ∈ l, x < 256) : Try.prog.keyLits 5 55 ((l.map u8).toArray).toList = some (l.map lit8) := by
  unfold Program.keyLits
  rw [Try.underlying55]
  simp only [cellsU8, cellsRow, Nat.mul_one]
  rw [if_pos (by simpa using hl), mapM_some _ (fun i => [lit8 (l.getD i 0)]) _ (fun i hi => ?_), Option.map_some, flat_one, ← hl, map_range]
  have hi : i < l.length := by rw [hl]; simpa using hi
  have e : (((l.map u8).toArray).toList.drop i).take 1 = [u8 (l.getD i 0)] := by
    rw [List.toList_toArray, ← List.map_drop, ← List.getElem_cons_drop hi, List.map_cons, List.take_succ_cons, List.take_zero, List.getD_eq_getElem?_getD, List.getElem?_eq_getElem hi]
    rfl
  rw [e]
  exact key_u8 3 _ (getD_lt h i)
theorem formed_row (l : List Nat) (hl : l.length = 128) : (Value.agg (l.map u8).toArray).formed Try.prog 55 = true := by
  unfold Value.formed
  simp only [Try.underlying55, cellsRow]
  simp [hl]
theorem lit8_inj (l l' : List Nat) (h : l.map lit8 = l'.map lit8) : l = l' := by
  refine List.map_inj_right (f := lit8) ?_ |>.1 h
  intro x y e
  unfold lit8 at e
  injection e with _ e
  omega
theorem eq_row (l l' : List Nat) (hl : l.length = 128) (hl' : l'.length = 128) (h : ∀ x ∈ l, x < 256) (h' : ∀ x ∈ l', x < 256) : ∀ w, (Op.equalIn 10000 55 (.agg (l.map u8).toArray) (.agg (l'.map u8).toArray)).run Try.prog w = .ok (decide (l = l')) w := by
  intro w
  have h0 := run_equalIn_deep (P := Try.prog) 9998 2 55 (by kernel_rfl)
  obtain ⟨c, h1, h2⟩ := h0 w 5 5 (.agg (l.map u8).toArray) (.agg (l'.map u8).toArray) _ _ (formed_row l hl) (formed_row l' hl') (key_row l hl h) (key_row l' hl' h')
  rw [h1]
  congr 1
  by_cases e : l = l'
  · rw [decide_eq_true e, h2.2 (by rw [e])]
  · rw [decide_eq_false e]
    cases c
    · rfl
    · exact absurd (lit8_inj _ _ (h2.1 rfl)) e

/-! Many cells of a block stored anew. -/
def setA (cs : Array Value) : Nat → List Value → Array Value
  | _, [] => cs
  | o, v :: r => setA (cs.setIfInBounds o v) (o + 1) r
theorem setA_at : ∀ (vs : List Value) (cs : Array Value) (o k : Nat), o + vs.length ≤ cs.size → (setA cs o vs)[k]? = if o ≤ k ∧ k < o + vs.length then vs[k - o]? else cs[k]?
  | [], cs, o, k, _ => by
    rw [if_neg (by simp)]; rfl
  | v :: r, cs, o, k, h => by
    rw [List.length_cons] at h
    show (setA (cs.setIfInBounds o v) (o + 1) r)[k]? = _
    rw [setA_at r _ (o + 1) k (by simp; omega), Array.getElem?_setIfInBounds, List.length_cons]
    by_cases h1 : o + 1 ≤ k ∧ k < o + 1 + r.length
    · rw [if_pos h1, if_pos (by omega), show k - o = k - (o + 1) + 1 by omega, List.getElem?_cons_succ]
    · rw [if_neg h1]
      by_cases h2 : o = k
      · subst h2
        rw [if_pos rfl, if_pos (by omega), if_pos (by omega), Nat.sub_self]; rfl
      · rw [if_neg h2, if_neg (by omega)]
theorem Blk.setCells_ {g : Nat} {t : TypeId} : ∀ (vs : List Value) (cs : Array Value) (o : Nat) (w : World), Blk w g t cs → Blk (w.setCells g o vs) g t (setA cs o vs)
  | [], _, _, _, h => h
  | v :: r, _, o, _, h => Blk.setCells_ r _ (o + 1) _ (h.set_ o v)
theorem adv_setCells {F : Nat → Prop} {w : World} {d : Nat} : ∀ (vs : List Value) (o : Nat) (w' : World), Adv F w (One d) w' → (F d ∨ w.heap.size ≤ d) → Adv F w (One d) (w'.setCells d o vs)
  | [], _, _, h, _ => h
  | v :: r, o, _, h, hd => adv_setCells r (o + 1) _ (h.setCell (p := ⟨d, o, none⟩) hd v) hd
theorem setA_row (n : Nat) (r l : List Nat) (hr : r.length = 128) (hl : l.length = 128) : setA (mcells n r) 1 (l.map u8) = mcells n l := by
  apply Array.ext_getElem?
  intro k
  rw [setA_at _ _ _ _ (by rw [mcells_size hr]; simp [hl]), List.length_map, hl]
  unfold mcells
  rw [List.getElem?_toArray, List.getElem?_toArray]
  rcases k with _ | k
  · rw [if_neg (by omega)]; rfl
  · rw [List.getElem?_cons_succ, List.getElem?_cons_succ]
    by_cases h : k < 128
    · rw [if_pos (by omega), show k + 1 - 1 = k by omega]
    · rw [if_neg (by omega), List.getElem?_eq_none (by simp; omega), List.getElem?_eq_none (by simp; omega)]
theorem blk_there {w : World} {d n : Nat} {r : List Nat} (h : Blk w d 57 (mcells n r)) (hr : r.length = 128) : w.there d 1 128 := fun j hj => by
  refine ⟨?_, h.frozen _⟩
  rw [h.cell, mcells_at n r hr j hj]; rfl
theorem built_row : Try.prog.built 55 [] = some zR := by kernel_rfl
theorem aop_build_row {ops : Array Oper} {rest : List Oper} {o : Oper} {a : Act} {w : World} {Q : Exit → Act → World → Prop} (hgd : o.guard = none) (ho : o.op = .build 55 #[])
    (h : wpList Try.prog ops Q rest (a.put o.dst (.agg zR)) w) : wpList Try.prog ops Q (o :: rest) a w := by
  have e : ((#[] : Array (Nat × Operand)).map fun (i, x) => (i, a.eval x)).toList = [] := by simp
  refine wpList_build hgd 55 _ ho (by rw [e, built_row]; rfl) ?_
  rw [e, built_row]
  exact h
theorem aop_s2a {ops : Array Oper} {rest : List Oper} {o : Oper} {a : Act} {w : World} {Q : Exit → Act → World → Prop} (hgd : o.guard = none) (x : Operand) (ho : o.op = .sliceToArrayPointer 55 x) (A : Option Addr) (c : Nat) (hx : a.eval x = .slice A 128 c)
    (h : wpList Try.prog ops Q rest (a.put o.dst (.pointer A)) w) : wpList Try.prog ops Q (o :: rest) a w := by
  refine wpList_plain hgd fun K hK => ?_
  unfold Oper.wp execOp
  simp [ho, hx, Instr.arrayAt, run_underlying Try.underlying55, Result.andThen]
  exact hK _ _ h

/-- what Load answers -/
def LoadR (w : World) (l : List Nat) (n : Int) (e : Ending) (w' : World) : Prop :=
  (loadOk l n ∧ ∃ d, e = .returned (.tuple #[.pointer (some ⟨d, 0, none⟩), .int .i64 0]) ∧ Am w' d (loadT l n.toNat) ∧ Adv Nul w (One d) w') ∨
  (¬ loadOk l n ∧ e = .returned (.tuple #[.pointer none, .int .i64 (if n < 1 ∨ 1024 < n then 2 else 4)]) ∧ Adv Nul w Nul w')
theorem Adv.none_ {w w' : World} {F : Nat → Prop} (h : Adv Nul w F w') : Adv Nul w Nul w' := h.sub (fun _ h => h.elim)

set_option maxRecDepth 3000 in
set_option maxHeartbeats 1600000 in
theorem load_any (v : Value) (l : List Nat) (n : Int) (w : World) (h : In w v l) : Calls Try.prog 24 #[v, .int .i64 n] w (LoadR w l n) := by
  by_cases hn : n < 1 ∨ 1024 < n
  · have HF := Lib.hid (show ∀ w', w = w' → LoadR w l n (.returned (.tuple #[.pointer none, .int .i64 2])) w' from fun w' e => .inr ⟨fun k => by unfold loadOk at k; omega, by rw [if_pos hn], by rw [← e]; exact Adv.refl _ _⟩)
    have HN := Lib.hid (new_no n hn w)
    clear h hn
    go_enter Try.func24, Try.ntmps24
    go_wp2_with (first
      | (go_at_call 7; refine HN.out.mono ?_; rintro e w1 ⟨rfl, rfl⟩)
      | fail)
    go_ret2
    exact HF.out _ rfl
  · obtain ⟨N, rfl⟩ : ∃ N : Nat, n = (N : Int) := ⟨n.toNat, by omega⟩
    have h1 : 1 ≤ N := by omega
    have h2 : N ≤ 1024 := by omega
    have HNY := Lib.hid (new_yes N h1 h2 w)
    have HNo := Lib.hid (show ¬ loadOk l (N : Int) → ∀ w', Adv Nul w Nul w' → LoadR w l (N : Int) (.returned (.tuple #[.pointer none, .int .i64 4])) w' from fun k w' a => .inr ⟨k, by rw [if_neg hn], a⟩)
    have HH := Lib.hid h
    obtain ⟨A, c, rfl, hlc, hcm⟩ := h.rd.form
    by_cases hl : l.length = 128
    · have HL := Lib.hid hl
      have HLt := Lib.hid h.lt
      obtain ⟨b, o, rfl, hb, hc⟩ := h.rd.cells (by omega) (by decide)
      have HR := Lib.hid (show ∀ w' d, Adv Nul w (One d) w' → w'.rangeAt b o (l.map u8) from fun w' d a j u hu => (World.cell?_of_block (a.block b hb (fun h => h))).trans (hc j u hu))
      have HLen := Lib.hid (show (l.map u8).length = 128 by simpa using hl)
      have HS := Lib.hid (show ((l.map u8).toArray).size = 128 by simpa using hl)
      have HO := Lib.hid (one_row l)
      have HSet := Lib.hid (show ∀ w' d, Am w' d (List.replicate N false) → Adv Nul w (One d) w' → w'.there d 1 128 ∧ Blk (w'.setCells d 1 ((l.map u8).toArray).toList) d 57 (mcells N l) ∧ Adv Nul w (One d) (w'.setCells d 1 ((l.map u8).toArray).toList) from fun w' d ha a => by
        obtain ⟨r, hr, _, _, hb⟩ := ha
        rw [List.length_replicate] at hb
        refine ⟨blk_there hb hr.len, ?_, adv_setCells _ _ _ a (.inr ?_)⟩
        · have := Blk.setCells_ (l.map u8) _ 1 _ hb
          rw [setA_row N r l hr.len hl] at this
          simpa using this
        · rcases a.into d rfl with h | h
          · exact h.elim
          · exact h)
      have HBe := Lib.hid (fun (d : Nat) (w' : World) (hb : Blk w' d 57 (mcells N l)) => behind_am w' d N (hasB l) l (Bt.self hl h.lt) h2 hb)
      have HEq := Lib.hid (fun (r : List Nat) (hr : Bt r (fun j => decide (N ≤ j) && hasB l j)) => eq_row r (List.replicate 128 0) hr.len (by simp) hr.lt Bt.zero.lt)
      have HZero := Lib.hid (fun (r : List Nat) (hr : Bt r (fun j => decide (N ≤ j) && hasB l j)) => behind_zero hr)
      have HYes := Lib.hid (show noneB l N → ∀ w' d, Blk w' d 57 (mcells N l) → Adv Nul w (One d) w' → LoadR w l (N : Int) (.returned (.tuple #[.pointer (some ⟨d, 0, none⟩), .int .i64 0])) w' from fun k w' d hb a => .inl ⟨⟨by omega, by omega, hl, by simpa using k⟩, d, rfl, ⟨l, by simpa using rep_loadT hl h.lt k, by rw [loadT_length]; simpa using h1, by rw [loadT_length]; simpa using h2, by rw [loadT_length]; simpa using hb⟩, a⟩)
      have HNo4 := Lib.hid (show ¬ noneB l N → ∀ w', Adv Nul w Nul w' → LoadR w l (N : Int) (.returned (.tuple #[.pointer none, .int .i64 4])) w' from fun k w' a => HNo.out (fun k' => k (by simpa using k'.2.2.2)) w' a)
      obtain ⟨C, hC⟩ : ∃ C, C = (l.map u8).toArray := ⟨_, rfl⟩
      have HC := Lib.hid hC
      rw [← hC] at HS HO HSet
      rw [hl]
      clear hC hc hb h hl hlc hcm hn h1 h2 HNo
      go_enter Try.func24, Try.ntmps24
      go_wp2_with (first
        | (go_at_call 7; refine HNY.out.mono ?_; rintro e w1 ⟨d, rfl, a1, a2⟩; have HA1 := Lib.hid a1; have HA2 := Lib.hid a2; clear a1 a2)
        | (refine aop_s2a rfl (.tmp 20) rfl (some ⟨b, o, none⟩) c rfl ?_)
        | (refine wpList_load_mid rfl 55 (.tmp 21) rfl b o rfl (l.map u8) _ (HR.out _ _ HA2.out) Try.underlying55 rfl (by rw [sizeRow, HLen.out]) ?_; rw [← HC.out])
        | (refine wpList_store_mid rfl 55 (.tmp 24) (.tmp 22) rfl d 1 C rfl rfl (by rw [HS.out]; exact (HSet.out _ _ HA1.out HA2.out).1) (by rw [sizeRow, HS.out]) HO.out ?_)
        | fail)
      have hst := HSet.out _ _ HA1.out HA2.out
      obtain ⟨W, hW⟩ : ∃ W, W = w1.setCells d 1 C.toList := ⟨_, rfl⟩
      rw [← hW] at hst ⊢
      have HB := Lib.hid hst.2.1
      have HA := Lib.hid hst.2.2
      clear hst hW
      have HKeep := Lib.hid (show ∀ W', Adv Nul W Nul W' → Blk W' d 57 (mcells N l) ∧ Adv Nul w (One d) W' from fun W' a => ⟨HB.out.keep (a.block d HB.out.lt (fun h => h)), HA.out.trans (a.same (fun _ h => h.elim))⟩)
      refine (HBe.out d W HB.out).mono ?_
      rintro e W1 ⟨r', rfl, hr', ha'⟩
      have hq := HEq.out r' hr'
      have HZ := Lib.hid (HZero.out r' hr')
      have HK := Lib.hid (HKeep.out W1 ha')
      rw [show ((List.replicate 128 0).map u8).toArray = zR from rfl] at hq
      obtain ⟨Z, hZ⟩ : ∃ Z, Z = zR := ⟨_, rfl⟩
      have HZZ := Lib.hid hZ
      rw [← hZ] at hq
      obtain ⟨R, hR⟩ : ∃ R, R = (r'.map u8).toArray := ⟨_, rfl⟩
      rw [← hR] at hq ⊢
      clear hr' ha' hR hZ HEq HZero HBe HKeep
      by_cases e : r' = List.replicate 128 0
      · rw [decide_eq_true e] at hq
        have HE := Lib.hid (HZ.out.1 e)
        clear e
        go_wp2_with (first
          | (refine aop_build_row rfl rfl ?_; rw [← HZZ.out])
          | fail)
        go_ret2
        exact HYes.out HE.out _ _ HK.out.1 HK.out.2
      · rw [decide_eq_false e] at hq
        have HE := Lib.hid (fun k => e (HZ.out.2 k))
        clear e
        go_wp2_with (first
          | (refine aop_build_row rfl rfl ?_; rw [← HZZ.out])
          | fail)
        go_ret2
        exact HNo4.out HE.out _ HK.out.2.none_
    · have HN4 := Lib.hid (HNo.out (fun k => hl k.2.2.1))
      have hl' : ((l.length : Nat) : Int) ≠ 128 := by omega
      obtain ⟨m, hm⟩ : ∃ m, m = l.length := ⟨_, rfl⟩
      rw [← hm] at hl' ⊢
      clear hn h1 h2 h hl hlc hcm hm
      go_enter Try.func24, Try.ntmps24
      go_wp2_with (first
        | (go_at_call 7; refine HNY.out.mono ?_; rintro e w1 ⟨d, rfl, a1, a2⟩; have HA2 := Lib.hid a2; clear a1 a2)
        | fail)
      go_ret2
      exact HN4.out _ HA2.out.none_
end Go.Proofs.Ytekafclhddhnpaa
