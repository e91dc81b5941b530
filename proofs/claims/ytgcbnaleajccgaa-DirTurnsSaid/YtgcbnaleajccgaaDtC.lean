/- The program's Put. -/
import Derived.Test.YtgcbnaleajccgaaDtB
namespace Go.Proofs.Ytgcbnaleajccgaa
open Go.ChangeShapes Go.WideShapes Go.ChangeAt Go.RowKit

theorem EnO.since {W V w : World} {l : List En} {v : Value} (h : EnO V l v w) (a : Adv Nul W Nul V) : EnO W l v w := by
  obtain ⟨F, h1, h2⟩ := h.ex
  exact ⟨⟨F, h1, a.trans h2⟩, h.sz⟩
theorem run_append_fresh {w : World} {ty : TypeId} {A : Option Addr} {p : Nat} {l m : List En} {src : Value} (h : EnR w (.slice A p p) l) (hp : p = l.length) (hr : EnR w src m) (hm : 0 < m.length) (hn : l.length + m.length ≤ 1000000) :
    ∃ v' w', (Builtin.append_ #[22, 22] ty #[.slice A p p, src]).run Try.prog w = .ok v' w' ∧ EnO w (l ++ m) v' w' := by
  subst hp
  have hsz : ∀ e ∈ l ++ m, e.s.size ≤ maxLen := fun e he => by
    rcases List.mem_append.1 he with h' | h'
    · exact h.sz e h'
    · exact hr.sz e h'
  obtain ⟨A', k, e, a1, a2, a3, a4, a5⟩ := h.rd
  injection e with e1 _ e3
  subst e1 e3
  rcases A with _ | ad
  · have h0 : l.length = 0 := a4 rfl
    obtain rfl : l = [] := List.eq_nil_of_length_eq_zero h0
    have hmore := (EnO.nil w).more (m := m) hr.sz
    obtain ⟨v', w', hrun, h2, h3, h4⟩ := run_append_en (ty := ty) (n := 0) (World.ownsRow_nil w 0 46 4) hr.rd (ecs_one m) (by simpa using hn)
    exact ⟨v', w', hrun, hmore.2 w v' w' (Adv.refl _ _) (by simpa [ecs] using h2) h3 h4⟩
  · obtain ⟨i0, hi, hz0, hz1, hz2⟩ := info_parts infoEntry
    obtain ⟨B, c, rfl, b1, b2, b3, b4, b5⟩ := hr.rd
    obtain ⟨bd, rfl, hbd, hbc⟩ := b5 hm
    have holds : ∀ j u, (ecs l)[j]? = some u → w.cell? (ad.add j) = some u := fun j u hu => by
      have hl : 0 < l.length := by
        have := (List.getElem?_eq_some_iff.1 hu).1
        rw [ecs_length] at this; omega
      obtain ⟨ad', e, _, hc⟩ := a5 hl
      obtain rfl := Option.some.inj e
      exact hc j u hu
    obtain ⟨v', w', hrun, h2, h3⟩ := run_append_arg_grows (P := Try.prog) (w := w) 22 ty 46 i0 _ 4 40 Try.underlying22 hi hz0 hz1 hz2 rfl (by decide) ad l.length l.length (ecs l) (ecs_length l) holds bd m.length c (ecs m) (ecs_length m) hbc (by omega) (by unfold maxLen; omega) (by omega)
    refine ⟨v', w', hrun, ⟨⟨fun k => v'.ownBlock = some k, ⟨?_, fun _ hk => hk, fun k hk => (h2.lt k hk).2⟩, ?_⟩, hsz⟩⟩
    · rw [List.length_append, ecs_append]
      exact ⟨h2.1, h2.2.imp (fun h => h) (fun ⟨g, cap, cur, q1, q2, q3⟩ => ⟨g, cap, cur, q1, Nat.zero_le _, q3⟩)⟩
    · have h5 := (Adv.refl Nul w).grown h3 (fun j hj => by cases hj)
      exact ⟨h5.os, h5.tape, h5.output, h5.size, h5.block, fun k hk => .inr (h2.lt k hk).1⟩
theorem wpList_append_fresh {w : World} {ops : Array Oper} {rest : List Oper} {o : Oper} {a : Act} {Q : Exit → Act → World → Prop} (hgd : o.guard = none) (s x : Operand)
    (ho : o.op = .call { callee := .builtin .append, args := #[s, x], argTypes := #[22, 22] })
    {A : Option Addr} {p : Nat} {l m : List En} {src : Value} (hs : a.eval s = .slice A p p) (hx : a.eval x = src) (h : EnR w (.slice A p p) l) (hp : p = l.length) (hr : EnR w src m) (hm : 0 < m.length) (hn : l.length + m.length ≤ 1000000)
    (hk : ∀ v' w', EnO w (l ++ m) v' w' → wpList Try.prog ops Q rest (a.put o.dst v') w') : wpList Try.prog ops Q (o :: rest) a w := by
  refine wpList_plain hgd fun K hK => ?_
  obtain ⟨v', w', hrun, h2⟩ := run_append_fresh (ty := o.type) h hp hr hm hn
  unfold Oper.wp execOp
  simp only [ho, resolve, invoke, builtin, Sem.run_bind, Sem.run_pure, Result.andThen_ok, List.map_toArray, List.map_cons, List.map_nil, hs, hx, hrun]
  exact hK _ _ (hk v' w' h2)
theorem enr_one (w : World) (e : En) (hs : e.s.size ≤ maxLen) : EnR (w.alloc (.cells (ea e) 46)) (.slice (some ⟨w.heap.size, 0, none⟩) 1 1) [e] :=
  ⟨by have := rd_one w e; rwa [← ecs_one_eq] at this, fun x hx => by rw [List.mem_singleton.1 hx]; exact hs⟩

set_option maxRecDepth 3000 in
set_option maxHeartbeats 3200000 in
theorem dput_any (v : Value) (l : List En) (e : En) (w : World) (h : EnR w v l) (hr : Ris l) (hl : l.length ≤ 1000) (hs : e.s.size ≤ maxLen) : Calls Try.prog 20 #[v, .agg (ea e)] w fun x w' => ∃ v', x = .returned v' ∧ EnO w (putL l e) v' w' := by
  obtain ⟨y, hy⟩ : ∃ y, y = w.heap.size := ⟨_, rfl⟩
  obtain ⟨V, hV⟩ : ∃ V, V = w.alloc (.cells (ea e) 46) := ⟨_, rfl⟩
  have HY := Lib.hid (show Blk V y 46 (ea e) by rw [hV, hy]; exact Blk.new _ _ _)
  have hVA : Adv Nul w Nul V := by rw [hV]; exact (Adv.refl _ _).alloc _
  have HVA := Lib.hid hVA
  have HAR := Lib.hid (around_any v l e.s V (h.step hVA) hr hl)
  have HLL := Lib.hid hl
  have HRI := Lib.hid hr
  have HV := Lib.hid hV
  have HYY := Lib.hid hy
  have HS := Lib.hid hs
  clear hV hy hVA h hr hl hs
  obtain ⟨s0, s1, s2, s3⟩ := HY.out.e4.all
  obtain ⟨s, i, g, k⟩ := e
  simp only at s0 s1 s2 s3 HAR
  go_enter Try.func20, Try.ntmps20
  go_upto_region 1 with (fail)
  rw [← HV.out, ← HYY.out]
  go_upto_region 2 with (first
    | (go_at_call 36; refine HAR.out.mono ?_; rintro x w2 ⟨⟨p, F, A1, A2, c2, hf, rfl, hfr, hbk, a2⟩⟩; have HF := Lib.hid hf; have HFR := Lib.hid hfr; have HBK := Lib.hid hbk; have HA2 := Lib.hid a2; clear hf hfr hbk a2)
    | fail)
  have hY2 := HY.out.keep (HA2.out.block y HY.out.lt (fun h => h))
  obtain ⟨s0, s1, s2, s3⟩ := hY2.e4.all
  simp only at s0 s1 s2 s3
  clear hY2
  have hA3 := (Adv.refl Nul w2).alloc (.cells (ea ⟨s, i, g, k⟩) 46)
  have hfr := HFR.out.step hA3
  have hone := enr_one w2 ⟨s, i, g, k⟩ HS.out
  have hpl : p = (l.take p).length := by rw [List.length_take, Nat.min_eq_left HF.out.le]
  have hln : (l.take p).length + 1 ≤ 1000000 := by rw [← hpl]; have := HF.out.le; have := HLL.out; omega
  have HA3 := Lib.hid hA3
  have HPL := Lib.hid hpl
  have HLN := Lib.hid hln
  clear hA3 hpl hln
  go_wp2_with (first
    | (at_builtin; refine wpList_append_fresh rfl (.tmp 14) (.tmp 16) rfl rfl rfl hfr HPL.out hone (Nat.one_pos) HLN.out ?c1)
    | fail)
  case c1 =>
    intro v3 w3 he3
    have HE3 := Lib.hid ((he3.since HA3.out).since HA2.out)
    have hbk := (HBK.out.step HA3.out).step he3.adv
    have hmore := HE3.out.more (m := bh l p F) hbk.sz
    have hown := hmore.1
    have hrd := hbk.rd
    have hlen : (l.take p ++ [(⟨s, i, g, k⟩ : En)]).length + (bh l p F).length ≤ 1000000 := by
      unfold bh
      simp only [List.length_append, List.length_take, List.length_drop, List.length_singleton]
      have := HLL.out
      have := HF.out.le
      split <;> omega
    have HMORE := Lib.hid hmore.2
    clear hfr hone he3 hmore hbk s0 s1 s2 s3
    go_wp2_with (first
      | (at_builtin; refine wpList_append_en rfl (.tmp 17) (.tmp 18) rfl rfl rfl hown hrd (ecs_one _) hlen ?c2)
      | fail)
    case c2 =>
      intro v4 w4 hown4 hg4 hat4
      have hp := HMORE.out w3 v4 w4 (Adv.refl _ _) (by rw [show (l.take p ++ [(⟨s, i, g, k⟩ : En)]).length = min p l.length + 1 by simp]; exact hown4) hg4 hat4
      have e : l.take p ++ [(⟨s, i, g, k⟩ : En)] ++ bh l p F = putL l ⟨s, i, g, k⟩ := by
        rw [HF.out.lo_eq, show bh l p F = hi s l from HF.out.hi_eq HRI.out]
        unfold putL; simp
      rw [e] at hp
      have HP := Lib.hid (hp.since HVA.out)
      clear hp hown4 hg4 hat4 hown hrd hlen e
      go_wp2_with fail
      go_ret
      exact ⟨_, rfl, HP.out⟩
end Go.Proofs.Ytgcbnaleajccgaa
