/- The document's own disk: New. -/
import Derived.Test.YtochmeibmjfnnaaRkC
import Derived.Test.YtochmeibmjfnnaaDkV
namespace Go.Proofs.Ytochmeibmjfnnaa
open Go.RowKit

set_option maxRecDepth 3000 in
theorem rflush_dk (c n : Nat) (G : Nat → Prop) (s : DS) (w : World) (h : Rk w G c n s) (hn : 0 < n) (hq : s.Q.length ≤ 1000000) :
    Calls Try.prog 27 #[.pointer (some ⟨c, 0, none⟩)] w fun e w' => e = .returned (.int .i64 (flushS s).2) ∧ Rk w' G c n (flushS s).1 ∧ Adv G w G w' := by
  unfold flushS
  cases hs : (stepS s).2 with
  | true =>
    simp only [if_true]
    exact rflush_ok c n G s w h hn hs hq
  | false =>
    simp only [Bool.false_eq_true, if_false]
    obtain ⟨vL, vQ, ls, ps, h⟩ := h
    have H := Lib.hid h
    have HS := Lib.hid hs
    clear h hs hn hq
    go_enter Try.func27, Try.ntmps27
    go_wp2_with (first
      | (go_at_call 33; refine (rstep_dk c n _ vQ ls ps G s _ H.out).mono ?_; rw [HS.out]; rintro e w1 ⟨rfl, h1, a1⟩; have H1 := Lib.hid h1; have A1 := Lib.hid a1; clear h1 a1)
      | fail)
    go_ret
    exact ⟨rfl, ⟨_, _, _, _, H1.out⟩, A1.out⟩

set_option maxRecDepth 3000 in
theorem rnew_bad (n : Int) (hn : n < 1 ∨ 4096 < n) (w : World) :
    Calls Try.prog 7 #[.int .i64 n] w fun e w' => e = .returned (.tuple #[.pointer none, .int .i64 2]) ∧ w = w' := by
  rcases hn with h1 | h1
  · go_enter Try.func7, Try.ntmps7
    go_wp2_with fail
    go_ret2
    exact ⟨rfl, rfl⟩
  · have h2 : (1 : Int) ≤ n := by omega
    go_enter Try.func7, Try.ntmps7
    go_wp2_with fail
    go_ret2
    exact ⟨rfl, rfl⟩

def zrow : List Nat := List.replicate 128 0
/-- The document's disk, while it is made. -/
structure Rn (w : World) (G : Nat → Prop) (c k : Nat) (vL : Value) (ls : List Value) : Prop where
  blk : Blk w c 62 #[vL, .slice none 0 0, .int .i64 (-1), .bool false]
  l : Sl w G 33 1 vL k ls
  rows : RowsR w G ls (List.replicate k zrow)
  inG : G c
theorem Rn.far {w w' : World} {F F' G : Nat → Prop} {c k : Nat} {vL : Value} {ls : List Value} (h : Rn w G c k vL ls) (ha : Adv F w F' w') (hs : Sep F G) : Rn w' G c k vL ls :=
  ⟨h.blk.keep (ha.far hs h.l.bd c h.inG), h.l.far ha hs, h.rows.mono (fun _ _ _ k => k.far ha hs), h.inG⟩
theorem Rn.weakN {w : World} {G U : Nat → Prop} {c k : Nat} {vL : Value} {ls : List Value} (h : Rn w G c k vL ls) (hU : ∀ k, G k → U k) (hb : Bd U w) : Rn w U c k vL ls := ⟨h.blk, h.l.weak hU hb, h.rows.mono (fun _ _ _ k => k.weak hU hb), hU _ h.inG⟩
theorem Rn.push {w w3 : World} {G : Nat → Prop} {c k m : Nat} {vL vL' v5 : Value} {ls : List Value} {o : Obj} (h : Rn w G c k vL ls) (h5 : Sl w G 5 1 v5 128 (zrow.map u8)) (hown : w3.ownsRow 0 33 1 vL' (k + 1) (ls ++ [v5])) (hg : (w.alloc o).grownBy w3 vL.ownBlock) (hat : vL'.ownBlock = vL.ownBlock ∨ vL'.ownBlock = some m) (hm : (w.alloc o).heap.size ≤ m) :
    w3.cell? ⟨c, 0, none⟩ = some vL ∧ w3.frozen? ⟨c, 0, none⟩ = false ∧ (∃ A k l, vL' = .slice A k l) ∧
    Rn (w3.setCell ⟨c, 0, none⟩ vL') (fun j => G j ∨ vL'.ownBlock = some j) c (k + 1) vL' (ls ++ [v5]) ∧ Adv G w (fun j => G j ∨ vL'.ownBlock = some j) (w3.setCell ⟨c, 0, none⟩ vL') := by
  have hA := (Adv.refl G w).alloc o
  have up : ∀ {e : TypeId} {size n : Nat} {v : Value} {xs : List Value}, Sl w G e size v n xs → Sl (w.alloc o) G e size v n xs := fun h => h.keepH (fun k hk => Below.heap_alloc _ _ _ (h.bd k hk)) (by simp)
  have hl := up h.l
  obtain ⟨g1, g2⟩ := sl_grown hl hown hg hat hm
  have hbc : Blk w3 c 62 #[vL, .slice none 0 0, .int .i64 (-1), .bool false] := (h.blk.alloc o).keep (hg.block c (h.blk.alloc o).lt (fun e => own_blk_ne hl.own (h.blk.alloc o) (by decide) e.symm))
  have oth : ∀ {n : Nat} {v : Value} {xs : List Value}, Sl w G 5 1 v n xs → Sl (w3.setCell ⟨c, 0, none⟩ vL') (fun j => G j ∨ vL'.ownBlock = some j) 5 1 v n xs := fun h => (((up h).grown_other hg hl.own (by decide)).weak (fun _ h => .inl h) g1.bd).setOther hbc (by decide) 0
  refine ⟨hbc.cell 0, hbc.frozen 0, ?_, ⟨hbc.set_ 0 vL', g1.setOther hbc (by decide) 0, ⟨by simp [h.rows.1], fun j hj => ?_⟩, .inl h.inG⟩, (hA.trans g2).setCell (.inl h.inG) _⟩
  · rcases hown.2 with ⟨rfl, _⟩ | ⟨_, _, _, rfl, _⟩ <;> exact ⟨_, _, _, rfl⟩
  · have hlk : ls.length = k := by have := h.rows.1; simpa using this
    rw [List.length_append, List.length_singleton] at hj
    refine ⟨zrow, ?_, by simp [zrow], ?_⟩
    · rw [List.getElem?_replicate, if_pos (by omega)]
    · by_cases hlt : j < ls.length
      · obtain ⟨r, k1, _, k3⟩ := h.rows.2 j hlt
        rw [List.getElem?_replicate, if_pos (by omega)] at k1
        injection k1 with k1
        rw [List.getElem_append_left hlt, k1]
        exact oth k3
      · have e : j = ls.length := by omega
        subst e
        rw [List.getElem_append_right (Nat.le_refl _)]
        simpa using oth h5

theorem Sl.up1 {w : World} {F : Nat → Prop} {e : TypeId} {size n : Nat} {v : Value} {xs : List Value} (h : Sl w F e size v n xs) (o : Obj) : Sl (w.alloc o) F e size v n xs := h.keepH (fun k hk => Below.heap_alloc _ _ _ (h.bd k hk)) (by simp)
theorem zrow_own {w : World} {z : Nat} (h : w.ownsRow 0 5 1 (.slice (some ⟨z, 0, none⟩) 128 128) 128 (List.replicate 128 (.int .u8 0))) : Sl w (fun j => j = z) 5 1 (.slice (some ⟨z, 0, none⟩) 128 128) 128 (zrow.map u8) := by
  have e : zrow.map u8 = List.replicate 128 (.int .u8 0) := by rw [zrow, List.map_replicate]; rfl
  rw [e]
  exact ⟨h, fun k hk => by simp [Value.ownBlock] at hk; exact hk.symm, fun k hk => by rw [hk]; exact (h.lt z rfl).2⟩

def RnRel (w : World) (c n : Nat) (t : Value) (wr : World) : Prop :=
  ∃ k G vL ls, t = .int .i64 ((k : Nat) : Int) ∧ k ≤ n ∧ Rn wr G c k vL ls ∧ Adv Nul w G wr

set_option maxRecDepth 3000 in
set_option maxHeartbeats 1600000 in
theorem rnew_r (n : Nat) (hn : 1 ≤ n) (hn2 : n ≤ 4096) (w : World) :
    Calls Try.prog 7 #[.int .i64 (n : Int)] w fun e w' => ∃ c G, e = .returned (.tuple #[.pointer (some ⟨c, 0, none⟩), .int .i64 0]) ∧ Rk w' G c n (newS n) ∧ Adv Nul w G w' := by
  obtain ⟨i0, hi, hz0, hz1, hz2⟩ := info_parts Try.infoU8
  have h1 : (1 : Int) ≤ (n : Int) := by omega
  have h2 : (n : Int) ≤ 4096 := by omega
  have HN2 := Lib.hid hn2
  have HN := Lib.hid hn
  have HI := Lib.hid hi
  have HZ0 := Lib.hid hz0
  have HZ1 := Lib.hid hz1
  have HZ2 := Lib.hid hz2
  clear hn hn2 hi hz0 hz1 hz2
  go_enter Try.func7, Try.ntmps7
  go_wp2_with fail
  obtain ⟨c, hc⟩ : ∃ c, c = w.heap.size := ⟨_, rfl⟩
  have hst : Rn (w.alloc (.cells #[.slice none 0 0, .slice none 0 0, .int .i64 (-1), .bool false] 62)) (fun k => k = c) c 0 (.slice none 0 0) [] := by
    rw [hc]
    exact ⟨Blk.new _ _ _, Sl.nilF _ _ (fun k hk => by subst hk; simp) _ _, ⟨rfl, fun k hk => absurd hk (by simp)⟩, rfl⟩
  have hadv : Adv Nul w (fun k => k = c) (w.alloc (.cells #[.slice none 0 0, .slice none 0 0, .int .i64 (-1), .bool false] 62)) :=
    ⟨rfl, rfl, rfl, by simp, fun k hk _ => Below.heap_alloc _ _ _ hk, fun k hk => .inr (by omega)⟩
  have HST := Lib.hid hst
  have HADV := Lib.hid hadv
  rw [← hc]
  clear hst hadv hc
  go_loopw [5] (RnRel w c n) (fun t _ => n - (intOf t).toNat)
  case atStart => exact ⟨0, _, _, _, rfl, Nat.zero_le _, HST.out, HADV.out⟩
  case round =>
    obtain ⟨k, G, vL, ls, rfl, hk, hr, ha⟩ := hrel
    obtain ⟨aL, cL, rfl, _, _⟩ := hr.l.form0
    have c0 := hr.blk.cell 0
    have HR := Lib.hid hr
    have HA := Lib.hid ha
    clear hr ha
    by_cases hlt : k < n
    · have hki : (k : Int) < (n : Int) := by omega
      have HLT := Lib.hid hlt
      clear hlt hk
      go_wp2_with (first
        | (at_make; refine wpList_make_full _ rfl _ _ 33 rfl 0 5 i0 (.int .u8 0) 1 Try.underlying33 HI.out HZ0.out HZ1.out .i64 .i64 _ _ 128 rfl rfl rfl rfl (by rw [HZ2.out]; decide) (by decide) (Nat.zero_le _) ?_; intro w1 hown hg; have hown2 := own_base hown; rw [made_one _ rfl] at hown2; have hadv : Adv Nul wr (fun j => j = wr.heap.size) w1 := ⟨hg.os, hg.tape, hg.output, hg.size, fun j hj _ => hg.block j hj (by simp), fun j hj => .inr (by rw [hj]; exact Nat.le_refl _)⟩; have hsl := zrow_own hown2; have ZR := Lib.hid hsl; have A1 := Lib.hid hadv; have c01 := (HR.out.far hadv (fun _ h _ => h)).blk.cell 0; clear hown hown2 hg hadv hsl)
        | (at_builtin; refine op_append_own rfl (.tmp 25) (.tmp 27) 59 33 rfl Try.underlying59 infoBytes rfl (by decide) rfl ((HR.out.far A1.out (fun _ h _ => h)).l.up1 _).own ⟨w1.heap.size, 0, none⟩ 1 1 rfl [_] rfl (cell_one_new _ _ _) (by intro u hu; simp at hu; subst hu; rfl) (by have := HLT.out; have := HN2.out; unfold maxLen; omega) (by have := HLT.out; have := HN2.out; omega) ?_; intro v' w3 hown hg hat; obtain ⟨k1, k2, ⟨A6, n6, c6, rfl⟩, k4, k5⟩ := ((HR.out.far A1.out (fun _ h _ => h)).weakN (U := fun j => G j ∨ j = wr.heap.size) (fun _ h => .inl h) (bd_or (A1.out.bd HR.out.l.bd) ZR.out.bd)).push (ZR.out.weak (fun _ h => .inr h) (bd_or (A1.out.bd HR.out.l.bd) ZR.out.bd)) hown hg hat (by simp); have K4 := Lib.hid k4; have K5 := Lib.hid ((HA.out.join A1.out).trans k5); clear k4 k5 hown hg hat)
        | fail)
      have hlt := HLT.out
      exact ⟨⟨k + 1, _, _, _, by simp, by omega, K4.out, K5.out⟩, by simp [intOf]; omega⟩
    · obtain rfl : k = n := by omega
      clear hlt hk
      go_wp2_with fail
      go_ret2
      refine ⟨c, G, rfl, ⟨_, _, ls, [], newS_ok k, HR.out.blk, HR.out.l, HR.out.rows, Sl.nilF _ _ HR.out.l.bd _ _, ⟨rfl, fun j hj => absurd hj (by simp)⟩, HR.out.inG⟩, HA.out⟩
end Go.Proofs.Ytochmeibmjfnnaa
