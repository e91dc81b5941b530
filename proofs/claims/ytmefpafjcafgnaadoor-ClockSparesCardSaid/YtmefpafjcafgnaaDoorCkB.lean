/- A set's places as a list. -/
import Derived.Test.YtmefpafjcafgnaaDoorCkA
import Derived.Test.YtmefpafjcafgnaaDoorSmI
import Derived.Test.YtmefpafjcafgnaaDoorOne
import Derived.Deep.DeepCutAuto
namespace Go.Proofs.YtmefpafjcafgnaaDoor
open Go.RowKit

def ints (L : List Nat) : List Value := L.map fun i => Value.int .i64 ((i : Nat) : Int)
/-- the list so far, the set that is left -/
def LsR (w : World) (x0 y : Nat) (t3 : Value) (wr : World) : Prop :=
  ∃ (x : Nat) (L : List Nat) (F : Nat → Prop), x < 18446744073709551616 ∧ L ++ bitsL x = bitsL x0 ∧ Blk wr y 53 #[.int .u64 (x : Int)] ∧ ¬ F y ∧ Sl wr F 3 1 t3 L.length (ints L) ∧ Adv Nul w (fun k => F k ∨ k = y) wr
def leftX (y : Nat) (wr : World) : Nat := match wr.heap[y]? with
  | some (.cells cs _ _) => match cs[0]? with
    | some (Value.int _ x) => (bitsL x.toNat).length
    | _ => 0
  | _ => 0
set_option maxRecDepth 3000 in
theorem left_x {w : World} {y x : Nat} (h : Blk w y 53 #[.int .u64 (x : Int)]) : leftX y w = (bitsL x).length := by
  unfold leftX
  rw [show w.heap[y]? = some (.cells #[.int .u64 (x : Int)] 53 (0, 0)) from h]
  rfl
set_option maxRecDepth 3000 in
theorem bitsL_drop (x : Nat) (h : x < 18446744073709551616) (h0 : x ≠ 0) : (bitsL (ddrop x (Lib.ctz 64 x))).length < (bitsL x).length := by
  rw [bitsL_step h0 h]; simp
set_option maxRecDepth 3000 in
theorem ints_push (L : List Nat) (i : Nat) : ints L ++ [.int .i64 (i : Int)] = ints (L ++ [i]) := by unfold ints; simp
set_option maxRecDepth 3000 in
theorem tz_new {w w' : World} {F : Nat → Prop} (h : Tz w) (a : Adv Nul w F w') : Tz w' := h.far a (fun e => e)
set_option maxRecDepth 3000 in
set_option maxHeartbeats 1600000 in
theorem list_any (x0 : Nat) (hx0 : x0 < 18446744073709551616) (w : World) (hT : Tz w) :
    Calls Tryd.prog 29 #[.int .u64 x0] w fun e w' => ∃ v F, e = .returned v ∧ Sl w' F 3 1 v (bitsL x0).length (ints (bitsL x0)) ∧ Adv Nul w F w' := by
  obtain ⟨i0, hi, hz0, hz1, hz2⟩ := info_parts infoInt7
  obtain ⟨y, hy⟩ : ∃ y, y = w.heap.size := ⟨_, rfl⟩
  obtain ⟨V, hV⟩ : ∃ V, V = w.alloc (.cells #[.int .u64 (x0 : Int)] 53) := ⟨_, rfl⟩
  have HY := Lib.hid (show Blk V y 53 #[.int .u64 (x0 : Int)] by rw [hV, hy]; exact Blk.new _ _ _)
  have HA := Lib.hid (show Adv Nul w (fun k => Nul k ∨ k = y) V by
    rw [hV, hy]
    refine Adv.new_ (Below.alloc (Below.refl _ _) (Nat.le_refl _) _) ?_
    rintro k (h | h)
    · exact h.elim
    · rw [h]; exact Nat.le_refl _)
  have HV := Lib.hid hV
  have HYY := Lib.hid hy
  have HT := Lib.hid hT
  have HX0 := Lib.hid hx0
  clear hV hy hT hx0
  go_enter Tryd.func29, Tryd.ntmps29
  go_upto_region 1 with (fail)
  rw [← HV.out, ← HYY.out]
  go_wp2_with fail
  go_loopw [3] (LsR w x0 y) (fun _ wr => leftX y wr)
  case atStart => exact ⟨x0, [], Nul, HX0.out, rfl, HY.out, fun e => e, Sl.nil _ _ _, HA.out⟩
  case round =>
    obtain ⟨x, L, F, hx, hL, hb, hF, hS, hA⟩ := hrel
    have c0 : wr.cell? ⟨y, 0, none⟩ = some (.int .u64 (x : Int)) := hb.cell 0
    have f0 : wr.frozen? ⟨y, 0, none⟩ = false := hb.frozen 0
    have HX := Lib.hid hx
    have HL := Lib.hid hL
    have HB := Lib.hid hb
    have HF := Lib.hid hF
    have HS := Lib.hid hS
    have HAR := Lib.hid hA
    by_cases h0 : x = 0
    · subst h0
      clear hx hL hb hF hS hA
      go_wp2_with fail
      go_ret
      refine ⟨_, F, rfl, ?_, ?_⟩
      · have e : L = bitsL x0 := by rw [← HL.out, bitsL_zero, List.append_nil]
        rw [← e]; exact HS.out
      · exact ⟨HAR.out.os, HAR.out.tape, HAR.out.output, HAR.out.size, HAR.out.block, fun k hk => HAR.out.into k (.inl hk)⟩
    · have HLS := Lib.hid (least_any x hx h0 wr (tz_new HT.out hA))
      have hst := bitsL_step h0 hx
      have hlt := bitsL_drop x hx h0
      have hc64 := (ctz_bit h0 hx).2.2
      have hleft := left_x hb
      obtain ⟨c, hc⟩ : ∃ c, c = Lib.ctz 64 x := ⟨_, rfl⟩
      rw [← hc] at HLS hst hlt hc64
      have HST := Lib.hid hst
      have HLT := Lib.hid hlt
      have HC := Lib.hid hc64
      have HLE := Lib.hid hleft
      obtain ⟨A3, c3, rfl, _, _⟩ := hS.form0
      have hown := hS.own
      have hle := bitsL_len x0
      have hll : L.length ≤ 64 := by rw [← hL] at hle; simp at hle; omega
      obtain ⟨n, hn⟩ : ∃ n, n = L.length := ⟨_, rfl⟩
      rw [← hn] at hown hll ⊢
      have HN := Lib.hid hn
      have hx0 : ((x : Int) == 0) = false := by simpa using h0
      have HD := Lib.hid (fun w1 (h1 : w1.cell? ⟨y, 0, none⟩ = some (.int .u64 (x : Int))) (h2 : w1.frozen? ⟨y, 0, none⟩ = false) => drop_any x c y 0 hx hc64 w1 h1 h2)
      have HI := Lib.hid (ints_push L c)
      clear hx hL hb hF hS hA hst hlt hc64 hleft hle hn h0 hc
      go_wp2_with (first
        | (go_at_call 27; refine HLS.out.mono ?_; rintro e w1 ⟨rfl, rfl⟩)
        | (at_builtin; refine wpList_append_own_at _ rfl (.tmp 9) (.tmp 11) 38 rfl 0 3 i0 (.int .i64 0) 1 8 Tryd.underlying38 hi hz0 hz1 hz2 rfl (by decide) (.slice A3 n c3) n _ rfl (hown.alloc _) ⟨wr.heap.size, 0, none⟩ 1 1 [.int .i64 c] rfl rfl (cell_one_new _ _ _) ?c2 ?c3 ?c4 (Nat.zero_le _) ?c5)
        | fail)
      case c2 => intro u hu; simp at hu; subst hu; rfl
      case c3 => unfold maxLen; omega
      case c4 => omega
      case c5 =>
        intro v' w1 hown1 hg1 _ hat1
        rw [HI.out, HN.out] at hown1
        have hS2 := HS.out
        rw [← HN.out] at hS2
        rw [← HN.out] at hown1
        obtain ⟨h3, a3⟩ := one_grownF hS2 hown1 hg1 hat1 (by omega)
        have hb1 := HB.out.keep (a3.block y HB.out.lt HF.out)
        have hF1 : ¬ (F y ∨ v'.ownBlock = some y) := fun e => by
          rcases a3.into y e with e | e
          · exact HF.out e
          · have := HB.out.lt; omega
        have h3' := h3
        have a4 := HAR.out.trans a3.beside
        have H3 := Lib.hid h3
        have A4 := Lib.hid a4
        have HB1 := Lib.hid hb1
        have HF1 := Lib.hid hF1
        clear h3 a3 h3' a4 hb1 hF1 hown1 hg1 hat1 hown hS2 c0 f0
        go_wp2_with (first
          | (go_at_call 32; refine (HD.out _ (HB1.out.cell 0) (HB1.out.frozen 0)).mono ?_; rintro e w2 ⟨rfl, k2, rfl⟩)
          | fail)
        refine ⟨⟨ddrop x c, L ++ [c], (fun j => F j ∨ v'.ownBlock = some j), ddrop_lt (n := 64) HX.out, ?_, ?_, HF1.out, ?_, ?_⟩, ?_⟩
        · rw [List.append_assoc, ← HL.out, HST.out]; rfl
        · exact (show Blk (w1.drewN k2) y _ _ from HB1.out).set_ 0 _
        · have e : (L ++ [c]).length = n + 1 := by rw [HN.out]; simp
          rw [e]
          exact H3.out.keep (adv_set w1 y 0 k2 _) (fun k h1 h2 => HF1.out (by rw [show k = y from h1] at h2; exact h2))
        · refine (A4.out.drewN k2).setCell (p := ⟨y, 0, none⟩) (.inr ?_) _
          rcases HAR.out.into y (.inr rfl) with e | e
          · exact e.elim
          · exact e
        · have e1 := left_x ((show Blk (w1.drewN k2) y 53 #[.int .u64 (x : Int)] from HB1.out).set_ 0 (.int .u64 (ddrop x c : Nat)))
          have e2 := HLE.out
          have e3 := HLT.out
          rw [e2]
          exact Nat.lt_of_le_of_lt (Nat.le_of_eq e1) e3
end Go.Proofs.YtmefpafjcafgnaaDoor
