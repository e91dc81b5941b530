/- A number's bytes by the document; bytes cloned, bytes compared. -/
import Derived.Test.YtlpdpbhnfhihjaaGreatLp
import Derived.Laws.AppendOwnNone
import Derived.Laws.BytesArg
namespace Go.Proofs.YtlpdpbhnfhihjaaGreat
open Go.RowKit

theorem be_rev_at {n x j : Nat} (h : j < n) : (be n x).reverse[n - 1 - j]? = (be n x)[j]? := by
  rw [List.getElem?_reverse (by rw [be_length]; omega), be_length]
  congr 1; omega

def lenOf' : Value → Nat
  | .slice _ n _ => n
  | _ => 0
def NumOut (w : World) (n x : Nat) (t0 t5 t6 : Value) (wr : World) : Prop :=
  ∃ k F, k ≤ n ∧ t6 = .int .i64 ((k : Nat) : Int) ∧ t0 = .int .u64 ((x / 256 ^ k : Nat) : Int) ∧ Sl wr F 5 1 t5 k ((be k x).reverse.map u8) ∧ Adv Nul w F wr
def NumBack (w : World) (n x : Nat) (t7 t8 : Value) (wr : World) : Prop :=
  ∃ i j F, i + j = n ∧ t8 = .int .i64 ((i : Nat) : Int) ∧ Sl wr F 5 1 t7 j (((be n x).take j).map u8) ∧ Adv Nul w F wr

set_option maxRecDepth 3000 in
set_option maxHeartbeats 1600000 in
theorem rnumber_any (x n : Nat) (w : World) (hx : x < 18446744073709551616) (hn : n ≤ 100) (hn0 : 0 < n) :
    Calls Tryz.prog 91 #[.int .u64 (x : Int), .int .i64 (n : Int)] w fun e w' => ∃ v F, e = .returned v ∧ Sl w' F 5 1 v n ((be n x).map u8) ∧ Adv Nul w F w' := by
  obtain ⟨i0, hi, hz0, hz1, hz2⟩ := info_parts Tryz.infoU8
  have hnI : (n : Int) ≤ 100 := by omega
  have HX := Lib.hid hx
  have HN0 := Lib.hid hn0
  have HN := Lib.hid hn
  clear hx hn hn0
  go_enter Tryz.func91, Tryz.ntmps91
  go_wp2_with fail
  go_loopw [0, 5, 6] (NumOut w n x) (fun _ _ t _ => n - (intOf t).toNat)
  case atStart => exact ⟨0, Nul, Nat.zero_le _, rfl, by simp, Sl.nil _ _ _, Adv.refl _ _⟩
  case round =>
    obtain ⟨k, F, hk, rfl, rfl, hS, hA⟩ := hrel
    obtain ⟨a5, c5, rfl, _, _⟩ := hS.form0
    have hown := hS.own
    have hy2 : x / 256 ^ k ≤ x := Nat.div_le_self _ _
    have hyn : x / 256 ^ (k + 1) = x / 256 ^ k / 256 := by rw [Nat.pow_succ, Nat.div_div_eq_div_mul]
    have hbn : (be (k + 1) x).reverse = (be k x).reverse ++ [x / 256 ^ k % 256] := by rw [be_cons, List.reverse_cons]
    obtain ⟨y, hy⟩ : ∃ y, y = x / 256 ^ k := ⟨_, rfl⟩
    rw [← hy] at hy2 hyn hbn ⊢
    have hyx : y < 18446744073709551616 := by have := HX.out; omega
    have HYN := Lib.hid hyn
    have HBN := Lib.hid hbn
    have HS := Lib.hid hS
    have HA := Lib.hid hA
    clear hS hA hy hy2 hyn hbn
    by_cases hlt : k < n
    · have hki : (k : Int) < (n : Int) := by omega
      have HLT := Lib.hid hlt
      clear hlt hk
      go_wp2_with (first
        | (at_builtin; refine wpList_append_own_at _ rfl (.tmp 14) (.tmp 18) 53 rfl 0 5 i0 (.int .u8 0) 1 1 Tryz.underlying53 hi hz0 hz1 hz2 rfl (by decide) (.slice a5 k c5) k _ rfl (hown.alloc _) ⟨wr.heap.size, 0, none⟩ 1 1 [_] rfl rfl (cell_one_new _ _ _) ?c2 ?c3 ?c4 (Nat.zero_le _) ?c5)
        | fail)
      case c2 => intro u hu; simp at hu; subst hu; rfl
      case c3 => have := HLT.out; have := HN.out; unfold maxLen; omega
      case c4 => have := HLT.out; have := HN.out; omega
      case c5 =>
        intro v' w1 hown1 hg1 _ hat1
        obtain ⟨h1, h2⟩ := one_grown HS.out HA.out hown1 hg1 hat1 (by omega)
        obtain ⟨a6, c6, rfl, _, _⟩ := h1.form0
        have H1 := Lib.hid h1
        have H2 := Lib.hid h2
        clear h1 h2 hown1 hg1 hat1 hown
        go_wp2
        have hlt := HLT.out
        refine ⟨⟨k + 1, _, by omega, by go_num, by rw [HYN.out]; go_num, ?_, H2.out⟩, by simp [intOf]; omega⟩
        have h := H1.out
        simp only [HBN.out, List.map_append, List.map_cons, List.map_nil, List.map_reverse]
        exact h
    · obtain rfl : k = n := by omega
      obtain ⟨go, co, eo, _, _⟩ := HS.out.form HN0.out
      injection eo with e1 e2 e3
      subst e1
      clear e2 e3 hown hlt hk hyx
      go_wp2_with fail
      obtain ⟨wm, rfl⟩ : ∃ wm, wm = wr := ⟨_, rfl⟩
      go_loopw [7, 8] (NumBack wm k x) (fun _ t _ => (intOf t).toNat)
      case atStart => exact ⟨k, 0, Nul, rfl, rfl, Sl.nil _ _ _, Adv.refl _ _⟩
      case round =>
        obtain ⟨i, j, G, hij, rfl, hG, hB⟩ := hrel
        obtain ⟨a7, c7, rfl, _, _⟩ := hG.form0
        have hown := hG.own
        have HG := Lib.hid hG
        have HB := Lib.hid hB
        have HIJ := Lib.hid hij
        clear hG hB hij
        by_cases hlt : 0 < i
        · have hjn : j < k := by have := HIJ.out; omega
          have hat : (be k x)[j]'(by rw [be_length]; omega) = (be k x)[j]'(by rw [be_length]; omega) := rfl
          obtain ⟨z, hz⟩ : ∃ z, z = (be k x)[j]'(by rw [be_length]; omega) := ⟨_, rfl⟩
          have hrd := HS.out.rd.below HB.out.toBelow (fun _ _ _ h => h)
          obtain ⟨bo, oo, eo, _, hc⟩ := hrd.cells HN0.out (by decide)
          injection eo with eo
          injection eo with e1 e2
          subst e1 e2
          have c1 : wr.cell? ⟨go, i - 1, none⟩ = some (.int .u8 (z : Int)) := by
            have h := hc (k - 1 - j) (u8 z) (by rw [List.getElem?_map, be_rev_at hjn, List.getElem?_eq_getElem (by rw [be_length]; omega), ← hz]; rfl)
            rw [Nat.zero_add, show k - 1 - j = i - 1 by have := HIJ.out; omega] at h
            exact h
          have hbn : (be k x).take (j + 1) = (be k x).take j ++ [z] := by rw [List.take_succ_eq_append_getElem (by rw [be_length]; omega), hz]
          have HBN := Lib.hid hbn
          have HLT := Lib.hid hlt
          have hiI : (0 : Int) < (i : Int) := by omega
          have hikI : (i : Int) ≤ (k : Int) := by have := HIJ.out; omega
          have HJN := Lib.hid hjn
          clear hat hz hrd hc hbn hlt hjn
          go_wp2_with (first
            | (at_builtin; refine wpList_append_own_at _ rfl (.tmp 27) (.tmp 33) 53 rfl 0 5 i0 (.int .u8 0) 1 1 Tryz.underlying53 hi hz0 hz1 hz2 rfl (by decide) (.slice a7 j c7) j _ rfl (hown.alloc _) ⟨wr.heap.size, 0, none⟩ 1 1 [_] rfl rfl (cell_one_new _ _ _) ?d2 ?d3 ?d4 (Nat.zero_le _) ?d5)
            | fail)
          case d2 => first | rfl | (intro u hu; simp at hu; subst hu; rfl)
          case d3 => have := HJN.out; have := HN.out; unfold maxLen; omega
          case d4 => have := HJN.out; have := HN.out; omega
          case d5 =>
            intro v' w1 hown1 hg1 _ hat1
            obtain ⟨h1, h2⟩ := one_grown HG.out HB.out hown1 hg1 hat1 (by omega)
            obtain ⟨a6, c6, rfl, _, _⟩ := h1.form0
            have H1 := Lib.hid h1
            have H2 := Lib.hid h2
            clear h1 h2 hown1 hg1 hat1 hown
            go_wp2
            have hlt := HLT.out
            refine ⟨⟨i - 1, j + 1, _, by have := HIJ.out; omega, by simp; omega, ?_, H2.out⟩, by simp [intOf]; omega⟩
            have h := H1.out
            simp only [HBN.out, List.map_append, List.map_cons, List.map_nil, List.map_take]
            exact h
        · obtain rfl : i = 0 := by omega
          obtain rfl : j = k := by have := HIJ.out; omega
          clear hlt
          go_wp2_with fail
          go_ret
          have h := HG.out
          rw [List.take_of_length_le (by rw [be_length]; omega)] at h
          have hA := HA.out.trans (HB.out.weak (fun _ h => h.elim))
          first
            | exact ⟨_, G, rfl, h, hA⟩
            | exact ⟨_, rfl, G, h, hA⟩
end Go.Proofs.YtlpdpbhnfhihjaaGreat
