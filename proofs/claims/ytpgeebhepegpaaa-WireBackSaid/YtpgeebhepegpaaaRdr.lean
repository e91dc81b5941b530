/- The document's own reader: Of, Number, Left, End, Get. -/
import Derived.Test.YtpgeebhepegpaaaRdrM
import Derived.Test.YtpgeebhepegpaaaR01
import Derived.Laws.IdiomStrings
import Derived.Laws.BytesArg
namespace Go.Proofs.Ytpgeebhepegpaaa
open Go.RowKit

def NumRelB (l : List Nat) (m : Nat) (t3 t4 : Value) : Prop :=
  ∃ k x : Nat, k ≤ m ∧ t4 = .int .i64 (k : Int) ∧ t3 = .int .u64 (x : Int) ∧ nval (l.take k) = x

theorem u64_dbl (x b : Nat) (h : x * 2 + b < 18446744073709551616) : IntKind.u64.wrap (IntKind.u64.wrap ((x : Int) * 2) + (b : Int)) = ((x * 2 + b : Nat) : Int) := by
  rw [IntKind.wrap_u64, IntKind.wrap_u64]; omega

set_option maxRecDepth 3000 in
set_option maxHeartbeats 400000 in
theorem numberB_any (v : Value) (l : List Nat) (N m : Nat) (w : World) (hv : Rd w 1 v m (l.map u8)) (hl : Bl l N m) (hm : m ≤ 64) :
    Calls Try.prog 81 #[v] w fun e w' => e = .returned (.int .u64 ((N : Nat) : Int)) ∧ w = w' := by
  obtain ⟨A, c, rfl, _, hcm⟩ := hv.form
  unfold maxLen at hcm
  have HV := Lib.hid hv
  have HL := Lib.hid hl
  clear hv hl
  go_enter Try.func81, Try.ntmps81
  go_wp2_with fail
  go_loop [3, 4] (NumRelB l m) (fun _ t => m - (intOf t).toNat)
  case atStart => exact ⟨0, 0, Nat.zero_le _, rfl, rfl, rfl⟩
  case round =>
    obtain ⟨k, x, hk, rfl, rfl, hx⟩ := hrel
    have HX := Lib.hid hx
    clear hx
    by_cases hlt : k < m
    · obtain ⟨g, o, rfl, _, hc⟩ := HV.out.cells (by omega) (by decide)
      have hll := HL.out.len
      have hkl : k < l.length := by omega
      have hb := HL.out.bit _ (List.getElem_mem hkl)
      have c1 : w.cell? ⟨g, o + k, none⟩ = some (.int .u8 (l[k] : Int)) := hc k _ (by rw [List.getElem?_map, List.getElem?_eq_getElem hkl]; rfl)
      have hxl : x < 2 ^ 63 := by
        have h1 := nval_lt (l.take k) (fun b hb => HL.out.bit b (List.mem_of_mem_take hb))
        rw [HX.out] at h1
        have h2 : 2 ^ (l.take k).length ≤ 2 ^ 63 := Nat.pow_le_pow_right (by decide) (by simp; omega)
        omega
      have ht : nval (l.take (k + 1)) = x * 2 + l[k] := by rw [List.take_succ_eq_append_getElem hkl, nval_snoc, HX.out]
      obtain ⟨b, hbe⟩ : ∃ b, b = l[k] := ⟨_, rfl⟩
      rw [← hbe] at c1 hb ht
      have hxb : x * 2 + b < 18446744073709551616 := by omega
      have HT := Lib.hid ht
      clear hc ht hbe hkl hll
      go_wp2
      exact ⟨⟨k + 1, _, by omega, by go_num, by go_num, HT.out⟩, by simp [intOf]; omega⟩
    · obtain rfl : k = m := by omega
      have e : x = N := by rw [← HX.out, List.take_of_length_le (by have := HL.out.len; omega), HL.out.val]
      have HE := Lib.hid e
      clear e
      go_wp2
      go_ret
      rw [HE.out]
      exact ⟨rfl, rfl⟩

def OfRel (w : World) (l : List Nat) (t3 t4 : Value) (wr : World) : Prop :=
  ∃ k bl F, t4 = .int .i64 ((k : Nat) : Int) ∧ k ≤ l.length ∧ Bl bl (byN (l.take k)) (8 * k) ∧ Sl wr F 5 1 t3 (8 * k) (bl.map u8) ∧ Adv Nul w F wr

set_option maxRecDepth 3000 in
set_option maxHeartbeats 1000000 in
theorem of_big (v : Value) (m : Nat) (l : List Nat) (w : World) (h : InN w v m l) (hm : m ≤ 100000) :
    Calls Try.prog 52 #[v] w fun e w' => ∃ v' F bl, e = .returned v' ∧ Sl w' F 5 1 v' (8 * m) (bl.map u8) ∧ Bl bl (byN l) (8 * m) ∧ Adv Nul w F w' := by
  obtain ⟨A, c, rfl, _, hcm⟩ := h.rd.form
  unfold maxLen at hcm
  have HH := Lib.hid h
  clear h
  go_enter Try.func52, Try.ntmps52
  go_wp2_with fail
  go_loopw [3, 4] (OfRel w l) (fun _ t _ => m - (intOf t).toNat)
  case atStart => exact ⟨0, [], Nul, rfl, Nat.zero_le _, Bl.nil, Sl.nil _ _ _, Adv.refl _ _⟩
  case round =>
    obtain ⟨k, bl, F, rfl, hk, hbl, hS, hA⟩ := hrel
    obtain ⟨a3, c3, rfl, _, _⟩ := hS.form0
    have HS := Lib.hid hS
    have HA := Lib.hid hA
    have HBL := Lib.hid hbl
    clear hS hA hbl
    have hml := HH.out.len
    by_cases hlt : k < m
    · have hkl : k < l.length := by omega
      obtain ⟨g, o, c', e, _, hc⟩ := (HH.out.far HA.out.toBelow).at8 hkl
      injection e with e1 e2 e3
      subst e1
      clear e2 e3
      have c1 := hc k hkl
      obtain ⟨x, hx⟩ : ∃ x, x = l[k] := ⟨_, rfl⟩
      have hx256 : x < 256 := by rw [hx]; exact HH.out.lt _ (List.getElem_mem _)
      have hnx : byN (l.take (k + 1)) = byN (l.take k) * 256 + x := by rw [List.take_succ_eq_append_getElem hkl, byN_snoc, hx]
      rw [← hx] at c1
      have HNX := Lib.hid hnx
      have HKL := Lib.hid hkl
      clear hc hx hnx hk hml hkl
      go_wp2_with (first
        | (go_at_call 42; refine (bits_any x 8 _ hx256 (by decide)).mono ?_; rintro e w2 ⟨v2, rfl, F2, l2, h2, hb2, a2⟩; obtain ⟨g2, c2, rfl, _, _⟩ := h2.form (by decide); have hS2 := HS.out.far a2 (fun _ h _ => h))
        | (at_builtin; refine wpList_append_rd rfl (.tmp 11) (.tmp 17) rfl rfl rfl hS2.own h2.rd (u8_one _) ?c3 ?c5)
        | fail)
      case c3 => omega
      case c5 =>
        intro v' w3 hown1 hg1 hat1
        obtain ⟨h3, _, a3⟩ := own_grown hS2 ((HA.out.trans (a2.same (F := Nul) (fun _ x => x.elim)))) hown1 hg1 hat1 (Nat.le_refl _)
        have H3 := Lib.hid h3
        have A3 := Lib.hid a3
        have HB2 := Lib.hid hb2
        clear h3 a3 hown1 hg1 hat1 hS2 h2 hb2 a2
        go_wp2
        refine ⟨⟨k + 1, bl ++ l2, _, by simp, HKL.out, ?_, ?_, A3.out⟩, by simp [intOf] <;> omega⟩
        · have h := HBL.out.append HB2.out
          rw [HNX.out]
          exact h
        · rw [List.map_append]
          exact H3.out
    · obtain rfl : k = m := by omega
      have HML := Lib.hid hml
      clear hk hml
      go_wp2
      go_ret
      have h := HBL.out
      rw [List.take_of_length_le (by rw [← HML.out]; omega)] at h
      exact ⟨_, F, bl, rfl, HS.out, h, HA.out⟩
theorem of_any (v : Value) (m : Nat) (l : List Nat) (w : World) (h : InN w v m l) (hm : m ≤ 1000) :
    Calls Try.prog 52 #[v] w fun e w' => ∃ v' F bl, e = .returned v' ∧ Sl w' F 5 1 v' (8 * m) (bl.map u8) ∧ Bl bl (byN l) (8 * m) ∧ Adv Nul w F w' :=
  of_big v m l w h (by omega)

end Go.Proofs.Ytpgeebhepegpaaa
