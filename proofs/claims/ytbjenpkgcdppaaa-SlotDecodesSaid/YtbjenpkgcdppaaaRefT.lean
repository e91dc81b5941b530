/- The document's own answers: Text, Same. -/
import Derived.Test.YtbjenpkgcdppaaaFits
import Derived.Test.YtbjenpkgcdppaaaBackM
namespace Go.Proofs.Ytbjenpkgcdppaaa
open Go.RowKit

theorem bits_int (x : Nat) (y n : Int) (w : World) (hy : y = (x : Int)) (hn0 : 0 ≤ n) (hx : x < 2 ^ n.toNat) (hn : n ≤ 64) :
    Calls Try.prog 26 #[.int .u64 y, .int .i64 n] w fun e w' => ∃ v, e = .returned v ∧ ∃ F l, Sl w' F 5 1 v n.toNat (l.map u8) ∧ Bl l x n.toNat ∧ Adv Nul w F w' := by
  obtain ⟨k, rfl⟩ := Int.eq_ofNat_of_zero_le hn0
  subst hy
  exact bits_any x k w hx (by omega)

def RTextRel (w : World) (s : ByteArray) (t3 t4 : Value) (wr : World) : Prop :=
  ∃ k l F, t4 = .int .i64 ((k : Nat) : Int) ∧ k ≤ s.size ∧ Bl l (tx s.size (s.data.toList.take k)) (16 + 8 * k) ∧ Sl wr F 5 1 t3 (16 + 8 * k) (l.map u8) ∧ Adv Nul w F wr

theorem sl_news {w : World} {F : Nat → Prop} {g c n : Nat} {xs : List Value} (h : Sl w F 5 1 (.slice (some ⟨g, 0, none⟩) n c) n xs) : ∀ j u, xs[j]? = some u → w.cell? ((⟨g, 0, none⟩ : Addr).add j) = some u := h.own.cells (g := g) rfl

set_option maxRecDepth 3000 in
set_option maxHeartbeats 1000000 in
theorem reftext_any (s : ByteArray) (w : World) (hs : s.size ≤ 65535) :
    Calls Try.prog 27 #[.string s] w fun e w' => ∃ v, e = .returned v ∧ ∃ F l, Sl w' F 5 1 v (16 + 8 * s.size) (l.map u8) ∧ Bl l (tx s.size s.data.toList) (16 + 8 * s.size) ∧ Adv Nul w F w' := by
  obtain ⟨i0, hi, hz0, hz1, hz2⟩ := info_parts Try.infoU8
  go_enter Try.func27, Try.ntmps27
  go_wp2_with (first
    | (go_at_call 26; refine (bits_int s.size _ _ _ rfl (by decide) (by simp; omega) (by decide)).mono ?_; rintro e w1 ⟨v1, rfl, F1, l1, h1, hb1, a1⟩; obtain ⟨p1, c1, rfl, _, _⟩ := h1.form0))
  have H0 : RTextRel w s (.slice p1 (16 : Int).toNat c1) (.int .i64 0) w1 := ⟨0, l1, F1, rfl, Nat.zero_le _, by simpa [tx] using hb1, h1, a1⟩
  have HH := Lib.hid H0
  clear H0 h1 hb1 a1
  go_loopw [3, 4] (RTextRel w s) (fun _ t _ => s.size - (intOf t).toNat)
  case atStart => exact HH.out
  case round =>
    clear HH
    obtain ⟨k, l, F, rfl, hk, hl, hS, hA⟩ := hrel
    obtain ⟨a5, c5, rfl, _, _⟩ := hS.form0
    have HS := Lib.hid hS
    have HA := Lib.hid hA
    have HL := Lib.hid hl
    clear hS hA hl
    by_cases hlt : k < s.size
    · have hu : s[k].toNat < 256 := s[k].toNat_lt
      go_wp2_with (first
        | (go_at_call 26; refine (bits_int s[k].toNat _ _ _ rfl (by decide) (by simp; omega) (by decide)).mono ?_; rintro e w2 ⟨v2, rfl, F2, l2, h2, hb2, a2⟩; obtain ⟨g2, c2, rfl, _, _⟩ := h2.form (by decide); have hS2 := HS.out.far a2 (fun _ h _ => h))
        | (at_builtin; refine wpList_append_own_at _ rfl (.tmp 15) (.tmp 20) 30 rfl 0 5 i0 (.int .u8 0) 1 1 Try.underlying30 hi hz0 hz1 hz2 rfl (by decide) (.slice a5 (16 + 8 * k) c5) (16 + 8 * k) _ rfl hS2.own ⟨g2, 0, none⟩ (8 : Int).toNat c2 (l2.map u8) rfl h2.own.1 (sl_news h2) (u8_one _) ?c3 ?c4 (Nat.zero_le _) ?c5)
        | fail)
      case c3 => unfold maxLen; simp; omega
      case c4 => simp; omega
      case c5 =>
        intro v' w3 hown1 hg1 _ hat1
        obtain ⟨h3, _, a3⟩ := own_grown hS2 (HA.out.over a2) hown1 hg1 hat1 (Nat.le_refl _)
        have H3 := Lib.hid h3
        have A3 := Lib.hid a3
        have HB2 := Lib.hid hb2
        clear h3 a3 hown1 hg1 hat1 hS2 h2 hb2 a2
        go_wp2
        refine ⟨⟨k + 1, l ++ l2, _, by simp, by omega, ?_, ?_, A3.out⟩, by simp [intOf] <;> omega⟩
        · have h := HL.out.append HB2.out
          rw [take_snoc s k hlt, tx_snoc]
          exact h
        · rw [List.map_append]
          exact H3.out
    · obtain rfl : k = s.size := by omega
      go_wp2
      go_ret
      have h := HL.out
      rw [List.take_of_length_le (by simp)] at h
      exact ⟨_, rfl, F, l, HS.out, h, HA.out⟩
end Go.Proofs.Ytbjenpkgcdppaaa
