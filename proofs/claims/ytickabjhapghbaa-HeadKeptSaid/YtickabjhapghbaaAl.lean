/- Whether a disk's sectors, and what waits, are the document's. -/
import Derived.Test.YtickabjhapghbaaRkE
namespace Go.Proofs.Ytickabjhapghbaa
open Go.RowKit

def AlA (w : World) (N : Nat) (t4 t : Value) (wr : World) : Prop := ∃ k j : Nat, t4 = .bool false ∧ t = .int .i64 (k : Int) ∧ k ≤ N ∧ wr = w.drewN j
def AlB (w : World) (n : Nat) (t4 t : Value) (wr : World) : Prop := ∃ k : Nat, t4 = .bool false ∧ t = .int .i64 (k : Int) ∧ k ≤ n ∧ Adv Nul w Nul wr

set_option maxRecDepth 3000 in
set_option maxHeartbeats 1600000 in
theorem alike_any (d c n : Nat) (F G : Nat → Prop) (s : DS) (w : World) (hd : Dk w F d n s) (hc : Rk w G c n s) (hq : s.Q.length ≤ 1000000) (hn : n ≤ 4096) :
    Calls Try.prog 25 #[.pointer (some ⟨d, 0, none⟩), .pointer (some ⟨c, 0, none⟩)] w fun e w' => e = .returned (.bool true) ∧ Adv Nul w Nul w' := by
  have HD := Lib.hid hd
  have HC := Lib.hid hc
  have HQ := Lib.hid hq
  have HN := Lib.hid hn
  obtain ⟨N, hN⟩ : ∃ N, N = s.Q.length := ⟨_, rfl⟩
  have HNN := Lib.hid hN
  have hNI : (N : Int) ≤ 1000000 := by omega
  have hnI : (n : Int) ≤ 4096 := by omega
  clear hd hc hq hn hN
  go_enter Try.func25, Try.ntmps25
  go_wp2_with fail
  refine (waits_dk d n F s w HD.out HQ.out).mono ?_
  rintro e w1 ⟨z, rfl, hs, ha⟩
  rw [← HNN.out] at hs ⊢
  have hA1 : Adv Nul w Nul w1 := ha.sub (fun _ h => h.elim)
  have HD1 := Lib.hid (HD.out.far hA1 (fun _ h _ => h))
  have hC1 := HC.out.far hA1 (fun _ h _ => h)
  obtain ⟨vL, vQ, ls, ps, hR⟩ := hC1
  obtain ⟨aL, cL, rfl, _, _⟩ := hR.l.form0
  obtain ⟨aQ, cQ, rfl, _, _⟩ := hR.q.form0
  have c0 := hR.c0
  have c1 := hR.c1
  rw [← HNN.out] at c1
  have HS := Lib.hid hs
  have HR := Lib.hid hR
  have HA1 := Lib.hid hA1
  clear hs ha hA1 hR
  go_wp2_with fail
  go_loopw [4, 6] (AlA w1 N) (fun _ t _ => N - (intOf t).toNat)
  case atStart => exact ⟨0, 0, rfl, rfl, Nat.zero_le _, rfl⟩
  case round =>
    obtain ⟨k, j, rfl, rfl, hk, rfl⟩ := hrel
    by_cases hlt : k < N
    · have hlq : k < s.Q.length := by rw [← HNN.out]; exact hlt
      obtain ⟨gQ, cQ', v, e, kA, _, _, _, _⟩ := HR.out.qat hlq
      injection e with e1 _ e3
      subst e1 e3
      have kW : w1.cell? ⟨z, k, none⟩ = some (.int .i64 ((s.Q.getD k (0, [])).1 : Int)) := by
        rw [HS.out.own.cellAt k (by omega), List.getElem?_map, List.getD_eq_getElem?_getD, List.getElem?_eq_getElem hlq]; rfl
      obtain ⟨a, ha⟩ : ∃ a, a = (s.Q.getD k (0, [])).1 := ⟨_, rfl⟩
      rw [← ha] at kA kW
      have hki : (k : Int) < (N : Int) := by omega
      have HLT := Lib.hid hlt
      clear hlq ha hlt hk
      go_wp2_with fail
      go_quiet (fail)
      go_wp2_with fail
      have hlt := HLT.out
      exact ⟨⟨k + 1, _, rfl, by go_num, by omega, rfl⟩, by simp [intOf]; omega⟩
    · obtain rfl : k = N := by omega
      have HW := Lib.hid (HA1.out.drewN j)
      obtain ⟨w2, hw2⟩ : ∃ w2, w2 = w1.drewN j := ⟨_, rfl⟩
      have HD2 := Lib.hid (show Dk w2 F d n s by rw [hw2]; exact HD1.out.far ((Adv.refl Nul w1).drewN j) (fun _ h _ => h))
      have HR2 := Lib.hid (show RkI w2 G c n (.slice aL n cL) (.slice aQ s.Q.length cQ) ls ps s by rw [hw2]; exact HR.out.far ((Adv.refl Nul w1).drewN j) (fun _ h _ => h))
      have HA2 := Lib.hid (show Adv Nul w Nul w2 by rw [hw2]; exact HW.out)
      clear hlt hk
      go_wp2_with fail
      rw [← hw2]
      clear hw2 c0 c1
      go_loopw [4, 7] (AlB w2 n) (fun _ t _ => n - (intOf t).toNat)
      case atStart => exact ⟨0, rfl, rfl, Nat.zero_le _, Adv.refl _ _⟩
      case round =>
        obtain ⟨i, rfl, rfl, hi, ha⟩ := hrel
        have hr := HR2.out.far ha (fun _ h _ => h)
        have c0 := hr.c0
        have HRI := Lib.hid hr
        have HDI := Lib.hid (HD2.out.far ha (fun _ h _ => h))
        have HAI := Lib.hid ha
        clear hr ha
        by_cases hlt : i < n
        · have hii : (i : Int) < (n : Int) := by omega
          have HLT := Lib.hid hlt
          clear hlt hi
          go_wp2_with (first
            | (go_at_call 16; refine (read_dk d n F s i _ HDI.out HLT.out).mono ?_; rintro e w3 ⟨z3, rfl, h3, l3, a3⟩; have HZ3 := Lib.hid (h3.rd8 l3); have HA3 := Lib.hid (a3.sub (G := Nul) (fun _ h => h.elim)); clear h3 l3 a3)
            | (go_at_call 46; refine (ris_r c n i G s _ ⟨_, _, _, _, HRI.out.far HA3.out (fun _ h _ => h)⟩ HLT.out HQ.out).mono ?_; rintro e w4 ⟨v4, rfl, h4, rfl⟩; have H4 := Lib.hid h4.rd; clear h4)
            | (go_at_call 18; refine (same_eq _ _ 128 _ _ HZ3.out H4.out).mono ?_; rintro e w4 ⟨rfl, n4, rfl⟩)
            | fail)
          have hlt := HLT.out
          exact ⟨⟨i + 1, rfl, by go_num, by omega, (HAI.out.trans HA3.out).drewN n4⟩, by simp [intOf]; omega⟩
        · obtain rfl : i = n := by omega
          clear hlt hi
          go_wp2_with fail
          go_ret
          exact ⟨rfl, HA2.out.trans HAI.out⟩
end Go.Proofs.Ytickabjhapghbaa
