/- A head's sector: the program's; its place. A head's sector: the document's. -/
import Derived.Test.YtochmeibmjfnnaaMgD
import Derived.Test.YtochmeibmjfnnaaMgB
import Derived.Test.YtochmeibmjfnnaaMgC
namespace Go.Proofs.Ytochmeibmjfnnaa
open Go.RowKit

def WrS (w : World) (F : Nat → Prop) (b : Nat) (ok : Prop) (N m : Nat) : Prop := (ok ∧ WSt w F b N m ∧ Bd F w) ∨ (¬ ok ∧ WErr w F b)
structure WE (V : World) (F : Nat → Prop) (b : Nat) (ok : Prop) (N m : Nat) (w : World) : Prop where
  ws : WrS w F b ok N m
  ad : Adv Nul V F w
section
variable {V w : World} {F : Nat → Prop} {b N m : Nat} {ok : Prop}
theorem WE.cells (h : WE V F b ok N m w) {y : Nat} {t : TypeId} {g t' f : Int} (hy : Blk V y t #[.int .u64 g, .int .u64 t', .int .u64 f]) :
    w.cell? ⟨y, 0, none⟩ = some (.int .u64 g) ∧ w.cell? ⟨y, 1, none⟩ = some (.int .u64 t') ∧ w.cell? ⟨y, 2, none⟩ = some (.int .u64 f) := Blk.three (hy.keep (h.ad.block y hy.lt (fun h => h)))
theorem WE.new (ha : Adv Nul V Nul w) : Calls Try.prog 40 #[] w fun e w' => ∃ b F, e = .returned (.pointer (some ⟨b, 0, none⟩)) ∧ WE V F b True 0 0 w' := by
  refine (new_any w).mono ?_
  rintro e w' ⟨b, F, rfl, h1, h2, h3⟩
  exact ⟨b, F, rfl, .inl ⟨trivial, h1, h3⟩, ha.trans h2⟩
theorem WE.put (h : WE V F b ok N m w) (x n : Nat) (hn : n ≤ 64) (hx : x < 18446744073709551616) (hm : m + n ≤ 1000000000) :
    Calls Try.prog 41 #[.pointer (some ⟨b, 0, none⟩), .int .u64 (x : Int), .int .i64 (n : Int)] w fun e w' => ∃ F', e = .returned (.pointer (some ⟨b, 0, none⟩)) ∧ WE V F' b (ok ∧ x < 2 ^ n) (N * 2 ^ n + x) (m + n) w' := by
  rcases h.ws with ⟨h1, h2, h3⟩ | ⟨h1, h2⟩
  · by_cases hx2 : x < 2 ^ n
    · refine (put_ok b N m x n F w h2 h3 hn hx2 hm).mono ?_
      rintro e w' ⟨rfl, F', k1, k2, k3⟩
      exact ⟨F', rfl, .inl ⟨⟨h1, hx2⟩, k1, k3⟩, h.ad.trans k2⟩
    · refine (put_bad b N m x n F w h2 h3 hx (.inr (.inr ⟨n, rfl, hn, Nat.le_of_not_lt hx2⟩))).mono ?_
      rintro e w' ⟨rfl, k1, k2⟩
      exact ⟨F, rfl, .inr ⟨fun h => hx2 h.2, k1⟩, h.ad.trans k2⟩
  · refine (put_err b x n F w h2).mono ?_
    rintro e w' ⟨rfl, rfl⟩
    exact ⟨F, rfl, .inr ⟨fun h => h1 h.1, h2⟩, h.ad⟩
theorem WE.done_ [Decidable ok] (h : WE V F b ok N m w) (hm : m ≤ 1000000000) :
    Calls Try.prog 42 #[.pointer (some ⟨b, 0, none⟩)] w fun e w' => ∃ A n k F', e = .returned (.tuple #[.slice A n k, .int .i64 (if ok then 0 else 2)]) ∧ (ok → n = qn m) ∧ (ok → Sl w' F' 5 1 (.slice A n k) n ((rowOf N m).map u8)) ∧ Adv Nul V F' w' := by
  rcases h.ws with ⟨h1, h2, h3⟩ | ⟨h1, h2⟩
  · refine (done_ok b N m F w h2 hm).mono ?_
    rintro e w' ⟨v, F', rfl, k1, k2⟩
    obtain ⟨A, k, rfl, _⟩ := k1.form0
    exact ⟨A, _, k, F', by rw [if_pos h1], fun _ => rfl, fun _ => k1, (h.ad.sub (fun _ x => x.elim)).trans k2⟩
  · refine (done_err b F w h2).mono ?_
    rintro e w' ⟨rfl, k2⟩
    exact ⟨none, 0, 0, Nul, by rw [if_neg h1], fun h => absurd h h1, fun h => absurd h h1, (h.ad.sub (fun _ x => x.elim)).trans k2⟩
end
/-- a head's sector in new memory, or none -/
def HsR (w : World) (e : Nat) (h : Hd) (x : Ending) (w' : World) : Prop :=
  ∃ A m k F, x = .returned (.tuple #[.slice A m k, .int .i64 (if hOk e h then 0 else 2)]) ∧ Adv Nul w F w' ∧ (hOk e h → m = 128 ∧ Sl w' F 5 1 (.slice A 128 k) 128 ((hSec e h).map u8)) ∧ (¬ hOk e h → A = none ∧ m = 0 ∧ k = 0)

theorem ret_int' {k : IntKind} {a b : Int} (h : a = b) : Ending.returned (.int k a) = .returned (.int k b) := by rw [h]
set_option maxRecDepth 3000 in
set_option maxHeartbeats 1600000 in
theorem place_any (g t f : Nat) (w : World) : Calls Try.prog 24 #[.agg #[.int .u64 (g : Int), .int .u64 (t : Int), .int .u64 (f : Int)]] w fun x w' => x = .returned (.int .i64 ((g % 2 : Nat) : Int)) ∧ Adv Nul w Nul w' := by
  go_enter Try.func24, Try.ntmps24
  go_wp2_with fail
  go_ret
  exact ⟨ret_int' (by first | omega | (simp; omega)), (Adv.refl _ _).alloc _⟩

set_option maxRecDepth 3000 in
set_option maxHeartbeats 3200000 in
theorem hseal_any (e : Nat) (h : Hd) (w : World) (ht : h.t < 18446744073709551616) (hf : h.f < 18446744073709551616) :
    Calls Try.prog 23 #[.int .u64 (e : Int), .agg #[.int .u64 (h.g : Int), .int .u64 (h.t : Int), .int .u64 (h.f : Int)]] w (HsR w e h) := by
  obtain ⟨g, t, f⟩ := h
  simp only at ht hf ⊢
  obtain ⟨y, hy⟩ : ∃ y, y = w.heap.size := ⟨_, rfl⟩
  obtain ⟨V, hV⟩ : ∃ V, V = w.alloc (.cells #[.int .u64 (g : Int), .int .u64 (t : Int), .int .u64 (f : Int)] 38) := ⟨_, rfl⟩
  have HY := Lib.hid (show Blk V y 38 #[.int .u64 (g : Int), .int .u64 (t : Int), .int .u64 (f : Int)] by rw [hV, hy]; exact Blk.new _ _ _)
  have HA := Lib.hid (show Adv Nul w Nul V by rw [hV]; exact (Adv.refl _ _).alloc _)
  have HV := Lib.hid hV
  have HYY := Lib.hid hy
  have HT64 := Lib.hid ht
  have HF64 := Lib.hid hf
  have K0 := Lib.hid (Blk.three (w := V.drew) HY.out)
  clear hV hy ht hf
  go_enter Try.func23, Try.ntmps23
  go_wp2_with fail
  rw [← HV.out, ← HYY.out]
  refine wp_region_held_drew (S := (fun w' => w'.cell? ⟨y, 0, none⟩ = some (.int .u64 (g : Int)) ∧ w'.cell? ⟨y, 1, none⟩ = some (.int .u64 (t : Int)) ∧ w'.cell? ⟨y, 2, none⟩ = some (.int .u64 (f : Int)))) (by kernel_rfl) (by first | with_reducible exact K4.out | with_reducible exact K3.out | with_reducible exact K2.out | with_reducible exact K1.out | with_reducible exact K0.out) (fun hHeld => ?_)
  clear hHeld
  refine wpAnyH_take (i := 1) (oi := ⟨some 10, .fieldAddr 38 (.tmp 3) 1, 0, "head.go:63", #[], none⟩) (v := ?_) rfl (by kernel_rfl) (by kernel_rfl) (by kernel_rfl) (fun _ _ _ h => h) (Or.inl ⟨by rfl, ?_⟩) (by first | with_reducible exact K4.out | with_reducible exact K3.out | with_reducible exact K2.out | with_reducible exact K1.out | with_reducible exact K0.out) ?_
  rotate_left
  · (intro w hSw; obtain ⟨s0, s1, s2⟩ := hSw; go_simp <;> with_reducible rfl)
  simp only [Act.put, List.setIfInBounds_toArray, List.set_cons_zero, List.set_cons_succ]
  refine wpAnyH_take (i := 2) (oi := ⟨some 11, .load 30 (.tmp 10), 30, "head.go:63", #[⟨1, .data⟩], none⟩) (v := ?_) rfl (by kernel_rfl) (by kernel_rfl) (by kernel_rfl) (fun _ _ _ h => h) (Or.inl ⟨by rfl, ?_⟩) (by first | with_reducible exact K4.out | with_reducible exact K3.out | with_reducible exact K2.out | with_reducible exact K1.out | with_reducible exact K0.out) ?_
  rotate_left
  · (intro w hSw; obtain ⟨s0, s1, s2⟩ := hSw; go_simp <;> with_reducible rfl)
  simp only [Act.put, List.setIfInBounds_toArray, List.set_cons_zero, List.set_cons_succ]
  refine wpAnyH_take (i := 4) (oi := ⟨some 13, .fieldAddr 38 (.tmp 3) 2, 0, "head.go:63", #[], none⟩) (v := ?_) rfl (by kernel_rfl) (by kernel_rfl) (by kernel_rfl) (fun _ _ _ h => h) (Or.inl ⟨by rfl, ?_⟩) (by first | with_reducible exact K4.out | with_reducible exact K3.out | with_reducible exact K2.out | with_reducible exact K1.out | with_reducible exact K0.out) ?_
  rotate_left
  · (intro w hSw; obtain ⟨s0, s1, s2⟩ := hSw; go_simp <;> with_reducible rfl)
  simp only [Act.put, List.setIfInBounds_toArray, List.set_cons_zero, List.set_cons_succ]
  refine wpAnyH_take (i := 5) (oi := ⟨some 14, .load 30 (.tmp 13), 30, "head.go:63", #[⟨4, .data⟩], none⟩) (v := ?_) rfl (by kernel_rfl) (by kernel_rfl) (by kernel_rfl) (fun _ _ _ h => h) (Or.inl ⟨by rfl, ?_⟩) (by first | with_reducible exact K4.out | with_reducible exact K3.out | with_reducible exact K2.out | with_reducible exact K1.out | with_reducible exact K0.out) ?_
  rotate_left
  · (intro w hSw; obtain ⟨s0, s1, s2⟩ := hSw; go_simp <;> with_reducible rfl)
  simp only [Act.put, List.setIfInBounds_toArray, List.set_cons_zero, List.set_cons_succ]
  refine wpAnyH_ready (rs := [0]) (by kernel_rfl) (by simp) ?_
  refine AllReadyH.cons (o := ⟨some 9, .call { callee := Go.Callee.value (.func 40), args := #[], argTypes := #[] }, 84, "head.go:63", #[], none⟩) rfl (fun K hK => ?_) AllReadyH.nil
  go_simp
  refine (WE.new (Adv.refl Nul V).drew).mono ?_
  rintro x w1 ⟨b, F1, rfl, g1⟩
  have G1 := Lib.hid g1
  have K1 := Lib.hid (g1.cells HY.out)
  clear g1
  go_wp2_with fail
  refine hK.out _ _ (by first | with_reducible exact K4.out | with_reducible exact K3.out | with_reducible exact K2.out | with_reducible exact K1.out | with_reducible exact K0.out) (fun hHeld => ?_)
  clear hK K hHeld
  try simp only [Act.put, List.setIfInBounds_toArray, List.set_cons_zero, List.set_cons_succ]
  refine wpAnyH_ready (rs := [3]) (by kernel_rfl) (by simp) ?_
  refine AllReadyH.cons (o := ⟨some 12, .call { callee := Go.Callee.value (.func 41), args := #[Go.Operand.tmp 9, Go.Operand.tmp 11, Go.Operand.const (Go.Value.int Go.IntKind.i64 40)], argTypes := #[84, 30, 3] }, 84, "head.go:63", #[⟨0, .data⟩, ⟨2, .data⟩, ⟨0, .chain⟩], none⟩) rfl (fun K hK => ?_) AllReadyH.nil
  go_simp
  refine (G1.out.put t 40 (by decide) HT64.out (by decide)).mono ?_
  rintro x w2 ⟨F2, rfl, g2⟩
  have G2 := Lib.hid g2
  have K2 := Lib.hid (g2.cells HY.out)
  clear g2
  go_wp2_with fail
  refine hK.out _ _ (by first | with_reducible exact K4.out | with_reducible exact K3.out | with_reducible exact K2.out | with_reducible exact K1.out | with_reducible exact K0.out) (fun hHeld => ?_)
  clear hK K hHeld
  try simp only [Act.put, List.setIfInBounds_toArray, List.set_cons_zero, List.set_cons_succ]
  refine wpAnyH_ready (rs := [6]) (by kernel_rfl) (by simp) ?_
  refine AllReadyH.cons (o := ⟨some 15, .call { callee := Go.Callee.value (.func 41), args := #[Go.Operand.tmp 12, Go.Operand.tmp 14, Go.Operand.const (Go.Value.int Go.IntKind.i64 24)], argTypes := #[84, 30, 3] }, 84, "head.go:63", #[⟨3, .data⟩, ⟨5, .data⟩, ⟨3, .chain⟩], none⟩) rfl (fun K hK => ?_) AllReadyH.nil
  go_simp
  refine (G2.out.put f 24 (by decide) HF64.out (by decide)).mono ?_
  rintro x w3 ⟨F3, rfl, g3⟩
  have G3 := Lib.hid g3
  have K3 := Lib.hid (g3.cells HY.out)
  clear g3
  go_wp2_with fail
  refine hK.out _ _ (by first | with_reducible exact K4.out | with_reducible exact K3.out | with_reducible exact K2.out | with_reducible exact K1.out | with_reducible exact K0.out) (fun hHeld => ?_)
  clear hK K hHeld
  try simp only [Act.put, List.setIfInBounds_toArray, List.set_cons_zero, List.set_cons_succ]
  refine wpAnyH_ready (rs := [7]) (by kernel_rfl) (by simp) ?_
  refine AllReadyH.cons (o := ⟨some 16, .call { callee := Go.Callee.value (.func 42), args := #[Go.Operand.tmp 15], argTypes := #[84] }, 64, "head.go:63", #[⟨6, .data⟩, ⟨6, .chain⟩], none⟩) rfl (fun K hK => ?_) AllReadyH.nil
  go_simp
  refine (G3.out.done_ (by decide)).mono ?_
  rintro x w4 ⟨A, m, k, F4, rfl, d4, s4, a4⟩
  obtain ⟨E, hE⟩ : ∃ E : Int, E = if (True ∧ t < 2 ^ 40) ∧ f < 2 ^ 24 then 0 else 2 := ⟨_, rfl⟩
  rw [← hE]
  have HE := Lib.hid hE
  clear hE
  have K4 := Lib.hid (Blk.three (HY.out.keep (a4.block y HY.out.lt (fun h => h))))
  have HD4 := Lib.hid d4
  have HS4 := Lib.hid s4
  have HA4 := Lib.hid a4
  clear d4 s4 a4
  go_wp2_with fail
  refine hK.out _ _ (by first | with_reducible exact K4.out | with_reducible exact K3.out | with_reducible exact K2.out | with_reducible exact K1.out | with_reducible exact K0.out) (fun hHeld => ?_)
  clear hK K hHeld
  try simp only [Act.put, List.setIfInBounds_toArray, List.set_cons_zero, List.set_cons_succ]
  refine wpAnyH_take (i := 8) (oi := ⟨some 8, .move (.tmp 16), 64, "head.go:63", #[⟨7, .data⟩], none⟩) (v := ?_) rfl (by kernel_rfl) (by kernel_rfl) (by kernel_rfl) (fun _ _ _ h => h) (Or.inl ⟨by rfl, ?_⟩) (by first | with_reducible exact K4.out | with_reducible exact K3.out | with_reducible exact K2.out | with_reducible exact K1.out | with_reducible exact K0.out) ?_
  rotate_left
  · (intro w hSw; obtain ⟨s0, s1, s2⟩ := hSw; go_simp <;> with_reducible rfl)
  simp only [Act.put, List.setIfInBounds_toArray, List.set_cons_zero, List.set_cons_succ]
  refine wpAnyH_take (i := 9) (oi := ⟨some 17, .extract (.tmp 8) 0, 33, "head.go:63", #[⟨8, .data⟩], none⟩) (v := ?_) rfl (by kernel_rfl) (by kernel_rfl) (by kernel_rfl) (fun _ _ _ h => h) (Or.inl ⟨by rfl, ?_⟩) (by first | with_reducible exact K4.out | with_reducible exact K3.out | with_reducible exact K2.out | with_reducible exact K1.out | with_reducible exact K0.out) ?_
  rotate_left
  · (intro w hSw; obtain ⟨s0, s1, s2⟩ := hSw; go_simp <;> with_reducible rfl)
  simp only [Act.put, List.setIfInBounds_toArray, List.set_cons_zero, List.set_cons_succ]
  refine wpAnyH_take (i := 10) (oi := ⟨some 18, .extract (.tmp 8) 1, 24, "head.go:63", #[⟨8, .data⟩, { on := 11, ground := Go.Ground.gcOnly Go.Departure.lateStores }], none⟩) (v := ?_) rfl (by kernel_rfl) (by kernel_rfl) (by kernel_rfl) (fun _ _ _ h => h) (Or.inl ⟨by rfl, ?_⟩) (by first | with_reducible exact K4.out | with_reducible exact K3.out | with_reducible exact K2.out | with_reducible exact K1.out | with_reducible exact K0.out) ?_
  rotate_left
  · (intro w hSw; obtain ⟨s0, s1, s2⟩ := hSw; go_simp <;> with_reducible rfl)
  simp only [Act.put, List.setIfInBounds_toArray, List.set_cons_zero, List.set_cons_succ]
  refine wpAnyH_take (i := 11) (oi := ⟨some 6, .assign (.tmp 17), 33, "head.go:63", #[⟨9, .data⟩, ⟨7, .chain⟩, ⟨0, .phase⟩, ⟨1, .phase⟩, ⟨2, .phase⟩, ⟨3, .phase⟩, ⟨4, .phase⟩, ⟨5, .phase⟩, ⟨6, .phase⟩, ⟨7, .phase⟩, ⟨8, .phase⟩, ⟨9, .phase⟩, { on := 10, ground := Go.Ground.textOnly Go.Departure.lateStores }], none⟩) (v := ?_) rfl (by kernel_rfl) (by kernel_rfl) (by kernel_rfl) (fun _ _ _ h => h) (Or.inl ⟨by rfl, ?_⟩) (by first | with_reducible exact K4.out | with_reducible exact K3.out | with_reducible exact K2.out | with_reducible exact K1.out | with_reducible exact K0.out) ?_
  rotate_left
  · (intro w hSw; obtain ⟨s0, s1, s2⟩ := hSw; go_simp <;> with_reducible rfl)
  simp only [Act.put, List.setIfInBounds_toArray, List.set_cons_zero, List.set_cons_succ]
  refine wpAnyH_take (i := 12) (oi := ⟨some 7, .assign (.tmp 18), 24, "head.go:63", #[⟨10, .data⟩, ⟨11, .chain⟩, ⟨0, .phase⟩, ⟨1, .phase⟩, ⟨2, .phase⟩, ⟨3, .phase⟩, ⟨4, .phase⟩, ⟨5, .phase⟩, ⟨6, .phase⟩, ⟨7, .phase⟩, ⟨8, .phase⟩, ⟨9, .phase⟩, ⟨10, .phase⟩, ⟨11, .phase⟩], none⟩) (v := ?_) rfl (by kernel_rfl) (by kernel_rfl) (by kernel_rfl) (fun _ _ _ h => h) (Or.inl ⟨by rfl, ?_⟩) (by first | with_reducible exact K4.out | with_reducible exact K3.out | with_reducible exact K2.out | with_reducible exact K1.out | with_reducible exact K0.out) ?_
  rotate_left
  · (intro w hSw; obtain ⟨s0, s1, s2⟩ := hSw; go_simp <;> with_reducible rfl)
  simp only [Act.put, List.setIfInBounds_toArray, List.set_cons_zero, List.set_cons_succ]
  refine wpAnyH_done (by kernel_rfl) ?_ _
  have HAW := Lib.hid (HA.out.trans HA4.out)
  by_cases hk : (True ∧ t < 2 ^ 40) ∧ f < 2 ^ 24
  · obtain rfl : E = 0 := by rw [HE.out, if_pos hk]
    obtain rfl : m = qn 64 := HD4.out hk
    have hs := HS4.out hk
    have er : rowOf ((0 * 2 ^ 40 + t) * 2 ^ 24 + f) (0 + 40 + 24) = hdata ⟨g, t, f⟩ := by
      rw [Nat.zero_mul, Nat.zero_add, show 0 + 40 + 24 = 64 from rfl, row64]; rfl
    rw [er] at hs
    have hseal : Calls Try.prog 43 #[.agg #[.int .u64 (e : Int), .int .u64 (g : Int), .bool true, .bool true, .slice A (qn 64) k]] w4 (SealO w4 (hPc e ⟨g, t, f⟩)) := seal_any (hPc e ⟨g, t, f⟩) _ w4 (show Rd w4 1 _ (hdata ⟨g, t, f⟩).length ((hdata ⟨g, t, f⟩).map u8) by rw [hdata_length]; exact hs.rd) (hdata_lt _)
    have HSEAL := Lib.hid hseal
    have HK := Lib.hid hk
    obtain ⟨s0, s1, s2⟩ := K4.out
    clear hk hs er hseal
    go_wp2_with fail
    refine HSEAL.out.mono ?_
    intro x w5 h5
    obtain ⟨A5, m5, k5, F5, rfl, a5, p5, n5⟩ := h5
    have hh : hOk e ⟨g, t, f⟩ ↔ (hPc e ⟨g, t, f⟩).ok := ⟨hPc_ok, fun o => ⟨⟨o.1, o.2.1⟩, HK.out.1.2, HK.out.2⟩⟩
    have hfin : HsR w e ⟨g, t, f⟩ (.returned (.tuple #[.slice A5 m5 k5, .int .i64 (sealE (hPc e ⟨g, t, f⟩))])) w5 := by
      refine ⟨A5, m5, k5, F5, ?_, (HAW.out.sub (fun _ x => x.elim)).trans a5, fun o => p5 (hh.mp o), fun o => ?_⟩
      · rw [sealE]
        by_cases o : (hPc e ⟨g, t, f⟩).ok
        · rw [if_pos o, if_pos (hh.mpr o)]
        · rw [if_neg o, if_neg (fun k => o (hh.mp k))]
      · obtain ⟨q1, q2, q3⟩ := n5 (fun k => o (hh.mpr k))
        exact ⟨q1, q2, q3⟩
    obtain ⟨E5, hE5⟩ : ∃ E, E = sealE (hPc e ⟨g, t, f⟩) := ⟨_, rfl⟩
    rw [← hE5] at hfin ⊢
    have HFIN := Lib.hid hfin
    clear hfin hE5 hh p5 n5 a5
    go_wp2_with fail
    exact bodyPost_ret (v := .tuple #[.slice A5 m5 k5, .int .i64 E5]) (by simp [results, Try.results23, go_sem]) rfl HFIN.out
  · obtain rfl : E = 2 := by rw [HE.out, if_neg hk]
    have hfin : HsR w e ⟨g, t, f⟩ (.returned (.tuple #[.slice none 0 0, .int .i64 2])) w4 := by
      have hn : ¬ hOk e ⟨g, t, f⟩ := fun o => hk ⟨⟨trivial, o.2.1⟩, o.2.2⟩
      exact ⟨none, 0, 0, Nul, by rw [if_neg hn], HAW.out.sub (fun _ x => x.elim), fun o => absurd o hn, fun _ => ⟨rfl, rfl, rfl⟩⟩
    have HFIN := Lib.hid hfin
    clear hfin hk
    go_wp2_with fail
    exact bodyPost_ret (v := .tuple #[.slice none 0 0, .int .i64 2]) (by simp [results, Try.results23, go_sem]) rfl HFIN.out
end Go.Proofs.Ytochmeibmjfnnaa
namespace Go.Proofs.Ytochmeibmjfnnaa
open Go.RowKit

def RsR (w : World) (e : Nat) (h : Hd) (x : Ending) (w' : World) : Prop :=
  ∃ A m k F, x = .returned (.tuple #[.slice A m k, .bool (decide (hOk e h))]) ∧ Adv Nul w F w' ∧ (hOk e h → m = 128 ∧ Sl w' F 5 1 (.slice A 128 k) 128 ((hSec e h).map u8)) ∧ (¬ hOk e h → A = none ∧ m = 0 ∧ k = 0)
theorem sec_data {w : World} {F : Nat → Prop} {v : Value} {t f : Nat} (h : Sl w F 5 1 v (qn (40 + 24)) ((rowOf (t * 2 ^ 24 + f) (40 + 24)).map u8)) : ∀ g, Rd w 1 v (hdata ⟨g, t, f⟩).length ((hdata ⟨g, t, f⟩).map u8) := fun g => by
  have er : rowOf (t * 2 ^ 24 + f) (40 + 24) = hdata ⟨g, t, f⟩ := by rw [show 40 + 24 = 64 from rfl, row64]; rfl
  rw [er] at h
  rw [hdata_length]
  exact h.rd

set_option maxRecDepth 3000 in
set_option maxHeartbeats 3200000 in
theorem rsector_any (e : Nat) (h : Hd) (w : World) (ht : h.t < 18446744073709551616) (hf : h.f < 18446744073709551616) :
    Calls Try.prog 26 #[.int .u64 (e : Int), .agg #[.int .u64 (h.g : Int), .int .u64 (h.t : Int), .int .u64 (h.f : Int)]] w (RsR w e h) := by
  obtain ⟨g, t, f⟩ := h
  simp only at ht hf ⊢
  obtain ⟨y, hy⟩ : ∃ y, y = w.heap.size := ⟨_, rfl⟩
  obtain ⟨V, hV⟩ : ∃ V, V = w.alloc (.cells #[.int .u64 (g : Int), .int .u64 (t : Int), .int .u64 (f : Int)] 32) := ⟨_, rfl⟩
  have HY := Lib.hid (show Blk V y 32 #[.int .u64 (g : Int), .int .u64 (t : Int), .int .u64 (f : Int)] by rw [hV, hy]; exact Blk.new _ _ _)
  have HA := Lib.hid (show Adv Nul w Nul V by rw [hV]; exact (Adv.refl _ _).alloc _)
  have HV := Lib.hid hV
  have HYY := Lib.hid hy
  have K0 := Lib.hid (Blk.three (w := V.drew) HY.out)
  have hf40 : ∀ w, Calls Try.prog 44 #[.int .u64 (t : Int), .int .i64 40] w fun x w' => x = .returned (.bool (decide (t < 2 ^ 40))) ∧ w = w' := fun w => by
    have k := fits_any t 40 w ht
    have e : decide (0 ≤ (40 : Int) ∧ (40 : Int) ≤ 64 ∧ t < 2 ^ (40 : Int).toNat) = decide (t < 2 ^ 40) := decide_eq_decide.mpr ⟨fun h => h.2.2, fun h => ⟨by decide, by decide, h⟩⟩
    rw [e] at k
    exact k
  have hf24 : ∀ w, Calls Try.prog 44 #[.int .u64 (f : Int), .int .i64 24] w fun x w' => x = .returned (.bool (decide (f < 2 ^ 24))) ∧ w = w' := fun w => by
    have k := fits_any f 24 w hf
    have e : decide (0 ≤ (24 : Int) ∧ (24 : Int) ≤ 64 ∧ f < 2 ^ (24 : Int).toNat) = decide (f < 2 ^ 24) := decide_eq_decide.mpr ⟨fun h => h.2.2, fun h => ⟨by decide, by decide, h⟩⟩
    rw [e] at k
    exact k
  have HF40 := Lib.hid hf40
  have HF24 := Lib.hid hf24
  have hno : ¬ hOk e ⟨g, t, f⟩ → ∀ w', Adv Nul w Nul w' → RsR w e ⟨g, t, f⟩ (.returned (.tuple #[.slice none 0 0, .bool false])) w' := fun hn w' ha => ⟨none, 0, 0, Nul, by rw [decide_eq_false hn], ha, fun o => absurd o hn, fun _ => ⟨rfl, rfl, rfl⟩⟩
  have HNO := Lib.hid hno
  obtain ⟨s0, s1, s2⟩ := Blk.three HY.out
  clear hV hy ht hf hf40 hf24 hno
  go_enter Try.func26, Try.ntmps26
  go_upto_region 1 with (fail)
  rw [← HV.out, ← HYY.out]
  by_cases ht : t < 2 ^ 40
  · have HT := Lib.hid ht
    have HDT := Lib.hid (decide_eq_true ht)
    clear ht
    by_cases hf : f < 2 ^ 24
    · have HF := Lib.hid hf
      have HDF := Lib.hid (decide_eq_true hf)
      have hseal : ∀ v w, (∀ g, Rd w 1 v (hdata ⟨g, t, f⟩).length ((hdata ⟨g, t, f⟩).map u8)) → Calls Try.prog 46 #[.agg #[.int .u64 (e : Int), .int .u64 (g : Int), .bool true, .bool true, v]] w (SealO w (hPc e ⟨g, t, f⟩)) := fun v w hv => rseal_any (hPc e ⟨g, t, f⟩) v w (hv g) (hdata_lt _)
      have HSEAL := Lib.hid hseal
      clear hf hseal
      go_wp2_with fail
      refine (HF40.out _).mono ?_
      rintro x w9 ⟨rfl, rfl⟩
      rw [HDT.out]
      go_wp2_with fail
      refine (HF24.out _).mono ?_
      rintro x w9 ⟨rfl, rfl⟩
      rw [HDF.out]
      go_upto_region 3 with (fail)
      refine wp_region_held_drew (S := (fun w' => w'.cell? ⟨y, 0, none⟩ = some (.int .u64 (g : Int)) ∧ w'.cell? ⟨y, 1, none⟩ = some (.int .u64 (t : Int)) ∧ w'.cell? ⟨y, 2, none⟩ = some (.int .u64 (f : Int)))) (by kernel_rfl) (by first | with_reducible exact K6.out | with_reducible exact K5.out | with_reducible exact K4.out | with_reducible exact K3.out | with_reducible exact K2.out | with_reducible exact K1.out | with_reducible exact K0.out) (fun hHeld => ?_)
      clear hHeld
      refine wpAnyH_take (i := 0) (oi := ⟨some 19, .fieldAddr 32 (.tmp 3) 1, 0, "ref.go:21", #[], none⟩) (v := ?_) rfl (by kernel_rfl) (by kernel_rfl) (by kernel_rfl) (fun _ _ _ h => h) (Or.inl ⟨by rfl, ?_⟩) (by first | with_reducible exact K6.out | with_reducible exact K5.out | with_reducible exact K4.out | with_reducible exact K3.out | with_reducible exact K2.out | with_reducible exact K1.out | with_reducible exact K0.out) ?_
      rotate_left
      · (intro w hSw; obtain ⟨s0, s1, s2⟩ := hSw; go_simp <;> with_reducible rfl)
      simp only [Act.put, List.setIfInBounds_toArray, List.set_cons_zero, List.set_cons_succ]
      refine wpAnyH_take (i := 1) (oi := ⟨some 20, .load 30 (.tmp 19), 30, "ref.go:21", #[⟨0, .data⟩], none⟩) (v := ?_) rfl (by kernel_rfl) (by kernel_rfl) (by kernel_rfl) (fun _ _ _ h => h) (Or.inl ⟨by rfl, ?_⟩) (by first | with_reducible exact K6.out | with_reducible exact K5.out | with_reducible exact K4.out | with_reducible exact K3.out | with_reducible exact K2.out | with_reducible exact K1.out | with_reducible exact K0.out) ?_
      rotate_left
      · (intro w hSw; obtain ⟨s0, s1, s2⟩ := hSw; go_simp <;> with_reducible rfl)
      simp only [Act.put, List.setIfInBounds_toArray, List.set_cons_zero, List.set_cons_succ]
      refine wpAnyH_take (i := 3) (oi := ⟨some 22, .fieldAddr 32 (.tmp 3) 2, 0, "ref.go:21", #[], none⟩) (v := ?_) rfl (by kernel_rfl) (by kernel_rfl) (by kernel_rfl) (fun _ _ _ h => h) (Or.inl ⟨by rfl, ?_⟩) (by first | with_reducible exact K6.out | with_reducible exact K5.out | with_reducible exact K4.out | with_reducible exact K3.out | with_reducible exact K2.out | with_reducible exact K1.out | with_reducible exact K0.out) ?_
      rotate_left
      · (intro w hSw; obtain ⟨s0, s1, s2⟩ := hSw; go_simp <;> with_reducible rfl)
      simp only [Act.put, List.setIfInBounds_toArray, List.set_cons_zero, List.set_cons_succ]
      refine wpAnyH_take (i := 4) (oi := ⟨some 23, .load 30 (.tmp 22), 30, "ref.go:21", #[⟨3, .data⟩], none⟩) (v := ?_) rfl (by kernel_rfl) (by kernel_rfl) (by kernel_rfl) (fun _ _ _ h => h) (Or.inl ⟨by rfl, ?_⟩) (by first | with_reducible exact K6.out | with_reducible exact K5.out | with_reducible exact K4.out | with_reducible exact K3.out | with_reducible exact K2.out | with_reducible exact K1.out | with_reducible exact K0.out) ?_
      rotate_left
      · (intro w hSw; obtain ⟨s0, s1, s2⟩ := hSw; go_simp <;> with_reducible rfl)
      simp only [Act.put, List.setIfInBounds_toArray, List.set_cons_zero, List.set_cons_succ]
      refine wpAnyH_ready (rs := [2]) (by kernel_rfl) (by simp) ?_
      refine AllReadyH.cons (o := ⟨some 21, .call { callee := Go.Callee.value (.func 45), args := #[Go.Operand.tmp 20, Go.Operand.const (Go.Value.int Go.IntKind.i64 40)], argTypes := #[30, 3] }, 33, "ref.go:21", #[⟨1, .data⟩], none⟩) rfl (fun K hK => ?_) AllReadyH.nil
      go_simp
      refine (bits_any t 40 _ HT.out (by decide)).mono ?_
      rintro x w1 ⟨v1, rfl, F1, l1, s1, bl1, a1⟩
      obtain ⟨A1, q1, rfl, _, _⟩ := s1.form0
      have HS1 := Lib.hid s1
      have HB1 := Lib.hid bl1
      have HA1 := Lib.hid ((Adv.refl Nul V).drew.trans a1)
      have K1 := Lib.hid (Blk.three (HY.out.keep (HA1.out.block y HY.out.lt (fun h => h))))
      clear s1 bl1 a1
      go_wp2_with fail
      refine hK.out _ _ (by first | with_reducible exact K6.out | with_reducible exact K5.out | with_reducible exact K4.out | with_reducible exact K3.out | with_reducible exact K2.out | with_reducible exact K1.out | with_reducible exact K0.out) (fun hHeld => ?_)
      clear hK K hHeld
      try simp only [Act.put, List.setIfInBounds_toArray, List.set_cons_zero, List.set_cons_succ]
      refine wpAnyH_ready (rs := [5]) (by kernel_rfl) (by simp) ?_
      refine AllReadyH.cons (o := ⟨some 24, .call { callee := Go.Callee.value (.func 45), args := #[Go.Operand.tmp 23, Go.Operand.const (Go.Value.int Go.IntKind.i64 24)], argTypes := #[30, 3] }, 33, "ref.go:21", #[⟨4, .data⟩, ⟨2, .chain⟩], none⟩) rfl (fun K hK => ?_) AllReadyH.nil
      go_simp
      refine (bits_any f 24 _ HF.out (by decide)).mono ?_
      rintro x w2 ⟨v2, rfl, F2, l2, s2, bl2, a2⟩
      obtain ⟨A2, q2, rfl, _, _⟩ := s2.form0
      have HS2 := Lib.hid s2
      have HS1' := Lib.hid (HS1.out.far a2 (fun _ h _ => h))
      have HB2 := Lib.hid bl2
      have HA2 := Lib.hid (HA1.out.over a2)
      have K2 := Lib.hid (Blk.three (HY.out.keep (HA2.out.block y HY.out.lt (fun h => h))))
      clear s2 bl2 a2
      go_wp2_with fail
      refine hK.out _ _ (by first | with_reducible exact K6.out | with_reducible exact K5.out | with_reducible exact K4.out | with_reducible exact K3.out | with_reducible exact K2.out | with_reducible exact K1.out | with_reducible exact K0.out) (fun hHeld => ?_)
      clear hK K hHeld
      try simp only [Act.put, List.setIfInBounds_toArray, List.set_cons_zero, List.set_cons_succ]
      refine wpAnyH_ready (rs := [6]) (by kernel_rfl) (by simp) ?_
      refine AllReadyH.cons (o := ⟨some 25, .call { callee := Go.Callee.builtin Go.Builtin.append, args := #[Go.Operand.tmp 21, Go.Operand.tmp 24], argTypes := #[33, 33] }, 33, "ref.go:21", #[⟨2, .data⟩, ⟨5, .data⟩, ⟨5, .chain⟩], none⟩) rfl (fun K hK => ?_) AllReadyH.nil
      refine step_append_rd rfl (.tmp 21) (.tmp 24) rfl rfl rfl HS1'.out.own HS2.out.rd (u8_one _) (by decide) ?_
      intro v' w3 hown hg hat
      obtain ⟨s3, _, a3⟩ := own_grown HS1'.out HA2.out hown hg hat (Nat.le_refl _)
      rw [← List.map_append] at s3
      obtain ⟨A3, q3, rfl, _, _⟩ := s3.form0
      have HS3 := Lib.hid s3
      have HA3 := Lib.hid a3
      have K3 := Lib.hid (Blk.three (HY.out.keep (HA3.out.block y HY.out.lt (fun h => h))))
      clear s3 a3 hown hg hat
      refine hK.out _ _ (by first | with_reducible exact K6.out | with_reducible exact K5.out | with_reducible exact K4.out | with_reducible exact K3.out | with_reducible exact K2.out | with_reducible exact K1.out | with_reducible exact K0.out) (fun hHeld => ?_)
      clear hK K hHeld
      try simp only [Act.put, List.setIfInBounds_toArray, List.set_cons_zero, List.set_cons_succ]
      refine wpAnyH_take (i := 7) (oi := ⟨some 6, .assign (.tmp 25), 33, "ref.go:21", #[⟨6, .data⟩, ⟨6, .chain⟩, ⟨0, .phase⟩, ⟨1, .phase⟩, ⟨2, .phase⟩, ⟨3, .phase⟩, ⟨4, .phase⟩, ⟨5, .phase⟩, ⟨6, .phase⟩], none⟩) (v := ?_) rfl (by kernel_rfl) (by kernel_rfl) (by kernel_rfl) (fun _ _ _ h => h) (Or.inl ⟨by rfl, ?_⟩) (by first | with_reducible exact K6.out | with_reducible exact K5.out | with_reducible exact K4.out | with_reducible exact K3.out | with_reducible exact K2.out | with_reducible exact K1.out | with_reducible exact K0.out) ?_
      rotate_left
      · (intro w hSw; obtain ⟨s0, s1, s2⟩ := hSw; go_simp <;> with_reducible rfl)
      simp only [Act.put, List.setIfInBounds_toArray, List.set_cons_zero, List.set_cons_succ]
      refine wpAnyH_done (by kernel_rfl) ?_ _
      have K4 := Lib.hid (Blk.three (w := w3.drew) (HY.out.keep (HA3.out.block y HY.out.lt (fun h => h))))
      obtain ⟨s0, s1, s2⟩ := K3.out
      go_upto_region 4 with (fail)
      refine wp_region_held_drew (S := (fun w' => w'.cell? ⟨y, 0, none⟩ = some (.int .u64 (g : Int)) ∧ w'.cell? ⟨y, 1, none⟩ = some (.int .u64 (t : Int)) ∧ w'.cell? ⟨y, 2, none⟩ = some (.int .u64 (f : Int)))) (by kernel_rfl) (by first | with_reducible exact K6.out | with_reducible exact K5.out | with_reducible exact K4.out | with_reducible exact K3.out | with_reducible exact K2.out | with_reducible exact K1.out | with_reducible exact K0.out) (fun hHeld => ?_)
      clear hHeld
      refine wpAnyH_take (i := 0) (oi := ⟨some 27, .move (.tmp 0), 30, "ref.go:22", #[], none⟩) (v := ?_) rfl (by kernel_rfl) (by kernel_rfl) (by kernel_rfl) (fun _ _ _ h => h) (Or.inl ⟨by rfl, ?_⟩) (by first | with_reducible exact K6.out | with_reducible exact K5.out | with_reducible exact K4.out | with_reducible exact K3.out | with_reducible exact K2.out | with_reducible exact K1.out | with_reducible exact K0.out) ?_
      rotate_left
      · (intro w hSw; obtain ⟨s0, s1, s2⟩ := hSw; go_simp <;> with_reducible rfl)
      simp only [Act.put, List.setIfInBounds_toArray, List.set_cons_zero, List.set_cons_succ]
      refine wpAnyH_take (i := 1) (oi := ⟨some 28, .fieldAddr 32 (.tmp 3) 0, 0, "ref.go:22", #[], none⟩) (v := ?_) rfl (by kernel_rfl) (by kernel_rfl) (by kernel_rfl) (fun _ _ _ h => h) (Or.inl ⟨by rfl, ?_⟩) (by first | with_reducible exact K6.out | with_reducible exact K5.out | with_reducible exact K4.out | with_reducible exact K3.out | with_reducible exact K2.out | with_reducible exact K1.out | with_reducible exact K0.out) ?_
      rotate_left
      · (intro w hSw; obtain ⟨s0, s1, s2⟩ := hSw; go_simp <;> with_reducible rfl)
      simp only [Act.put, List.setIfInBounds_toArray, List.set_cons_zero, List.set_cons_succ]
      refine wpAnyH_take (i := 2) (oi := ⟨some 29, .load 30 (.tmp 28), 30, "ref.go:22", #[⟨1, .data⟩], none⟩) (v := ?_) rfl (by kernel_rfl) (by kernel_rfl) (by kernel_rfl) (fun _ _ _ h => h) (Or.inl ⟨by rfl, ?_⟩) (by first | with_reducible exact K6.out | with_reducible exact K5.out | with_reducible exact K4.out | with_reducible exact K3.out | with_reducible exact K2.out | with_reducible exact K1.out | with_reducible exact K0.out) ?_
      rotate_left
      · (intro w hSw; obtain ⟨s0, s1, s2⟩ := hSw; go_simp <;> with_reducible rfl)
      simp only [Act.put, List.setIfInBounds_toArray, List.set_cons_zero, List.set_cons_succ]
      refine wpAnyH_take (i := 3) (oi := ⟨some 30, .move (.tmp 6), 33, "ref.go:22", #[], none⟩) (v := ?_) rfl (by kernel_rfl) (by kernel_rfl) (by kernel_rfl) (fun _ _ _ h => h) (Or.inl ⟨by rfl, ?_⟩) (by first | with_reducible exact K6.out | with_reducible exact K5.out | with_reducible exact K4.out | with_reducible exact K3.out | with_reducible exact K2.out | with_reducible exact K1.out | with_reducible exact K0.out) ?_
      rotate_left
      · (intro w hSw; obtain ⟨s0, s1, s2⟩ := hSw; go_simp <;> with_reducible rfl)
      simp only [Act.put, List.setIfInBounds_toArray, List.set_cons_zero, List.set_cons_succ]
      refine wpAnyH_ready (rs := [4]) (by kernel_rfl) (by simp) ?_
      refine AllReadyH.cons (o := ⟨some 31, .call { callee := Go.Callee.value (.func 47), args := #[Go.Operand.tmp 30], argTypes := #[33] }, 33, "ref.go:22", #[⟨3, .data⟩], none⟩) rfl (fun K hK => ?_) AllReadyH.nil
      go_simp
      refine (bytes_any _ _ _ _ _ _ HS3.out.drew (HB1.out.append HB2.out) (by decide)).mono ?_
      rintro x w4 ⟨v4, rfl, F4, s4, a4⟩
      obtain ⟨A4, q4, rfl, _, _⟩ := s4.form0
      have HA4 := Lib.hid (((HA3.out.sub (G := Nul) (fun _ h => h.elim)).drew).trans a4)
      have K5 := Lib.hid (Blk.three (HY.out.keep (HA4.out.block y HY.out.lt (fun h => h))))
      have HS4 := Lib.hid (sec_data s4)
      clear s4 a4
      go_wp2_with fail
      refine hK.out _ _ (by first | with_reducible exact K6.out | with_reducible exact K5.out | with_reducible exact K4.out | with_reducible exact K3.out | with_reducible exact K2.out | with_reducible exact K1.out | with_reducible exact K0.out) (fun hHeld => ?_)
      clear hK K hHeld
      try simp only [Act.put, List.setIfInBounds_toArray, List.set_cons_zero, List.set_cons_succ]
      refine wpAnyH_take (i := 5) (oi := ⟨some 32, .build 95 #[(0, Go.Operand.tmp 27), (1, Go.Operand.tmp 29), (2, Go.Operand.const (Go.Value.bool true)), (3, Go.Operand.const (Go.Value.bool true)), (4, Go.Operand.tmp 31)], 95, "ref.go:22", #[⟨0, .data⟩, ⟨2, .data⟩, ⟨4, .data⟩], none⟩) (v := ?_) rfl (by kernel_rfl) (by kernel_rfl) (by kernel_rfl) (fun _ _ _ h => h) (Or.inl ⟨by rfl, ?_⟩) (by first | with_reducible exact K6.out | with_reducible exact K5.out | with_reducible exact K4.out | with_reducible exact K3.out | with_reducible exact K2.out | with_reducible exact K1.out | with_reducible exact K0.out) ?_
      rotate_left
      · (intro w hSw; obtain ⟨s0, s1, s2⟩ := hSw; go_simp <;> with_reducible rfl)
      simp only [Act.put, List.setIfInBounds_toArray, List.set_cons_zero, List.set_cons_succ]
      refine wpAnyH_ready (rs := [6]) (by kernel_rfl) (by simp) ?_
      refine AllReadyH.cons (o := ⟨some 33, .call { callee := Go.Callee.value (.func 46), args := #[Go.Operand.tmp 32], argTypes := #[95] }, 93, "ref.go:22", #[⟨5, .data⟩, ⟨4, .chain⟩], none⟩) rfl (fun K hK => ?_) AllReadyH.nil
      go_simp
      refine (HSEAL.out _ _ HS4.out).mono ?_
      intro x w5 h5
      obtain ⟨A5, m5, k5, F5, rfl, a5, p5, n5⟩ := h5
      obtain ⟨E5, hE5⟩ : ∃ E, E = sealE (hPc e ⟨g, t, f⟩) := ⟨_, rfl⟩
      rw [← hE5]
      have HE5 := Lib.hid hE5
      have HP5 := Lib.hid p5
      have HN5 := Lib.hid n5
      have HA5 := Lib.hid a5
      have K6 := Lib.hid (Blk.three (HY.out.keep (((HA4.out.sub (G := Nul) (fun _ h => h.elim)).trans a5).block y HY.out.lt (fun h => h))))
      clear a5 p5 n5 hE5
      go_wp2_with fail
      refine hK.out _ _ (by first | with_reducible exact K6.out | with_reducible exact K5.out | with_reducible exact K4.out | with_reducible exact K3.out | with_reducible exact K2.out | with_reducible exact K1.out | with_reducible exact K0.out) (fun hHeld => ?_)
      clear hK K hHeld
      try simp only [Act.put, List.setIfInBounds_toArray, List.set_cons_zero, List.set_cons_succ]
      refine wpAnyH_take (i := 7) (oi := ⟨some 26, .move (.tmp 33), 93, "ref.go:22", #[⟨6, .data⟩], none⟩) (v := ?_) rfl (by kernel_rfl) (by kernel_rfl) (by kernel_rfl) (fun _ _ _ h => h) (Or.inl ⟨by rfl, ?_⟩) (by first | with_reducible exact K6.out | with_reducible exact K5.out | with_reducible exact K4.out | with_reducible exact K3.out | with_reducible exact K2.out | with_reducible exact K1.out | with_reducible exact K0.out) ?_
      rotate_left
      · (intro w hSw; obtain ⟨s0, s1, s2⟩ := hSw; go_simp <;> with_reducible rfl)
      simp only [Act.put, List.setIfInBounds_toArray, List.set_cons_zero, List.set_cons_succ]
      refine wpAnyH_take (i := 8) (oi := ⟨some 34, .extract (.tmp 26) 0, 33, "ref.go:22", #[⟨7, .data⟩], none⟩) (v := ?_) rfl (by kernel_rfl) (by kernel_rfl) (by kernel_rfl) (fun _ _ _ h => h) (Or.inl ⟨by rfl, ?_⟩) (by first | with_reducible exact K6.out | with_reducible exact K5.out | with_reducible exact K4.out | with_reducible exact K3.out | with_reducible exact K2.out | with_reducible exact K1.out | with_reducible exact K0.out) ?_
      rotate_left
      · (intro w hSw; obtain ⟨s0, s1, s2⟩ := hSw; go_simp <;> with_reducible rfl)
      simp only [Act.put, List.setIfInBounds_toArray, List.set_cons_zero, List.set_cons_succ]
      refine wpAnyH_take (i := 9) (oi := ⟨some 35, .extract (.tmp 26) 1, 3, "ref.go:22", #[⟨7, .data⟩, { on := 10, ground := Go.Ground.gcOnly Go.Departure.lateStores }], none⟩) (v := ?_) rfl (by kernel_rfl) (by kernel_rfl) (by kernel_rfl) (fun _ _ _ h => h) (Or.inl ⟨by rfl, ?_⟩) (by first | with_reducible exact K6.out | with_reducible exact K5.out | with_reducible exact K4.out | with_reducible exact K3.out | with_reducible exact K2.out | with_reducible exact K1.out | with_reducible exact K0.out) ?_
      rotate_left
      · (intro w hSw; obtain ⟨s0, s1, s2⟩ := hSw; go_simp <;> with_reducible rfl)
      simp only [Act.put, List.setIfInBounds_toArray, List.set_cons_zero, List.set_cons_succ]
      refine wpAnyH_take (i := 10) (oi := ⟨some 7, .assign (.tmp 34), 33, "ref.go:22", #[⟨8, .data⟩, ⟨6, .chain⟩, ⟨0, .phase⟩, ⟨1, .phase⟩, ⟨2, .phase⟩, ⟨3, .phase⟩, ⟨4, .phase⟩, ⟨5, .phase⟩, ⟨6, .phase⟩, ⟨7, .phase⟩, ⟨8, .phase⟩, { on := 9, ground := Go.Ground.textOnly Go.Departure.lateStores }], none⟩) (v := ?_) rfl (by kernel_rfl) (by kernel_rfl) (by kernel_rfl) (fun _ _ _ h => h) (Or.inl ⟨by rfl, ?_⟩) (by first | with_reducible exact K6.out | with_reducible exact K5.out | with_reducible exact K4.out | with_reducible exact K3.out | with_reducible exact K2.out | with_reducible exact K1.out | with_reducible exact K0.out) ?_
      rotate_left
      · (intro w hSw; obtain ⟨s0, s1, s2⟩ := hSw; go_simp <;> with_reducible rfl)
      simp only [Act.put, List.setIfInBounds_toArray, List.set_cons_zero, List.set_cons_succ]
      refine wpAnyH_take (i := 11) (oi := ⟨some 8, .assign (.tmp 35), 3, "ref.go:22", #[⟨9, .data⟩, ⟨10, .chain⟩, ⟨0, .phase⟩, ⟨1, .phase⟩, ⟨2, .phase⟩, ⟨3, .phase⟩, ⟨4, .phase⟩, ⟨5, .phase⟩, ⟨6, .phase⟩, ⟨7, .phase⟩, ⟨8, .phase⟩, ⟨9, .phase⟩, ⟨10, .phase⟩], none⟩) (v := ?_) rfl (by kernel_rfl) (by kernel_rfl) (by kernel_rfl) (fun _ _ _ h => h) (Or.inl ⟨by rfl, ?_⟩) (by first | with_reducible exact K6.out | with_reducible exact K5.out | with_reducible exact K4.out | with_reducible exact K3.out | with_reducible exact K2.out | with_reducible exact K1.out | with_reducible exact K0.out) ?_
      rotate_left
      · (intro w hSw; obtain ⟨s0, s1, s2⟩ := hSw; go_simp <;> with_reducible rfl)
      simp only [Act.put, List.setIfInBounds_toArray, List.set_cons_zero, List.set_cons_succ]
      refine wpAnyH_done (by kernel_rfl) ?_ _
      have hh : hOk e ⟨g, t, f⟩ ↔ (hPc e ⟨g, t, f⟩).ok := ⟨hPc_ok, fun o => ⟨⟨o.1, o.2.1⟩, HT.out, HF.out⟩⟩
      obtain ⟨B, hB⟩ : ∃ B, B = decide (hOk e ⟨g, t, f⟩) := ⟨_, rfl⟩
      have hEB : (E5 == 0) = B := by
        rw [hB, HE5.out, sealE]
        by_cases o : hOk e ⟨g, t, f⟩
        · rw [if_pos (hh.mp o), decide_eq_true o]; rfl
        · rw [if_neg (fun k => o (hh.mpr k)), decide_eq_false o]; rfl
      have hfin : RsR w e ⟨g, t, f⟩ (.returned (.tuple #[.slice A5 m5 k5, .bool B])) w5 := by
        refine ⟨A5, m5, k5, F5, by rw [hB], (HA.out.trans (HA4.out.sub (fun _ h => h.elim))).trans HA5.out, fun o => HP5.out (hh.mp o), fun o => ?_⟩
        obtain ⟨q1, q2, q3⟩ := HN5.out (fun k => o (hh.mpr k))
        exact ⟨q1, q2, q3⟩
      have HFIN := Lib.hid hfin
      clear hfin hh hB
      go_wp2_with fail
      exact bodyPost_ret (v := .tuple #[.slice A5 m5 k5, .bool B]) (by simp [results, Try.results26, go_sem]) rfl HFIN.out
    · have HF := Lib.hid hf
      have HDF := Lib.hid (decide_eq_false hf)
      clear hf
      go_wp2_with fail
      refine (HF40.out _).mono ?_
      rintro x w9 ⟨rfl, rfl⟩
      rw [HDT.out]
      go_wp2_with fail
      refine (HF24.out _).mono ?_
      rintro x w9 ⟨rfl, rfl⟩
      rw [HDF.out]
      go_wp2_with fail
      exact bodyPost_ret (v := .tuple #[.slice none 0 0, .bool false]) (by simp [results, Try.results26, go_sem]) rfl (HNO.out (fun o => HF.out o.2.2) _ HA.out)
  · have HT := Lib.hid ht
    have HDT := Lib.hid (decide_eq_false ht)
    clear ht
    go_wp2_with fail
    refine (HF40.out _).mono ?_
    rintro x w9 ⟨rfl, rfl⟩
    rw [HDT.out]
    go_wp2_with fail
    exact bodyPost_ret (v := .tuple #[.slice none 0 0, .bool false]) (by simp [results, Try.results26, go_sem]) rfl (HNO.out (fun o => HT.out o.2.1) _ HA.out)
end Go.Proofs.Ytochmeibmjfnnaa
