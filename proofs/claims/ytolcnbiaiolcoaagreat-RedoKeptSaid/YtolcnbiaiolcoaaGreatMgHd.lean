/- The head at its place: words. A head's sector: the program's; its place. -/
import Derived.Test.YtolcnbiaiolcoaaGreatMgHm
import Derived.Test.YtolcnbiaiolcoaaGreatMgB
namespace Go.Proofs.YtolcnbiaiolcoaaGreat
open Go.RowKit

def hZ : Hd := ⟨0, 0, 0⟩
def hv (h : Hd) : Value := .agg #[.int .u64 (h.g : Int), .int .u64 (h.t : Int), .int .u64 (h.f : Int)]
/-- the head at its place -/
def unO (l : List Nat) (odd : Nat) : Option Hd := (unHd l).bind fun h => if h.g % 2 = odd then some h else none
def OneR (w : World) (o : Option Hd) (x : Ending) (w' : World) : Prop := x = .returned (.tuple #[hv (o.getD hZ), .bool o.isSome]) ∧ Adv Nul w Nul w'
theorem unO_none {l : List Nat} {odd : Nat} (h : unHd l = none) : unO l odd = none := by rw [unO, h]; rfl
theorem unO_no {l : List Nat} {odd : Nat} {h : Hd} (hl : unHd l = some h) (hn : h.g % 2 ≠ odd) : unO l odd = none := by rw [unO, hl]; exact if_neg hn
theorem unO_yes {l : List Nat} {odd : Nat} {h : Hd} (hl : unHd l = some h) (hn : h.g % 2 = odd) : unO l odd = some h := by rw [unO, hl]; exact if_pos hn
end Go.Proofs.YtolcnbiaiolcoaaGreat
namespace Go.Proofs.YtolcnbiaiolcoaaGreat
open Go.RowKit

def WrS (w : World) (F : Nat → Prop) (b : Nat) (ok : Prop) (N m : Nat) : Prop := (ok ∧ WSt w F b N m ∧ Bd F w) ∨ (¬ ok ∧ WErr w F b)
structure WE (V : World) (F : Nat → Prop) (b : Nat) (ok : Prop) (N m : Nat) (w : World) : Prop where
  ws : WrS w F b ok N m
  ad : Adv Nul V F w
section
variable {V w : World} {F : Nat → Prop} {b N m : Nat} {ok : Prop}
theorem WE.cells (h : WE V F b ok N m w) {y : Nat} {t : TypeId} {g t' f : Int} (hy : Blk V y t #[.int .u64 g, .int .u64 t', .int .u64 f]) :
    w.cell? ⟨y, 0, none⟩ = some (.int .u64 g) ∧ w.cell? ⟨y, 1, none⟩ = some (.int .u64 t') ∧ w.cell? ⟨y, 2, none⟩ = some (.int .u64 f) := Blk.three (hy.keep (h.ad.block y hy.lt (fun h => h)))
theorem WE.new (ha : Adv Nul V Nul w) : Calls Tryz.prog 107 #[] w fun e w' => ∃ b F, e = .returned (.pointer (some ⟨b, 0, none⟩)) ∧ WE V F b True 0 0 w' := by
  refine (new_any w).mono ?_
  rintro e w' ⟨b, F, rfl, h1, h2, h3⟩
  exact ⟨b, F, rfl, .inl ⟨trivial, h1, h3⟩, ha.trans h2⟩
theorem WE.put (h : WE V F b ok N m w) (x n : Nat) (hn : n ≤ 64) (hx : x < 18446744073709551616) (hm : m + n ≤ 1000000000) :
    Calls Tryz.prog 108 #[.pointer (some ⟨b, 0, none⟩), .int .u64 (x : Int), .int .i64 (n : Int)] w fun e w' => ∃ F', e = .returned (.pointer (some ⟨b, 0, none⟩)) ∧ WE V F' b (ok ∧ x < 2 ^ n) (N * 2 ^ n + x) (m + n) w' := by
  rcases h.ws with ⟨h1, h2, h3⟩ | ⟨h1, h2⟩
  · by_cases hx2 : x < 2 ^ n
    · refine (put_ok b N m x n F w h2 h3 hn hx2 hm).mono ?_
      rintro e w' ⟨rfl, F', k1, k2, k3⟩
      exact ⟨F', rfl, .inl ⟨⟨h1, hx2⟩, k1, k3⟩, h.ad.trans k2⟩
    · refine (put_bad b N m x n F w h2 h3 hx (.inr (.inr ⟨n, rfl, hn, Nat.le_of_not_lt hx2⟩))).mono ?_
      rintro e w' ⟨rfl, k1, k2⟩
      exact ⟨F, rfl, .inr ⟨fun h => hx2 h.2, k1⟩, h.ad.trans k2⟩
  · refine (put_err b x n F w h2).mono ?_
    rintro e w' ⟨rfl, rfl⟩
    exact ⟨F, rfl, .inr ⟨fun h => h1 h.1, h2⟩, h.ad⟩
theorem WE.done_ [Decidable ok] (h : WE V F b ok N m w) (hm : m ≤ 1000000000) :
    Calls Tryz.prog 109 #[.pointer (some ⟨b, 0, none⟩)] w fun e w' => ∃ A n k F', e = .returned (.tuple #[.slice A n k, .int .i64 (if ok then 0 else 2)]) ∧ (ok → n = qn m) ∧ (ok → Sl w' F' 5 1 (.slice A n k) n ((rowOf N m).map u8)) ∧ Adv Nul V F' w' := by
  rcases h.ws with ⟨h1, h2, h3⟩ | ⟨h1, h2⟩
  · refine (done_ok b N m F w h2 hm).mono ?_
    rintro e w' ⟨v, F', rfl, k1, k2⟩
    obtain ⟨A, k, rfl, _⟩ := k1.form0
    exact ⟨A, _, k, F', by rw [if_pos h1], fun _ => rfl, fun _ => k1, (h.ad.sub (fun _ x => x.elim)).trans k2⟩
  · refine (done_err b F w h2).mono ?_
    rintro e w' ⟨rfl, k2⟩
    exact ⟨none, 0, 0, Nul, by rw [if_neg h1], fun h => absurd h h1, fun h => absurd h h1, (h.ad.sub (fun _ x => x.elim)).trans k2⟩
end
/-- a head's sector in new memory, or none -/
def HsR (w : World) (e : Nat) (h : Hd) (x : Ending) (w' : World) : Prop :=
  ∃ A m k F, x = .returned (.tuple #[.slice A m k, .int .i64 (if hOk e h then 0 else 2)]) ∧ Adv Nul w F w' ∧ (hOk e h → m = 128 ∧ Sl w' F 5 1 (.slice A 128 k) 128 ((hSec e h).map u8)) ∧ (¬ hOk e h → A = none ∧ m = 0 ∧ k = 0)

theorem ret_int' {k : IntKind} {a b : Int} (h : a = b) : Ending.returned (.int k a) = .returned (.int k b) := by rw [h]
set_option maxRecDepth 3000 in
set_option maxHeartbeats 1600000 in
theorem place_any (g t f : Nat) (w : World) : Calls Tryz.prog 71 #[.agg #[.int .u64 (g : Int), .int .u64 (t : Int), .int .u64 (f : Int)]] w fun x w' => x = .returned (.int .i64 ((g % 2 : Nat) : Int)) ∧ Adv Nul w Nul w' := by
  go_enter Tryz.func71, Tryz.ntmps71
  go_wp2_with fail
  go_ret
  exact ⟨ret_int' (by first | omega | (simp; omega)), (Adv.refl _ _).alloc _⟩

set_option maxRecDepth 3000 in
set_option maxHeartbeats 3200000 in
theorem hseal_any (e : Nat) (h : Hd) (w : World) (ht : h.t < 18446744073709551616) (hf : h.f < 18446744073709551616) :
    Calls Tryz.prog 119 #[.int .u64 (e : Int), .agg #[.int .u64 (h.g : Int), .int .u64 (h.t : Int), .int .u64 (h.f : Int)]] w (HsR w e h) := by
  obtain ⟨g, t, f⟩ := h
  simp only at ht hf ⊢
  obtain ⟨y, hy⟩ : ∃ y, y = w.heap.size := ⟨_, rfl⟩
  obtain ⟨V, hV⟩ : ∃ V, V = w.alloc (.cells #[.int .u64 (g : Int), .int .u64 (t : Int), .int .u64 (f : Int)] 73) := ⟨_, rfl⟩
  have HY := Lib.hid (show Blk V y 73 #[.int .u64 (g : Int), .int .u64 (t : Int), .int .u64 (f : Int)] by rw [hV, hy]; exact Blk.new _ _ _)
  have HA := Lib.hid (show Adv Nul w Nul V by rw [hV]; exact (Adv.refl _ _).alloc _)
  have HV := Lib.hid hV
  have HYY := Lib.hid hy
  have HT64 := Lib.hid ht
  have HF64 := Lib.hid hf
  have K0 := Lib.hid (Blk.three (w := V.drew) HY.out)
  clear hV hy ht hf
  go_enter Tryz.func119, Tryz.ntmps119
  go_wp2_with fail
  rw [← HV.out, ← HYY.out]
  refine wp_region_held_drew (S := (fun w' => w'.cell? ⟨y, 0, none⟩ = some (.int .u64 (g : Int)) ∧ w'.cell? ⟨y, 1, none⟩ = some (.int .u64 (t : Int)) ∧ w'.cell? ⟨y, 2, none⟩ = some (.int .u64 (f : Int)))) (by kernel_rfl) (by first | with_reducible exact K4.out | with_reducible exact K3.out | with_reducible exact K2.out | with_reducible exact K1.out | with_reducible exact K0.out) (fun hHeld => ?_)
  clear hHeld
  refine wpAnyH_take (i := 1) (oi := ⟨some 10, .fieldAddr 73 (.tmp 3) 1, 0, "head.go:63", #[], none⟩) (v := ?_) rfl (by kernel_rfl) (by kernel_rfl) (by kernel_rfl) (fun _ _ _ h => h) (Or.inl ⟨by rfl, ?_⟩) (by first | with_reducible exact K4.out | with_reducible exact K3.out | with_reducible exact K2.out | with_reducible exact K1.out | with_reducible exact K0.out) ?_
  rotate_left
  · (intro w hSw; obtain ⟨s0, s1, s2⟩ := hSw; go_simp <;> with_reducible rfl)
  simp only [Act.put, List.setIfInBounds_toArray, List.set_cons_zero, List.set_cons_succ]
  refine wpAnyH_take (i := 2) (oi := ⟨some 11, .load 49 (.tmp 10), 49, "head.go:63", #[⟨1, .data⟩], none⟩) (v := ?_) rfl (by kernel_rfl) (by kernel_rfl) (by kernel_rfl) (fun _ _ _ h => h) (Or.inl ⟨by rfl, ?_⟩) (by first | with_reducible exact K4.out | with_reducible exact K3.out | with_reducible exact K2.out | with_reducible exact K1.out | with_reducible exact K0.out) ?_
  rotate_left
  · (intro w hSw; obtain ⟨s0, s1, s2⟩ := hSw; go_simp <;> with_reducible rfl)
  simp only [Act.put, List.setIfInBounds_toArray, List.set_cons_zero, List.set_cons_succ]
  refine wpAnyH_take (i := 4) (oi := ⟨some 13, .fieldAddr 73 (.tmp 3) 2, 0, "head.go:63", #[], none⟩) (v := ?_) rfl (by kernel_rfl) (by kernel_rfl) (by kernel_rfl) (fun _ _ _ h => h) (Or.inl ⟨by rfl, ?_⟩) (by first | with_reducible exact K4.out | with_reducible exact K3.out | with_reducible exact K2.out | with_reducible exact K1.out | with_reducible exact K0.out) ?_
  rotate_left
  · (intro w hSw; obtain ⟨s0, s1, s2⟩ := hSw; go_simp <;> with_reducible rfl)
  simp only [Act.put, List.setIfInBounds_toArray, List.set_cons_zero, List.set_cons_succ]
  refine wpAnyH_take (i := 5) (oi := ⟨some 14, .load 49 (.tmp 13), 49, "head.go:63", #[⟨4, .data⟩], none⟩) (v := ?_) rfl (by kernel_rfl) (by kernel_rfl) (by kernel_rfl) (fun _ _ _ h => h) (Or.inl ⟨by rfl, ?_⟩) (by first | with_reducible exact K4.out | with_reducible exact K3.out | with_reducible exact K2.out | with_reducible exact K1.out | with_reducible exact K0.out) ?_
  rotate_left
  · (intro w hSw; obtain ⟨s0, s1, s2⟩ := hSw; go_simp <;> with_reducible rfl)
  simp only [Act.put, List.setIfInBounds_toArray, List.set_cons_zero, List.set_cons_succ]
  refine wpAnyH_ready (rs := [0]) (by kernel_rfl) (by simp) ?_
  refine AllReadyH.cons (o := ⟨some 9, .call { callee := Go.Callee.value (.func 107), args := #[], argTypes := #[] }, 161, "head.go:63", #[], none⟩) rfl (fun K hK => ?_) AllReadyH.nil
  go_simp
  refine (WE.new (Adv.refl Nul V).drew).mono ?_
  rintro x w1 ⟨b, F1, rfl, g1⟩
  have G1 := Lib.hid g1
  have K1 := Lib.hid (g1.cells HY.out)
  clear g1
  go_wp2_with fail
  refine hK.out _ _ (by first | with_reducible exact K4.out | with_reducible exact K3.out | with_reducible exact K2.out | with_reducible exact K1.out | with_reducible exact K0.out) (fun hHeld => ?_)
  clear hK K hHeld
  try simp only [Act.put, List.setIfInBounds_toArray, List.set_cons_zero, List.set_cons_succ]
  refine wpAnyH_ready (rs := [3]) (by kernel_rfl) (by simp) ?_
  refine AllReadyH.cons (o := ⟨some 12, .call { callee := Go.Callee.value (.func 108), args := #[Go.Operand.tmp 9, Go.Operand.tmp 11, Go.Operand.const (Go.Value.int Go.IntKind.i64 40)], argTypes := #[161, 49, 3] }, 161, "head.go:63", #[⟨0, .data⟩, ⟨2, .data⟩, ⟨0, .chain⟩], none⟩) rfl (fun K hK => ?_) AllReadyH.nil
  go_simp
  refine (G1.out.put t 40 (by decide) HT64.out (by decide)).mono ?_
  rintro x w2 ⟨F2, rfl, g2⟩
  have G2 := Lib.hid g2
  have K2 := Lib.hid (g2.cells HY.out)
  clear g2
  go_wp2_with fail
  refine hK.out _ _ (by first | with_reducible exact K4.out | with_reducible exact K3.out | with_reducible exact K2.out | with_reducible exact K1.out | with_reducible exact K0.out) (fun hHeld => ?_)
  clear hK K hHeld
  try simp only [Act.put, List.setIfInBounds_toArray, List.set_cons_zero, List.set_cons_succ]
  refine wpAnyH_ready (rs := [6]) (by kernel_rfl) (by simp) ?_
  refine AllReadyH.cons (o := ⟨some 15, .call { callee := Go.Callee.value (.func 108), args := #[Go.Operand.tmp 12, Go.Operand.tmp 14, Go.Operand.const (Go.Value.int Go.IntKind.i64 24)], argTypes := #[161, 49, 3] }, 161, "head.go:63", #[⟨3, .data⟩, ⟨5, .data⟩, ⟨3, .chain⟩], none⟩) rfl (fun K hK => ?_) AllReadyH.nil
  go_simp
  refine (G2.out.put f 24 (by decide) HF64.out (by decide)).mono ?_
  rintro x w3 ⟨F3, rfl, g3⟩
  have G3 := Lib.hid g3
  have K3 := Lib.hid (g3.cells HY.out)
  clear g3
  go_wp2_with fail
  refine hK.out _ _ (by first | with_reducible exact K4.out | with_reducible exact K3.out | with_reducible exact K2.out | with_reducible exact K1.out | with_reducible exact K0.out) (fun hHeld => ?_)
  clear hK K hHeld
  try simp only [Act.put, List.setIfInBounds_toArray, List.set_cons_zero, List.set_cons_succ]
  refine wpAnyH_ready (rs := [7]) (by kernel_rfl) (by simp) ?_
  refine AllReadyH.cons (o := ⟨some 16, .call { callee := Go.Callee.value (.func 109), args := #[Go.Operand.tmp 15], argTypes := #[161] }, 54, "head.go:63", #[⟨6, .data⟩, ⟨6, .chain⟩], none⟩) rfl (fun K hK => ?_) AllReadyH.nil
  go_simp
  refine (G3.out.done_ (by decide)).mono ?_
  rintro x w4 ⟨A, m, k, F4, rfl, d4, s4, a4⟩
  obtain ⟨E, hE⟩ : ∃ E : Int, E = if (True ∧ t < 2 ^ 40) ∧ f < 2 ^ 24 then 0 else 2 := ⟨_, rfl⟩
  rw [← hE]
  have HE := Lib.hid hE
  clear hE
  have K4 := Lib.hid (Blk.three (HY.out.keep (a4.block y HY.out.lt (fun h => h))))
  have HD4 := Lib.hid d4
  have HS4 := Lib.hid s4
  have HA4 := Lib.hid a4
  clear d4 s4 a4
  go_wp2_with fail
  refine hK.out _ _ (by first | with_reducible exact K4.out | with_reducible exact K3.out | with_reducible exact K2.out | with_reducible exact K1.out | with_reducible exact K0.out) (fun hHeld => ?_)
  clear hK K hHeld
  try simp only [Act.put, List.setIfInBounds_toArray, List.set_cons_zero, List.set_cons_succ]
  refine wpAnyH_take (i := 8) (oi := ⟨some 8, .move (.tmp 16), 54, "head.go:63", #[⟨7, .data⟩], none⟩) (v := ?_) rfl (by kernel_rfl) (by kernel_rfl) (by kernel_rfl) (fun _ _ _ h => h) (Or.inl ⟨by rfl, ?_⟩) (by first | with_reducible exact K4.out | with_reducible exact K3.out | with_reducible exact K2.out | with_reducible exact K1.out | with_reducible exact K0.out) ?_
  rotate_left
  · (intro w hSw; obtain ⟨s0, s1, s2⟩ := hSw; go_simp <;> with_reducible rfl)
  simp only [Act.put, List.setIfInBounds_toArray, List.set_cons_zero, List.set_cons_succ]
  refine wpAnyH_take (i := 9) (oi := ⟨some 17, .extract (.tmp 8) 0, 53, "head.go:63", #[⟨8, .data⟩], none⟩) (v := ?_) rfl (by kernel_rfl) (by kernel_rfl) (by kernel_rfl) (fun _ _ _ h => h) (Or.inl ⟨by rfl, ?_⟩) (by first | with_reducible exact K4.out | with_reducible exact K3.out | with_reducible exact K2.out | with_reducible exact K1.out | with_reducible exact K0.out) ?_
  rotate_left
  · (intro w hSw; obtain ⟨s0, s1, s2⟩ := hSw; go_simp <;> with_reducible rfl)
  simp only [Act.put, List.setIfInBounds_toArray, List.set_cons_zero, List.set_cons_succ]
  refine wpAnyH_take (i := 10) (oi := ⟨some 18, .extract (.tmp 8) 1, 25, "head.go:63", #[⟨8, .data⟩, { on := 11, ground := Go.Ground.gcOnly Go.Departure.lateStores }], none⟩) (v := ?_) rfl (by kernel_rfl) (by kernel_rfl) (by kernel_rfl) (fun _ _ _ h => h) (Or.inl ⟨by rfl, ?_⟩) (by first | with_reducible exact K4.out | with_reducible exact K3.out | with_reducible exact K2.out | with_reducible exact K1.out | with_reducible exact K0.out) ?_
  rotate_left
  · (intro w hSw; obtain ⟨s0, s1, s2⟩ := hSw; go_simp <;> with_reducible rfl)
  simp only [Act.put, List.setIfInBounds_toArray, List.set_cons_zero, List.set_cons_succ]
  refine wpAnyH_take (i := 11) (oi := ⟨some 6, .assign (.tmp 17), 53, "head.go:63", #[⟨9, .data⟩, ⟨7, .chain⟩, ⟨0, .phase⟩, ⟨1, .phase⟩, ⟨2, .phase⟩, ⟨3, .phase⟩, ⟨4, .phase⟩, ⟨5, .phase⟩, ⟨6, .phase⟩, ⟨7, .phase⟩, ⟨8, .phase⟩, ⟨9, .phase⟩, { on := 10, ground := Go.Ground.textOnly Go.Departure.lateStores }], none⟩) (v := ?_) rfl (by kernel_rfl) (by kernel_rfl) (by kernel_rfl) (fun _ _ _ h => h) (Or.inl ⟨by rfl, ?_⟩) (by first | with_reducible exact K4.out | with_reducible exact K3.out | with_reducible exact K2.out | with_reducible exact K1.out | with_reducible exact K0.out) ?_
  rotate_left
  · (intro w hSw; obtain ⟨s0, s1, s2⟩ := hSw; go_simp <;> with_reducible rfl)
  simp only [Act.put, List.setIfInBounds_toArray, List.set_cons_zero, List.set_cons_succ]
  refine wpAnyH_take (i := 12) (oi := ⟨some 7, .assign (.tmp 18), 25, "head.go:63", #[⟨10, .data⟩, ⟨11, .chain⟩, ⟨0, .phase⟩, ⟨1, .phase⟩, ⟨2, .phase⟩, ⟨3, .phase⟩, ⟨4, .phase⟩, ⟨5, .phase⟩, ⟨6, .phase⟩, ⟨7, .phase⟩, ⟨8, .phase⟩, ⟨9, .phase⟩, ⟨10, .phase⟩, ⟨11, .phase⟩], none⟩) (v := ?_) rfl (by kernel_rfl) (by kernel_rfl) (by kernel_rfl) (fun _ _ _ h => h) (Or.inl ⟨by rfl, ?_⟩) (by first | with_reducible exact K4.out | with_reducible exact K3.out | with_reducible exact K2.out | with_reducible exact K1.out | with_reducible exact K0.out) ?_
  rotate_left
  · (intro w hSw; obtain ⟨s0, s1, s2⟩ := hSw; go_simp <;> with_reducible rfl)
  simp only [Act.put, List.setIfInBounds_toArray, List.set_cons_zero, List.set_cons_succ]
  refine wpAnyH_done (by kernel_rfl) ?_ _
  have HAW := Lib.hid (HA.out.trans HA4.out)
  by_cases hk : (True ∧ t < 2 ^ 40) ∧ f < 2 ^ 24
  · obtain rfl : E = 0 := by rw [HE.out, if_pos hk]
    obtain rfl : m = qn 64 := HD4.out hk
    have hs := HS4.out hk
    have er : rowOf ((0 * 2 ^ 40 + t) * 2 ^ 24 + f) (0 + 40 + 24) = hdata ⟨g, t, f⟩ := by
      rw [Nat.zero_mul, Nat.zero_add, show 0 + 40 + 24 = 64 from rfl, row64]; rfl
    rw [er] at hs
    have hseal : Calls Tryz.prog 84 #[.agg #[.int .u64 (e : Int), .int .u64 (g : Int), .bool true, .bool true, .slice A (qn 64) k]] w4 (SealO w4 (hPc e ⟨g, t, f⟩)) := seal_any (hPc e ⟨g, t, f⟩) _ w4 (show Rd w4 1 _ (hdata ⟨g, t, f⟩).length ((hdata ⟨g, t, f⟩).map u8) by rw [hdata_length]; exact hs.rd) (hdata_lt _)
    have HSEAL := Lib.hid hseal
    have HK := Lib.hid hk
    obtain ⟨s0, s1, s2⟩ := K4.out
    clear hk hs er hseal
    go_wp2_with fail
    refine HSEAL.out.mono ?_
    intro x w5 h5
    obtain ⟨A5, m5, k5, F5, rfl, a5, p5, n5⟩ := h5
    have hh : hOk e ⟨g, t, f⟩ ↔ (hPc e ⟨g, t, f⟩).ok := ⟨hPc_ok, fun o => ⟨⟨o.1, o.2.1⟩, HK.out.1.2, HK.out.2⟩⟩
    have hfin : HsR w e ⟨g, t, f⟩ (.returned (.tuple #[.slice A5 m5 k5, .int .i64 (sealE (hPc e ⟨g, t, f⟩))])) w5 := by
      refine ⟨A5, m5, k5, F5, ?_, (HAW.out.sub (fun _ x => x.elim)).trans a5, fun o => p5 (hh.mp o), fun o => ?_⟩
      · rw [sealE]
        by_cases o : (hPc e ⟨g, t, f⟩).ok
        · rw [if_pos o, if_pos (hh.mpr o)]
        · rw [if_neg o, if_neg (fun k => o (hh.mp k))]
      · obtain ⟨q1, q2, q3⟩ := n5 (fun k => o (hh.mpr k))
        exact ⟨q1, q2, q3⟩
    obtain ⟨E5, hE5⟩ : ∃ E, E = sealE (hPc e ⟨g, t, f⟩) := ⟨_, rfl⟩
    rw [← hE5] at hfin ⊢
    have HFIN := Lib.hid hfin
    clear hfin hE5 hh p5 n5 a5
    go_wp2_with fail
    exact bodyPost_ret (v := .tuple #[.slice A5 m5 k5, .int .i64 E5]) (by simp [results, Tryz.results119, go_sem]) rfl HFIN.out
  · obtain rfl : E = 2 := by rw [HE.out, if_neg hk]
    have hfin : HsR w e ⟨g, t, f⟩ (.returned (.tuple #[.slice none 0 0, .int .i64 2])) w4 := by
      have hn : ¬ hOk e ⟨g, t, f⟩ := fun o => hk ⟨⟨trivial, o.2.1⟩, o.2.2⟩
      exact ⟨none, 0, 0, Nul, by rw [if_neg hn], HAW.out.sub (fun _ x => x.elim), fun o => absurd o hn, fun _ => ⟨rfl, rfl, rfl⟩⟩
    have HFIN := Lib.hid hfin
    clear hfin hk
    go_wp2_with fail
    exact bodyPost_ret (v := .tuple #[.slice none 0 0, .int .i64 2]) (by simp [results, Tryz.results119, go_sem]) rfl HFIN.out
end Go.Proofs.YtolcnbiaiolcoaaGreat
