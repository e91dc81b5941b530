/- A sector's head, or that it is none: the document's. The newest head: the program's Load. The newest head: the document's Load. -/
import Derived.Test.YtochmeibmjfnnaaMgE
import Derived.Test.YtochmeibmjfnnaaPlA
namespace Go.Proofs.Ytochmeibmjfnnaa
open Go.RowKit

def hZ : Hd := ⟨0, 0, 0⟩
def hv (h : Hd) : Value := .agg #[.int .u64 (h.g : Int), .int .u64 (h.t : Int), .int .u64 (h.f : Int)]
/-- the head at its place -/
def unO (l : List Nat) (odd : Nat) : Option Hd := (unHd l).bind fun h => if h.g % 2 = odd then some h else none
def OneR (w : World) (o : Option Hd) (x : Ending) (w' : World) : Prop := x = .returned (.tuple #[hv (o.getD hZ), .bool o.isSome]) ∧ Adv Nul w Nul w'
theorem unO_none {l : List Nat} {odd : Nat} (h : unHd l = none) : unO l odd = none := by rw [unO, h]; rfl
theorem unO_no {l : List Nat} {odd : Nat} {h : Hd} (hl : unHd l = some h) (hn : h.g % 2 ≠ odd) : unO l odd = none := by rw [unO, hl]; exact if_neg hn
theorem unO_yes {l : List Nat} {odd : Nat} {h : Hd} (hl : unHd l = some h) (hn : h.g % 2 = odd) : unO l odd = some h := by rw [unO, hl]; exact if_pos hn

set_option maxRecDepth 3000 in
set_option maxHeartbeats 3200000 in
theorem rone_any (v : Value) (n : Nat) (l : List Nat) (odd : Nat) (w : World) (h : Rd w 1 v n (l.map u8)) (hl : ∀ x ∈ l, x < 256) : Calls Try.prog 38 #[v, .int .u64 (odd : Int)] w (OneR w (unO l odd)) := by
  obtain ⟨A0, c0, rfl, _, _⟩ := h.form
  obtain ⟨z, hz⟩ : ∃ z, z = w.heap.size := ⟨_, rfl⟩
  obtain ⟨V, hV⟩ : ∃ V, V = w.alloc (.cells #[.int .u64 0, .int .u64 0, .int .u64 0] 32) := ⟨_, rfl⟩
  have HZ := Lib.hid (show Blk V z 32 (h3 0 0 0) by rw [hV, hz]; exact Blk.new _ _ _)
  have HA := Lib.hid (show Adv Nul w Nul V by rw [hV]; exact (Adv.refl _ _).alloc _)
  have HR := Lib.hid (show Rd V 1 (.slice A0 n c0) n (l.map u8) by rw [hV]; exact h.up _)
  have HL := Lib.hid hl
  have HV := Lib.hid hV
  have HZZ := Lib.hid hz
  clear h hl hV hz
  go_enter Try.func38, Try.ntmps38
  go_wp2_with fail
  rw [← HV.out, ← HZZ.out]
  refine (runseal_any _ n l _ HR.out HL.out).mono ?_
  intro x w1 h
  obtain ⟨A, k, F1, rfl, s1, t1⟩ := h
  obtain ⟨p, hp⟩ : ∃ p, p = unsealP l := ⟨_, rfl⟩
  obtain ⟨E, hE⟩ : ∃ E, E = unsealE l := ⟨_, rfl⟩
  rw [← hp, ← hE]
  rw [← hp] at s1
  obtain ⟨pe, pn, pf, pg, D⟩ := p
  obtain ⟨d, hd⟩ : ∃ d, d = D.length := ⟨_, rfl⟩
  simp only [← hd] at s1 ⊢
  obtain ⟨y, hy⟩ : ∃ y, y = w1.heap.size := ⟨_, rfl⟩
  obtain ⟨W, hW⟩ : ∃ W, W = w1.alloc (.cells #[.int .u64 (pe : Int), .int .u64 (pn : Int), .bool pf, .bool pg, .slice A d k] 95) := ⟨_, rfl⟩
  have HY := Lib.hid (show Blk W y 95 #[.int .u64 (pe : Int), .int .u64 (pn : Int), .bool pf, .bool pg, .slice A d k] by rw [hW, hy]; exact Blk.new _ _ _)
  have HT := Lib.hid (show Adv Nul V Nul W by rw [hW]; exact (t1.sub (fun _ h => h.elim)).alloc _)
  have HZ1 := Lib.hid (HZ.out.keep (HT.out.block z HZ.out.lt (fun h => h)))
  have HS := Lib.hid s1
  have HYZ := Lib.hid (show y ≠ z by have := HZ.out.lt; have := t1.size; omega)
  have HSD := Lib.hid (show Rd W 1 (.slice A d k) d (D.map u8) by rw [hW]; exact s1.rd.up _)
  have HP := Lib.hid hp
  have HE := Lib.hid hE
  have HD := Lib.hid hd
  have HW := Lib.hid hW
  have HYY := Lib.hid hy
  have HLZ := Lib.hid (show w.heap.size ≤ z by rw [HZZ.out]; exact Nat.le_refl _)
  have hno : unO l odd = none → OneR w (unO l odd) (.returned (.tuple #[.agg #[.int .u64 0, .int .u64 0, .int .u64 0], .bool false])) (W.setCells z 0 (h3 0 0 0).toList) := fun hn => by
    rw [hn]
    exact ⟨rfl, Adv.lsetCells _ 0 _ (HA.out.trans HT.out) (.inr HLZ.out)⟩
  have HNO := Lib.hid hno
  clear s1 t1 hp hE hd hy hW hno
  go_upto_region 2 with (fail)
  rw [← HW.out, ← HYY.out]
  obtain ⟨c0, c1, c2, c3, c4⟩ := HY.out.five
  by_cases hw : Whole l
  · have hp' : (⟨pe, pn, pf, pg, D⟩ : Pc) = dec l := by rw [HP.out, unsealP, if_pos hw]
    obtain rfl : E = 0 := by rw [HE.out, unsealE, if_pos hw]
    have HDEC := Lib.hid hp'
    have HWH := Lib.hid hw
    have hl8 : ∀ x ∈ D, x < 256 := by
      have e : D = (dec l).d := congrArg Pc.d hp'
      rw [e]
      exact fun x hx => HL.out x (List.mem_of_mem_drop (List.mem_of_mem_take hx))
    have HL8 := Lib.hid hl8
    clear hw hp' hl8
    cases pf with
    | false =>
      go_wp2_with (first
        | (refine op_store3 sizeRHead rfl (.tmp 4) (.tmp 38) rfl z _ (h3 0 0 0) HZ1.out rfl rfl (h3_one _ _ _) rfl rfl ?_)
        | fail)
      obtain ⟨hz0, hz1, hz2⟩ := (HZ1.out.putAll (D := h3 0 0 0) rfl).three
      exact bodyPost_ret (v := .tuple #[.agg #[.int .u64 0, .int .u64 0, .int .u64 0], .bool false]) (by simp [results, Try.results38, go_sem, hz0, hz1, hz2]) rfl (HNO.out (unO_none (by rw [unHd, ← HDEC.out]; exact if_neg (fun h => by simpa using h.2.1))))
    | true =>
    cases pg with
    | false =>
      go_wp2_with (first
        | (refine op_store3 sizeRHead rfl (.tmp 4) (.tmp 38) rfl z _ (h3 0 0 0) HZ1.out rfl rfl (h3_one _ _ _) rfl rfl ?_)
        | fail)
      obtain ⟨hz0, hz1, hz2⟩ := (HZ1.out.putAll (D := h3 0 0 0) rfl).three
      exact bodyPost_ret (v := .tuple #[.agg #[.int .u64 0, .int .u64 0, .int .u64 0], .bool false]) (by simp [results, Try.results38, go_sem, hz0, hz1, hz2]) rfl (HNO.out (unO_none (by rw [unHd, ← HDEC.out]; exact if_neg (fun h => by simpa using h.2.2.1))))
    | true =>
    obtain ⟨r, hr⟩ : ∃ r, r = pn % 2 := ⟨_, rfl⟩
    have hr0 : (pn : Int).tmod 2 = (r : Int) := by rw [hr]; exact rfl
    have hr1 : (pn : Int) % 2 = (r : Int) := by rw [hr]; rfl
    have HRR := Lib.hid hr
    clear hr
    by_cases ho : r = odd
    · subst ho
      by_cases h8 : d = 8
      · subst h8
        obtain ⟨u, k', e1, hFu, hk8⟩ := HS.out.form (by decide)
        injection e1 with e1 e2 e3
        subst e1 e3
        clear e2 hFu
        have hk5 : (k = 5) = False := eq_false (by omega)
        have hk5' : 5 ≤ k := by omega
        have hk5i : (5 : Int) ≤ (k : Int) := by omega
        have hr5 : Rd W.drew 1 (.slice (some ⟨u, 0, none⟩) 5 k) 5 ((D.take 5).map u8) := by
          have h := HSD.out.sub 0 5 k (by decide) hk5' (by obtain ⟨_, _, e, _, hm⟩ := HSD.out.form; injection e with _ _ e; omega)
          exact h
        have hr3 : Rd W.drew 1 (.slice (some ⟨u, 5, none⟩) 3 (k - 5)) 3 ((D.drop 5).map u8) := by
          have h := HSD.out.sub 5 3 (k - 5) (by decide) (by omega) (by obtain ⟨_, _, e, _, hm⟩ := HSD.out.form; injection e with _ _ e; omega)
          rw [List.take_of_length_le (by rw [List.length_drop, ← HD.out]; decide), Nat.zero_add] at h
          exact h
        have h5 := val5 HD.out.symm HL8.out
        obtain ⟨x1, hx1⟩ : ∃ x, x = val (D.take 5) := ⟨_, rfl⟩
        obtain ⟨x2, hx2⟩ : ∃ x, x = val (D.drop 5) := ⟨_, rfl⟩
        have hv5 : ∀ w, Rd w 1 (.slice (some ⟨u, 0, none⟩) 5 k) 5 ((D.take 5).map u8) → Calls Try.prog 53 #[.slice (some ⟨u, 0, none⟩) 5 k] w fun e w' => e = .returned (.int .u64 (x1 : Int)) ∧ w = w' := fun w hw => by
          rw [hx1]
          exact rvalue_any _ 5 (D.take 5) w hw (by decide) (fun x hx => HL8.out x (List.mem_of_mem_take hx))
        have hv3 : ∀ w, Rd w 1 (.slice (some ⟨u, 5, none⟩) 3 (k - 5)) 3 ((D.drop 5).map u8) → Calls Try.prog 53 #[.slice (some ⟨u, 5, none⟩) 3 (k - 5)] w fun e w' => e = .returned (.int .u64 (x2 : Int)) ∧ w = w' := fun w hw => by
          rw [hx2]
          exact rvalue_any _ 3 (D.drop 5) w hw (by decide) (fun x hx => HL8.out x (List.mem_of_mem_drop hx))
        have hyes : unO l r = some ⟨pn, x1, x2⟩ := unO_yes (by rw [unHd, ← HDEC.out, if_pos ⟨HWH.out, rfl, rfl, HD.out.symm⟩, hx1, hx2, h5.1, h5.2]) HRR.out.symm
        have HV5 := Lib.hid hv5
        have HV3 := Lib.hid hv3
        have HR5 := Lib.hid hr5
        have HR3 := Lib.hid hr3
        have HYES := Lib.hid hyes
        have HZD := Lib.hid (show Blk W.drew z 32 (h3 0 0 0) from HZ1.out)
        have K1 := Lib.hid (show W.drew.cell? ⟨y, 1, none⟩ = some (.int .u64 (pn : Int)) ∧ W.drew.cell? ⟨y, 4, none⟩ = some (.slice (some ⟨u, 0, none⟩) 8 k) from ⟨c1, c4⟩)
        clear hr5 hr3 h5 hx1 hx2 hv5 hv3 hyes
        go_upto_region 4 with (fail)
        refine wp_region_held_drew (S := (fun w' => w'.cell? ⟨y, 1, none⟩ = some (.int .u64 (pn : Int)) ∧ w'.cell? ⟨y, 4, none⟩ = some (.slice (some ⟨u, 0, none⟩) 8 k))) (by kernel_rfl) (by first | with_reducible exact K2.out | with_reducible exact K1.out) (fun hHeld => ?_)
        clear hHeld
        refine wpAnyH_take (i := 0) (oi := ⟨some 39, .fieldAddr 95 (.tmp 6) 1, 0, "ref.go:45", #[], none⟩) (v := ?_) rfl (by kernel_rfl) (by kernel_rfl) (by kernel_rfl) (fun _ _ _ h => h) (Or.inl ⟨by rfl, ?_⟩) (by first | with_reducible exact K2.out | with_reducible exact K1.out) ?_
        rotate_left
        · (intro w hSw; obtain ⟨s0, s1⟩ := hSw; go_simp <;> with_reducible rfl)
        simp only [Act.put, List.setIfInBounds_toArray, List.set_cons_zero, List.set_cons_succ]
        refine wpAnyH_take (i := 1) (oi := ⟨some 40, .load 30 (.tmp 39), 30, "ref.go:45", #[⟨0, .data⟩], none⟩) (v := ?_) rfl (by kernel_rfl) (by kernel_rfl) (by kernel_rfl) (fun _ _ _ h => h) (Or.inl ⟨by rfl, ?_⟩) (by first | with_reducible exact K2.out | with_reducible exact K1.out) ?_
        rotate_left
        · (intro w hSw; obtain ⟨s0, s1⟩ := hSw; go_simp <;> with_reducible rfl)
        simp only [Act.put, List.setIfInBounds_toArray, List.set_cons_zero, List.set_cons_succ]
        refine wpAnyH_take (i := 2) (oi := ⟨some 41, .fieldAddr 95 (.tmp 6) 4, 0, "ref.go:45", #[], none⟩) (v := ?_) rfl (by kernel_rfl) (by kernel_rfl) (by kernel_rfl) (fun _ _ _ h => h) (Or.inl ⟨by rfl, ?_⟩) (by first | with_reducible exact K2.out | with_reducible exact K1.out) ?_
        rotate_left
        · (intro w hSw; obtain ⟨s0, s1⟩ := hSw; go_simp <;> with_reducible rfl)
        simp only [Act.put, List.setIfInBounds_toArray, List.set_cons_zero, List.set_cons_succ]
        refine wpAnyH_take (i := 3) (oi := ⟨some 42, .load 33 (.tmp 41), 33, "ref.go:45", #[⟨2, .data⟩], none⟩) (v := ?_) rfl (by kernel_rfl) (by kernel_rfl) (by kernel_rfl) (fun _ _ _ h => h) (Or.inl ⟨by rfl, ?_⟩) (by first | with_reducible exact K2.out | with_reducible exact K1.out) ?_
        rotate_left
        · (intro w hSw; obtain ⟨s0, s1⟩ := hSw; go_simp <;> with_reducible rfl)
        simp only [Act.put, List.setIfInBounds_toArray, List.set_cons_zero, List.set_cons_succ]
        refine wpAnyH_take (i := 4) (oi := ⟨some 43, .slice 33 (.tmp 42) none (some (.const (Go.Value.int Go.IntKind.i64 5))) none, 33, "ref.go:45", #[⟨3, .data⟩], none⟩) (v := ?_) rfl (by kernel_rfl) (by kernel_rfl) (by kernel_rfl) (fun _ _ _ h => h) (Or.inl ⟨by rfl, ?_⟩) (by first | with_reducible exact K2.out | with_reducible exact K1.out) ?_
        rotate_left
        · (intro w hSw; obtain ⟨s0, s1⟩ := hSw; go_simp <;> with_reducible rfl)
        simp only [Act.put, List.setIfInBounds_toArray, List.set_cons_zero, List.set_cons_succ]
        refine wpAnyH_take (i := 6) (oi := ⟨some 45, .fieldAddr 95 (.tmp 6) 4, 0, "ref.go:45", #[], none⟩) (v := ?_) rfl (by kernel_rfl) (by kernel_rfl) (by kernel_rfl) (fun _ _ _ h => h) (Or.inl ⟨by rfl, ?_⟩) (by first | with_reducible exact K2.out | with_reducible exact K1.out) ?_
        rotate_left
        · (intro w hSw; obtain ⟨s0, s1⟩ := hSw; go_simp <;> with_reducible rfl)
        simp only [Act.put, List.setIfInBounds_toArray, List.set_cons_zero, List.set_cons_succ]
        refine wpAnyH_take (i := 7) (oi := ⟨some 46, .load 33 (.tmp 45), 33, "ref.go:45", #[⟨6, .data⟩], none⟩) (v := ?_) rfl (by kernel_rfl) (by kernel_rfl) (by kernel_rfl) (fun _ _ _ h => h) (Or.inl ⟨by rfl, ?_⟩) (by first | with_reducible exact K2.out | with_reducible exact K1.out) ?_
        rotate_left
        · (intro w hSw; obtain ⟨s0, s1⟩ := hSw; go_simp <;> with_reducible rfl)
        simp only [Act.put, List.setIfInBounds_toArray, List.set_cons_zero, List.set_cons_succ]
        refine wpAnyH_take (i := 8) (oi := ⟨some 47, .slice 33 (.tmp 46) (some (.const (Go.Value.int Go.IntKind.i64 5))) none none, 33, "ref.go:45", #[⟨7, .data⟩], none⟩) (v := ?_) rfl (by kernel_rfl) (by kernel_rfl) (by kernel_rfl) (fun _ _ _ h => h) (Or.inl ⟨by rfl, ?_⟩) (by first | with_reducible exact K2.out | with_reducible exact K1.out) ?_
        rotate_left
        · (intro w hSw; obtain ⟨s0, s1⟩ := hSw; go_simp <;> with_reducible rfl)
        simp only [Act.put, List.setIfInBounds_toArray, List.set_cons_zero, List.set_cons_succ]
        refine wpAnyH_ready (rs := [5]) (by kernel_rfl) (by simp) ?_
        refine AllReadyH.cons (o := ⟨some 44, .call { callee := Go.Callee.value (.func 53), args := #[Go.Operand.tmp 43], argTypes := #[33] }, 30, "ref.go:45", #[⟨4, .data⟩], none⟩) rfl (fun K hK => ?_) AllReadyH.nil
        go_simp
        refine (HV5.out _ HR5.out).mono ?_
        rintro x w5 ⟨rfl, rfl⟩
        go_wp2_with fail
        refine hK.out _ _ (by first | with_reducible exact K2.out | with_reducible exact K1.out) (fun hHeld => ?_)
        clear hK K hHeld
        try simp only [Act.put, List.setIfInBounds_toArray, List.set_cons_zero, List.set_cons_succ]
        refine wpAnyH_ready (rs := [9]) (by kernel_rfl) (by simp) ?_
        refine AllReadyH.cons (o := ⟨some 48, .call { callee := Go.Callee.value (.func 53), args := #[Go.Operand.tmp 47], argTypes := #[33] }, 30, "ref.go:45", #[⟨8, .data⟩, ⟨5, .chain⟩], none⟩) rfl (fun K hK => ?_) AllReadyH.nil
        go_simp
        refine (HV3.out _ HR3.out).mono ?_
        rintro x w6 ⟨rfl, rfl⟩
        go_wp2_with fail
        refine hK.out _ _ (by first | with_reducible exact K2.out | with_reducible exact K1.out) (fun hHeld => ?_)
        clear hK K hHeld
        try simp only [Act.put, List.setIfInBounds_toArray, List.set_cons_zero, List.set_cons_succ]
        refine wpAnyH_take (i := 10) (oi := ⟨some 49, .build 32 #[(0, Go.Operand.tmp 40), (1, Go.Operand.tmp 44), (2, Go.Operand.tmp 48)], 32, "ref.go:45", #[⟨1, .data⟩, ⟨5, .data⟩, ⟨9, .data⟩], none⟩) (v := ?_) rfl (by kernel_rfl) (by kernel_rfl) (by kernel_rfl) (fun _ _ _ h => h) (Or.inl ⟨by rfl, ?_⟩) (by first | with_reducible exact K2.out | with_reducible exact K1.out) ?_
        rotate_left
        · (intro w hSw; obtain ⟨s0, s1⟩ := hSw; go_simp <;> with_reducible rfl)
        simp only [Act.put, List.setIfInBounds_toArray, List.set_cons_zero, List.set_cons_succ]
        refine wpAnyH_ready (rs := [11]) (by kernel_rfl) (by simp) ?_
        refine AllReadyH.cons (o := ⟨none, .store 32 (.tmp 4) (.tmp 49), 0, "ref.go:45", #[⟨10, .data⟩, ⟨9, .chain⟩, ⟨0, .phase⟩, ⟨1, .phase⟩, ⟨2, .phase⟩, ⟨3, .phase⟩, ⟨4, .phase⟩, ⟨5, .phase⟩, ⟨6, .phase⟩, ⟨7, .phase⟩, ⟨8, .phase⟩, ⟨9, .phase⟩, ⟨10, .phase⟩], none⟩) rfl (fun K hK => ?_) AllReadyH.nil
        refine st_store3 sizeRHead rfl (.tmp 4) (.tmp 49) rfl z _ (h3 (pn : Int) (x1 : Int) (x2 : Int)) HZD.out rfl rfl (h3_one _ _ _) rfl rfl ?_
        have K2 := Lib.hid (show (W.drew.setCells z 0 (h3 (pn : Int) (x1 : Int) (x2 : Int)).toList).cell? ⟨y, 1, none⟩ = some (.int .u64 (pn : Int)) ∧ (W.drew.setCells z 0 (h3 (pn : Int) (x1 : Int) (x2 : Int)).toList).cell? ⟨y, 4, none⟩ = some (.slice (some ⟨u, 0, none⟩) 8 k) from ⟨(World.cell?_of_block (lsetCells_heap z HYZ.out _ 0 _)).trans K1.out.1, (World.cell?_of_block (lsetCells_heap z HYZ.out _ 0 _)).trans K1.out.2⟩)
        refine hK.out _ _ (by first | with_reducible exact K2.out | with_reducible exact K1.out) (fun hHeld => ?_)
        clear hK K hHeld
        try simp only [Act.put]
        refine wpAnyH_take (i := 12) (oi := ⟨some 5, .assign (.const (Go.Value.bool true)), 4, "ref.go:45", #[⟨11, .chain⟩, ⟨0, .phase⟩, ⟨1, .phase⟩, ⟨2, .phase⟩, ⟨3, .phase⟩, ⟨4, .phase⟩, ⟨5, .phase⟩, ⟨6, .phase⟩, ⟨7, .phase⟩, ⟨8, .phase⟩, ⟨9, .phase⟩, ⟨10, .phase⟩, ⟨11, .phase⟩], none⟩) (v := ?_) rfl (by kernel_rfl) (by kernel_rfl) (by kernel_rfl) (fun _ _ _ h => h) (Or.inl ⟨by rfl, ?_⟩) (by first | with_reducible exact K2.out | with_reducible exact K1.out) ?_
        rotate_left
        · (intro w hSw; obtain ⟨s0, s1⟩ := hSw; go_simp <;> with_reducible rfl)
        simp only [Act.put, List.setIfInBounds_toArray, List.set_cons_zero, List.set_cons_succ]
        refine wpAnyH_done (by kernel_rfl) ?_ _
        obtain ⟨hz0, hz1, hz2⟩ := (HZD.out.putAll (D := h3 (pn : Int) (x1 : Int) (x2 : Int)) rfl).three
        have hfin : OneR w (unO l r) (.returned (.tuple #[.agg #[.int .u64 (pn : Int), .int .u64 (x1 : Int), .int .u64 (x2 : Int)], .bool true])) (W.drew.setCells z 0 (h3 (pn : Int) (x1 : Int) (x2 : Int)).toList) := by
          rw [HYES.out]
          exact ⟨rfl, Adv.lsetCells _ 0 _ ((HA.out.trans HT.out).drew) (.inr HLZ.out)⟩
        have HFIN := Lib.hid hfin
        clear hfin
        go_wp2_with fail
        exact bodyPost_ret (v := .tuple #[.agg #[.int .u64 (pn : Int), .int .u64 (x1 : Int), .int .u64 (x2 : Int)], .bool true]) (by simp [results, Try.results38, go_sem, hz0, hz1, hz2]) rfl HFIN.out
      · have h8' : ((d : Int) == 8) = false := by rw [beq_eq_false_iff_ne]; omega
        have H8 := Lib.hid h8
        clear h8
        go_wp2_with (first
          | (refine op_store3 sizeRHead rfl (.tmp 4) (.tmp 38) rfl z _ (h3 0 0 0) HZ1.out rfl rfl (h3_one _ _ _) rfl rfl ?_)
          | fail)
        obtain ⟨hz0, hz1, hz2⟩ := (HZ1.out.putAll (D := h3 0 0 0) rfl).three
        exact bodyPost_ret (v := .tuple #[.agg #[.int .u64 0, .int .u64 0, .int .u64 0], .bool false]) (by simp [results, Try.results38, go_sem, hz0, hz1, hz2]) rfl (HNO.out (unO_none (by rw [unHd, ← HDEC.out]; exact if_neg (fun h => H8.out (by rw [HD.out]; exact h.2.2.2)))))

    · have ho' : ((r : Int) == (odd : Int)) = false := by rw [beq_eq_false_iff_ne]; omega
      have HO := Lib.hid ho
      clear ho
      have hno : unO l odd = none := by
        by_cases h8 : D.length = 8
        · exact unO_no (h := ⟨pn, val D / 16777216, val D % 16777216⟩) (by rw [unHd, ← HDEC.out, if_pos ⟨HWH.out, rfl, rfl, h8⟩]) (by show pn % 2 ≠ odd; rw [← HRR.out]; exact HO.out)
        · exact unO_none (by rw [unHd, ← HDEC.out]; exact if_neg (fun h => h8 h.2.2.2))
      have HN0 := Lib.hid hno
      clear hno
      go_wp2_with (first
        | (refine op_store3 sizeRHead rfl (.tmp 4) (.tmp 38) rfl z _ (h3 0 0 0) HZ1.out rfl rfl (h3_one _ _ _) rfl rfl ?_)
        | fail)
      obtain ⟨hz0, hz1, hz2⟩ := (HZ1.out.putAll (D := h3 0 0 0) rfl).three
      exact bodyPost_ret (v := .tuple #[.agg #[.int .u64 0, .int .u64 0, .int .u64 0], .bool false]) (by simp [results, Try.results38, go_sem, hz0, hz1, hz2]) rfl (HNO.out HN0.out)

  · obtain rfl : E = 4 := by rw [HE.out, unsealE, if_neg hw]
    have HNW := Lib.hid hw
    clear hw
    go_wp2_with (first
      | (refine op_store3 sizeRHead rfl (.tmp 4) (.tmp 38) rfl z _ (h3 0 0 0) HZ1.out rfl rfl (h3_one _ _ _) rfl rfl ?_)
      | fail)
    obtain ⟨hz0, hz1, hz2⟩ := (HZ1.out.putAll (D := h3 0 0 0) rfl).three
    exact bodyPost_ret (v := .tuple #[.agg #[.int .u64 0, .int .u64 0, .int .u64 0], .bool false]) (by simp [results, Try.results38, go_sem, hz0, hz1, hz2]) rfl (HNO.out (unO_none (by rw [unHd]; exact if_neg (fun h => HNW.out h.1))))
end Go.Proofs.Ytochmeibmjfnnaa
namespace Go.Proofs.Ytochmeibmjfnnaa
open Go.RowKit

def nx (c : Option Hd) (o : Option Hd) : Option Hd := match o with
  | some h => if (c.getD hZ).g ≤ h.g then some h else c
  | none => c
def curAt (s : DS) (p : Nat) : Nat → Option Hd
  | 0 => none
  | k + 1 => nx (curAt s p k) (unO (isS s (p + k)) k)
def inR (n : Nat) (at_ : Int) (k : Nat) : Prop := ∀ j : Nat, j < k → 0 ≤ at_ + (j : Int) ∧ at_ + (j : Int) < (n : Int)
def LoadR (s : DS) (n : Nat) (at_ : Int) (x : Ending) : Prop :=
  (inR n at_ 2 ∧ x = .returned (.tuple #[hv ((curAt s at_.toNat 2).getD hZ), .bool (curAt s at_.toNat 2).isSome, .int .i64 0])) ∨ (¬ inR n at_ 2 ∧ x = .returned (.tuple #[hv hZ, .bool false, .int .i64 2]))
/-- the bytes of a disk are bytes -/
def SB (s : DS) (n : Nat) : Prop := ∀ i, i < n → ∀ x ∈ isS s i, x < 256
/-- after k sectors -/
def HLoadL (w : World) (s : DS) (n : Nat) (at_ : Int) (y z : Nat) (t15 t8 : Value) (wr : World) : Prop :=
  ∃ k : Nat, k ≤ 2 ∧ inR n at_ k ∧ t15 = .int .i64 (k : Int) ∧ t8 = .bool (curAt s at_.toNat k).isSome ∧
    Blk wr y 38 (h3 (((curAt s at_.toNat k).getD hZ).g : Int) (((curAt s at_.toNat k).getD hZ).t : Int) (((curAt s at_.toNat k).getD hZ).f : Int)) ∧ Blk wr z 38 (h3 0 0 0) ∧ Adv (fun j => j = y) w (fun j => j = y) wr
theorem curAt_succ (s : DS) (p k : Nat) : curAt s p (k + 1) = nx (curAt s p k) (unO (isS s (p + k)) k) := rfl

theorem Adv.overN {F G : Nat → Prop} {w w1 w2 : World} (h : Adv F w G w1) (k : Adv Nul w1 Nul w2) : Adv F w G w2 := h.over k
theorem adv_new {w V wr : World} {y : Nat} (ha : Adv Nul w Nul V) (hb : Adv (fun j => j = y) V (fun j => j = y) wr) (hy : w.heap.size ≤ y) : Adv Nul w Nul wr :=
  ⟨hb.os.trans ha.os, hb.tape.trans ha.tape, hb.output.trans ha.output, Nat.le_trans ha.size hb.size, fun j hj _ => (hb.block j (Nat.lt_of_lt_of_le hj ha.size) (fun e => by omega)).trans (ha.block j hj (fun x => x)), fun _ h => h.elim⟩
theorem inR_succ {n : Nat} {at_ : Int} {k : Nat} (h : inR n at_ k) (h1 : 0 ≤ at_ + (k : Int) ∧ at_ + (k : Int) < (n : Int)) : inR n at_ (k + 1) := fun j hj => by
  by_cases e : j = k
  · rw [e]; exact h1
  · exact h j (by omega)
theorem hl_next {w wr : World} {s : DS} {n y z k p : Nat} {at_ : Int} {c : Option Hd} {g t f : Nat} {b : Bool} (hk : k < 2) (hin : inR n at_ k) (hq : at_ + (k : Int) = (p : Int)) (hp : p < n) (hc : nx (curAt s at_.toNat k) (unO (isS s p) k) = c)
    (h1 : g = (c.getD hZ).g) (h2 : t = (c.getD hZ).t) (h3' : f = (c.getD hZ).f) (h4 : b = c.isSome) (hby : Blk wr y 38 (h3 (g : Int) (t : Int) (f : Int))) (hbz : Blk wr z 38 (h3 0 0 0)) (ha : Adv (fun j => j = y) w (fun j => j = y) wr) :
    HLoadL w s n at_ y z (.int .i64 ((k : Int) + 1)) (.bool b) wr := by
  have h0 : at_.toNat + k = p := by
    by_cases hk0 : k = 0
    · subst hk0; omega
    · have := hin 0 (by omega); omega
  have e : curAt s at_.toNat (k + 1) = c := by rw [curAt_succ, h0]; exact hc
  subst h1 h2 h3' h4
  refine ⟨k + 1, by omega, inR_succ hin (by omega), by go_num, by rw [e], by rw [e]; exact hby, hbz, ha⟩

set_option maxRecDepth 3000 in
set_option maxHeartbeats 6400000 in
theorem hload_dk (d n : Nat) (F : Nat → Prop) (s : DS) (at_ : Int) (w : World) (hd : Dk w F d n s) (hsb : SB s n) (hn : n ≤ 4096) (ha0 : -9223372036854775808 ≤ at_) (ha1 : at_ < 9223372036854775808) :
    Calls Try.prog 18 #[.pointer (some ⟨d, 0, none⟩), .int .i64 at_] w fun x w' => LoadR s n at_ x ∧ Adv Nul w Nul w' := by
  obtain ⟨z, hz⟩ : ∃ z, z = w.heap.size := ⟨_, rfl⟩
  obtain ⟨V0, hV0⟩ : ∃ V, V = w.alloc (.cells #[.int .u64 0, .int .u64 0, .int .u64 0] 38) := ⟨_, rfl⟩
  obtain ⟨y, hy⟩ : ∃ y, y = V0.heap.size := ⟨_, rfl⟩
  obtain ⟨V, hV⟩ : ∃ V, V = V0.alloc (.cells #[.int .u64 0, .int .u64 0, .int .u64 0] 38) := ⟨_, rfl⟩
  have HZ := Lib.hid (show Blk V z 38 (h3 0 0 0) by rw [hV, hV0, hz]; exact (Blk.new _ _ _).alloc _)
  have HY := Lib.hid (show Blk V y 38 (h3 0 0 0) by rw [hV, hy]; exact Blk.new _ _ _)
  have HA := Lib.hid (show Adv Nul w Nul V by rw [hV, hV0]; exact ((Adv.refl _ _).alloc _).alloc _)
  have HYZ := Lib.hid (show y ≠ z by rw [hy, hz, hV0]; simp)
  have HWZ := Lib.hid (show w.heap.size ≤ z by rw [hz]; exact Nat.le_refl _)
  have HWY := Lib.hid (show w.heap.size ≤ y by rw [hy, hV0]; simp)
  have hd1 := hd.far HA.out (fun _ h _ => h)
  have HD := Lib.hid hd1
  have HFY := Lib.hid (show ∀ j, j = y → F j → False from fun j e h => by have := hd.bd j h; have := HWY.out; omega)
  have HSB := Lib.hid hsb
  have hy1 : y = z + 1 := by rw [hy, hz, hV0]; simp
  have HY1 := Lib.hid hy1
  have HV := Lib.hid (show V = (w.alloc (.cells #[.int .u64 0, .int .u64 0, .int .u64 0] 38)).alloc (.cells #[.int .u64 0, .int .u64 0, .int .u64 0] 38) by rw [hV, hV0])
  have HZZ := Lib.hid hz
  have hnI : (n : Int) ≤ 4096 := by omega
  have HA0 := Lib.hid ha0
  have HA1 := Lib.hid ha1
  clear hd hd1 hsb hn hy1 hV hV0 hz hy ha0 ha1
  go_enter Try.func18, Try.ntmps18
  go_upto_region 2 with (fail)
  rw [← HV.out, ← HZZ.out, ← HY1.out]
  go_wp2_with fail
  go_loopw [15, 8] (HLoadL V s n at_ y z) (fun t _ _ => 2 - (intOf t).toNat)
  case atStart => exact ⟨0, by decide, fun j h => absurd h (Nat.not_lt_zero _), rfl, rfl, HY.out, HZ.out, Adv.refl _ _⟩
  case round =>
    obtain ⟨k, hk, hin, rfl, rfl, hby, hbz, had⟩ := hrel
    obtain ⟨cur, hcur⟩ : ∃ c, c = curAt s at_.toNat k := ⟨_, rfl⟩
    obtain ⟨cg, hcg⟩ : ∃ x, x = (cur.getD hZ).g := ⟨_, rfl⟩
    obtain ⟨ct, hct⟩ : ∃ x, x = (cur.getD hZ).t := ⟨_, rfl⟩
    obtain ⟨cf, hcf⟩ : ∃ x, x = (cur.getD hZ).f := ⟨_, rfl⟩
    obtain ⟨cb, hcb⟩ : ∃ x, x = cur.isSome := ⟨_, rfl⟩
    rw [← hcur, ← hcg, ← hct, ← hcf] at hby
    rw [← hcur, ← hcb]
    have HCUR := Lib.hid hcur
    have HCG := Lib.hid hcg
    have HCT := Lib.hid hct
    have HCF := Lib.hid hcf
    have HCB := Lib.hid hcb
    have HBY := Lib.hid hby
    have HBZ := Lib.hid hbz
    have HAD := Lib.hid had
    have HIN := Lib.hid hin
    have HDW := Lib.hid (HD.out.far had HFY.out)
    clear hcur hcg hct hcf hcb hby hbz had hin
    by_cases hlt : k < 2
    · have hki : (k : Int) < 2 := by omega
      have hw1 : IntKind.i64.wrap (at_ + (k : Int)) = at_ + (k : Int) := by
        rw [IntKind.wrap_i64]
        have h0 := HA0.out
        have h1 := HA1.out
        by_cases hk0 : k = 0
        · subst hk0; omega
        · have := HIN.out 0 (by omega)
          omega
      have HLT := Lib.hid hlt
      obtain ⟨q, hq⟩ : ∃ q, q = at_ + (k : Int) := ⟨_, rfl⟩
      rw [← hq] at hw1
      have HQ := Lib.hid hq
      have hq' : at_ + (k : Int) = q := hq.symm
      clear hlt hk hq
      by_cases hr : 0 ≤ q ∧ q < (n : Int)
      · obtain ⟨p, rfl⟩ := Int.eq_ofNat_of_zero_le hr.1
        have HPN := Lib.hid (show p < n by omega)
        clear hr
        go_wp2_with fail
        refine (read_dk d n F s p wr HDW.out HPN.out).mono ?_
        rintro e w2 ⟨z2, rfl, hb2, hl2, a2⟩
        have HR2 := Lib.hid ((hb2.sl8 hl2).rd)
        have HA2 := Lib.hid (a2.sub (G := Nul) (fun _ h => h.elim))
        clear hb2 hl2 a2
        go_wp2_with fail
        refine (hunseal_any _ 128 (isS s p) w2 HR2.out (HSB.out p HPN.out)).mono ?_
        intro x w3 h
        obtain ⟨⟨g, t, f⟩, ok, rfl, hun, a3⟩ := h
        simp only
        obtain ⟨u, hu⟩ : ∃ u, u = w3.heap.size := ⟨_, rfl⟩
        obtain ⟨w4, hw4⟩ : ∃ w4, w4 = w3.alloc (.cells #[.int .u64 (g : Int), .int .u64 (t : Int), .int .u64 (f : Int)] 38) := ⟨_, rfl⟩
        have HU := Lib.hid (show Blk w4 u 38 #[.int .u64 (g : Int), .int .u64 (t : Int), .int .u64 (f : Int)] by rw [hw4, hu]; exact Blk.new _ _ _)
        have HA4 := Lib.hid (show Adv Nul wr Nul w4 by rw [hw4]; exact (HA2.out.trans a3).alloc _)
        have HBY4 := Lib.hid (HBY.out.keep (HA4.out.block y HBY.out.lt (fun h => h)))
        have HBZ4 := Lib.hid (HBZ.out.keep (HA4.out.block z HBZ.out.lt (fun h => h)))
        have HAD4 := Lib.hid (HAD.out.overN HA4.out)
        have HUN := Lib.hid hun
        have HUU := Lib.hid hu
        have HW4 := Lib.hid hw4
        clear hun a3 hu hw4
        go_upto_region 9 with (fail)
        rw [← HW4.out, ← HUU.out]
        obtain ⟨u0, u1, u2⟩ := HU.out.three
        cases ok with
        | false =>
          have hno : unHd (isS s p) = none := by have h := HUN.out; simpa using h
          have hnx : nx (curAt s at_.toNat k) (unO (isS s p) k) = cur := by rw [unO_none hno, ← HCUR.out]; rfl
          have HNX := Lib.hid hnx
          clear hno hnx
          go_wp2_with fail
          have hlt := HLT.out
          exact ⟨hl_next hlt HIN.out hq' HPN.out HNX.out HCG.out HCT.out HCF.out HCB.out HBY4.out HBZ4.out HAD4.out, by simp [intOf]; omega⟩
        | true =>
          have hyes : unHd (isS s p) = some ⟨g, t, f⟩ := by have h := HUN.out; simpa using h
          have HYES := Lib.hid hyes
          obtain ⟨r, hr⟩ : ∃ r, r = g % 2 := ⟨_, rfl⟩
          have HRR := Lib.hid hr
          clear hyes hr
          go_wp2_with fail
          refine (place_any g t f _).mono ?_
          rintro x w5 ⟨rfl, a5⟩
          rw [← HRR.out]
          have HU5 := Lib.hid (HU.out.keep (a5.block u HU.out.lt (fun h => h)))
          have HBY5 := Lib.hid (HBY4.out.keep (a5.block y HBY4.out.lt (fun h => h)))
          have HBZ5 := Lib.hid (HBZ4.out.keep (a5.block z HBZ4.out.lt (fun h => h)))
          have HAD5 := Lib.hid (HAD4.out.overN a5)
          obtain ⟨v0, v1, v2⟩ := HU5.out.three
          obtain ⟨y0, y1, y2⟩ := HBY5.out.three
          clear u0 u1 u2 a5
          by_cases hpar : r = k
          · have hpe : ((r : Int) == (k : Int)) = true := by rw [beq_iff_eq]; omega
            have HPAR := Lib.hid (show (⟨g, t, f⟩ : Hd).g % 2 = k by show g % 2 = k; rw [← HRR.out]; exact hpar)
            clear hpar
            by_cases hge : cg ≤ g
            · have hgi : (cg : Int) ≤ (g : Int) := by omega
              have hnx : nx (curAt s at_.toNat k) (unO (isS s p) k) = some ⟨g, t, f⟩ := by
                rw [unO_yes HYES.out HPAR.out, ← HCUR.out]
                exact if_pos (by rw [← HCG.out]; exact hge)
              have HNX := Lib.hid hnx
              clear hge hnx
              go_wp2_with (first
                | (refine op_store3 sizeHead rfl (.tmp 7) (.tmp 49) rfl y _ (h3 (g : Int) (t : Int) (f : Int)) HBY5.out rfl rfl (h3_one _ _ _) rfl rfl ?_)
                | fail)
              have hlt := HLT.out
              exact ⟨hl_next hlt HIN.out hq' HPN.out HNX.out rfl rfl rfl rfl (HBY5.out.putAll rfl) (HBZ5.out.keep (lsetCells_heap y HYZ.out.symm _ 0 _)) (Adv.lsetCells _ 0 _ HAD5.out (.inl rfl)), by simp [intOf]; omega⟩
            · have hgi : (g : Int) < (cg : Int) := by omega
              have hnx : nx (curAt s at_.toNat k) (unO (isS s p) k) = cur := by
                rw [unO_yes HYES.out HPAR.out, ← HCUR.out]
                exact if_neg (by rw [← HCG.out]; exact hge)
              have HNX := Lib.hid hnx
              clear hge hnx
              go_wp2_with fail
              have hlt := HLT.out
              exact ⟨hl_next hlt HIN.out hq' HPN.out HNX.out HCG.out HCT.out HCF.out HCB.out HBY5.out HBZ5.out HAD5.out, by simp [intOf]; omega⟩
          · have hpe : ((r : Int) == (k : Int)) = false := by rw [beq_eq_false_iff_ne]; omega
            have hnx : nx (curAt s at_.toNat k) (unO (isS s p) k) = cur := by
              rw [unO_no HYES.out (by show g % 2 ≠ k; rw [← HRR.out]; exact hpar), ← HCUR.out]
              rfl
            have HNX := Lib.hid hnx
            clear hpar hnx
            go_wp2_with fail
            have hlt := HLT.out
            exact ⟨hl_next hlt HIN.out hq' HPN.out HNX.out HCG.out HCT.out HCF.out HCB.out HBY5.out HBZ5.out HAD5.out, by simp [intOf]; omega⟩
      · have HNR := Lib.hid hr
        clear hr
        go_wp2_with fail
        refine (read_none d n F s q wr HDW.out HNR.out).mono ?_
        rintro e w2 ⟨rfl, rfl⟩
        have HFIN := Lib.hid (show LoadR s n at_ (.returned (.tuple #[.agg #[.int .u64 0, .int .u64 0, .int .u64 0], .bool false, .int .i64 2])) from .inr ⟨fun h => HNR.out (by have h1 := h k HLT.out; rw [hq'] at h1; exact h1), rfl⟩)
        go_wp2_with (first
          | (refine op_store3 sizeHead rfl (.tmp 4) (.tmp 28) rfl z _ (h3 0 0 0) HBZ.out rfl rfl (h3_one _ _ _) rfl rfl ?_)
          | fail)
        obtain ⟨hz0, hz1, hz2⟩ := (HBZ.out.putAll (D := h3 0 0 0) rfl).three
        exact bodyPost_ret (v := .tuple #[.agg #[.int .u64 0, .int .u64 0, .int .u64 0], .bool false, .int .i64 2]) (by simp [results, Try.results18, go_sem, hz0, hz1, hz2]) rfl ⟨HFIN.out, Adv.lsetCells _ 0 _ (adv_new HA.out HAD.out HWY.out) (.inr HWZ.out)⟩
    · obtain rfl : k = 2 := by omega
      have HFIN := Lib.hid (show LoadR s n at_ (.returned (.tuple #[.agg #[.int .u64 (cg : Int), .int .u64 (ct : Int), .int .u64 (cf : Int)], .bool cb, .int .i64 0])) from .inl ⟨HIN.out, by rw [HCG.out, HCT.out, HCF.out, HCB.out, ← HCUR.out]; rfl⟩)
      obtain ⟨y0, y1, y2⟩ := HBY.out.three
      clear hlt hk
      go_wp2_with (first
        | (refine op_store3 sizeHead rfl (.tmp 4) (.tmp 51) rfl z _ (h3 (cg : Int) (ct : Int) (cf : Int)) HBZ.out rfl rfl (h3_one _ _ _) rfl rfl ?_)
        | fail)
      obtain ⟨hz0, hz1, hz2⟩ := (HBZ.out.putAll (D := h3 (cg : Int) (ct : Int) (cf : Int)) rfl).three
      exact bodyPost_ret (v := .tuple #[.agg #[.int .u64 (cg : Int), .int .u64 (ct : Int), .int .u64 (cf : Int)], .bool cb, .int .i64 0]) (by simp [results, Try.results18, go_sem, hz0, hz1, hz2]) rfl ⟨HFIN.out, Adv.lsetCells _ 0 _ (adv_new HA.out HAD.out HWY.out) (.inr HWZ.out)⟩
end Go.Proofs.Ytochmeibmjfnnaa
namespace Go.Proofs.Ytochmeibmjfnnaa
open Go.RowKit

theorem unO_odd {l : List Nat} {k : Nat} {h : Hd} (e : unO l k = some h) : h.g % 2 = k := by
  unfold unO at e
  cases hl : unHd l with
  | none => rw [hl] at e; simp at e
  | some h' =>
    rw [hl] at e
    simp only [Option.bind_some] at e
    split at e
    · next hh => injection e with e; rw [← e]; exact hh
    · simp at e
theorem nx_none (o : Option Hd) : nx none o = o := by
  cases o with
  | none => rfl
  | some h =>
    show (if hZ.g ≤ h.g then some h else none) = some h
    exact if_pos (Nat.zero_le _)
theorem curAt2 (s : DS) (p : Nat) : curAt s p 2 = nx (unO (isS s p) 0) (unO (isS s (p + 1)) 1) := by
  rw [curAt_succ, curAt_succ]
  show nx (nx none _) _ = _
  rw [nx_none, Nat.add_zero]
theorem inR2 {n : Nat} {at_ : Int} : inR n at_ 2 ↔ 0 ≤ at_ ∧ at_ + 1 < (n : Int) := by
  constructor
  · intro h
    have h0 := h 0 (by decide)
    have h1 := h 1 (by decide)
    omega
  · intro h j hj
    omega

set_option maxRecDepth 3000 in
set_option maxHeartbeats 6400000 in
theorem rload_dk (c n : Nat) (G : Nat → Prop) (s : DS) (at_ : Int) (w : World) (hr : Rk w G c n s) (hsb : SB s n) (hq : s.Q.length ≤ 1000000) (hn : n ≤ 4096) (hn1 : 1 ≤ n) :
    Calls Try.prog 19 #[.pointer (some ⟨c, 0, none⟩), .int .i64 at_] w fun x w' => LoadR s n at_ x ∧ Adv Nul w Nul w' := by
  obtain ⟨z, hz⟩ : ∃ z, z = w.heap.size := ⟨_, rfl⟩
  obtain ⟨V, hV⟩ : ∃ V, V = w.alloc (.cells #[.int .u64 0, .int .u64 0, .int .u64 0] 32) := ⟨_, rfl⟩
  have HZ := Lib.hid (show Blk V z 32 (h3 0 0 0) by rw [hV, hz]; exact Blk.new _ _ _)
  have HA := Lib.hid (show Adv Nul w Nul V by rw [hV]; exact (Adv.refl _ _).alloc _)
  have HWZ := Lib.hid (show w.heap.size ≤ z by rw [hz]; exact Nat.le_refl _)
  have hr1 := hr.far HA.out (fun _ h _ => h)
  have HR := Lib.hid hr1
  obtain ⟨vL, vQ, ls, ps, hI⟩ := hr1
  obtain ⟨aL, cL, rfl, _, _⟩ := hI.l.form0
  have c0 := hI.c0
  have HSB := Lib.hid hsb
  have HQ := Lib.hid hq
  have HV := Lib.hid hV
  have HZZ := Lib.hid hz
  have hw1 : IntKind.i64.wrap ((n : Int) - 1) = (n : Int) - 1 := by rw [IntKind.wrap_i64]; omega
  clear hr hsb hq hV hz hI
  go_enter Try.func19, Try.ntmps19
  go_upto_region 1 with (fail)
  rw [← HV.out, ← HZZ.out]
  by_cases h0 : at_ < 0
  · have HFIN := Lib.hid (show LoadR s n at_ (.returned (.tuple #[.agg #[.int .u64 0, .int .u64 0, .int .u64 0], .bool false, .int .i64 2])) from .inr ⟨fun h => by have := inR2.mp h; omega, rfl⟩)
    go_wp2_with (first
      | (refine op_store3 sizeRHead rfl (.tmp 4) (.tmp 23) rfl z _ (h3 0 0 0) HZ.out rfl rfl (h3_one _ _ _) rfl rfl ?_)
      | fail)
    obtain ⟨hz0, hz1, hz2⟩ := (HZ.out.putAll (D := h3 0 0 0) rfl).three
    exact bodyPost_ret (v := .tuple #[.agg #[.int .u64 0, .int .u64 0, .int .u64 0], .bool false, .int .i64 2]) (by simp [results, Try.results19, go_sem, hz0, hz1, hz2]) rfl ⟨HFIN.out, Adv.lsetCells _ 0 _ HA.out (.inr HWZ.out)⟩
  · by_cases h1 : (n : Int) - 1 ≤ at_
    · have h0' : 0 ≤ at_ := by omega
      have HFIN := Lib.hid (show LoadR s n at_ (.returned (.tuple #[.agg #[.int .u64 0, .int .u64 0, .int .u64 0], .bool false, .int .i64 2])) from .inr ⟨fun h => by have := inR2.mp h; omega, rfl⟩)
      clear h0
      go_wp2_with (first
        | (refine op_store3 sizeRHead rfl (.tmp 4) (.tmp 23) rfl z _ (h3 0 0 0) HZ.out rfl rfl (h3_one _ _ _) rfl rfl ?_)
        | fail)
      obtain ⟨hz0, hz1, hz2⟩ := (HZ.out.putAll (D := h3 0 0 0) rfl).three
      exact bodyPost_ret (v := .tuple #[.agg #[.int .u64 0, .int .u64 0, .int .u64 0], .bool false, .int .i64 2]) (by simp [results, Try.results19, go_sem, hz0, hz1, hz2]) rfl ⟨HFIN.out, Adv.lsetCells _ 0 _ HA.out (.inr HWZ.out)⟩
    · obtain ⟨p, rfl⟩ := Int.eq_ofNat_of_zero_le (show 0 ≤ at_ by omega)
      have h1' : (p : Int) < (n : Int) - 1 := by omega
      have HP0 := Lib.hid (show p < n by omega)
      have HP1 := Lib.hid (show p + 1 < n by omega)
      have hw2 : IntKind.i64.wrap ((p : Int) + 1) = ((p + 1 : Nat) : Int) := by rw [IntKind.wrap_i64]; omega
      have HIN := Lib.hid (show inR n (p : Int) 2 from inR2.mpr (by omega))
      clear h0 h1 hn hn1
      go_wp2_with fail
      refine (ris_r c n p G s _ HR.out HP0.out HQ.out).mono ?_
      rintro e w1 ⟨v1, rfl, s1, rfl⟩
      obtain ⟨a1, k1, rfl, _, _⟩ := s1.form0
      have HS1 := Lib.hid s1.rd
      clear s1
      go_wp2_with fail
      refine (rone_any _ 128 (isS s p) 0 _ HS1.out (HSB.out p HP0.out)).mono ?_
      rintro x w2 ⟨rfl, t2⟩
      obtain ⟨A, hA⟩ : ∃ A, A = unO (isS s p) 0 := ⟨_, rfl⟩
      rw [← hA]
      obtain ⟨ag, hag⟩ : ∃ x, x = (A.getD hZ).g := ⟨_, rfl⟩
      obtain ⟨at1, hat⟩ : ∃ x, x = (A.getD hZ).t := ⟨_, rfl⟩
      obtain ⟨af, haf⟩ : ∃ x, x = (A.getD hZ).f := ⟨_, rfl⟩
      obtain ⟨ab, hab⟩ : ∃ x, x = A.isSome := ⟨_, rfl⟩
      unfold hv
      rw [← hag, ← hat, ← haf, ← hab]
      obtain ⟨u, hu⟩ : ∃ u, u = w2.heap.size := ⟨_, rfl⟩
      obtain ⟨w3, hw3⟩ : ∃ w4, w4 = w2.alloc (.cells #[.int .u64 (ag : Int), .int .u64 (at1 : Int), .int .u64 (af : Int)] 32) := ⟨_, rfl⟩
      have HU := Lib.hid (show Blk w3 u 32 #[.int .u64 (ag : Int), .int .u64 (at1 : Int), .int .u64 (af : Int)] by rw [hw3, hu]; exact Blk.new _ _ _)
      have hv3 : Adv Nul V Nul w3 := by rw [hw3]; exact t2.alloc _
      have HT3 := Lib.hid hv3
      have HR3 := Lib.hid (HR.out.far hv3 (fun _ h _ => h))
      have HAA := Lib.hid hA
      have HAG := Lib.hid hag
      have HAT := Lib.hid hat
      have HAF := Lib.hid haf
      have HAB := Lib.hid hab
      have HW3 := Lib.hid hw3
      have HUU := Lib.hid hu
      clear hA hag hat haf hab hu hw3 hv3 t2
      go_upto_region 4 with (fail)
      rw [← HW3.out, ← HUU.out]
      go_wp2_with fail
      refine (ris_r c n (p + 1) G s _ HR3.out HP1.out HQ.out).mono ?_
      rintro e w4 ⟨v4, rfl, s4, rfl⟩
      obtain ⟨a4, k4, rfl, _, _⟩ := s4.form0
      have HS4 := Lib.hid s4.rd
      clear s4
      go_wp2_with fail
      refine (rone_any _ 128 (isS s (p + 1)) 1 _ HS4.out (HSB.out (p + 1) HP1.out)).mono ?_
      rintro x w5 ⟨rfl, t5⟩
      obtain ⟨B, hB⟩ : ∃ A, A = unO (isS s (p + 1)) 1 := ⟨_, rfl⟩
      rw [← hB]
      obtain ⟨bg, hbg⟩ : ∃ x, x = (B.getD hZ).g := ⟨_, rfl⟩
      obtain ⟨bt, hbt⟩ : ∃ x, x = (B.getD hZ).t := ⟨_, rfl⟩
      obtain ⟨bf, hbf⟩ : ∃ x, x = (B.getD hZ).f := ⟨_, rfl⟩
      obtain ⟨bb, hbb⟩ : ∃ x, x = B.isSome := ⟨_, rfl⟩
      unfold hv
      rw [← hbg, ← hbt, ← hbf, ← hbb]
      obtain ⟨q, hq⟩ : ∃ u, u = w5.heap.size := ⟨_, rfl⟩
      obtain ⟨w6, hw6⟩ : ∃ w4, w4 = w5.alloc (.cells #[.int .u64 (bg : Int), .int .u64 (bt : Int), .int .u64 (bf : Int)] 32) := ⟨_, rfl⟩
      have HQB := Lib.hid (show Blk w6 q 32 #[.int .u64 (bg : Int), .int .u64 (bt : Int), .int .u64 (bf : Int)] by rw [hw6, hq]; exact Blk.new _ _ _)
      have hv6 : Adv Nul w3 Nul w6 := by rw [hw6]; exact t5.alloc _
      have HU6 := Lib.hid (HU.out.keep (hv6.block u HU.out.lt (fun h => h)))
      have HA6 := Lib.hid (HA.out.trans (HT3.out.trans hv6))
      have HZ6 := Lib.hid (HZ.out.keep ((HT3.out.trans hv6).block z HZ.out.lt (fun h => h)))
      have HBB := Lib.hid hB
      have HBG := Lib.hid hbg
      have HBT := Lib.hid hbt
      have HBF := Lib.hid hbf
      have HBO := Lib.hid hbb
      have HW6 := Lib.hid hw6
      have HQQ := Lib.hid hq
      clear hB hbg hbt hbf hbb hq hw6 hv6 t5
      go_upto_region 5 with (fail)
      rw [← HW6.out, ← HQQ.out]
      obtain ⟨u0, u1, u2⟩ := HU6.out.three
      obtain ⟨q0, q1, q2⟩ := HQB.out.three
      have hcur : curAt s p 2 = nx A B := by rw [curAt2, HAA.out, HBB.out]
      have hB' : nx A B = B → LoadR s n (p : Int) (.returned (.tuple #[.agg #[.int .u64 (bg : Int), .int .u64 (bt : Int), .int .u64 (bf : Int)], .bool bb, .int .i64 0])) := fun e => .inl ⟨HIN.out, by rw [HBG.out, HBT.out, HBF.out, HBO.out, Int.toNat_natCast, hcur, e]; rfl⟩
      have hA' : nx A B = A → LoadR s n (p : Int) (.returned (.tuple #[.agg #[.int .u64 (ag : Int), .int .u64 (at1 : Int), .int .u64 (af : Int)], .bool ab, .int .i64 0])) := fun e => .inl ⟨HIN.out, by rw [HAG.out, HAT.out, HAF.out, HAB.out, Int.toNat_natCast, hcur, e]; rfl⟩
      have HB' := Lib.hid hB'
      have HA' := Lib.hid hA'
      clear hcur hB' hA' c0
      cases bb with
      | false =>
        have hb0 : B = none := by have h := HBO.out; cases hB : B with | none => rfl | some x => rw [hB] at h; simp at h
        have HFIN := Lib.hid (HA'.out (by rw [hb0]; rfl))
        clear hb0
        go_wp2_with (first
          | (refine op_store3 sizeRHead rfl (.tmp 4) (.tmp 52) rfl z _ (h3 (ag : Int) (at1 : Int) (af : Int)) HZ6.out rfl rfl (h3_one _ _ _) rfl rfl ?_)
          | fail)
        obtain ⟨hz0, hz1, hz2⟩ := (HZ6.out.putAll (D := h3 (ag : Int) (at1 : Int) (af : Int)) rfl).three
        exact bodyPost_ret (v := .tuple #[.agg #[.int .u64 (ag : Int), .int .u64 (at1 : Int), .int .u64 (af : Int)], .bool ab, .int .i64 0]) (by simp [results, Try.results19, go_sem, hz0, hz1, hz2]) rfl ⟨HFIN.out, Adv.lsetCells _ 0 _ HA6.out (.inr HWZ.out)⟩
      | true =>
        obtain ⟨y, hyB⟩ : ∃ y, B = some y := by have h := HBO.out; cases hB : B with | none => rw [hB] at h; simp at h | some x => exact ⟨x, rfl⟩
        have HYB := Lib.hid hyB
        clear hyB
        cases ab with
        | false =>
          have ha0 : A = none := by have h := HAB.out; cases hA : A with | none => rfl | some x => rw [hA] at h; simp at h
          have HFIN := Lib.hid (HB'.out (by rw [ha0, nx_none]))
          clear ha0
          go_wp2_with (first
            | (refine op_store3 sizeRHead rfl (.tmp 4) (.tmp 51) rfl z _ (h3 (bg : Int) (bt : Int) (bf : Int)) HZ6.out rfl rfl (h3_one _ _ _) rfl rfl ?_)
            | fail)
          obtain ⟨hz0, hz1, hz2⟩ := (HZ6.out.putAll (D := h3 (bg : Int) (bt : Int) (bf : Int)) rfl).three
          exact bodyPost_ret (v := .tuple #[.agg #[.int .u64 (bg : Int), .int .u64 (bt : Int), .int .u64 (bf : Int)], .bool true, .int .i64 0]) (by simp [results, Try.results19, go_sem, hz0, hz1, hz2]) rfl ⟨HFIN.out, Adv.lsetCells _ 0 _ HA6.out (.inr HWZ.out)⟩
        | true =>
          obtain ⟨x, hxA⟩ : ∃ y, A = some y := by have h := HAB.out; cases hA : A with | none => rw [hA] at h; simp at h | some x => exact ⟨x, rfl⟩
          have hne : ag ≠ bg := fun e => by
            have h1 := unO_odd (HAA.out.symm.trans hxA)
            have h2 := unO_odd (HBB.out.symm.trans HYB.out)
            rw [HAG.out, HBG.out, hxA, HYB.out] at e
            simp only [Option.getD_some] at e
            omega
          by_cases hlt : ag < bg
          · have hgt : (ag : Int) < (bg : Int) := by omega
            have HFIN := Lib.hid (HB'.out (by rw [HYB.out]; exact if_pos (by have h1 := HAG.out; have h2 := HBG.out; rw [HYB.out] at h2; simp only [Option.getD_some] at h2; omega)))
            clear hlt hne hxA
            go_wp2_with (first
              | (refine op_store3 sizeRHead rfl (.tmp 4) (.tmp 51) rfl z _ (h3 (bg : Int) (bt : Int) (bf : Int)) HZ6.out rfl rfl (h3_one _ _ _) rfl rfl ?_)
              | fail)
            obtain ⟨hz0, hz1, hz2⟩ := (HZ6.out.putAll (D := h3 (bg : Int) (bt : Int) (bf : Int)) rfl).three
            exact bodyPost_ret (v := .tuple #[.agg #[.int .u64 (bg : Int), .int .u64 (bt : Int), .int .u64 (bf : Int)], .bool true, .int .i64 0]) (by simp [results, Try.results19, go_sem, hz0, hz1, hz2]) rfl ⟨HFIN.out, Adv.lsetCells _ 0 _ HA6.out (.inr HWZ.out)⟩
          · have hgt : (bg : Int) ≤ (ag : Int) := by omega
            have HFIN := Lib.hid (HA'.out (by rw [HYB.out]; exact if_neg (by have h1 := HAG.out; have h2 := HBG.out; rw [HYB.out] at h2; simp only [Option.getD_some] at h2; omega)))
            clear hlt hne hxA
            go_wp2_with (first
              | (refine op_store3 sizeRHead rfl (.tmp 4) (.tmp 52) rfl z _ (h3 (ag : Int) (at1 : Int) (af : Int)) HZ6.out rfl rfl (h3_one _ _ _) rfl rfl ?_)
              | fail)
            obtain ⟨hz0, hz1, hz2⟩ := (HZ6.out.putAll (D := h3 (ag : Int) (at1 : Int) (af : Int)) rfl).three
            exact bodyPost_ret (v := .tuple #[.agg #[.int .u64 (ag : Int), .int .u64 (at1 : Int), .int .u64 (af : Int)], .bool true, .int .i64 0]) (by simp [results, Try.results19, go_sem, hz0, hz1, hz2]) rfl ⟨HFIN.out, Adv.lsetCells _ 0 _ HA6.out (.inr HWZ.out)⟩
end Go.Proofs.Ytochmeibmjfnnaa
