/- Where an inode's blocks lie; lists of numbers held against each other; the program's inode of the document's. -/
import Derived.Test.YtbdjlmdbnoghnaaInB
namespace Go.Proofs.Ytbdjlmdbnoghnaa
open Go.ChangeShapes Go.WideShapes Go.ChangeAt Go.RowKit

theorem one_grownE {e : TypeId} {w wr w1 : World} {F : Nat → Prop} {v v' : Value} {k m : Nat} {xs ys : List Value} {o : Obj} (hS : Sl wr F e 1 v k xs) (ha : Adv Nul w F wr) (hown : w1.ownsRow 0 e 1 v' (k + 1) ys) (hg : (wr.alloc o).grownBy w1 v.ownBlock)
    (hat : v'.ownBlock = v.ownBlock ∨ v'.ownBlock = some m) (hm : wr.heap.size ≤ m) : Sl w1 (fun j => F j ∨ v'.ownBlock = some j) e 1 v' (k + 1) ys ∧ Adv Nul w (fun j => F j ∨ v'.ownBlock = some j) w1 := by
  have hF' : ∀ j, (F j ∨ v'.ownBlock = some j) → F j ∨ wr.heap.size ≤ j := by
    rintro j (h | h)
    · exact .inl h
    · rcases hat with q | q
      · exact .inl (hS.inF j (by rw [← q]; exact h))
      · rw [q] at h; injection h with h; right; omega
  have hA : Adv F wr (fun j => F j ∨ v'.ownBlock = some j) w1 := by
    have h1 := ((Adv.refl F wr).alloc o).grown hg (fun j hj => .inl (hS.inF j hj))
    exact ⟨h1.os, h1.tape, h1.output, h1.size, h1.block, hF'⟩
  refine ⟨⟨hown, fun j hj => .inr hj, ?_⟩, ha.trans hA⟩
  rintro j (h | h)
  · exact Nat.lt_of_lt_of_le (hS.bd j h) hA.size
  · exact (hown.lt j h).2

set_option maxRecDepth 3000 in
theorem same_ints (v1 v2 : Value) (n : Nat) (l : List Int) (w : World) (h1 : Rd w 1 v1 n (l.map (Value.int .i64))) (h2 : Rd w 1 v2 n (l.map (Value.int .i64))) :
    Calls Try.prog 10 #[v1, v2] w fun e w' => e = .returned (.bool true) ∧ ∃ k, w' = w.drewN k := by
  obtain ⟨A1, c1, rfl, _, _⟩ := h1.form
  obtain ⟨A2, c2, rfl, _, hc2⟩ := h2.form
  unfold maxLen at hc2
  have hl : l.length = n := by obtain ⟨_, _, _, _, _, h, _⟩ := h1; simpa using h
  have H1 := Lib.hid h1
  have H2 := Lib.hid h2
  have HL := Lib.hid hl
  clear h1 h2 hl
  go_enter Try.func10, Try.ntmps10
  go_wp2_with fail
  go_loopw [5] (fun t wr => ∃ k : Nat, t = .int .i64 ((k : Nat) : Int) ∧ k ≤ n ∧ ∃ j, wr = w.drewN j) (fun t _ => n - (intOf t).toNat)
  case atStart => exact ⟨0, rfl, Nat.zero_le _, 0, rfl⟩
  case round =>
    obtain ⟨k, rfl, hk, j, rfl⟩ := hrel
    by_cases hlt : k < n
    · obtain ⟨b1, o1, rfl, _, g1⟩ := H1.out.cells (by omega) (by decide)
      obtain ⟨b2, o2, rfl, _, g2⟩ := H2.out.cells (by omega) (by decide)
      have hkl : k < l.length := by have := HL.out; omega
      have c1' : w.cell? ⟨b1, o1 + k, none⟩ = some (.int .i64 l[k]) := g1 k _ (by rw [List.getElem?_map, List.getElem?_eq_getElem hkl]; rfl)
      have c2' : w.cell? ⟨b2, o2 + k, none⟩ = some (.int .i64 l[k]) := g2 k _ (by rw [List.getElem?_map, List.getElem?_eq_getElem hkl]; rfl)
      obtain ⟨x, hx⟩ : ∃ x, x = l[k] := ⟨_, rfl⟩
      rw [← hx] at c1' c2'
      clear g1 g2 hx hkl
      go_wp2_with fail
      go_quiet (fail)
      go_wp2
      exact ⟨⟨k + 1, by simp, by omega, _, rfl⟩, by simp [intOf]; omega⟩
    · obtain rfl : k = n := by omega
      go_wp2
      go_ret
      exact ⟨rfl, _, rfl⟩

theorem infoInt : (Try.prog.info? 3).map (fun i => (i.zero, i.size, i.bytes)) = some (some (.int .i64 0), 1, 8) := by kernel_rfl
/-- the numbers found so far -/
def NzL (V : World) (x : Ino) (t3 t8 : Value) (wr : World) : Prop :=
  ∃ (j : Nat) (F : Nat → Prop), t8 = .int .i64 (j : Int) ∧ j ≤ 8 ∧ Sl wr F 3 1 t3 (nzI x j).length ((nzI x j).map (Value.int .i64)) ∧ Adv Nul V F wr
theorem nz_yes {x : Ino} {j : Nat} (h : x.a j ≠ 0) : nzI x (j + 1) = nzI x j ++ [x.a j] := if_pos h
theorem nz_no {x : Ino} {j : Nat} (h : x.a j = 0) : nzI x (j + 1) = nzI x j := if_neg (fun k => k h)
theorem nz_sl {x : Ino} {j : Nat} {w : World} {F : Nat → Prop} {v : Value} (h : x.a j ≠ 0) (hs : Sl w F 3 1 v ((nzI x j).length + 1) ((nzI x j).map (Value.int .i64) ++ [.int .i64 (x.a j)])) : Sl w F 3 1 v (nzI x (j + 1)).length ((nzI x (j + 1)).map (Value.int .i64)) := by
  rw [nz_yes h, List.map_append, List.length_append]
  exact hs
set_option maxRecDepth 3000 in
set_option maxHeartbeats 1600000 in
theorem places_any (x : Ino) (w : World) : Calls Try.prog 11 #[.agg (ic x)] w fun e w' => ∃ v F, e = .returned v ∧ Sl w' F 3 1 v (nzI x 8).length ((nzI x 8).map (Value.int .i64)) ∧ Adv Nul w F w' := by
  obtain ⟨i0, hi, hz0, hz1, hz2⟩ := info_parts infoInt
  obtain ⟨y, hy⟩ : ∃ y, y = w.heap.size := ⟨_, rfl⟩
  obtain ⟨V, hV⟩ : ∃ V, V = w.alloc (.cells (ic x) 30) := ⟨_, rfl⟩
  have HY := Lib.hid (show Blk V y 30 (ic x) by rw [hV, hy]; exact Blk.new _ _ _)
  have HA := Lib.hid (show Adv Nul w Nul V by rw [hV]; exact (Adv.refl _ _).alloc _)
  have HV := Lib.hid hV
  have HYY := Lib.hid hy
  obtain ⟨s0, s1, s2, s3, s4, s5, s6, s7, s8, s9, s10⟩ := HY.out.c11.all
  clear hV hy
  obtain ⟨k, g, v, a⟩ := x
  have HI := Lib.hid (idx_arr a)
  simp only [ic] at HV ⊢
  simp only at s0 s1 s2 s3 s4 s5 s6 s7 s8 s9 s10
  go_enter Try.func11, Try.ntmps11
  go_upto_region 1 with (fail)
  rw [← HV.out, ← HYY.out]
  go_wp2_with fail
  clear s0 s1 s2 s3 s4 s5 s6 s7 s8 s9 s10
  go_loopw [3, 8] (NzL V ⟨k, g, v, a⟩) (fun _ t _ => 8 - (intOf t).toNat)
  case atStart => exact ⟨0, Nul, rfl, Nat.zero_le _, Sl.nil _ _ _, Adv.refl _ _⟩
  case round =>
    obtain ⟨j, F, rfl, hj, hS, hA⟩ := hrel
    obtain ⟨A3, c3, rfl, _, _⟩ := hS.form0
    have HS := Lib.hid hS
    have HAR := Lib.hid hA
    have hown := hS.own
    have hle := nzI_le ⟨k, g, v, a⟩ j
    obtain ⟨n, hn⟩ : ∃ n, n = (nzI ⟨k, g, v, a⟩ j).length := ⟨_, rfl⟩
    rw [← hn] at hown hle ⊢
    have HN := Lib.hid hn
    clear hS hA hn
    by_cases hlt : j < 8
    · have hij := HI.out j hlt
      have HLT := Lib.hid hlt
      by_cases h0 : a j = 0
      · have H0 := Lib.hid h0
        rw [h0] at hij
        clear h0 hown hle
        go_wp2_with fail
        refine ⟨⟨j + 1, F, by simp, HLT.out, ?_, HAR.out⟩, by simp [intOf] <;> omega⟩
        rw [HN.out, nz_no H0.out]
        rw [HN.out] at *
        exact HS.out
      · have H0 := Lib.hid h0
        obtain ⟨z, hz⟩ : ∃ z, z = a j := ⟨_, rfl⟩
        rw [← hz] at hij h0
        have HZ := Lib.hid hz
        have hn7 : n ≤ 8 := by omega
        clear hz hle
        go_wp2_with (first
          | (at_builtin; refine wpList_append_own_at _ rfl (.tmp 13) (.tmp 15) 34 rfl 0 3 i0 (.int .i64 0) 1 8 Try.underlying34 hi hz0 hz1 hz2 rfl (by decide) (.slice A3 n c3) n _ rfl (hown.alloc _) ⟨wr.heap.size, 0, none⟩ 1 1 [.int .i64 z] rfl rfl (cell_one_new _ _ _) ?c2 ?c3 ?c4 (Nat.zero_le _) ?c5)
          | fail)
        case c2 => intro u hu; simp at hu; subst hu; rfl
        case c3 => unfold maxLen; omega
        case c4 => omega
        case c5 =>
          intro v' w1 hown1 hg1 _ hat1
          have hS2 := HS.out
          rw [← HN.out] at hS2
          obtain ⟨h3, a3⟩ := one_grownE hS2 HAR.out hown1 hg1 hat1 (by omega)
          rw [HN.out, HZ.out] at h3
          have H3 := Lib.hid (nz_sl (x := ⟨k, g, v, a⟩) H0.out h3)
          have A3' := Lib.hid a3
          clear h3 a3 hown1 hg1 hat1 hown hS2
          go_wp2_with fail
          exact ⟨⟨j + 1, _, by simp, HLT.out, H3.out, A3'.out⟩, by have := HLT.out; simp [intOf] <;> omega⟩
    · obtain rfl : j = 8 := by omega
      clear hj hlt hown hle
      go_wp2_with fail
      go_ret
      refine ⟨_, F, rfl, ?_, HA.out.trans HAR.out⟩
      have h := HS.out
      rw [← HN.out] at h ⊢
      exact h
set_option maxRecDepth 3000 in
set_option maxHeartbeats 800000 in
theorem used_any (x : Ino) (w : World) : Calls Try.prog 12 #[.agg (ic x)] w fun e w' => e = .returned (.int .i64 ((nzI x 8).length : Int)) ∧ Adv Nul w Nul w' := by
  obtain ⟨y, hy⟩ : ∃ y, y = w.heap.size := ⟨_, rfl⟩
  obtain ⟨V, hV⟩ : ∃ V, V = w.alloc (.cells (ic x) 30) := ⟨_, rfl⟩
  have HY := Lib.hid (show Blk V y 30 (ic x) by rw [hV, hy]; exact Blk.new _ _ _)
  have HA := Lib.hid (show Adv Nul w Nul V by rw [hV]; exact (Adv.refl _ _).alloc _)
  have HV := Lib.hid hV
  have HYY := Lib.hid hy
  have HP := Lib.hid (places_any x)
  obtain ⟨s0, s1, s2, s3, s4, s5, s6, s7, s8, s9, s10⟩ := HY.out.c11.all
  clear hV hy
  obtain ⟨n, hn⟩ : ∃ n, n = (nzI x 8).length := ⟨_, rfl⟩
  rw [← hn] at HP ⊢
  obtain ⟨k, g, v, a⟩ := x
  simp only [ic] at HV HP ⊢
  simp only at s0 s1 s2 s3 s4 s5 s6 s7 s8 s9 s10
  clear hn
  go_enter Try.func12, Try.ntmps12
  go_upto_region 1 with (fail)
  rw [← HV.out, ← HYY.out]
  go_wp2_with (first
    | (go_at_call 11; refine (HP.out _).mono ?_; rintro e w1 ⟨v1, F1, rfl, p1, a1⟩; obtain ⟨A1, c1, rfl, _, _⟩ := p1.form0; have HA1 := Lib.hid a1; clear a1 p1)
    | fail)
  go_ret
  exact ⟨rfl, HA.out.trans (HA1.out.sub (fun _ h => h.elim))⟩
set_option maxRecDepth 3000 in
set_option maxHeartbeats 800000 in
theorem mine_any (x : Ino) (w : World) : Calls Try.prog 7 #[.agg (ic x)] w fun e w' => e = .returned (.agg (ic x)) ∧ Adv Nul w Nul w' := by
  obtain ⟨k, g, v, a⟩ := x
  simp only [ic]
  go_enter Try.func7, Try.ntmps7
  go_wp2_with fail
  exact bodyPost_ret (v := .agg #[.int .i64 k, .int .i64 g, .int .u64 (v : Int), .int .i64 (a 0), .int .i64 (a 1), .int .i64 (a 2), .int .i64 (a 3), .int .i64 (a 4), .int .i64 (a 5), .int .i64 (a 6), .int .i64 (a 7)]) (by simp [results, Try.results7, go_sem]) rfl ⟨rfl, ((Adv.refl _ _).alloc _).alloc _⟩
end Go.Proofs.Ytbdjlmdbnoghnaa
