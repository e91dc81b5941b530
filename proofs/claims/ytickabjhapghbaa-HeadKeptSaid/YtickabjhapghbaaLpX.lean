/- Pieces handed over: mine, plain; structs stored whole. -/
import Derived.Test.YtickabjhapghbaaLpR
namespace Go.Proofs.Ytickabjhapghbaa
open Go.RowKit

theorem Blk.lsetCells {g : Nat} {t : TypeId} : ∀ (vs : List Value) (o : Nat) (w : World) (cs : Array Value), Blk w g t cs → ∃ cs', Blk (w.setCells g o vs) g t cs' ∧ cs'.size = cs.size
  | [], _, _, cs, h => ⟨cs, h, rfl⟩
  | v :: r, o, w, cs, h => by
    rw [World.setCells]
    obtain ⟨cs', h1, h2⟩ := Blk.lsetCells r (o + 1) _ _ (h.set_ o v)
    exact ⟨cs', h1, by rw [h2]; simp⟩


theorem Blk.putAll {w : World} {g : Nat} {t : TypeId} {C D : Array Value} (h : Blk w g t C) (hs : D.size = C.size) : Blk (w.setCells g 0 D.toList) g t D := by
  obtain ⟨C', h1, h2⟩ := Blk.lsetCells D.toList 0 w C h
  have e : C' = D := by
    apply Array.ext (by omega)
    intro k hk1 hk2
    have hin := World.cell?_setCells_in g D.toList 0 w (fun j hj => by
      rw [h.cell (0 + j), Nat.zero_add, Array.getElem?_eq_getElem (by simp at hj; omega)]; rfl) k (by simpa using hk2)
    rw [Nat.zero_add, h1.cell k, Array.getElem?_eq_getElem hk1] at hin
    simpa using hin
  rw [← e]; rw [e] at h1 ⊢; exact h1
theorem Blk.five {w : World} {b : Nat} {t : TypeId} {a0 a1 a2 a3 a4 : Value} (h : Blk w b t #[a0, a1, a2, a3, a4]) : w.cell? ⟨b, 0, none⟩ = some a0 ∧ w.cell? ⟨b, 1, none⟩ = some a1 ∧ w.cell? ⟨b, 2, none⟩ = some a2 ∧ w.cell? ⟨b, 3, none⟩ = some a3 ∧ w.cell? ⟨b, 4, none⟩ = some a4 :=
  ⟨h.cell 0, h.cell 1, h.cell 2, h.cell 3, h.cell 4⟩
theorem Blk.there {w : World} {g : Nat} {t : TypeId} {C : Array Value} (h : Blk w g t C) : w.there g 0 C.size := fun j hj =>
  ⟨by rw [h.cell (0 + j), Nat.zero_add, Array.getElem?_eq_getElem hj]; rfl, h.frozen (0 + j)⟩
theorem sizePiece : (Try.prog.info? 59).map (·.size) = some 5 := by kernel_rfl
theorem sizeRPiece : (Try.prog.info? 61).map (·.size) = some 5 := by kernel_rfl
def pc5 (e c : Int) (f g : Bool) (v : Value) : Array Value := #[.int .u64 e, .int .u64 c, .bool f, .bool g, v]
theorem pc5_one (e c : Int) (f g : Bool) (A : Option Addr) (m k : Nat) : (pc5 e c f g (.slice A m k)).all (·.oneCell') = true := by simp [pc5, Value.oneCell']
theorem st_store5 {ops : Array Oper} {o : Oper} {a : Act} {w : World} {Q : Exit → Act → World → Prop} {K : Act → World → Prop} {E : Prop} {t t' : TypeId} (hsz : (Try.prog.info? t).map (·.size) = some 5) (hgd : o.guard = none) (x y : Operand) (ho : o.op = .store t x y)
    (z : Nat) (C D : Array Value) (hB : Blk w z t' C) (hC : C.size = 5) (hD : D.size = 5) (h1 : D.all (·.oneCell') = true) (hx : a.eval x = .pointer (some ⟨z, 0, none⟩)) (hy : a.eval y = .agg D)
    (h : K (a.put o.dst undef) (w.setCells z 0 D.toList)) : if Region.wanted o (yielded ops a.tmps) = true then Oper.wp Try.prog o a w K Q else E := by
  rw [if_pos (by simp [Region.wanted, hgd])]
  refine wp_store_mid t x y ho z 0 D hx hy ?_ (by rw [hsz, hD]) h1 h
  have := hB.there
  rw [hC] at this
  rw [hD]; exact this

set_option maxRecDepth 3000 in
set_option maxHeartbeats 400000 in
theorem plain_any (e c : Int) (f g : Bool) (A : Option Addr) (m k : Nat) (w : World) :
    Calls Try.prog 28 #[.agg #[.int .u64 e, .int .u64 c, .bool f, .bool g, .slice A m k]] w fun x w' => x = .returned (.agg #[.int .u64 e, .int .u64 c, .bool f, .bool g, .slice A m k]) ∧ Adv Nul w Nul w' := by
  go_enter Try.func28, Try.ntmps28
  go_wp2_with fail
  exact bodyPost_ret (v := .agg #[.int .u64 e, .int .u64 c, .bool f, .bool g, .slice A m k]) (by simp [results, Try.results28, go_sem]) rfl ⟨rfl, ((Adv.refl _ _).alloc _).alloc _⟩

/-- a piece that came back: its data in new memory -/
def MineR (w : World) (e c : Int) (f g : Bool) (l : List Nat) (x : Ending) (w' : World) : Prop :=
  ∃ a k F, x = .returned (.agg #[.int .u64 e, .int .u64 c, .bool f, .bool g, .slice a l.length k]) ∧ Sl w' F 5 1 (.slice a l.length k) l.length (l.map u8) ∧ Adv Nul w F w'

set_option maxRecDepth 3000 in
set_option maxHeartbeats 1600000 in
theorem mine_any (e c : Int) (f g : Bool) (v : Value) (l : List Nat) (w : World) (hv : In w v l) :
    Calls Try.prog 27 #[.agg #[.int .u64 e, .int .u64 c, .bool f, .bool g, v]] w (MineR w e c f g (l.take 120)) := by
  obtain ⟨A, ca, rfl, _, _⟩ := hv.rd.form
  obtain ⟨b, hb⟩ : ∃ b, b = w.heap.size := ⟨_, rfl⟩
  obtain ⟨m, hm⟩ : ∃ m, m = l.length := ⟨_, rfl⟩
  obtain ⟨W, hW⟩ : ∃ W, W = (w.alloc (.cells #[.int .u64 e, .int .u64 c, .bool f, .bool g, .slice A l.length ca] 61)).alloc (.cells #[.int .u64 0, .int .u64 0, .bool false, .bool false, .slice none 0 0] 59) := ⟨_, rfl⟩
  have hB : Blk W b 61 #[.int .u64 e, .int .u64 c, .bool f, .bool g, .slice A l.length ca] := by rw [hW, hb]; exact (Blk.new _ _ _).alloc _
  have hZ : Blk W (b + 1) 59 #[.int .u64 0, .int .u64 0, .bool false, .bool false, .slice none 0 0] := by
    have h := Blk.new (w.alloc (.cells #[.int .u64 e, .int .u64 c, .bool f, .bool g, .slice A l.length ca] 61)) 59 #[.int .u64 0, .int .u64 0, .bool false, .bool false, .slice none 0 0]
    rw [hW, hb]; simpa using h
  have hA : Adv Nul w Nul W := by rw [hW]; exact ((Adv.refl _ _).alloc _).alloc _
  have hv2 : In W.drew (.slice A l.length ca) l := hv.far hA.drew.toBelow
  have hnew : ∀ k, Nul k ∨ k = b + 1 → Nul k ∨ w.heap.size ≤ k := by rintro k (h | h); exact .inl h; right; omega
  obtain ⟨L, hL⟩ : ∃ L, L = l.take 120 := ⟨_, rfl⟩
  have hLn : L.length ≤ 120 := by rw [hL]; simp; omega
  rw [← hm] at hB hW hv2 ⊢
  rw [← hL]
  have HL := Lib.hid hL
  have HLN := Lib.hid (show L.length ≤ 1000000000 by omega)
  have HB := Lib.hid hB
  have HZ := Lib.hid hZ
  have HA := Lib.hid hA
  have HV := Lib.hid hv2
  have HW := Lib.hid hW
  have HBB := Lib.hid hb
  have c0 := hB.cell 0
  have c1 := hB.cell 1
  have c2 := hB.cell 2
  have c3 := hB.cell 3
  have c4 := hB.cell 4
  clear hv hv2 hW hb hm hB hZ hA hnew hL hLn
  go_enter Try.func27, Try.ntmps27
  go_wp2_with fail
  rw [← HW.out, ← HBB.out]
  refine wp_region_held_drew (S := (fun w' => w'.cell? ⟨b, 0, none⟩ = some (.int .u64 e) ∧ w'.cell? ⟨b, 1, none⟩ = some (.int .u64 c) ∧ w'.cell? ⟨b, 2, none⟩ = some (.bool f) ∧ w'.cell? ⟨b, 3, none⟩ = some (.bool g) ∧ w'.cell? ⟨b, 4, none⟩ = some (.slice A m ca))) (by kernel_rfl) (by first | exact KF.out | exact KK.out | exact ⟨c0, c1, c2, c3, c4⟩) (fun hHeld => ?_)
  clear hHeld
  refine wpAnyH_take (i := 0) (oi := ⟨some 3, .fieldAddr 61 (.tmp 1) 0, 0, "law.go:20", #[], none⟩) (v := ?_) rfl (by kernel_rfl) (by kernel_rfl) (by kernel_rfl) (fun _ _ _ h => h) (Or.inl ⟨by rfl, ?_⟩) (by first | exact KF.out | exact KK.out | exact ⟨c0, c1, c2, c3, c4⟩) ?_
  rotate_left
  · (intro w hSw; obtain ⟨s0, s1, s2, s3, s4⟩ := hSw; go_simp <;> with_reducible rfl)
  simp only [Act.put, List.setIfInBounds_toArray, List.set_cons_zero, List.set_cons_succ]
  refine wpAnyH_take (i := 1) (oi := ⟨some 4, .load 56 (.tmp 3), 56, "law.go:20", #[⟨0, .data⟩], none⟩) (v := ?_) rfl (by kernel_rfl) (by kernel_rfl) (by kernel_rfl) (fun _ _ _ h => h) (Or.inl ⟨by rfl, ?_⟩) (by first | exact KF.out | exact KK.out | exact ⟨c0, c1, c2, c3, c4⟩) ?_
  rotate_left
  · (intro w hSw; obtain ⟨s0, s1, s2, s3, s4⟩ := hSw; go_simp <;> with_reducible rfl)
  simp only [Act.put, List.setIfInBounds_toArray, List.set_cons_zero, List.set_cons_succ]
  refine wpAnyH_take (i := 2) (oi := ⟨some 5, .fieldAddr 61 (.tmp 1) 1, 0, "law.go:20", #[], none⟩) (v := ?_) rfl (by kernel_rfl) (by kernel_rfl) (by kernel_rfl) (fun _ _ _ h => h) (Or.inl ⟨by rfl, ?_⟩) (by first | exact KF.out | exact KK.out | exact ⟨c0, c1, c2, c3, c4⟩) ?_
  rotate_left
  · (intro w hSw; obtain ⟨s0, s1, s2, s3, s4⟩ := hSw; go_simp <;> with_reducible rfl)
  simp only [Act.put, List.setIfInBounds_toArray, List.set_cons_zero, List.set_cons_succ]
  refine wpAnyH_take (i := 3) (oi := ⟨some 6, .load 56 (.tmp 5), 56, "law.go:20", #[⟨2, .data⟩], none⟩) (v := ?_) rfl (by kernel_rfl) (by kernel_rfl) (by kernel_rfl) (fun _ _ _ h => h) (Or.inl ⟨by rfl, ?_⟩) (by first | exact KF.out | exact KK.out | exact ⟨c0, c1, c2, c3, c4⟩) ?_
  rotate_left
  · (intro w hSw; obtain ⟨s0, s1, s2, s3, s4⟩ := hSw; go_simp <;> with_reducible rfl)
  simp only [Act.put, List.setIfInBounds_toArray, List.set_cons_zero, List.set_cons_succ]
  refine wpAnyH_take (i := 4) (oi := ⟨some 7, .fieldAddr 61 (.tmp 1) 2, 0, "law.go:20", #[], none⟩) (v := ?_) rfl (by kernel_rfl) (by kernel_rfl) (by kernel_rfl) (fun _ _ _ h => h) (Or.inl ⟨by rfl, ?_⟩) (by first | exact KF.out | exact KK.out | exact ⟨c0, c1, c2, c3, c4⟩) ?_
  rotate_left
  · (intro w hSw; obtain ⟨s0, s1, s2, s3, s4⟩ := hSw; go_simp <;> with_reducible rfl)
  simp only [Act.put, List.setIfInBounds_toArray, List.set_cons_zero, List.set_cons_succ]
  refine wpAnyH_take (i := 5) (oi := ⟨some 8, .load 4 (.tmp 7), 4, "law.go:20", #[⟨4, .data⟩], none⟩) (v := ?_) rfl (by kernel_rfl) (by kernel_rfl) (by kernel_rfl) (fun _ _ _ h => h) (Or.inl ⟨by rfl, ?_⟩) (by first | exact KF.out | exact KK.out | exact ⟨c0, c1, c2, c3, c4⟩) ?_
  rotate_left
  · (intro w hSw; obtain ⟨s0, s1, s2, s3, s4⟩ := hSw; go_simp <;> with_reducible rfl)
  simp only [Act.put, List.setIfInBounds_toArray, List.set_cons_zero, List.set_cons_succ]
  refine wpAnyH_take (i := 6) (oi := ⟨some 9, .fieldAddr 61 (.tmp 1) 3, 0, "law.go:20", #[], none⟩) (v := ?_) rfl (by kernel_rfl) (by kernel_rfl) (by kernel_rfl) (fun _ _ _ h => h) (Or.inl ⟨by rfl, ?_⟩) (by first | exact KF.out | exact KK.out | exact ⟨c0, c1, c2, c3, c4⟩) ?_
  rotate_left
  · (intro w hSw; obtain ⟨s0, s1, s2, s3, s4⟩ := hSw; go_simp <;> with_reducible rfl)
  simp only [Act.put, List.setIfInBounds_toArray, List.set_cons_zero, List.set_cons_succ]
  refine wpAnyH_take (i := 7) (oi := ⟨some 10, .load 4 (.tmp 9), 4, "law.go:20", #[⟨6, .data⟩], none⟩) (v := ?_) rfl (by kernel_rfl) (by kernel_rfl) (by kernel_rfl) (fun _ _ _ h => h) (Or.inl ⟨by rfl, ?_⟩) (by first | exact KF.out | exact KK.out | exact ⟨c0, c1, c2, c3, c4⟩) ?_
  rotate_left
  · (intro w hSw; obtain ⟨s0, s1, s2, s3, s4⟩ := hSw; go_simp <;> with_reducible rfl)
  simp only [Act.put, List.setIfInBounds_toArray, List.set_cons_zero, List.set_cons_succ]
  refine wpAnyH_take (i := 8) (oi := ⟨some 11, .fieldAddr 61 (.tmp 1) 4, 0, "law.go:20", #[], none⟩) (v := ?_) rfl (by kernel_rfl) (by kernel_rfl) (by kernel_rfl) (fun _ _ _ h => h) (Or.inl ⟨by rfl, ?_⟩) (by first | exact KF.out | exact KK.out | exact ⟨c0, c1, c2, c3, c4⟩) ?_
  rotate_left
  · (intro w hSw; obtain ⟨s0, s1, s2, s3, s4⟩ := hSw; go_simp <;> with_reducible rfl)
  simp only [Act.put, List.setIfInBounds_toArray, List.set_cons_zero, List.set_cons_succ]
  refine wpAnyH_take (i := 9) (oi := ⟨some 12, .load 30 (.tmp 11), 30, "law.go:20", #[⟨8, .data⟩], none⟩) (v := ?_) rfl (by kernel_rfl) (by kernel_rfl) (by kernel_rfl) (fun _ _ _ h => h) (Or.inl ⟨by rfl, ?_⟩) (by first | exact KF.out | exact KK.out | exact ⟨c0, c1, c2, c3, c4⟩) ?_
  rotate_left
  · (intro w hSw; obtain ⟨s0, s1, s2, s3, s4⟩ := hSw; go_simp <;> with_reducible rfl)
  simp only [Act.put, List.setIfInBounds_toArray, List.set_cons_zero, List.set_cons_succ]
  refine wpAnyH_ready (rs := [10]) (by kernel_rfl) (by simp) ?_
  refine AllReadyH.cons (o := ⟨some 13, .call { callee := Go.Callee.value (.func 11), args := #[Go.Operand.tmp 12, Go.Operand.const (Go.Value.int Go.IntKind.i64 120)], argTypes := #[30, 3] }, 30, "law.go:20", #[⟨9, .data⟩], none⟩) rfl (fun K hK => ?_) AllReadyH.nil
  go_simp
  refine (cut_any _ l 120 _ HV.out (by decide)).mono ?_
  rintro x wq ⟨vk, rfl, hk, rfl⟩
  rw [← HL.out] at hk
  go_wp2_with fail
  refine hK.out _ _ (by first | exact KF.out | exact KK.out | exact ⟨c0, c1, c2, c3, c4⟩) (fun hHeld => ?_)
  clear hK K hHeld
  try simp only [Act.put, List.setIfInBounds_toArray, List.set_cons_zero, List.set_cons_succ]
  refine wpAnyH_ready (rs := [11]) (by kernel_rfl) (by simp) ?_
  refine AllReadyH.cons (o := ⟨some 14, .call { callee := Go.Callee.value (.func 10), args := #[Go.Operand.tmp 13], argTypes := #[30] }, 30, "law.go:20", #[⟨10, .data⟩, ⟨10, .chain⟩], none⟩) rfl (fun K hK => ?_) AllReadyH.nil
  go_simp
  refine (copy_any vk _ L _ hk.rd HLN.out).mono ?_
  rintro x wc ⟨vc, Fc, rfl, hc, ac⟩
  obtain ⟨Ac, cc, rfl, _, _⟩ := hc.form0
  have hbc := HB.out.drew.keep (ac.block b HB.out.drew.lt (fun h => h))
  have KK := Lib.hid (show _ ∧ _ ∧ _ ∧ _ ∧ _ from ⟨hbc.cell 0, hbc.cell 1, hbc.cell 2, hbc.cell 3, hbc.cell 4⟩)
  have hzc := HZ.out.drew.keep (ac.block (b + 1) HZ.out.drew.lt (fun h => h))
  have HZC := Lib.hid hzc
  have HBC := Lib.hid hbc
  have HC := Lib.hid hc
  have AC := Lib.hid (Adv.of_drew ac)
  clear hbc hzc hc ac hk
  go_wp2_with fail
  refine hK.out _ _ (by first | exact KF.out | exact KK.out | exact ⟨c0, c1, c2, c3, c4⟩) (fun hHeld => ?_)
  clear hK K hHeld
  try simp only [Act.put, List.setIfInBounds_toArray, List.set_cons_zero, List.set_cons_succ]
  refine wpAnyH_take (i := 12) (oi := ⟨some 15, .build 59 #[(0, Go.Operand.tmp 4), (1, Go.Operand.tmp 6), (2, Go.Operand.tmp 8), (3, Go.Operand.tmp 10), (4, Go.Operand.tmp 14)], 59, "law.go:20", #[⟨1, .data⟩, ⟨3, .data⟩, ⟨5, .data⟩, ⟨7, .data⟩, ⟨11, .data⟩], none⟩) (v := ?_) rfl (by kernel_rfl) (by kernel_rfl) (by kernel_rfl) (fun _ _ _ h => h) (Or.inl ⟨by rfl, ?_⟩) (by first | exact KF.out | exact KK.out | exact ⟨c0, c1, c2, c3, c4⟩) ?_
  rotate_left
  · (intro w hSw; obtain ⟨s0, s1, s2, s3, s4⟩ := hSw; go_simp <;> with_reducible rfl)
  simp only [Act.put, List.setIfInBounds_toArray, List.set_cons_zero, List.set_cons_succ]
  refine wpAnyH_ready (rs := [13]) (by kernel_rfl) (by simp) ?_
  refine AllReadyH.cons (o := ⟨none, .store 59 (.tmp 2) (.tmp 15), 0, "law.go:20", #[⟨12, .data⟩, ⟨11, .chain⟩, ⟨0, .phase⟩, ⟨1, .phase⟩, ⟨2, .phase⟩, ⟨3, .phase⟩, ⟨4, .phase⟩, ⟨5, .phase⟩, ⟨6, .phase⟩, ⟨7, .phase⟩, ⟨8, .phase⟩, ⟨9, .phase⟩, ⟨10, .phase⟩, ⟨11, .phase⟩, ⟨12, .phase⟩], none⟩) rfl (fun K hK => ?_) AllReadyH.nil
  refine st_store5 sizePiece rfl (.tmp 2) (.tmp 15) rfl (b + 1) _ (pc5 e c f g (.slice Ac L.length cc)) HZC.out rfl rfl (pc5_one _ _ _ _ _ _ _) rfl rfl ?_
  have hzn := HZC.out.putAll (D := pc5 e c f g (.slice Ac L.length cc)) rfl
  have hbn := HBC.out.keep (lsetCells_heap (b + 1) (k := b) (by omega) (pc5 e c f g (.slice Ac L.length cc)).toList 0 wc)
  have KF := Lib.hid (show _ ∧ _ ∧ _ ∧ _ ∧ _ from ⟨hbn.cell 0, hbn.cell 1, hbn.cell 2, hbn.cell 3, hbn.cell 4⟩)
  have HZN := Lib.hid hzn
  clear hzn hbn
  refine hK.out _ _ (by first | exact KF.out | exact KK.out | exact ⟨c0, c1, c2, c3, c4⟩) (fun hHeld => ?_)
  clear hK K hHeld
  try simp only [Act.put]
  refine wpAnyH_done (by kernel_rfl) ?_ _
  obtain ⟨D, hD⟩ : ∃ D, D = (pc5 e c f g (.slice Ac L.length cc)).toList := ⟨_, rfl⟩
  obtain ⟨hz0, hz1, hz2, hz3, hz4⟩ := HZN.out.five
  have hadv := (HA.out.trans AC.out)
  have hfin : MineR w e c f g L (.returned (.agg #[.int .u64 e, .int .u64 c, .bool f, .bool g, .slice Ac L.length cc])) (wc.setCells (b + 1) 0 D) := by
    have hne : ∀ k, Fc k → k ≠ b + 1 := by
      intro k hk e'
      rcases AC.out.into k hk with h | h
      · exact h
      · have := HZ.out.lt
        omega
    have hsl : Sl (wc.setCells (b + 1) 0 D) Fc 5 1 (.slice Ac L.length cc) L.length (L.map u8) :=
      ⟨own_keep HC.out.own fun k hk => lsetCells_heap (b + 1) (hne k (HC.out.inF k hk)) D 0 wc, HC.out.inF, fun k hk => Nat.lt_of_lt_of_le (HC.out.bd k hk) (Adv.lsetCells D 0 _ (Adv.refl (fun k => k = b + 1) wc) (.inl rfl)).size⟩
    exact ⟨_, _, _, rfl, hsl, Adv.lsetCells D 0 _ hadv (.inr (by have := HBB.out; omega))⟩
  rw [← hD] at hz0 hz1 hz2 hz3 hz4 ⊢
  have HFIN := Lib.hid hfin
  clear hfin hadv hD
  go_wp2_with fail
  exact bodyPost_ret (v := .agg #[.int .u64 e, .int .u64 c, .bool f, .bool g, .slice Ac L.length cc]) (by simp [results, Try.results27, go_sem, hz0, hz1, hz2, hz3, hz4]) rfl HFIN.out
end Go.Proofs.Ytickabjhapghbaa
