/- An entry's bits, put by the program. -/
import Derived.Test.YtpgeebhepegpaaaDrA
import Derived.Test.YtpgeebhepegpaaaInP
import Derived.Deep.MidRow
namespace Go.Proofs.Ytpgeebhepegpaaa
open Go.ChangeShapes Go.WideShapes Go.ChangeAt Go.RowKit

set_option maxRecDepth 3000 in
theorem WSt.keepA {w w' : World} {F F' : Nat → Prop} {b N m : Nat} (h : WSt w F b N m) (ha : Adv Nul w F' w') : WSt w' F b N m := by
  obtain ⟨rv, hB, hS⟩ := h.ex
  exact ⟨⟨rv, hB.keep (ha.block b hB.lt (fun x => x)), hS.far ha (fun _ x => x.elim)⟩, h.inF, h.lt⟩
/-- a writer since W: so many bits -/
structure WL (W : World) (F0 F : Nat → Prop) (b N m : Nat) (w : World) : Prop where
  ws : WSt w F b N m
  ad : Adv F0 W F w
  bd : Bd F w
section
variable {W w w' : World} {F0 F F' : Nat → Prop} {b N m : Nat}
set_option maxRecDepth 3000 in
theorem WL.over (h : WL W F0 F b N m w) (ha : Adv Nul w F' w') : WL W F0 F b N m w' := ⟨h.ws.keepA ha, h.ad.over ha, ha.bd h.bd⟩
set_option maxRecDepth 3000 in
theorem WL.put (h : WL W F0 F b N m w) (x n : Nat) (hn : n ≤ 64) (hx : x < 2 ^ n) (hm : m + n ≤ 1000000000) (X : Int) (hX : X = (x : Int)) :
    Calls Try.prog 68 #[.pointer (some ⟨b, 0, none⟩), .int .u64 X, .int .i64 (n : Int)] w fun e w' => ∃ F', e = .returned (.pointer (some ⟨b, 0, none⟩)) ∧ WL W F0 F' b (N * 2 ^ n + x) (m + n) w' := by
  subst hX
  refine (put_ok b N m x n F w h.ws h.bd hn hx hm).mono ?_
  rintro e w' ⟨rfl, F', k1, k2, k3⟩
  exact ⟨F', rfl, k1, h.ad.trans k2, k3⟩
end

set_option maxRecDepth 3000 in
theorem Blk.front {w : World} {g : Nat} {t : TypeId} {C : Array Value} (h : Blk w g t C) (vs : List Value) (hl : vs.length ≤ C.size) (D : Array Value) (hD : D.size = C.size) (hin : ∀ j, j < vs.length → D[j]? = vs[j]?) (hout : ∀ j, vs.length ≤ j → D[j]? = C[j]?) : Blk (w.setCells g 0 vs) g t D := by
  have key : ∀ (vs : List Value) (o : Nat) (w : World) (cs : Array Value), Blk w g t cs → ∃ cs', Blk (w.setCells g o vs) g t cs' ∧ cs'.size = cs.size := by
    intro vs
    induction vs with
    | nil => exact fun _ _ cs h => ⟨cs, h, rfl⟩
    | cons v r ih =>
      intro o w cs h
      rw [World.setCells]
      obtain ⟨cs', h1, h2⟩ := ih (o + 1) _ _ (h.set_ o v)
      exact ⟨cs', h1, by rw [h2]; simp⟩
  obtain ⟨C', h1, h2⟩ := key vs 0 w C h
  have e : C' = D := by
    apply Array.ext (by omega)
    intro k hk1 hk2
    have h3 := h1.cell k
    rw [Array.getElem?_eq_getElem hk1] at h3
    have h4 := Array.getElem?_eq_getElem hk2
    by_cases hlt : k < vs.length
    · have hi := World.cell?_setCells_in g vs 0 w (fun j hj => by
        rw [h.cell (0 + j), Nat.zero_add, Array.getElem?_eq_getElem (by omega)]; rfl) k hlt
      rw [Nat.zero_add, h3] at hi
      rw [hin k hlt, List.getElem?_eq_getElem hlt] at h4
      rw [← Option.some.inj h4]; exact Option.some.inj hi
    · have ho := World.cell?_setCells_out g vs 0 w ⟨g, k, none⟩ (fun _ _ => .inr (by simp; omega))
      rw [h3, h.cell k] at ho
      rw [hout k (by omega)] at h4
      rw [h4] at ho
      exact Option.some.inj ho
  rw [← e]; exact h1
set_option maxRecDepth 3000 in
theorem Adv.csetCells {F F' : Nat → Prop} {w : World} {g : Nat} : ∀ (vs : List Value) (o : Nat) (w' : World), Adv F w F' w' → (F g ∨ w.heap.size ≤ g) → Adv F w F' (w'.setCells g o vs)
  | [], _, _, h, _ => h
  | v :: r, o, w', h, hg => by
    rw [World.setCells]
    exact Adv.csetCells r (o + 1) _ (h.setCell (p := ⟨g, o, none⟩) hg v) hg
def a16 (f : Nat → Nat) : Array Value := #[u8 (f 0), u8 (f 1), u8 (f 2), u8 (f 3), u8 (f 4), u8 (f 5), u8 (f 6), u8 (f 7), u8 (f 8), u8 (f 9), u8 (f 10), u8 (f 11), u8 (f 12), u8 (f 13), u8 (f 14), u8 (f 15)]
set_option maxRecDepth 3000 in
theorem lt16 {j : Nat} (hj : j < 16) : j = 0 ∨ j = 1 ∨ j = 2 ∨ j = 3 ∨ j = 4 ∨ j = 5 ∨ j = 6 ∨ j = 7 ∨ j = 8 ∨ j = 9 ∨ j = 10 ∨ j = 11 ∨ j = 12 ∨ j = 13 ∨ j = 14 ∨ j = 15 := by omega
set_option maxRecDepth 3000 in
theorem a16_at (f : Nat → Nat) (j : Nat) (hj : j < 16) : (a16 f)[j]? = some (u8 (f j)) := by
  rcases lt16 hj with rfl | rfl | rfl | rfl | rfl | rfl | rfl | rfl | rfl | rfl | rfl | rfl | rfl | rfl | rfl | rfl <;> rfl
set_option maxRecDepth 3000 in
theorem a16_size (f : Nat → Nat) : (a16 f).size = 16 := rfl
set_option maxRecDepth 3000 in
theorem idx16 (f : Nat → Nat) (j : Nat) (hj : j < 16) (w : World) : (Instr.index 122 (.agg (a16 f)) (.int .i64 (j : Int))).run Try.prog w = .ok (.int .u8 (f j : Int)) w := by
  rcases lt16 hj with rfl | rfl | rfl | rfl | rfl | rfl | rfl | rfl | rfl | rfl | rfl | rfl | rfl | rfl | rfl | rfl <;> kernel_rfl
set_option maxRecDepth 3000 in
theorem sizeA16 : (Try.prog.info? 122).map (·.size) = some 16 := by kernel_rfl
set_option maxRecDepth 3000 in
theorem dinfoU8s : (Try.prog.info? 5).map (·.size) = some 1 := by kernel_rfl

set_option maxRecDepth 3000 in
/-- copy out of a text -/
theorem step_copy_str {w : World} {ops : Array Oper} {o : Oper} {a : Act} {K : Act → World → Prop} {Q : Exit → Act → World → Prop} {E : Prop} (hgd : o.guard = none) (d s : Operand)
    (ho : o.op = .call { callee := .builtin .copy, args := #[d, s], argTypes := #[38, 9] }) (g : Nat) (t : TypeId) (str : ByteArray) (hd : a.eval d = .slice (some ⟨g, 0, none⟩) 16 16) (hs : a.eval s = .string str) (hl : str.size ≤ 16)
    (hB : Blk w g t (a16 fun _ => 0)) (h : ∀ w', Blk w' g t (a16 (nmB str)) → Adv (· = g) w (· = g) w' → K (a.put o.dst (goInt str.size)) w') :
    if Region.wanted o (yielded ops a.tmps) = true then Oper.wp Try.prog o a w K Q else E := by
  rw [if_pos (by simp [Region.wanted, hgd])]
  obtain ⟨cs, hcs⟩ : ∃ cs : List Value, cs = ((str.extract 0 str.size).data.map fun b => (Value.int .u8 b.toNat : Value)).toList := ⟨_, rfl⟩
  have hex : (str.extract 0 str.size) = str := by simp
  rw [hex] at hcs
  have hlen : cs.length = str.size := by rw [hcs, Array.length_toList, Array.size_map]; rfl
  have hat : ∀ j, j < str.size → cs[j]? = some (u8 (nmB str j)) := fun j hj => by
    rw [hcs, Array.getElem?_toList, Array.getElem?_map]
    have hj' : j < str.data.size := hj
    rw [Array.getElem?_eq_getElem hj', nmB, dif_pos hj]
    rfl
  have hst := run_storeCells_cells (P := Try.prog) g 0 cs 0 w (fun j hj => by rw [Nat.add_zero, Nat.zero_add, hB.cell, a16_at _ _ (by omega)]; rfl) (fun j hj => hB.frozen _) (fun v hv => by
    obtain ⟨j, hj, rfl⟩ := List.mem_iff_getElem.1 hv
    have := hat j (by omega)
    rw [List.getElem?_eq_getElem hj] at this
    rw [Option.some.inj this]; rfl)
  have hrun : (Builtin.copy_ #[38, 9] o.type #[.slice (some ⟨g, 0, none⟩) 16 16, .string str]).run Try.prog w = .ok (goInt str.size) (w.setCells g 0 cs) := by
    cases hq : Try.prog.info? 5 with
    | none => have := dinfoU8s; simp [hq] at this
    | some i =>
      have hi : i.size = 1 := by have := dinfoU8s; simpa [hq] using this
      have hmin : Nat.min str.size 16 = str.size := Nat.min_eq_left hl
      simp only [Nat.zero_add] at hst
      simp [Builtin.copy_, run_underlying Try.underlying38, Builtin.lenOf, Builtin.firstCells, sizeOf, typeInfo, hq, hmin]
      have htk : List.take str.size (List.map (fun b : UInt8 => Value.int .u8 b.toNat) str.data.toList) = cs := by
        rw [hcs, Array.toList_map, List.take_of_length_le (by rw [List.length_map]; exact Nat.le_refl _)]
      rw [htk, hst]; rfl
  unfold Oper.wp
  simp [execOp, ho, resolve, invoke, builtin, hd, hs, hrun, Result.andThen]
  refine h _ (hB.front cs (by rw [hlen, a16_size]; exact hl) _ rfl (fun j hj => ?_) (fun j hj => ?_)) (Adv.csetCells _ _ _ (Adv.refl _ _) (.inl rfl))
  · rw [hat j (by omega), a16_at _ _ (by omega)]
  · by_cases h16 : j < 16
    · rw [a16_at _ _ h16, a16_at _ _ h16, nmB, dif_neg (by omega)]
    · rw [Array.getElem?_eq_none (by rw [a16_size]; omega), Array.getElem?_eq_none (by rw [a16_size]; omega)]

/-- the name's bytes are put -/
def LyL (W : World) (F0 : Nat → Prop) (b N m : Nat) (e : En) (t : Value) (wr : World) : Prop := ∃ (j : Nat) (F : Nat → Prop), t = .int .i64 (j : Int) ∧ j ≤ 16 ∧ WL W F0 F b (sN N e j) (m + 44 + 8 * j) wr

set_option maxRecDepth 3000 in
set_option maxHeartbeats 3200000 in
theorem dlay_any (e : En) (hok : okE e) (b N m : Nat) (F : Nat → Prop) (w : World) (hw : WSt w F b N m) (hF : Bd F w) (hm : m + 172 ≤ 1000000) :
    Calls Try.prog 96 #[.pointer (some ⟨b, 0, none⟩), .agg (ea e)] w fun x w' => x = .returned (.tuple #[]) ∧ ∃ F', WSt w' F' b (sN N e 16) (m + 172) ∧ Adv F w F' w' ∧ Bd F' w' := by
  obtain ⟨y, hy⟩ : ∃ y, y = w.heap.size := ⟨_, rfl⟩
  obtain ⟨V, hV⟩ : ∃ V, V = w.alloc (.cells (ea e) 54) := ⟨_, rfl⟩
  have HY := Lib.hid (show Blk V y 54 (ea e) by rw [hV, hy]; exact Blk.new _ _ _)
  have hA0 : Adv Nul w Nul V := by rw [hV]; exact (Adv.refl _ _).alloc _
  have HWL := Lib.hid (show WL w F F b N m V from (WL.mk hw (Adv.refl F w) hF).over hA0)
  have hyF : ¬ F y := fun h => by have := hF y h; omega
  have HX := Lib.hid (fun (F' : Nat → Prop) (N' m' : Nat) (w' : World) (h : WL V F F' b N' m' w') => (HY.out.keep (h.ad.block y HY.out.lt hyF)).e4.all)
  have HXB := Lib.hid (fun (F' : Nat → Prop) (N' m' : Nat) (w' : World) (h : WL V F F' b N' m' w') => HY.out.keep (h.ad.block y HY.out.lt hyF))
  have HWV := Lib.hid (show WL V F F b N m V from ⟨HWL.out.ws, Adv.refl F V, HWL.out.bd⟩)
  have HA0 := Lib.hid hA0
  have HV := Lib.hid hV
  have HYY := Lib.hid hy
  obtain ⟨h17a, h17⟩ := okE_size hok
  obtain ⟨_, i1, i2, g1, g2, k1, k2⟩ := hok
  obtain ⟨s0, s1, s2, s3⟩ := HY.out.e4.all
  clear hV hy hw hF hA0 hyF
  obtain ⟨s, i, g, k⟩ := e
  simp only at h17 i1 i2 g1 g2 k1 k2
  obtain ⟨iN, rfl⟩ := Int.eq_ofNat_of_zero_le (show 0 ≤ i by omega)
  obtain ⟨gN, rfl⟩ := Int.eq_ofNat_of_zero_le (show 0 ≤ g by omega)
  obtain ⟨kN, rfl⟩ := Int.eq_ofNat_of_zero_le (show 0 ≤ k by omega)
  have HIN := Lib.hid (show iN < 2 ^ 6 by omega)
  have HGN := Lib.hid (show gN < 2 ^ 31 by omega)
  have HKN := Lib.hid (show kN < 2 ^ 2 by omega)
  have HSN := Lib.hid (show s.size < 2 ^ 5 by omega)
  have HS16 := Lib.hid (show s.size ≤ 16 by omega)
  have HM := Lib.hid hm
  have hci : IntKind.u64.wrap (iN : Int) = (iN : Int) := by rw [IntKind.wrap_u64]; omega
  have hcg : IntKind.u64.wrap (gN : Int) = (gN : Int) := by rw [IntKind.wrap_u64]; omega
  have hck : IntKind.u64.wrap (kN : Int) = (kN : Int) := by rw [IntKind.wrap_u64]; omega
  have hcs : IntKind.u64.wrap (s.size : Int) = (s.size : Int) := by rw [IntKind.wrap_u64]; omega
  have HE0 := Lib.hid (show sN N ⟨s, (iN : Int), (gN : Int), (kN : Int)⟩ 0 = (((N * 2 ^ 5 + s.size) * 2 ^ 6 + iN) * 2 ^ 31 + gN) * 2 ^ 2 + kN from rfl)
  have HES := Lib.hid (fun j => show sN N ⟨s, (iN : Int), (gN : Int), (kN : Int)⟩ (j + 1) = sN N ⟨s, (iN : Int), (gN : Int), (kN : Int)⟩ j * 2 ^ 8 + nmB s j from rfl)
  have HNB := Lib.hid (nmB_lt s)
  simp only [ea] at HV ⊢
  simp only at s0 s1 s2 s3 HX
  clear h17a h17 i1 i2 g1 g2 k1 k2 hm
  go_enter Try.func96, Try.ntmps96
  go_upto_region 1 with (fail)
  rw [← HV.out, ← HYY.out]
  go_upto_region 2 with (first
    | (go_at_call 68; refine (HWV.out.put s.size 5 (by decide) HSN.out (by have := HM.out; omega) _ (by first | rfl | exact hcs)).mono ?_; rintro x w1 ⟨F1, rfl, q1⟩; have G1 := Lib.hid q1; clear q1)
    | fail)
  have K0 := Lib.hid (HX.out _ _ _ _ G1.out).2
  have G1d := Lib.hid (G1.out.over ((Adv.refl Nul w1).drew))
  have K0' := Lib.hid (show w1.drew.cell? ⟨y, 1, none⟩ = some (.int .i64 (iN : Int)) ∧ w1.drew.cell? ⟨y, 2, none⟩ = some (.int .i64 (gN : Int)) ∧ w1.drew.cell? ⟨y, 3, none⟩ = some (.int .i64 (kN : Int)) from K0.out)
  clear s0 s1 s2 s3
  refine rstart (S := (fun w' => w'.cell? ⟨y, 1, none⟩ = some (.int .i64 (iN : Int)) ∧ w'.cell? ⟨y, 2, none⟩ = some (.int .i64 (gN : Int)) ∧ w'.cell? ⟨y, 3, none⟩ = some (.int .i64 (kN : Int)))) (by first | with_reducible exact K4.out | with_reducible exact K3.out | with_reducible exact K2.out | with_reducible exact K0'.out) (fun hH => ?_)
  refine tk (i := 0) (oi := ⟨some 13, .move (.tmp 0), 63, "dir.go:84", #[], none⟩) hH.out (by rintro w ⟨s1, s2, s3⟩; go_simp <;> with_reducible rfl) ?_
  simp only [Act.put, sA, sB, sC]
  refine tk (i := 1) (oi := ⟨some 14, .fieldAddr 54 (.tmp 3) 1, 0, "dir.go:84", #[], none⟩) hH.out (by rintro w ⟨s1, s2, s3⟩; go_simp <;> with_reducible rfl) ?_
  simp only [Act.put, sA, sB, sC]
  refine tk (i := 2) (oi := ⟨some 15, .fieldAddr 25 (.tmp 14) 0, 0, "dir.go:84", #[⟨1, .data⟩], none⟩) hH.out (by rintro w ⟨s1, s2, s3⟩; go_simp <;> with_reducible rfl) ?_
  simp only [Act.put, sA, sB, sC]
  refine tk (i := 3) (oi := ⟨some 16, .load 3 (.tmp 15), 3, "dir.go:84", #[⟨2, .data⟩], none⟩) hH.out (by rintro w ⟨s1, s2, s3⟩; go_simp <;> with_reducible rfl) ?_
  simp only [Act.put, sA, sB, sC]
  refine tk (i := 4) (oi := ⟨some 17, .convert 3 22 (.tmp 16), 22, "dir.go:84", #[⟨3, .data⟩], none⟩) hH.out (by rintro w ⟨s1, s2, s3⟩; go_simp <;> with_reducible rfl) ?_
  simp only [Act.put, sA, sB, sC]
  refine tk (i := 6) (oi := ⟨some 19, .fieldAddr 54 (.tmp 3) 1, 0, "dir.go:84", #[], none⟩) hH.out (by rintro w ⟨s1, s2, s3⟩; go_simp <;> with_reducible rfl) ?_
  simp only [Act.put, sA, sB, sC]
  refine tk (i := 7) (oi := ⟨some 20, .fieldAddr 25 (.tmp 19) 1, 0, "dir.go:84", #[⟨6, .data⟩], none⟩) hH.out (by rintro w ⟨s1, s2, s3⟩; go_simp <;> with_reducible rfl) ?_
  simp only [Act.put, sA, sB, sC]
  refine tk (i := 8) (oi := ⟨some 21, .load 3 (.tmp 20), 3, "dir.go:84", #[⟨7, .data⟩], none⟩) hH.out (by rintro w ⟨s1, s2, s3⟩; go_simp <;> with_reducible rfl) ?_
  simp only [Act.put, sA, sB, sC]
  refine tk (i := 9) (oi := ⟨some 22, .convert 3 22 (.tmp 21), 22, "dir.go:84", #[⟨8, .data⟩], none⟩) hH.out (by rintro w ⟨s1, s2, s3⟩; go_simp <;> with_reducible rfl) ?_
  simp only [Act.put, sA, sB, sC]
  refine tk (i := 11) (oi := ⟨some 24, .fieldAddr 54 (.tmp 3) 2, 0, "dir.go:84", #[], none⟩) hH.out (by rintro w ⟨s1, s2, s3⟩; go_simp <;> with_reducible rfl) ?_
  simp only [Act.put, sA, sB, sC]
  refine tk (i := 12) (oi := ⟨some 25, .load 3 (.tmp 24), 3, "dir.go:84", #[⟨11, .data⟩], none⟩) hH.out (by rintro w ⟨s1, s2, s3⟩; go_simp <;> with_reducible rfl) ?_
  simp only [Act.put, sA, sB, sC]
  refine tk (i := 13) (oi := ⟨some 26, .convert 3 22 (.tmp 25), 22, "dir.go:84", #[⟨12, .data⟩], none⟩) hH.out (by rintro w ⟨s1, s2, s3⟩; go_simp <;> with_reducible rfl) ?_
  simp only [Act.put, sA, sB, sC]
  refine rdy (i := 5) (oi := ⟨some 18, .call ⟨.value (.func 68), #[.tmp 13, .tmp 17, .const (Go.Value.int Go.IntKind.i64 6)], #[63, 22, 3]⟩, 63, "dir.go:84", #[⟨0, .data⟩, ⟨4, .data⟩], none⟩) (fun K hK => ?_)
  go_simp
  refine (G1d.out.put iN 6 (by decide) HIN.out (by have := HM.out; omega) _ (by first | rfl | exact hci)).mono ?_
  rintro x v2 ⟨F2, rfl, q2⟩
  have G2 := Lib.hid q2
  have K2 := Lib.hid (HX.out _ _ _ _ q2).2
  clear q2
  go_wp2_with fail
  refine hK.out _ _ (by first | with_reducible exact K4.out | with_reducible exact K3.out | with_reducible exact K2.out | with_reducible exact K0'.out) (fun hHeld => ?_)
  replace hH := Lib.hid hHeld
  clear hK K hHeld
  try simp only [Act.put, sA, sB, sC]
  refine rdy (i := 10) (oi := ⟨some 23, .call ⟨.value (.func 68), #[.tmp 18, .tmp 22, .const (Go.Value.int Go.IntKind.i64 31)], #[63, 22, 3]⟩, 63, "dir.go:84", #[⟨5, .data⟩, ⟨9, .data⟩, ⟨5, .chain⟩], none⟩) (fun K hK => ?_)
  go_simp
  refine (G2.out.put gN 31 (by decide) HGN.out (by have := HM.out; omega) _ (by first | rfl | exact hcg)).mono ?_
  rintro x v3 ⟨F3, rfl, q3⟩
  have G3 := Lib.hid q3
  have K3 := Lib.hid (HX.out _ _ _ _ q3).2
  clear q3
  go_wp2_with fail
  refine hK.out _ _ (by first | with_reducible exact K4.out | with_reducible exact K3.out | with_reducible exact K2.out | with_reducible exact K0'.out) (fun hHeld => ?_)
  replace hH := Lib.hid hHeld
  clear hK K hHeld
  try simp only [Act.put, sA, sB, sC]
  refine rdy (i := 14) (oi := ⟨some 27, .call ⟨.value (.func 68), #[.tmp 23, .tmp 26, .const (Go.Value.int Go.IntKind.i64 2)], #[63, 22, 3]⟩, 63, "dir.go:84", #[⟨10, .data⟩, ⟨13, .data⟩, ⟨10, .chain⟩], none⟩) (fun K hK => ?_)
  go_simp
  refine (G3.out.put kN 2 (by decide) HKN.out (by have := HM.out; omega) _ (by first | rfl | exact hck)).mono ?_
  rintro x v4 ⟨F4, rfl, q4⟩
  have G4 := Lib.hid q4
  have K4 := Lib.hid (HX.out _ _ _ _ q4).2
  clear q4
  go_wp2_with fail
  refine hK.out _ _ (by first | with_reducible exact K4.out | with_reducible exact K3.out | with_reducible exact K2.out | with_reducible exact K0'.out) (fun hHeld => ?_)
  replace hH := Lib.hid hHeld
  clear hK K hHeld
  try simp only [Act.put, sA, sB, sC]
  refine wpAnyH_done (by kernel_rfl) ?_ _
  obtain ⟨gg, hgg⟩ : ∃ gg, gg = v4.heap.size := ⟨_, rfl⟩
  obtain ⟨W5, hW5⟩ : ∃ W, W = v4.alloc (.cells (a16 fun _ => 0) 122) := ⟨_, rfl⟩
  have HG5 := Lib.hid (show Blk W5 gg 122 (a16 fun _ => 0) by rw [hW5, hgg]; exact Blk.new _ _ _)
  have HY5 := Lib.hid (show Blk W5 y 54 (ea ⟨s, (iN : Int), (gN : Int), (kN : Int)⟩) by rw [hW5]; exact (HXB.out _ _ _ _ G4.out).alloc _)
  have HYG := Lib.hid (show y ≠ gg by rw [hgg]; exact Nat.ne_of_lt (HXB.out _ _ _ _ G4.out).lt)
  have HA5 := Lib.hid (show Adv Nul v4 (· = gg) W5 by rw [hW5]; exact Adv.new_ ((Adv.refl Nul v4).alloc _).toBelow (fun k hk => by rw [hk, hgg]; exact Nat.le_refl _))
  have HW5 := Lib.hid hW5
  have HGG := Lib.hid hgg
  clear hgg hW5
  go_upto_region 4 with (fail)
  rw [show v4.alloc (.cells #[.int .u8 0, .int .u8 0, .int .u8 0, .int .u8 0, .int .u8 0, .int .u8 0, .int .u8 0, .int .u8 0, .int .u8 0, .int .u8 0, .int .u8 0, .int .u8 0, .int .u8 0, .int .u8 0, .int .u8 0, .int .u8 0] 122) = W5 from HW5.out.symm, ← HGG.out]
  have K5 := Lib.hid (show W5.drew.cell? ⟨y, 0, none⟩ = some (.string s) from HY5.out.e4.all.1)
  refine rstart (S := (fun w' => w'.cell? ⟨y, 0, none⟩ = some (.string s))) (by first | with_reducible exact K6.out | with_reducible exact K5.out) (fun hH => ?_)
  refine tk (i := 0) (oi := ⟨some 28, .slice 122 (.tmp 4) none none none, 38, "dir.go:86", #[], none⟩) hH.out (by rintro w s0; go_simp <;> with_reducible rfl) ?_
  simp only [Act.put, sA, sB, sC]
  refine tk (i := 1) (oi := ⟨some 29, .fieldAddr 54 (.tmp 3) 0, 0, "dir.go:86", #[], none⟩) hH.out (by rintro w s0; go_simp <;> with_reducible rfl) ?_
  simp only [Act.put, sA, sB, sC]
  refine tk (i := 2) (oi := ⟨some 30, .load 9 (.tmp 29), 9, "dir.go:86", #[⟨1, .data⟩], none⟩) hH.out (by rintro w s0; go_simp <;> with_reducible rfl) ?_
  simp only [Act.put, sA, sB, sC]
  refine rdy (i := 3) (oi := ⟨some 31, .call ⟨.builtin .copy, #[.tmp 28, .tmp 30], #[38, 9]⟩, 3, "dir.go:86", #[⟨0, .data⟩, ⟨2, .data⟩], none⟩) (fun K hK => ?_)
  refine step_copy_str rfl (.tmp 28) (.tmp 30) rfl gg 122 s rfl rfl HS16.out HG5.out.drew (fun w6 hb6 ha6 => ?_)
  have HB6 := Lib.hid hb6
  have HA6 := Lib.hid ha6
  have K6 := Lib.hid (show w6.cell? ⟨y, 0, none⟩ = some (.string s) from (HY5.out.keep (ha6.block y HY5.out.lt HYG.out)).e4.all.1)
  clear hb6 ha6
  refine hK.out _ _ (by first | with_reducible exact K6.out | with_reducible exact K5.out) (fun hHeld => ?_)
  replace hH := Lib.hid hHeld
  clear hK K hHeld
  try simp only [Act.put, sA, sB, sC]
  refine wpAnyH_done (by kernel_rfl) ?_ _
  have G6 := Lib.hid (show WL V F F4 b (sN N ⟨s, (iN : Int), (gN : Int), (kN : Int)⟩ 0) (m + 44 + 8 * 0) w6 by rw [HE0.out]; exact G4.out.over (HA5.out.drew.trans HA6.out))
  have HR6 := Lib.hid (show w6.rangeAt gg 0 (a16 (nmB s)).toList from fun j v hv => by rw [Nat.zero_add, HB6.out.cell, ← hv, Array.getElem?_toList])
  have HIX := Lib.hid (idx16 (nmB s))
  obtain ⟨AV, hAV⟩ : ∃ AV, AV = Value.agg (a16 (nmB s)) := ⟨_, rfl⟩
  rw [← hAV] at HIX
  have HAV := Lib.hid hAV
  clear hAV G1 G1d G2 G3 G4 K0 K0' K2 K3 K4 K5 K6 HA5 HA6 HB6 HG5 HY5 HW5 HGG HX HXB HWV HE0 hci hcg hck hcs
  go_wp2_with (first
    | (refine wpList_load_mid rfl 122 (.tmp 4) rfl gg 0 rfl (a16 (nmB s)).toList _ HR6.out Try.underlying122 rfl sizeA16 ?_; rw [Array.toArray_toList, ← HAV.out])
    | fail)
  go_loopw [33] (LyL V F b N m ⟨s, (iN : Int), (gN : Int), (kN : Int)⟩) (fun t _ => 16 - (intOf t).toNat)
  case atStart => exact ⟨0, F4, rfl, Nat.zero_le _, G6.out⟩
  case round =>
    obtain ⟨j, F7, rfl, hj, h7⟩ := hrel
    have G7 := Lib.hid h7
    clear h7
    by_cases hlt : j < 16
    · have hij := HIX.out j hlt
      have HLT := Lib.hid hlt
      obtain ⟨c, hc⟩ : ∃ c, c = nmB s j := ⟨_, rfl⟩
      have HC := Lib.hid (show c < 2 ^ 8 by rw [hc]; exact HNB.out j)
      have HS := Lib.hid (show sN N ⟨s, (iN : Int), (gN : Int), (kN : Int)⟩ (j + 1) = sN N ⟨s, (iN : Int), (gN : Int), (kN : Int)⟩ j * 2 ^ 8 + c by rw [hc]; exact HES.out j)
      rw [← hc] at hij
      have hcc : IntKind.u64.wrap (c : Int) = (c : Int) := by rw [IntKind.wrap_u64]; have := HC.out; omega
      clear hc
      go_wp2_with (first
        | (go_at_call 68; refine (G7.out.put c 8 (by decide) HC.out (by have := HM.out; have := HLT.out; omega) _ (by first | rfl | exact hcc)).mono ?_; rintro x w8 ⟨F8, rfl, q8⟩; have G8 := Lib.hid q8; clear q8)
        | fail)
      exact ⟨⟨j + 1, F8, by go_num, HLT.out, by rw [HS.out]; exact G8.out⟩, by simp [intOf] <;> omega⟩
    · obtain rfl : j = 16 := by omega
      clear hj hlt
      go_wp2_with fail
      go_end0
      exact ⟨rfl, F7, G7.out.ws, (HA0.out.same (fun _ h => h.elim)).trans G7.out.ad, G7.out.bd⟩
end Go.Proofs.Ytpgeebhepegpaaa
