/- What stands where an inode's parts do: the program's parts, Decode. -/
import Derived.Test.YtbdjlmdbnoghnaaInC
import Derived.Test.YtbdjlmdbnoghnaaGet
import Derived.Deep.MidRow
namespace Go.Proofs.Ytbdjlmdbnoghnaa
open Go.ChangeShapes Go.WideShapes Go.ChangeAt Go.RowKit

theorem isetCells_heap (b : Nat) {k : Nat} (hk : k ≠ b) : ∀ (vs : List Value) (o : Nat) (w : World), (w.setCells b o vs).heap[k]? = w.heap[k]?
  | [], _, _ => rfl
  | v :: r, o, w => by
    rw [World.setCells, isetCells_heap b hk r]
    exact heap_setCell_other w ⟨b, o, none⟩ k v hk
theorem Adv.isetCells {F F' : Nat → Prop} {w : World} {g : Nat} : ∀ (vs : List Value) (o : Nat) (w' : World), Adv F w F' w' → (F g ∨ w.heap.size ≤ g) → Adv F w F' (w'.setCells g o vs)
  | [], _, _, h, _ => h
  | v :: r, o, w', h, hg => by
    rw [World.setCells]
    exact Adv.isetCells r (o + 1) _ (h.setCell (p := ⟨g, o, none⟩) hg v) hg
theorem Blk.isetCells {g : Nat} {t : TypeId} : ∀ (vs : List Value) (o : Nat) (w : World) (cs : Array Value), Blk w g t cs → ∃ cs', Blk (w.setCells g o vs) g t cs' ∧ cs'.size = cs.size
  | [], _, _, cs, h => ⟨cs, h, rfl⟩
  | v :: r, o, w, cs, h => by
    rw [World.setCells]
    obtain ⟨cs', h1, h2⟩ := Blk.isetCells r (o + 1) _ _ (h.set_ o v)
    exact ⟨cs', h1, by rw [h2]; simp⟩


theorem Blk.iputAll {w : World} {g : Nat} {t : TypeId} {C D : Array Value} (h : Blk w g t C) (hs : D.size = C.size) : Blk (w.setCells g 0 D.toList) g t D := by
  obtain ⟨C', h1, h2⟩ := Blk.isetCells D.toList 0 w C h
  have e : C' = D := by
    apply Array.ext (by omega)
    intro k hk1 hk2
    have hin := World.cell?_setCells_in g D.toList 0 w (fun j hj => by
      rw [h.cell (0 + j), Nat.zero_add, Array.getElem?_eq_getElem (by simp at hj; omega)]; rfl) k (by simpa using hk2)
    rw [Nat.zero_add, h1.cell k, Array.getElem?_eq_getElem hk1] at hin
    simpa using hin
  rw [← e]; rw [e] at h1 ⊢; exact h1
theorem Blk.ithere {w : World} {g : Nat} {t : TypeId} {C : Array Value} (h : Blk w g t C) : w.there g 0 C.size := fun j hj =>
  ⟨by rw [h.cell (0 + j), Nat.zero_add, Array.getElem?_eq_getElem hj]; rfl, h.frozen (0 + j)⟩
theorem st_store11 {ops : Array Oper} {o : Oper} {a : Act} {w : World} {Q : Exit → Act → World → Prop} {K : Act → World → Prop} {E : Prop} {t t' : TypeId} (hsz : (Try.prog.info? t).map (·.size) = some 11) (hgd : o.guard = none) (x y : Operand) (ho : o.op = .store t x y)
    (z : Nat) (C D : Array Value) (hB : Blk w z t' C) (hC : C.size = 11) (hD : D.size = 11) (h1 : D.all (·.oneCell') = true) (hx : a.eval x = .pointer (some ⟨z, 0, none⟩)) (hy : a.eval y = .agg D)
    (h : K (a.put o.dst undef) (w.setCells z 0 D.toList)) : if Region.wanted o (yielded ops a.tmps) = true then Oper.wp Try.prog o a w K Q else E := by
  rw [if_pos (by simp [Region.wanted, hgd])]
  refine wp_store_mid t x y ho z 0 D hx hy ?_ (by rw [hsz, hD]) h1 h
  have := hB.ithere
  rw [hC] at this
  rw [hD]; exact this
theorem op_store11 {ops : Array Oper} {rest : List Oper} {o : Oper} {a : Act} {w : World} {Q : Exit → Act → World → Prop} {t t' : TypeId} (hsz : (Try.prog.info? t).map (·.size) = some 11) (hgd : o.guard = none) (x y : Operand) (ho : o.op = .store t x y)
    (z : Nat) (C D : Array Value) (hB : Blk w z t' C) (hC : C.size = 11) (hD : D.size = 11) (h1 : D.all (·.oneCell') = true) (hx : a.eval x = .pointer (some ⟨z, 0, none⟩)) (hy : a.eval y = .agg D)
    (h : wpList Try.prog ops Q rest (a.put o.dst undef) (w.setCells z 0 D.toList)) : wpList Try.prog ops Q (o :: rest) a w := by
  refine wpList_plain hgd fun K hK => ?_
  have h0 := st_store11 (ops := ops) (K := K) (Q := Q) (E := True) hsz hgd x y ho z C D hB hC hD h1 hx hy (hK _ _ h)
  rwa [if_pos (by simp [Region.wanted, hgd])] at h0

def zeroI : Ino := ⟨0, 0, 0, fun _ => 0⟩
/-- the parts with the first j places -/
def prtJ (V j : Nat) : Ino := ⟨(bitsAt 128 V 0 2 : Nat), (bitsAt 128 V 2 31 : Nat), bitsAt 128 V 33 40, fun i => if i < j then ((bitsAt 128 V (73 + 12 * i) 12 : Nat) : Int) else 0⟩
theorem ic_prt8 (V : Nat) : ic (prtJ V 8) = ic (prt V) := rfl
theorem ic_put (V j : Nat) (hj : j < 8) : (ic (prtJ V j)).setIfInBounds (3 + j) (.int .i64 ((bitsAt 128 V (73 + 12 * j) 12 : Nat) : Int)) = ic (prtJ V (j + 1)) := by
  have h : j = 0 ∨ j = 1 ∨ j = 2 ∨ j = 3 ∨ j = 4 ∨ j = 5 ∨ j = 6 ∨ j = 7 := by omega
  rcases h with rfl | rfl | rfl | rfl | rfl | rfl | rfl | rfl <;> rfl
/-- while places are read -/
structure PrS (W : World) (z u b V : Nat) (F : Nat → Prop) (j : Nat) (w : World) : Prop where
  rs : RSt w F b 128 V (73 + 12 * j)
  bd : Bd F w
  bu : Blk w u 30 (ic (prtJ V j))
  bz : Blk w z 30 (ic zeroI)
  ad : Adv Nul W F w
  fu : ¬ F u
  fz : ¬ F z
  uz : u ≠ z
  nu : W.heap.size ≤ u
  nz : W.heap.size ≤ z
theorem PrS.get {W w w' : World} {z u b V j : Nat} {F : Nat → Prop} (h : PrS W z u b V F j w) (hr : RSt w' F b 128 V (73 + 12 * j + 12)) (ha : Adv F w F w') (hb : Bd F w') (hj : j < 8) :
    PrS W z u b V F (j + 1) (w'.setCell ⟨u, 3 + j, none⟩ (.int .i64 ((bitsAt 128 V (73 + 12 * j) 12 : Nat) : Int))) := by
  have hu := h.bu.keep (ha.block u h.bu.lt h.fu)
  have hz := h.bz.keep (ha.block z h.bz.lt h.fz)
  obtain ⟨rv, hB, hS⟩ := hr.ex
  have hF : ∀ k, F k → k ≠ u := fun k hk e => h.fu (e ▸ hk)
  refine ⟨⟨⟨rv, hB.far (p := ⟨u, 3 + j, none⟩) (hF b hr.inF) _, ?_⟩, hr.inF, by have := hr.le; omega, hr.sm⟩, ?_, ?_, hz.far (p := ⟨u, 3 + j, none⟩) (fun e => h.uz e.symm) _, (h.ad.trans ha).setCell (.inr h.nu) _, h.fu, h.fz, h.uz, h.nu, h.nz⟩
  · refine ⟨own_keep hS.own fun k hk => heap_setCell_other w' ⟨u, 3 + j, none⟩ k _ (hF k (hS.inF k hk)), hS.inF, fun k hk => by simpa using hS.bd k hk⟩
  · exact fun k hk => by simpa using hb k hk
  · have := hu.set_ (3 + j) (.int .i64 ((bitsAt 128 V (73 + 12 * j) 12 : Nat) : Int))
    rwa [ic_put V j hj] at this
theorem Blk.seti {w : World} {g : Nat} {t : TypeId} {C D : Array Value} : Blk w g t C → Blk (w.alloc (.cells D t)) g t C := fun h => h.alloc _
theorem ic_at (V j : Nat) (hj : j < 8) : (ic (prtJ V j))[3 + j]? = some (.int .i64 0) := by
  have h : j = 0 ∨ j = 1 ∨ j = 2 ∨ j = 3 ∨ j = 4 ∨ j = 5 ∨ j = 6 ∨ j = 7 := by omega
  rcases h with rfl | rfl | rfl | rfl | rfl | rfl | rfl | rfl <;> rfl
theorem wrap_bits (q V a n : Nat) (hn : n ≤ 62) : wrap64 ((bitsAt q V a n : Nat) : Int) = ((bitsAt q V a n : Nat) : Int) := by
  have h := bitsAt_lt q V a n
  have h2 : 2 ^ n ≤ 2 ^ 62 := Nat.pow_le_pow_right (by decide) hn
  unfold wrap64; omega
def PrL (W : World) (z u b V : Nat) (t : Value) (wr : World) : Prop := ∃ (j : Nat) (F : Nat → Prop), t = .int .i64 (j : Int) ∧ j ≤ 8 ∧ PrS W z u b V F j wr

theorem rst_alloc {w : World} {F : Nat → Prop} {b q V a : Nat} (h : RSt w F b q V a) (hb : Bd F w) (o : Obj) : RSt (w.alloc o) F b q V a := by
  obtain ⟨rv, hB, hS⟩ := h.ex
  exact ⟨⟨rv, hB.alloc o, ⟨own_keep hS.own fun k hk => Below.heap_alloc _ _ _ (hS.bd k (hS.inF k hk)), hS.inF, fun k hk => Nat.lt_of_lt_of_le (hb k hk) (by simp)⟩⟩, h.inF, h.le, h.sm⟩

set_option maxRecDepth 3000 in
set_option maxHeartbeats 3200000 in
theorem parts_any (v : Value) (l : List Nat) (w : World) (h : Rd w 1 v 128 (l.map u8)) (hl : l.length = 128) (hb : ∀ x ∈ l, x < 256) :
    Calls Try.prog 24 #[v] w fun e w' => e = .returned (.agg (ic (prt (byN l)))) ∧ Adv Nul w Nul w' := by
  obtain ⟨A, c, rfl, _, hc⟩ := h.form
  obtain ⟨z, hz⟩ : ∃ z, z = w.heap.size := ⟨_, rfl⟩
  obtain ⟨V0, hV⟩ : ∃ V, V = w.alloc (.cells (ic zeroI) 30) := ⟨_, rfl⟩
  have HZ := Lib.hid (show Blk V0 z 30 (ic zeroI) by rw [hV, hz]; exact Blk.new _ _ _)
  have HA := Lib.hid (show Adv Nul w Nul V0 by rw [hV]; exact (Adv.refl _ _).alloc _)
  obtain ⟨V, hVN⟩ : ∃ V, V = byN l := ⟨_, rfl⟩
  have hopen : Calls Try.prog 32 #[.slice A 128 c] V0 fun e w' => ∃ b F, e = .returned (.pointer (some ⟨b, 0, none⟩)) ∧ RSt w' F b 128 V 0 ∧ Adv Nul V0 F w' ∧ Bd F w' := open_any _ 128 V V0 (by rw [hVN, ← hl, be_byN l hb, hl, hV]; exact h.far (fun k _ _ hk => Below.heap_alloc _ _ _ hk) (by simp)) (by decide)
  rw [← hVN]
  have HO := Lib.hid hopen
  have HV := Lib.hid hV
  have HZZ := Lib.hid hz
  have HLZ := Lib.hid (show w.heap.size ≤ z by rw [hz]; exact Nat.le_refl _)
  clear hopen hVN hV hz h hl hb
  have hzc : ic zeroI = #[.int .i64 0, .int .i64 0, .int .u64 0, .int .i64 0, .int .i64 0, .int .i64 0, .int .i64 0, .int .i64 0, .int .i64 0, .int .i64 0, .int .i64 0] := rfl
  rw [hzc] at HV
  clear hzc
  have e0 := wrap_bits 128 V 0 2 (by decide)
  have e1 := wrap_bits 128 V 2 31 (by decide)
  go_enter Try.func24, Try.ntmps24
  go_upto_region 1 with (fail)
  rw [← HV.out, ← HZZ.out]
  go_wp2_with (first
    | (go_at_call 32; refine HO.out.mono ?_; rintro e w1 ⟨b, F, rfl, r1, a1, b1⟩; have HR1 := Lib.hid r1; have HA1 := Lib.hid (HA.out.trans a1); have HB1 := Lib.hid b1; have HZ1 := Lib.hid (HZ.out.keep (a1.block z HZ.out.lt (fun h => h))); have HF1 := Lib.hid (show ¬ F z from fun h => by rcases a1.into z h with h | h; exact h.elim; exact absurd HZ.out.lt (by omega)); clear r1 a1 b1)
    | fail)
  go_wp2_with (first
    | (go_at_call 33; refine (get_ok b 128 V 0 2 F _ HR1.out HB1.out (by decide) (by decide)).mono ?_; rintro e w2 ⟨rfl, r2, a2, b2⟩; have HR2 := Lib.hid r2; have HA2 := Lib.hid (HA1.out.trans a2); have HB2 := Lib.hid b2; have HZ2 := Lib.hid (HZ1.out.keep (a2.block z HZ1.out.lt HF1.out)); clear r2 a2 b2 HR1)
    | (go_at_call 33; refine (get_ok b 128 V 2 31 F _ HR2.out HB2.out (by decide) (by decide)).mono ?_; rintro e w3 ⟨rfl, r3, a3, b3⟩; have HR3 := Lib.hid r3; have HA3 := Lib.hid (HA2.out.trans a3); have HB3 := Lib.hid b3; have HZ3 := Lib.hid (HZ2.out.keep (a3.block z HZ2.out.lt HF1.out)); clear r3 a3 b3 HR2)
    | (go_at_call 33; refine (get_ok b 128 V 33 40 F _ HR3.out HB3.out (by decide) (by decide)).mono ?_; rintro e w4 ⟨rfl, r4, a4, b4⟩; have HR4 := Lib.hid r4; have HA4 := Lib.hid (HA3.out.trans a4); have HB4 := Lib.hid b4; have HZ4 := Lib.hid (HZ3.out.keep (a4.block z HZ3.out.lt HF1.out)); clear r4 a4 b4 HR3)
    | fail)
  have hu : ¬ F w4.heap.size := fun h => Nat.lt_irrefl _ (HB4.out _ h)
  have hs : PrS w z w4.heap.size b V F 0 (w4.alloc (.cells (ic (prtJ V 0)) 30)) :=
    have ha := HA4.out.alloc (.cells (ic (prtJ V 0)) 30)
    { rs := rst_alloc HR4.out HB4.out _
      bd := fun k hk => Nat.lt_of_lt_of_le (HB4.out k hk) (by simp)
      bu := Blk.new _ _ _
      bz := HZ4.out.alloc _
      ad := ha
      fu := hu
      fz := HF1.out
      uz := fun e => by have := HZ4.out.lt; omega
      nu := HA4.out.size
      nz := HLZ.out }
  have HS := Lib.hid hs
  obtain ⟨u, hue⟩ : ∃ u, u = w4.heap.size := ⟨_, rfl⟩
  rw [← hue] at HS ⊢
  obtain ⟨W5, hW5⟩ : ∃ W5, W5 = w4.alloc (.cells (ic (prtJ V 0)) 30) := ⟨_, rfl⟩
  rw [← hW5] at HS
  have hzc : ic (prtJ V 0) = #[.int .i64 ((bitsAt 128 V 0 2 : Nat) : Int), .int .i64 ((bitsAt 128 V 2 31 : Nat) : Int), .int .u64 ((bitsAt 128 V 33 40 : Nat) : Int), .int .i64 0, .int .i64 0, .int .i64 0, .int .i64 0, .int .i64 0, .int .i64 0, .int .i64 0, .int .i64 0] := rfl
  rw [hzc] at hW5
  rw [← hW5]
  clear hs hu hzc hW5 hue e0 e1
  go_loopw [17] (PrL w z u b V) (fun t _ => 8 - (intOf t).toNat)
  case atStart => exact ⟨0, F, rfl, Nat.zero_le _, HS.out⟩
  case round =>
    obtain ⟨j, F2, rfl, hj, hP⟩ := hrel
    have HP := Lib.hid hP
    clear hP
    by_cases hlt : j < 8
    · have HLT := Lib.hid hlt
      have ej := wrap_bits 128 V (73 + 12 * j) 12 (by decide)
      obtain ⟨p, hp⟩ : ∃ p, p = bitsAt 128 V (73 + 12 * j) 12 := ⟨_, rfl⟩
      rw [← hp] at ej
      have HPP := Lib.hid hp
      clear hp
      go_wp2_with (first
        | (go_at_call 33; refine (get_ok b 128 V (73 + 12 * j) 12 F2 _ HP.out.rs HP.out.bd (by decide) (by have := HLT.out; omega)).mono ?_; rintro e w6 ⟨rfl, r6, a6, b6⟩; rw [← HPP.out]; have hB6 := HP.out.bu.keep (a6.block u HP.out.bu.lt HP.out.fu); have c6 := (hB6.cell (3 + j)).trans (ic_at V j HLT.out); have f6 := hB6.frozen (3 + j); have HPS := Lib.hid (HP.out.get r6 a6 b6 HLT.out); rw [← HPP.out] at HPS; clear r6 a6 b6 hB6)
        | fail)
      exact ⟨⟨j + 1, F2, by simp, HLT.out, HPS.out⟩, by simp [intOf] <;> omega⟩
    · obtain rfl : j = 8 := by omega
      have hB : Blk wr u 30 (ic (prt V)) := HP.out.bu
      obtain ⟨X, hX⟩ : ∃ X, X = prt V := ⟨_, rfl⟩
      rw [← hX] at hB
      have HX := Lib.hid hX
      obtain ⟨s0, s1, s2, s3, s4, s5, s6, s7, s8, s9, s10⟩ := hB.c11.all
      have HBZ := Lib.hid HP.out.bz
      have HAD := Lib.hid HP.out.ad
      clear hj hlt hX hB
      obtain ⟨k, g, v, a⟩ := X
      simp only at s0 s1 s2 s3 s4 s5 s6 s7 s8 s9 s10
      go_wp2_with (first
        | (refine op_store11 sizeInode rfl (.tmp 2) (.tmp 27) rfl z _ (ic ⟨k, g, v, a⟩) HBZ.out rfl rfl (ic_one _) rfl rfl ?_)
        | fail)
      have hfin := (Adv.isetCells (ic ⟨k, g, v, a⟩).toList 0 _ HAD.out (.inr HLZ.out)).sub (G := Nul) (fun _ h => h.elim)
      obtain ⟨z0, z1, z2, z3, z4, z5, z6, z7, z8, z9, z10⟩ := (HBZ.out.iputAll (D := ic ⟨k, g, v, a⟩) rfl).c11.all
      simp only at z0 z1 z2 z3 z4 z5 z6 z7 z8 z9 z10
      obtain ⟨W9, hW9⟩ : ∃ W9, W9 = wr.setCells z 0 (ic ⟨k, g, v, a⟩).toList := ⟨_, rfl⟩
      rw [← hW9] at z0 z1 z2 z3 z4 z5 z6 z7 z8 z9 z10 hfin ⊢
      exact bodyPost_ret (v := .agg #[.int .i64 k, .int .i64 g, .int .u64 (v : Int), .int .i64 (a 0), .int .i64 (a 1), .int .i64 (a 2), .int .i64 (a 3), .int .i64 (a 4), .int .i64 (a 5), .int .i64 (a 6), .int .i64 (a 7)]) (by simp [results, Try.results24, go_sem, z0, z1, z2, z3, z4, z5, z6, z7, z8, z9, z10]) rfl ⟨by rw [← HX.out]; rfl, hfin⟩
end Go.Proofs.Ytbdjlmdbnoghnaa
