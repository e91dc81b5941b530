/- A sector's head, or that it is none: the program's. Cut: how many pieces, which; the program's Cut. -/
import Derived.Test.YtbdjlmdbnoghnaaGreatMh05
import Derived.Test.YtbdjlmdbnoghnaaGreatMh07
import Derived.Test.YtbdjlmdbnoghnaaGreatMh04
import Derived.Great.FillDense
namespace Go.Proofs.YtbdjlmdbnoghnaaGreat
open Go.RowKit

def h3 (g t f : Int) : Array Value := #[.int .u64 g, .int .u64 t, .int .u64 f]
theorem h3_one (g t f : Int) : (h3 g t f).all (·.oneCell') = true := by simp [h3, Value.oneCell']
theorem sizeHead : (Tryz.prog.info? 69).map (·.size) = some 3 := by kernel_rfl
theorem sizeRHead : (Tryz.prog.info? 76).map (·.size) = some 3 := by kernel_rfl
theorem st_store3 {ops : Array Oper} {o : Oper} {a : Act} {w : World} {Q : Exit → Act → World → Prop} {K : Act → World → Prop} {E : Prop} {t t' : TypeId} (hsz : (Tryz.prog.info? t).map (·.size) = some 3) (hgd : o.guard = none) (x y : Operand) (ho : o.op = .store t x y)
    (z : Nat) (C D : Array Value) (hB : Blk w z t' C) (hC : C.size = 3) (hD : D.size = 3) (h1 : D.all (·.oneCell') = true) (hx : a.eval x = .pointer (some ⟨z, 0, none⟩)) (hy : a.eval y = .agg D)
    (h : K (a.put o.dst undef) (w.setCells z 0 D.toList)) : if Region.wanted o (yielded ops a.tmps) = true then Oper.wp Tryz.prog o a w K Q else E := by
  rw [if_pos (by simp [Region.wanted, hgd])]
  refine wp_store_mid t x y ho z 0 D hx hy ?_ (by rw [hsz, hD]) h1 h
  have := hB.there
  rw [hC] at this
  rw [hD]; exact this
theorem op_store3 {ops : Array Oper} {rest : List Oper} {o : Oper} {a : Act} {w : World} {Q : Exit → Act → World → Prop} {t t' : TypeId} (hsz : (Tryz.prog.info? t).map (·.size) = some 3) (hgd : o.guard = none) (x y : Operand) (ho : o.op = .store t x y)
    (z : Nat) (C D : Array Value) (hB : Blk w z t' C) (hC : C.size = 3) (hD : D.size = 3) (h1 : D.all (·.oneCell') = true) (hx : a.eval x = .pointer (some ⟨z, 0, none⟩)) (hy : a.eval y = .agg D)
    (h : wpList Tryz.prog ops Q rest (a.put o.dst undef) (w.setCells z 0 D.toList)) : wpList Tryz.prog ops Q (o :: rest) a w := by
  refine wpList_plain hgd fun K hK => ?_
  have h0 := st_store3 (ops := ops) (K := K) (Q := Q) (E := True) hsz hgd x y ho z C D hB hC hD h1 hx hy (hK _ _ h)
  rwa [if_pos (by simp [Region.wanted, hgd])] at h0
theorem Blk.three {w : World} {b : Nat} {t : TypeId} {a0 a1 a2 : Value} (h : Blk w b t #[a0, a1, a2]) : w.cell? ⟨b, 0, none⟩ = some a0 ∧ w.cell? ⟨b, 1, none⟩ = some a1 ∧ w.cell? ⟨b, 2, none⟩ = some a2 :=
  ⟨h.cell 0, h.cell 1, h.cell 2⟩
/-- what is said of a sector -/
def UhR (w : World) (l : List Nat) (x : Ending) (w' : World) : Prop :=
  ∃ (h : Hd) (ok : Bool), x = .returned (.tuple #[.agg #[.int .u64 (h.g : Int), .int .u64 (h.t : Int), .int .u64 (h.f : Int)], .bool ok]) ∧ (if ok = true then unHd l = some h else unHd l = none) ∧ Adv Nul w Nul w'
theorem UhR.no {w w' : World} {l : List Nat} (g t f : Nat) (h : unHd l = none) (ha : Adv Nul w Nul w') : UhR w l (.returned (.tuple #[.agg #[.int .u64 (g : Int), .int .u64 (t : Int), .int .u64 (f : Int)], .bool false])) w' :=
  ⟨⟨g, t, f⟩, false, rfl, by simpa using h, ha⟩
theorem UhR.yes {w w' : World} {l : List Nat} {g t f : Nat} (h : unHd l = some ⟨g, t, f⟩) (ha : Adv Nul w Nul w') : UhR w l (.returned (.tuple #[.agg #[.int .u64 (g : Int), .int .u64 (t : Int), .int .u64 (f : Int)], .bool true])) w' :=
  ⟨⟨g, t, f⟩, true, rfl, by simpa using h, ha⟩

/-- a reader that has been asked for so many bits: there are so many, or it has the error -/
def RdS (w : World) (F : Nat → Prop) (b q V a : Nat) : Prop := (a ≤ 8 * q ∧ RSt w F b q V a ∧ Bd F w) ∨ (8 * q < a ∧ RErr w F b 3)
theorem RdS.far {w w' : World} {F : Nat → Prop} {b q V a : Nat} (h : RdS w F b q V a) (hk : ∀ k, F k → k < w.heap.size → w'.heap[k]? = w.heap[k]?) (hs : w.heap.size ≤ w'.heap.size) : RdS w' F b q V a := by
  rcases h with ⟨h1, h2, h3⟩ | ⟨h1, h2⟩
  · obtain ⟨rv, hB, hS⟩ := h2.ex
    refine .inl ⟨h1, ⟨⟨rv, hB.keep (hk b h2.inF hB.lt), ⟨own_keep hS.own fun k hk' => hk k (hS.inF k hk') (hS.bd k (hS.inF k hk')), hS.inF, fun k hk' => Nat.lt_of_lt_of_le (hS.bd k hk') hs⟩⟩, h2.inF, h2.le, h2.sm⟩, fun k hk' => Nat.lt_of_lt_of_le (h3 k hk') hs⟩
  · obtain ⟨v, r, hB⟩ := h2.ex
    exact .inr ⟨h1, ⟨⟨v, r, hB.keep (hk b h2.inF hB.lt)⟩, h2.ne, h2.inF, fun k hk' => Nat.lt_of_lt_of_le (h2.bd k hk') hs⟩⟩
theorem RdS.bd {w : World} {F : Nat → Prop} {b q V a : Nat} (h : RdS w F b q V a) : Bd F w := by
  rcases h with ⟨_, _, h3⟩ | ⟨_, h2⟩
  · exact h3
  · exact h2.bd
theorem RdS.get {w : World} {F : Nat → Prop} {b q V a : Nat} (h : RdS w F b q V a) (n : Nat) (hn : n ≤ 64) :
    Calls Tryz.prog 96 #[.pointer (some ⟨b, 0, none⟩), .int .i64 (n : Int)] w fun e w' => ∃ x : Nat, e = .returned (.int .u64 (x : Int)) ∧ RdS w' F b q V (a + n) ∧ Adv F w F w' ∧ (a + n ≤ 8 * q → x = bitsAt q V a n) := by
  rcases h with ⟨h1, h2, h3⟩ | ⟨h1, h2⟩
  · by_cases hx : a + n ≤ 8 * q
    · refine (get_ok b q V a n F w h2 h3 hn hx).mono ?_
      rintro e w' ⟨rfl, k1, k2, k3⟩
      exact ⟨_, rfl, .inl ⟨hx, k1, k3⟩, k2, fun _ => rfl⟩
    · refine (get_short b q V a n F w h2 h3 hn (by omega)).mono ?_
      rintro e w' ⟨rfl, k1, k2⟩
      exact ⟨0, rfl, .inr ⟨by omega, k1⟩, k2, fun h => absurd h hx⟩
  · refine (get_err b n 3 F w h2).mono ?_
    rintro e w' ⟨rfl, rfl⟩
    exact ⟨0, rfl, .inr ⟨by omega, h2⟩, Adv.refl _ _, fun h => by omega⟩
def endE (q V a : Nat) : Int := if a ≤ 8 * q then endOf q V a else 3
theorem RdS.end_ {w : World} {F : Nat → Prop} {b q V a : Nat} (h : RdS w F b q V a) :
    Calls Tryz.prog 97 #[.pointer (some ⟨b, 0, none⟩)] w fun e w' => e = .returned (.int .i64 (endE q V a)) ∧ Adv Nul w Nul w' := by
  rcases h with ⟨h1, h2, h3⟩ | ⟨h1, h2⟩
  · refine (rend_ok b q V a F w h2 h3).mono ?_
    rintro e w' ⟨rfl, k⟩
    exact ⟨by rw [endE, if_pos h1], ⟨k.os, k.tape, k.output, k.size, fun i hi _ => k.block i hi, fun _ h => h.elim⟩⟩
  · refine (rend_err b 3 F w h2).mono ?_
    rintro e w' ⟨rfl, rfl⟩
    exact ⟨by rw [endE, if_neg (by omega)], Adv.refl _ _⟩
theorem endE_64 (q V : Nat) : (endE q V 64 == 0) = decide (q = 8) := by
  unfold endE endOf
  by_cases h : q = 8
  · subst h
    simp [Nat.mod_one]
  · rw [decide_eq_false h, beq_eq_false_iff_ne]
    split
    · split
      · omega
      · decide
    · decide
/-- what stays while bits are read -/
structure GE (W : World) (F : Nat → Prop) (b q V y z pn : Nat) (a : Nat) (w : World) : Prop where
  rs : RdS w F b q V a
  ad : Adv F W F w
  fy : ¬ F y
  fz : ¬ F z
  cy : W.cell? ⟨y, 1, none⟩ = some (.int .u64 (pn : Int))
  ly : y < W.heap.size
  bz : ∃ C, Blk W z 69 C ∧ C.size = 3
section
variable {W w w' : World} {F : Nat → Prop} {b q V y z pn a : Nat}
theorem GE.cell (h : GE W F b q V y z pn a w) : w.cell? ⟨y, 1, none⟩ = some (.int .u64 (pn : Int)) := (World.cell?_of_block (h.ad.block y h.ly h.fy)).trans h.cy
theorem GE.drew (h : GE W F b q V y z pn a w) : GE W F b q V y z pn a w.drew := ⟨h.rs.far (fun _ _ _ => rfl) (Nat.le_refl _), h.ad.drew, h.fy, h.fz, h.cy, h.ly, h.bz⟩
theorem GE.alloc (h : GE W F b q V y z pn a w) (o : Obj) : GE W F b q V y z pn a (w.alloc o) := ⟨h.rs.far (fun _ _ hk => Below.heap_alloc _ _ _ hk) (by simp), h.ad.alloc o, h.fy, h.fz, h.cy, h.ly, h.bz⟩
theorem GE.put {u : Nat} (h : GE W F b q V y z pn a w) (hu : W.heap.size ≤ u) (hF : ¬ F u) (D : List Value) : GE W F b q V y z pn a (w.setCells u 0 D) :=
  ⟨h.rs.far (fun _ hk _ => lsetCells_heap u (fun e => hF (e ▸ hk)) D 0 w) (Adv.lsetCells D 0 _ (Adv.refl (fun k => k = u) w) (.inl rfl)).size, Adv.lsetCells D 0 _ h.ad (.inr hu), h.fy, h.fz, h.cy, h.ly, h.bz⟩
theorem GE.get (h : GE W F b q V y z pn a w) (n : Nat) (hn : n ≤ 64) :
    Calls Tryz.prog 96 #[.pointer (some ⟨b, 0, none⟩), .int .i64 (n : Int)] w fun e w' => ∃ x : Nat, e = .returned (.int .u64 (x : Int)) ∧ GE W F b q V y z pn (a + n) w' ∧ Adv F w F w' ∧ (a + n ≤ 8 * q → x = bitsAt q V a n) := by
  refine (h.rs.get n hn).mono ?_
  rintro e w' ⟨x, rfl, h1, h2, h3⟩
  exact ⟨x, rfl, ⟨h1, h.ad.trans h2, h.fy, h.fz, h.cy, h.ly, h.bz⟩, h2, h3⟩
theorem GE.newF (h : GE W F b q V y z pn a w) : ¬ F w.heap.size := fun hf => Nat.lt_irrefl _ (h.rs.bd _ hf)
end
/-- what the two reads leave -/
def GotR (W : World) (F : Nat → Prop) (b q V y z pn : Nat) (t7 : Value) (wr : World) : Prop :=
  ∃ u x1 x2 : Nat, t7 = .pointer (some ⟨u, 0, none⟩) ∧ Blk wr u 69 (h3 (pn : Int) (x1 : Int) (x2 : Int)) ∧ GE W F b q V y z pn 64 wr ∧ (40 ≤ 8 * q → x1 = bitsAt q V 0 40) ∧ (64 ≤ 8 * q → x2 = bitsAt q V 40 24) ∧ W.heap.size ≤ u ∧ ¬ F u
theorem got_fin {W w : World} {F : Nat → Prop} {b q V y z pn u x1 x2 : Nat} {C : Array Value} (h : GE W F b q V y z pn 64 w) (hB : Blk w u 69 C) (hC : C.size = 3) (hu : W.heap.size ≤ u) (hF : ¬ F u) (h1 : 40 ≤ 8 * q → x1 = bitsAt q V 0 40) (h2 : 64 ≤ 8 * q → x2 = bitsAt q V 40 24) :
    GotR W F b q V y z pn (.pointer (some ⟨u, 0, none⟩)) (w.setCells u 0 (h3 (pn : Int) (x1 : Int) (x2 : Int)).toList) :=
  ⟨u, x1, x2, rfl, hB.putAll (by rw [hC]; rfl), h.put hu hF _, h1, h2, hu, hF⟩

set_option maxRecDepth 3000 in
set_option maxHeartbeats 3200000 in
theorem hunseal_any (v : Value) (n : Nat) (l : List Nat) (w : World) (h : Rd w 1 v n (l.map u8)) (hl : ∀ x ∈ l, x < 256) : Calls Tryz.prog 65 #[v] w (UhR w l) := by
  obtain ⟨A0, c0, rfl, _, _⟩ := h.form
  obtain ⟨z, hz⟩ : ∃ z, z = w.heap.size := ⟨_, rfl⟩
  obtain ⟨V, hV⟩ : ∃ V, V = w.alloc (.cells #[.int .u64 0, .int .u64 0, .int .u64 0] 69) := ⟨_, rfl⟩
  have HZ := Lib.hid (show Blk V z 69 (h3 0 0 0) by rw [hV, hz]; exact Blk.new _ _ _)
  have HA := Lib.hid (show Adv Nul w Nul V by rw [hV]; exact (Adv.refl _ _).alloc _)
  have HR := Lib.hid (show Rd V 1 (.slice A0 n c0) n (l.map u8) by rw [hV]; exact h.up _)
  have HL := Lib.hid hl
  have HV := Lib.hid hV
  have HZZ := Lib.hid hz
  clear h hl hV hz
  go_enter Tryz.func65, Tryz.ntmps65
  go_wp2_with fail
  rw [← HV.out, ← HZZ.out]
  refine (unseal_any _ n l _ HR.out HL.out).mono ?_
  intro x w1 h
  obtain ⟨A, k, F1, rfl, s1, t1⟩ := h
  obtain ⟨p, hp⟩ : ∃ p, p = unsealP l := ⟨_, rfl⟩
  obtain ⟨E, hE⟩ : ∃ E, E = unsealE l := ⟨_, rfl⟩
  rw [← hp, ← hE]
  rw [← hp] at s1
  obtain ⟨pe, pn, pf, pg, D⟩ := p
  obtain ⟨d, hd⟩ : ∃ d, d = D.length := ⟨_, rfl⟩
  simp only [← hd] at s1 ⊢
  obtain ⟨y, hy⟩ : ∃ y, y = w1.heap.size := ⟨_, rfl⟩
  obtain ⟨W, hW⟩ : ∃ W, W = w1.alloc (.cells #[.int .u64 (pe : Int), .int .u64 (pn : Int), .bool pf, .bool pg, .slice A d k] 96) := ⟨_, rfl⟩
  have HY := Lib.hid (show Blk W y 96 #[.int .u64 (pe : Int), .int .u64 (pn : Int), .bool pf, .bool pg, .slice A d k] by rw [hW, hy]; exact Blk.new _ _ _)
  have HT := Lib.hid (show Adv Nul V Nul W by rw [hW]; exact (t1.sub (fun _ h => h.elim)).alloc _)
  have HZ1 := Lib.hid (HZ.out.keep (HT.out.block z HZ.out.lt (fun h => h)))
  have HRD := Lib.hid (show Rd W 1 (.slice A d k) d (D.map u8) by rw [hW]; exact s1.rd.up _)
  have HYZ := Lib.hid (show y ≠ z by have := HZ.out.lt; have := t1.size; omega)
  have HP := Lib.hid hp
  have HE := Lib.hid hE
  have HD := Lib.hid hd
  have HW := Lib.hid hW
  have HYY := Lib.hid hy
  clear s1 t1 hp hE hd hy hW
  go_upto_region 2 with (fail)
  rw [← HW.out, ← HYY.out]
  obtain ⟨c0, c1, c2, c3, c4⟩ := HY.out.five
  have HLZ := Lib.hid (show w.heap.size ≤ z by rw [HZZ.out]; exact Nat.le_refl _)
  by_cases hw : Whole l
  · have hp' : (⟨pe, pn, pf, pg, D⟩ : Pc) = dec l := by rw [HP.out, unsealP, if_pos hw]
    obtain rfl : E = 0 := by rw [HE.out, unsealE, if_pos hw]
    have HDEC := Lib.hid hp'
    have HWH := Lib.hid hw
    have hl8 : ∀ x ∈ D, x < 256 := by
      have e : D = (dec l).d := congrArg Pc.d hp'
      rw [e]
      exact fun x hx => HL.out x (List.mem_of_mem_drop (List.mem_of_mem_take hx))
    have hdle : d ≤ 106 := by
      have e : D = (dec l).d := congrArg Pc.d hp'
      rw [HD.out, e]
      exact (dec_ok hw.1 hw.2.1 HL.out).2.2
    have HL8 := Lib.hid hl8
    have HDLE := Lib.hid hdle
    clear hw hp' hl8 hdle
    cases pf with
    | false =>
      go_wp2_with (first
        | (refine op_store3 sizeHead rfl (.tmp 2) (.tmp 25) rfl z _ (h3 0 0 0) HZ1.out rfl rfl (h3_one _ _ _) rfl rfl ?_)
        | fail)
      obtain ⟨hz0, hz1, hz2⟩ := (HZ1.out.putAll (D := h3 0 0 0) rfl).three
      have hfin : UhR w l (.returned (.tuple #[.agg #[.int .u64 0, .int .u64 0, .int .u64 0], .bool false])) (W.setCells z 0 (h3 0 0 0).toList) := UhR.no 0 0 0 (by rw [unHd, ← HDEC.out]; exact if_neg (fun h => by simpa using h.2.1)) (Adv.lsetCells _ 0 _ (HA.out.trans HT.out) (.inr HLZ.out))
      exact bodyPost_ret (v := .tuple #[.agg #[.int .u64 0, .int .u64 0, .int .u64 0], .bool false]) (by simp [results, Tryz.results65, go_sem, hz0, hz1, hz2]) rfl hfin
    | true =>
    cases pg with
    | false =>
      go_wp2_with (first
        | (refine op_store3 sizeHead rfl (.tmp 2) (.tmp 25) rfl z _ (h3 0 0 0) HZ1.out rfl rfl (h3_one _ _ _) rfl rfl ?_)
        | fail)
      obtain ⟨hz0, hz1, hz2⟩ := (HZ1.out.putAll (D := h3 0 0 0) rfl).three
      have hfin : UhR w l (.returned (.tuple #[.agg #[.int .u64 0, .int .u64 0, .int .u64 0], .bool false])) (W.setCells z 0 (h3 0 0 0).toList) := UhR.no 0 0 0 (by rw [unHd, ← HDEC.out]; exact if_neg (fun h => by simpa using h.2.2.1)) (Adv.lsetCells _ 0 _ (HA.out.trans HT.out) (.inr HLZ.out))
      exact bodyPost_ret (v := .tuple #[.agg #[.int .u64 0, .int .u64 0, .int .u64 0], .bool false]) (by simp [results, Tryz.results65, go_sem, hz0, hz1, hz2]) rfl hfin
    | true =>
      obtain ⟨Vn, hVn⟩ : ∃ V, V = val D := ⟨_, rfl⟩
      have HVN := Lib.hid hVn
      have hopen : Calls Tryz.prog 95 #[.slice A d k] W fun e w' => ∃ b F, e = .returned (.pointer (some ⟨b, 0, none⟩)) ∧ RSt w' F b d Vn 0 ∧ Adv Nul W F w' ∧ Bd F w' := open_any _ d Vn W (by rw [hVn, HD.out, be_of_val HL8.out, ← HD.out]; exact HRD.out) (by have := HDLE.out; omega)
      have HOPEN := Lib.hid hopen
      clear hVn hopen
      go_wp2_with fail
      refine HOPEN.out.mono ?_
      rintro e W2 ⟨b, F, rfl, r2, t2, b2⟩
      have hfy : ¬ F y := fun h => by rcases t2.into y h with h | h; exact h.elim; exact absurd HY.out.lt (by omega)
      have hfz : ¬ F z := fun h => by rcases t2.into z h with h | h; exact h.elim; exact absurd HZ1.out.lt (by omega)
      have HY2 := HY.out.keep (t2.block y HY.out.lt (fun h => h))
      have G0 := Lib.hid (show GE W2 F b d Vn y z pn 0 W2 from ⟨.inl ⟨Nat.zero_le _, r2, b2⟩, Adv.refl _ _, hfy, hfz, HY2.cell 1, HY2.lt, ⟨_, HZ1.out.keep (t2.block z HZ1.out.lt (fun h => h)), rfl⟩⟩)
      have G1 := Lib.hid G0.out.drew
      have K1 := Lib.hid G0.out.drew.cell
      have HT2 := Lib.hid (HA.out.trans (HT.out.trans t2))
      have HZ2 := Lib.hid (HZ1.out.keep (t2.block z HZ1.out.lt (fun h => h)))
      clear r2 t2 b2 hfy hfz HY2 c0 c1 c2 c3 c4
      go_upto_region 5 with (fail)
      go_cut [7] (fun t7 wr => GotR W2 F b d Vn y z pn t7 wr)
      case first =>
        refine rstart (S := (fun w' => w'.cell? ⟨y, 1, none⟩ = some (.int .u64 (pn : Int)))) (by first | with_reducible exact K8.out | with_reducible exact K7.out | with_reducible exact K6.out | with_reducible exact K5.out | with_reducible exact K4.out | with_reducible exact K3.out | with_reducible exact K2.out | with_reducible exact K1.out) (fun hH => ?_)
        refine tk (i := 0) (oi := ⟨some 29, .fieldAddr 96 (.tmp 4) 1, 0, "head.go:77", #[], none⟩) hH.out (by rintro w s0; go_simp <;> with_reducible rfl) ?_
        simp only [Act.put, sA, sB, sC]
        refine tk (i := 1) (oi := ⟨some 30, .load 49 (.tmp 29), 49, "head.go:77", #[⟨0, .data⟩], none⟩) hH.out (by rintro w s0; go_simp <;> with_reducible rfl) ?_
        simp only [Act.put, sA, sB, sC]
        refine tk (i := 2) (oi := ⟨some 31, .move (.tmp 6), 152, "head.go:77", #[], none⟩) hH.out (by rintro w s0; go_simp <;> with_reducible rfl) ?_
        simp only [Act.put, sA, sB, sC]
        refine tk (i := 4) (oi := ⟨some 33, .move (.tmp 6), 152, "head.go:77", #[], none⟩) hH.out (by rintro w s0; go_simp <;> with_reducible rfl) ?_
        simp only [Act.put, sA, sB, sC]
        refine wpAnyH_ready (rs := [3, 7]) (by kernel_rfl) (by simp) ?_
        refine AllReadyH.cons (o := ⟨some 32, .call ⟨.value (.func 96), #[.tmp 31, .const (Go.Value.int Go.IntKind.i64 40)], #[152, 3]⟩, 49, "head.go:77", #[⟨2, .data⟩], none⟩) rfl (fun K hK => ?_) (AllReadyH.cons (o := ⟨some 7, .alloc 69, 0, "head.go:77", #[], none⟩) rfl (fun K hK => ?_) AllReadyH.nil)
        · go_simp
          refine (G1.out.get 40 (by decide)).mono ?_
          rintro x w4 ⟨x1, rfl, g4, a4, e4⟩
          have G2 := Lib.hid g4
          have X1 := Lib.hid e4
          have K2 := Lib.hid g4.cell
          clear g4 a4 e4
          go_wp2_with fail
          refine hK.out _ _ (by first | with_reducible exact K8.out | with_reducible exact K7.out | with_reducible exact K6.out | with_reducible exact K5.out | with_reducible exact K4.out | with_reducible exact K3.out | with_reducible exact K2.out | with_reducible exact K1.out) (fun hHeld => ?_)
          replace hH := Lib.hid hHeld
          clear hK K hHeld
          try simp only [Act.put, sA, sB, sC]
          refine wpAnyH_ready (rs := [5, 7]) (by kernel_rfl) (by simp) ?_
          refine AllReadyH.cons (o := ⟨some 34, .call ⟨.value (.func 96), #[.tmp 33, .const (Go.Value.int Go.IntKind.i64 24)], #[152, 3]⟩, 49, "head.go:77", #[⟨4, .data⟩, ⟨3, .chain⟩], none⟩) rfl (fun K hK => ?_) (AllReadyH.cons (o := ⟨some 7, .alloc 69, 0, "head.go:77", #[], none⟩) rfl (fun K hK => ?_) AllReadyH.nil)
          · go_simp
            refine (G2.out.get 24 (by decide)).mono ?_
            rintro x w5 ⟨x2, rfl, g5, a5, e5⟩
            have G3 := Lib.hid g5
            have X2 := Lib.hid e5
            have K3 := Lib.hid g5.cell
            have HB4 := Lib.hid (Blk.new w5 69 #[.int .u64 0, .int .u64 0, .int .u64 0])
            have G4 := Lib.hid (g5.alloc (.cells #[.int .u64 0, .int .u64 0, .int .u64 0] 69))
            have K4 := Lib.hid (g5.alloc (.cells #[.int .u64 0, .int .u64 0, .int .u64 0] 69)).cell
            have HU := Lib.hid (show W2.heap.size ≤ w5.heap.size from g5.ad.size)
            have HF := Lib.hid g5.newF
            clear g5 a5 e5
            go_wp2_with fail
            refine hK.out _ _ (by first | with_reducible exact K8.out | with_reducible exact K7.out | with_reducible exact K6.out | with_reducible exact K5.out | with_reducible exact K4.out | with_reducible exact K3.out | with_reducible exact K2.out | with_reducible exact K1.out) (fun hHeld => ?_)
            replace hH := Lib.hid hHeld
            clear hK K hHeld
            try simp only [Act.put, sA, sB, sC]
            refine tk (i := 6) (oi := ⟨some 35, .build 69 #[(0, .tmp 30), (1, .tmp 32), (2, .tmp 34)], 69, "head.go:77", #[⟨1, .data⟩, ⟨3, .data⟩, ⟨5, .data⟩], none⟩) hH.out (by rintro w s0; go_simp <;> with_reducible rfl) ?_
            simp only [Act.put, sA, sB, sC]
            refine rdy (i := 7) (oi := ⟨some 7, .alloc 69, 0, "head.go:77", #[], none⟩) (fun K hK => ?_)
            go_simp
            refine hK.out _ _ (by first | with_reducible exact K8.out | with_reducible exact K7.out | with_reducible exact K6.out | with_reducible exact K5.out | with_reducible exact K4.out | with_reducible exact K3.out | with_reducible exact K2.out | with_reducible exact K1.out) (fun hHeld => ?_)
            replace hH := Lib.hid hHeld
            clear hK K hHeld
            try simp only [Act.put, sA, sB, sC]
            refine rdy (i := 8) (oi := ⟨none, .store 69 (.tmp 7) (.tmp 35), 0, "head.go:77", #[⟨7, .data⟩, ⟨6, .data⟩, ⟨5, .chain⟩, ⟨0, .phase⟩, ⟨1, .phase⟩, ⟨2, .phase⟩, ⟨3, .phase⟩, ⟨4, .phase⟩, ⟨5, .phase⟩, ⟨6, .phase⟩, ⟨7, .phase⟩], none⟩) (fun K hK => ?_)
            refine st_store3 sizeHead rfl (.tmp 7) (.tmp 35) rfl _ _ (h3 (pn : Int) (x1 : Int) (x2 : Int)) HB4.out rfl rfl (h3_one _ _ _) rfl rfl ?_
            have HFIN := Lib.hid (got_fin G4.out HB4.out rfl HU.out HF.out X1.out X2.out)
            have K6 := Lib.hid (G4.out.put HU.out HF.out (h3 (pn : Int) (x1 : Int) (x2 : Int)).toList).cell
            refine hK.out _ _ (by first | with_reducible exact K8.out | with_reducible exact K7.out | with_reducible exact K6.out | with_reducible exact K5.out | with_reducible exact K4.out | with_reducible exact K3.out | with_reducible exact K2.out | with_reducible exact K1.out) (fun hHeld => ?_)
            replace hH := Lib.hid hHeld
            clear hK K hHeld
            try simp only [Act.put]
            refine wpAnyH_done (by kernel_rfl) ?_ _
            go_wp2_with fail
            go_meet
            exact HFIN.out
          · go_simp
            have HB3 := Lib.hid (Blk.new w4 69 #[.int .u64 0, .int .u64 0, .int .u64 0])
            have G3 := Lib.hid (G2.out.alloc (.cells #[.int .u64 0, .int .u64 0, .int .u64 0] 69))
            have K3 := Lib.hid (G2.out.alloc (.cells #[.int .u64 0, .int .u64 0, .int .u64 0] 69)).cell
            have HU := Lib.hid (show W2.heap.size ≤ w4.heap.size from G2.out.ad.size)
            have HF := Lib.hid G2.out.newF
            refine hK.out _ _ (by first | with_reducible exact K8.out | with_reducible exact K7.out | with_reducible exact K6.out | with_reducible exact K5.out | with_reducible exact K4.out | with_reducible exact K3.out | with_reducible exact K2.out | with_reducible exact K1.out) (fun hHeld => ?_)
            replace hH := Lib.hid hHeld
            clear hK K hHeld
            try simp only [Act.put, sA, sB, sC]
            refine rdy (i := 5) (oi := ⟨some 34, .call ⟨.value (.func 96), #[.tmp 33, .const (Go.Value.int Go.IntKind.i64 24)], #[152, 3]⟩, 49, "head.go:77", #[⟨4, .data⟩, ⟨3, .chain⟩], none⟩) (fun K hK => ?_)
            go_simp
            refine (G3.out.get 24 (by decide)).mono ?_
            rintro x w5 ⟨x2, rfl, g5, a5, e5⟩
            have HB4 := Lib.hid (HB3.out.keep (a5.block _ HB3.out.lt HF.out))
            have G4 := Lib.hid g5
            have X2 := Lib.hid e5
            have K4 := Lib.hid g5.cell
            clear g5 a5 e5
            go_wp2_with fail
            refine hK.out _ _ (by first | with_reducible exact K8.out | with_reducible exact K7.out | with_reducible exact K6.out | with_reducible exact K5.out | with_reducible exact K4.out | with_reducible exact K3.out | with_reducible exact K2.out | with_reducible exact K1.out) (fun hHeld => ?_)
            replace hH := Lib.hid hHeld
            clear hK K hHeld
            try simp only [Act.put, sA, sB, sC]
            refine tk (i := 6) (oi := ⟨some 35, .build 69 #[(0, .tmp 30), (1, .tmp 32), (2, .tmp 34)], 69, "head.go:77", #[⟨1, .data⟩, ⟨3, .data⟩, ⟨5, .data⟩], none⟩) hH.out (by rintro w s0; go_simp <;> with_reducible rfl) ?_
            simp only [Act.put, sA, sB, sC]
            refine rdy (i := 8) (oi := ⟨none, .store 69 (.tmp 7) (.tmp 35), 0, "head.go:77", #[⟨7, .data⟩, ⟨6, .data⟩, ⟨5, .chain⟩, ⟨0, .phase⟩, ⟨1, .phase⟩, ⟨2, .phase⟩, ⟨3, .phase⟩, ⟨4, .phase⟩, ⟨5, .phase⟩, ⟨6, .phase⟩, ⟨7, .phase⟩], none⟩) (fun K hK => ?_)
            refine st_store3 sizeHead rfl (.tmp 7) (.tmp 35) rfl _ _ (h3 (pn : Int) (x1 : Int) (x2 : Int)) HB4.out rfl rfl (h3_one _ _ _) rfl rfl ?_
            have HFIN := Lib.hid (got_fin G4.out HB4.out rfl HU.out HF.out X1.out X2.out)
            have K6 := Lib.hid (G4.out.put HU.out HF.out (h3 (pn : Int) (x1 : Int) (x2 : Int)).toList).cell
            refine hK.out _ _ (by first | with_reducible exact K8.out | with_reducible exact K7.out | with_reducible exact K6.out | with_reducible exact K5.out | with_reducible exact K4.out | with_reducible exact K3.out | with_reducible exact K2.out | with_reducible exact K1.out) (fun hHeld => ?_)
            replace hH := Lib.hid hHeld
            clear hK K hHeld
            try simp only [Act.put]
            refine wpAnyH_done (by kernel_rfl) ?_ _
            go_wp2_with fail
            go_meet
            exact HFIN.out
        · go_simp
          have HB2 := Lib.hid ((Blk.new W2 69 #[.int .u64 0, .int .u64 0, .int .u64 0]).drew)
          have G1c := Lib.hid ((G0.out.alloc (.cells #[.int .u64 0, .int .u64 0, .int .u64 0] 69)).drew)
          have K5 := Lib.hid ((G0.out.alloc (.cells #[.int .u64 0, .int .u64 0, .int .u64 0] 69)).drew).cell
          have HU := Lib.hid (show W2.heap.size ≤ W2.heap.size from Nat.le_refl _)
          have HF := Lib.hid G0.out.newF
          refine hK.out _ _ (by first | with_reducible exact K8.out | with_reducible exact K7.out | with_reducible exact K6.out | with_reducible exact K5.out | with_reducible exact K4.out | with_reducible exact K3.out | with_reducible exact K2.out | with_reducible exact K1.out) (fun hHeld => ?_)
          replace hH := Lib.hid hHeld
          clear hK K hHeld
          try simp only [Act.put, sA, sB, sC]
          refine rdy (i := 3) (oi := ⟨some 32, .call ⟨.value (.func 96), #[.tmp 31, .const (Go.Value.int Go.IntKind.i64 40)], #[152, 3]⟩, 49, "head.go:77", #[⟨2, .data⟩], none⟩) (fun K hK => ?_)
          go_simp
          refine (G1c.out.get 40 (by decide)).mono ?_
          rintro x w4 ⟨x1, rfl, g4, a4, e4⟩
          have G2 := Lib.hid g4
          have HB3 := Lib.hid (HB2.out.keep (a4.block _ HB2.out.lt HF.out))
          have X1 := Lib.hid e4
          have K2 := Lib.hid g4.cell
          clear g4 a4 e4
          go_wp2_with fail
          refine hK.out _ _ (by first | with_reducible exact K8.out | with_reducible exact K7.out | with_reducible exact K6.out | with_reducible exact K5.out | with_reducible exact K4.out | with_reducible exact K3.out | with_reducible exact K2.out | with_reducible exact K1.out) (fun hHeld => ?_)
          replace hH := Lib.hid hHeld
          clear hK K hHeld
          try simp only [Act.put, sA, sB, sC]
          refine rdy (i := 5) (oi := ⟨some 34, .call ⟨.value (.func 96), #[.tmp 33, .const (Go.Value.int Go.IntKind.i64 24)], #[152, 3]⟩, 49, "head.go:77", #[⟨4, .data⟩, ⟨3, .chain⟩], none⟩) (fun K hK => ?_)
          go_simp
          refine (G2.out.get 24 (by decide)).mono ?_
          rintro x w5 ⟨x2, rfl, g5, a5, e5⟩
          have HB4 := Lib.hid (HB3.out.keep (a5.block _ HB3.out.lt HF.out))
          have G4 := Lib.hid g5
          have X2 := Lib.hid e5
          have K4 := Lib.hid g5.cell
          clear g5 a5 e5
          go_wp2_with fail
          refine hK.out _ _ (by first | with_reducible exact K8.out | with_reducible exact K7.out | with_reducible exact K6.out | with_reducible exact K5.out | with_reducible exact K4.out | with_reducible exact K3.out | with_reducible exact K2.out | with_reducible exact K1.out) (fun hHeld => ?_)
          replace hH := Lib.hid hHeld
          clear hK K hHeld
          try simp only [Act.put, sA, sB, sC]
          refine tk (i := 6) (oi := ⟨some 35, .build 69 #[(0, .tmp 30), (1, .tmp 32), (2, .tmp 34)], 69, "head.go:77", #[⟨1, .data⟩, ⟨3, .data⟩, ⟨5, .data⟩], none⟩) hH.out (by rintro w s0; go_simp <;> with_reducible rfl) ?_
          simp only [Act.put, sA, sB, sC]
          refine rdy (i := 8) (oi := ⟨none, .store 69 (.tmp 7) (.tmp 35), 0, "head.go:77", #[⟨7, .data⟩, ⟨6, .data⟩, ⟨5, .chain⟩, ⟨0, .phase⟩, ⟨1, .phase⟩, ⟨2, .phase⟩, ⟨3, .phase⟩, ⟨4, .phase⟩, ⟨5, .phase⟩, ⟨6, .phase⟩, ⟨7, .phase⟩], none⟩) (fun K hK => ?_)
          refine st_store3 sizeHead rfl (.tmp 7) (.tmp 35) rfl _ _ (h3 (pn : Int) (x1 : Int) (x2 : Int)) HB4.out rfl rfl (h3_one _ _ _) rfl rfl ?_
          have HFIN := Lib.hid (got_fin G4.out HB4.out rfl HU.out HF.out X1.out X2.out)
          have K6 := Lib.hid (G4.out.put HU.out HF.out (h3 (pn : Int) (x1 : Int) (x2 : Int)).toList).cell
          refine hK.out _ _ (by first | with_reducible exact K8.out | with_reducible exact K7.out | with_reducible exact K6.out | with_reducible exact K5.out | with_reducible exact K4.out | with_reducible exact K3.out | with_reducible exact K2.out | with_reducible exact K1.out) (fun hHeld => ?_)
          replace hH := Lib.hid hHeld
          clear hK K hHeld
          try simp only [Act.put]
          refine wpAnyH_done (by kernel_rfl) ?_ _
          go_wp2_with fail
          go_meet
          exact HFIN.out
      case rest =>
      obtain ⟨u, x1, x2, rfl, hU, hG, hx1, hx2, hu, hFu⟩ := hcut
      obtain ⟨C, hbz, hCs⟩ := hG.bz
      obtain ⟨W9, rfl⟩ : ∃ W9, W9 = wc := ⟨_, rfl⟩
      have hbz' := hbz.keep (hG.ad.block z hbz.lt hG.fz)
      obtain ⟨E9, hE9⟩ : ∃ E, E = endE d Vn 64 := ⟨_, rfl⟩
      have HE9 := Lib.hid hE9
      have HEND := Lib.hid (fun (w : World) (h : RdS w F b d Vn 64) => h.end_)
      have HG := Lib.hid hG
      have HU := Lib.hid hU
      have HUZ := Lib.hid (show u ≠ z from fun e => by have := hbz.lt; omega)
      have HZW := Lib.hid hbz'
      have HCZ := Lib.hid hCs
      have M1 := Lib.hid (show W9.drew.cell? ⟨u, 0, none⟩ = some (.int .u64 (pn : Int)) ∧ W9.drew.cell? ⟨u, 1, none⟩ = some (.int .u64 (x1 : Int)) ∧ W9.drew.cell? ⟨u, 2, none⟩ = some (.int .u64 (x2 : Int)) from hU.three)
      obtain ⟨B, hB⟩ : ∃ B, B = (E9 == 0) := ⟨_, rfl⟩
      have hB' : (E9 == 0) = B := hB.symm
      have HBB := Lib.hid (show B = decide (d = 8) by rw [hB, hE9, endE_64])
      have HX1 := Lib.hid hx1
      have HX2 := Lib.hid hx2
      clear hE9 hG hU hu hFu hbz hbz' hCs hx1 hx2 hB
      go_upto_region 6 with (fail)
      refine rstart (S := (fun w' => w'.cell? ⟨u, 0, none⟩ = some (.int .u64 (pn : Int)) ∧ w'.cell? ⟨u, 1, none⟩ = some (.int .u64 (x1 : Int)) ∧ w'.cell? ⟨u, 2, none⟩ = some (.int .u64 (x2 : Int)))) (by first | with_reducible exact M3.out | with_reducible exact M2.out | with_reducible exact M1.out) (fun hH => ?_)
      refine tk (i := 0) (oi := ⟨some 36, .load 69 (.tmp 7), 69, "head.go:78", #[], none⟩) hH.out (by rintro w ⟨s0, s1, s2⟩; go_simp <;> with_reducible rfl) ?_
      simp only [Act.put, sA, sB, sC]
      refine tk (i := 1) (oi := ⟨some 37, .move (.tmp 6), 152, "head.go:78", #[], none⟩) hH.out (by rintro w ⟨s0, s1, s2⟩; go_simp <;> with_reducible rfl) ?_
      simp only [Act.put, sA, sB, sC]
      refine rdy (i := 2) (oi := ⟨some 38, .call ⟨.value (.func 97), #[.tmp 37], #[152]⟩, 25, "head.go:78", #[⟨1, .data⟩], none⟩) (fun K hK => ?_)
      go_simp
      refine (HEND.out _ HG.out.drew.rs).mono ?_
      rintro x w9 ⟨rfl, t9⟩
      rw [← HE9.out]
      have M2 := Lib.hid ((HU.out.keep (t9.block u HU.out.lt (fun h => h))).three)
      have HU9 := Lib.hid (HU.out.keep (t9.block u HU.out.lt (fun h => h)))
      have HZ9 := Lib.hid (HZW.out.keep (t9.block z HZW.out.lt (fun h => h)))
      have HT9 := Lib.hid t9
      clear t9
      go_wp2_with fail
      refine hK.out _ _ (by first | with_reducible exact M3.out | with_reducible exact M2.out | with_reducible exact M1.out) (fun hHeld => ?_)
      replace hH := Lib.hid hHeld
      clear hK K hHeld
      try simp only [Act.put, sA, sB, sC]
      refine tk (i := 3) (oi := ⟨some 39, .binOp .eql 25 (.tmp 38) (.const (Go.Value.int Go.IntKind.i64 0)) 25, 4, "head.go:78", #[⟨2, .data⟩, { on := 4, ground := Go.Ground.gcOnly Go.Departure.lateStores }], none⟩) hH.out (by rintro w ⟨s0, s1, s2⟩; go_simp <;> with_reducible rfl) ?_
      simp only [Act.put, sA, sB, sC]
      refine rdy (i := 4) (oi := ⟨none, .store 69 (.tmp 2) (.tmp 36), 0, "head.go:78", #[⟨0, .data⟩, ⟨2, .chain⟩, ⟨0, .phase⟩, { on := 1, ground := Go.Ground.textOnly Go.Departure.lateStores }, { on := 2, ground := Go.Ground.textOnly Go.Departure.lateStoresUnsure }, { on := 3, ground := Go.Ground.textOnly Go.Departure.lateStores }], none⟩) (fun K hK => ?_)
      refine st_store3 sizeHead rfl (.tmp 2) (.tmp 36) rfl z _ (h3 (pn : Int) (x1 : Int) (x2 : Int)) HZ9.out HCZ.out rfl (h3_one _ _ _) rfl rfl ?_
      have M3 := Lib.hid ((HU9.out.keep (lsetCells_heap z HUZ.out (h3 (pn : Int) (x1 : Int) (x2 : Int)).toList 0 w9)).three)
      have HZF := Lib.hid (HZ9.out.putAll (D := h3 (pn : Int) (x1 : Int) (x2 : Int)) (by rw [HCZ.out]; rfl))
      refine hK.out _ _ (by first | with_reducible exact M3.out | with_reducible exact M2.out | with_reducible exact M1.out) (fun hHeld => ?_)
      replace hH := Lib.hid hHeld
      clear hK K hHeld
      try simp only [Act.put]
      refine tk (i := 5) (oi := ⟨some 3, .assign (.tmp 39), 4, "head.go:78", #[⟨3, .data⟩, ⟨4, .chain⟩, ⟨0, .phase⟩, ⟨1, .phase⟩, ⟨2, .phase⟩, ⟨3, .phase⟩, ⟨4, .phase⟩], none⟩) hH.out (by rintro w ⟨s0, s1, s2⟩; go_simp <;> with_reducible rfl) ?_
      simp only [Act.put, sA, sB, sC]
      refine wpAnyH_done (by kernel_rfl) ?_ _
      obtain ⟨hz0, hz1, hz2⟩ := HZF.out.three
      have hadv : Adv Nul w Nul (w9.setCells z 0 (h3 (pn : Int) (x1 : Int) (x2 : Int)).toList) := (Adv.lsetCells _ 0 _ ((HT2.out.trans HG.out.drew.ad).over HT9.out) (.inr HLZ.out)).sub (fun _ h => h.elim)
      have hfin : UhR w l (.returned (.tuple #[.agg #[.int .u64 (pn : Int), .int .u64 (x1 : Int), .int .u64 (x2 : Int)], .bool B])) (w9.setCells z 0 (h3 (pn : Int) (x1 : Int) (x2 : Int)).toList) := by
        have hb := HBB.out
        cases B with
        | false =>
          refine UhR.no pn x1 x2 ?_ hadv
          rw [unHd, ← HDEC.out]
          refine if_neg (fun h => ?_)
          have h1 := h.2.2.2
          rw [← HD.out] at h1
          exact absurd hb.symm (by rw [decide_eq_true h1]; decide)
        | true =>
          have h8 : d = 8 := of_decide_eq_true hb.symm
          refine UhR.yes ?_ hadv
          have hD8 : D.length = 8 := by rw [← HD.out]; exact h8
          have hv := val_lt8 hD8 HL8.out
          rw [← HVN.out] at hv
          have e1 := HX1.out (by omega)
          have e2 := HX2.out (by omega)
          rw [h8] at e1 e2
          rw [bits_tail hv] at e1
          rw [bits_floor] at e2
          rw [unHd, ← HDEC.out, if_pos ⟨HWH.out, rfl, rfl, hD8⟩, e1, e2, HVN.out]
      have HFIN := Lib.hid hfin
      clear hfin hadv
      go_wp2_with fail
      exact bodyPost_ret (v := .tuple #[.agg #[.int .u64 (pn : Int), .int .u64 (x1 : Int), .int .u64 (x2 : Int)], .bool B]) (by simp [results, Tryz.results65, go_sem, hz0, hz1, hz2]) rfl HFIN.out
  · obtain rfl : E = 4 := by rw [HE.out, unsealE, if_neg hw]
    have HNW := Lib.hid hw
    clear hw
    go_wp2_with (first
      | (refine op_store3 sizeHead rfl (.tmp 2) (.tmp 25) rfl z _ (h3 0 0 0) HZ1.out rfl rfl (h3_one _ _ _) rfl rfl ?_)
      | fail)
    obtain ⟨hz0, hz1, hz2⟩ := (HZ1.out.putAll (D := h3 0 0 0) rfl).three
    have hfin : UhR w l (.returned (.tuple #[.agg #[.int .u64 0, .int .u64 0, .int .u64 0], .bool false])) (W.setCells z 0 (h3 0 0 0).toList) := UhR.no 0 0 0 (by rw [unHd]; exact if_neg (fun h => HNW.out h.1)) (Adv.lsetCells _ 0 _ (HA.out.trans HT.out) (.inr HLZ.out))
    exact bodyPost_ret (v := .tuple #[.agg #[.int .u64 0, .int .u64 0, .int .u64 0], .bool false]) (by simp [results, Tryz.results65, go_sem, hz0, hz1, hz2]) rfl hfin
end Go.Proofs.YtbdjlmdbnoghnaaGreat
namespace Go.Proofs.YtbdjlmdbnoghnaaGreat
open Go.RowKit

/-- how many pieces a record of m bytes has -/
def needN (m : Nat) : Nat := max 1 ((m + 105) / 106)
theorem needN_pos (m : Nat) : 1 ≤ needN m := Nat.le_max_left _ _
theorem needN_ge (m : Nat) : m ≤ needN m * 106 := by
  have := Nat.le_max_right 1 ((m + 105) / 106)
  unfold needN; omega
theorem needN_le {m k : Nat} (hk : 1 ≤ k) (h : m ≤ k * 106) : needN m ≤ k := by
  unfold needN; omega
/-- the pieces of a record -/
def pieceAt (e c : Nat) (l : List Nat) (i : Nat) : Pc := ⟨e, c + i, i == 0, i == needN l.length - 1, (l.drop (i * 106)).take 106⟩
def cutP (e c : Nat) (l : List Nat) : List Pc := (List.range (needN l.length)).map (pieceAt e c l)
theorem cutP_length (e c : Nat) (l : List Nat) : (cutP e c l).length = needN l.length := by simp [cutP]
theorem cutP_at (e c : Nat) (l : List Nat) {i : Nat} (h : i < needN l.length) : (cutP e c l)[i]'(by rw [cutP_length]; exact h) = pieceAt e c l i := by simp [cutP]
/-- which error -/
def cutE (e c m : Nat) : Int := if e ≤ 16777215 ∧ c ≤ 1099511627775 ∧ needN m - 1 ≤ 1099511627775 - c then (if m ≤ 8192 then 0 else 5) else 2
def cutV (e c : Nat) (l : List Nat) : List Pc := if cutE e c l.length = 0 then cutP e c l else []

theorem ret_int {k : IntKind} {a b : Int} (h : a = b) : Ending.returned (.int k a) = .returned (.int k b) := by rw [h]
set_option maxRecDepth 3000 in
theorem need_any (m : Nat) (w : World) (hm : m ≤ 1000000000) : Calls Tryz.prog 106 #[.int .i64 (m : Int)] w fun x w' => x = .returned (.int .i64 (needN m : Int)) ∧ w = w' := by
  have hmI : (m : Int) ≤ 1000000000 := by omega
  have e : ((needN m : Nat) : Int) = max 1 (((m : Int) + 105) / 106) := by unfold needN; omega
  have HE := Lib.hid e
  clear hm e
  go_enter Tryz.func106, Tryz.ntmps106
  go_wp2_with fail
  all_goals
    go_ret
    exact ⟨ret_int (by rw [HE.out]; omega), rfl⟩

/-- Pieces that can be read. -/
def PRd (w : World) (v : Value) (ps : List Pc) : Prop :=
  ∃ A k, v = .slice A ps.length k ∧ ps.length ≤ k ∧ k ≤ maxLen ∧ (0 < ps.length → ∃ b o, A = some ⟨b, o, none⟩ ∧ b < w.heap.size ∧ ∀ i (h : i < ps.length), ∃ a q,
    w.cell? ⟨b, o + (i * 5 + 0), none⟩ = some (.int .u64 (ps[i].e : Int)) ∧ w.cell? ⟨b, o + (i * 5 + 1), none⟩ = some (.int .u64 (ps[i].c : Int)) ∧ w.cell? ⟨b, o + (i * 5 + 2), none⟩ = some (.bool ps[i].f) ∧ w.cell? ⟨b, o + (i * 5 + 3), none⟩ = some (.bool ps[i].g) ∧
    w.cell? ⟨b, o + (i * 5 + 4), none⟩ = some (.slice a ps[i].d.length q) ∧ Rd w 1 (.slice a ps[i].d.length q) ps[i].d.length (ps[i].d.map u8))
theorem PRd.nil (w : World) : PRd w (.slice none 0 0) [] := ⟨none, 0, rfl, Nat.le_refl _, Nat.zero_le _, fun h => absurd h (by decide)⟩
theorem PRd.step {w w' : World} {v : Value} {ps : List Pc} {F' : Nat → Prop} (h : PRd w v ps) (ha : Adv Nul w F' w') : PRd w' v ps := by
  obtain ⟨A, k, rfl, h1, h2, h3⟩ := h
  refine ⟨A, k, rfl, h1, h2, fun hn => ?_⟩
  obtain ⟨b, o, rfl, hb, hc⟩ := h3 hn
  have hk : w'.heap[b]? = w.heap[b]? := ha.block b hb (fun h => h)
  refine ⟨b, o, rfl, Nat.lt_of_lt_of_le hb ha.size, fun i hi => ?_⟩
  obtain ⟨a, q, c0, c1, c2, c3, c4, hr⟩ := hc i hi
  have e : ∀ j, w'.cell? ⟨b, j, none⟩ = w.cell? ⟨b, j, none⟩ := fun j => World.cell?_of_block hk
  exact ⟨a, q, by rw [e]; exact c0, by rw [e]; exact c1, by rw [e]; exact c2, by rw [e]; exact c3, by rw [e]; exact c4, hr.far (fun _ _ _ h => ha.block _ h (fun h => h)) ha.size⟩
end Go.Proofs.YtbdjlmdbnoghnaaGreat
