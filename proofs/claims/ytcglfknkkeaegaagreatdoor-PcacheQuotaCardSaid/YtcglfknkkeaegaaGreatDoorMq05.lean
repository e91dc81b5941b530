/- A sector's head, or that it is none: the program's. Cut: how many pieces, which; the program's Cut. Join: which record any pieces are (arithmetic). Transactions and their records (arithmetic). -/
import Derived.Test.YtcglfknkkeaegaaGreatDoorMq04
import Derived.Test.YtcglfknkkeaegaaGreatDoorMq01
import Derived.Great.FillDense
namespace Go.Proofs.YtcglfknkkeaegaaGreatDoor
open Go.RowKit

def h3 (g t f : Int) : Array Value := #[.int .u64 g, .int .u64 t, .int .u64 f]
theorem h3_one (g t f : Int) : (h3 g t f).all (·.oneCell') = true := by simp [h3, Value.oneCell']
theorem sizeHead : (Tryz.prog.info? 140).map (·.size) = some 3 := by kernel_rfl
theorem st_store3 {ops : Array Oper} {o : Oper} {a : Act} {w : World} {Q : Exit → Act → World → Prop} {K : Act → World → Prop} {E : Prop} {t t' : TypeId} (hsz : (Tryz.prog.info? t).map (·.size) = some 3) (hgd : o.guard = none) (x y : Operand) (ho : o.op = .store t x y)
    (z : Nat) (C D : Array Value) (hB : Blk w z t' C) (hC : C.size = 3) (hD : D.size = 3) (h1 : D.all (·.oneCell') = true) (hx : a.eval x = .pointer (some ⟨z, 0, none⟩)) (hy : a.eval y = .agg D)
    (h : K (a.put o.dst undef) (w.setCells z 0 D.toList)) : if Region.wanted o (yielded ops a.tmps) = true then Oper.wp Tryz.prog o a w K Q else E := by
  rw [if_pos (by simp [Region.wanted, hgd])]
  refine wp_store_mid t x y ho z 0 D hx hy ?_ (by rw [hsz, hD]) h1 h
  have := hB.there
  rw [hC] at this
  rw [hD]; exact this
theorem op_store3 {ops : Array Oper} {rest : List Oper} {o : Oper} {a : Act} {w : World} {Q : Exit → Act → World → Prop} {t t' : TypeId} (hsz : (Tryz.prog.info? t).map (·.size) = some 3) (hgd : o.guard = none) (x y : Operand) (ho : o.op = .store t x y)
    (z : Nat) (C D : Array Value) (hB : Blk w z t' C) (hC : C.size = 3) (hD : D.size = 3) (h1 : D.all (·.oneCell') = true) (hx : a.eval x = .pointer (some ⟨z, 0, none⟩)) (hy : a.eval y = .agg D)
    (h : wpList Tryz.prog ops Q rest (a.put o.dst undef) (w.setCells z 0 D.toList)) : wpList Tryz.prog ops Q (o :: rest) a w := by
  refine wpList_plain hgd fun K hK => ?_
  have h0 := st_store3 (ops := ops) (K := K) (Q := Q) (E := True) hsz hgd x y ho z C D hB hC hD h1 hx hy (hK _ _ h)
  rwa [if_pos (by simp [Region.wanted, hgd])] at h0
theorem Blk.three {w : World} {b : Nat} {t : TypeId} {a0 a1 a2 : Value} (h : Blk w b t #[a0, a1, a2]) : w.cell? ⟨b, 0, none⟩ = some a0 ∧ w.cell? ⟨b, 1, none⟩ = some a1 ∧ w.cell? ⟨b, 2, none⟩ = some a2 :=
  ⟨h.cell 0, h.cell 1, h.cell 2⟩
/-- what is said of a sector -/
def UhR (w : World) (l : List Nat) (x : Ending) (w' : World) : Prop :=
  ∃ (h : Hd) (ok : Bool), x = .returned (.tuple #[.agg #[.int .u64 (h.g : Int), .int .u64 (h.t : Int), .int .u64 (h.f : Int)], .bool ok]) ∧ (if ok = true then unHd l = some h else unHd l = none) ∧ Adv Nul w Nul w'
theorem UhR.no {w w' : World} {l : List Nat} (g t f : Nat) (h : unHd l = none) (ha : Adv Nul w Nul w') : UhR w l (.returned (.tuple #[.agg #[.int .u64 (g : Int), .int .u64 (t : Int), .int .u64 (f : Int)], .bool false])) w' :=
  ⟨⟨g, t, f⟩, false, rfl, by simpa using h, ha⟩
theorem UhR.yes {w w' : World} {l : List Nat} {g t f : Nat} (h : unHd l = some ⟨g, t, f⟩) (ha : Adv Nul w Nul w') : UhR w l (.returned (.tuple #[.agg #[.int .u64 (g : Int), .int .u64 (t : Int), .int .u64 (f : Int)], .bool true])) w' :=
  ⟨⟨g, t, f⟩, true, rfl, by simpa using h, ha⟩

/-- a reader that has been asked for so many bits: there are so many, or it has the error -/
def RdS (w : World) (F : Nat → Prop) (b q V a : Nat) : Prop := (a ≤ 8 * q ∧ RSt w F b q V a ∧ Bd F w) ∨ (8 * q < a ∧ RErr w F b 3)
theorem RdS.far {w w' : World} {F : Nat → Prop} {b q V a : Nat} (h : RdS w F b q V a) (hk : ∀ k, F k → k < w.heap.size → w'.heap[k]? = w.heap[k]?) (hs : w.heap.size ≤ w'.heap.size) : RdS w' F b q V a := by
  rcases h with ⟨h1, h2, h3⟩ | ⟨h1, h2⟩
  · obtain ⟨rv, hB, hS⟩ := h2.ex
    refine .inl ⟨h1, ⟨⟨rv, hB.keep (hk b h2.inF hB.lt), ⟨own_keep hS.own fun k hk' => hk k (hS.inF k hk') (hS.bd k (hS.inF k hk')), hS.inF, fun k hk' => Nat.lt_of_lt_of_le (hS.bd k hk') hs⟩⟩, h2.inF, h2.le, h2.sm⟩, fun k hk' => Nat.lt_of_lt_of_le (h3 k hk') hs⟩
  · obtain ⟨v, r, hB⟩ := h2.ex
    exact .inr ⟨h1, ⟨⟨v, r, hB.keep (hk b h2.inF hB.lt)⟩, h2.ne, h2.inF, fun k hk' => Nat.lt_of_lt_of_le (h2.bd k hk') hs⟩⟩
theorem RdS.bd {w : World} {F : Nat → Prop} {b q V a : Nat} (h : RdS w F b q V a) : Bd F w := by
  rcases h with ⟨_, _, h3⟩ | ⟨_, h2⟩
  · exact h3
  · exact h2.bd
theorem RdS.get {w : World} {F : Nat → Prop} {b q V a : Nat} (h : RdS w F b q V a) (n : Nat) (hn : n ≤ 64) :
    Calls Tryz.prog 143 #[.pointer (some ⟨b, 0, none⟩), .int .i64 (n : Int)] w fun e w' => ∃ x : Nat, e = .returned (.int .u64 (x : Int)) ∧ RdS w' F b q V (a + n) ∧ Adv F w F w' ∧ (a + n ≤ 8 * q → x = bitsAt q V a n) := by
  rcases h with ⟨h1, h2, h3⟩ | ⟨h1, h2⟩
  · by_cases hx : a + n ≤ 8 * q
    · refine (get_ok b q V a n F w h2 h3 hn hx).mono ?_
      rintro e w' ⟨rfl, k1, k2, k3⟩
      exact ⟨_, rfl, .inl ⟨hx, k1, k3⟩, k2, fun _ => rfl⟩
    · refine (get_short b q V a n F w h2 h3 hn (by omega)).mono ?_
      rintro e w' ⟨rfl, k1, k2⟩
      exact ⟨0, rfl, .inr ⟨by omega, k1⟩, k2, fun h => absurd h hx⟩
  · refine (get_err b n 3 F w h2).mono ?_
    rintro e w' ⟨rfl, rfl⟩
    exact ⟨0, rfl, .inr ⟨by omega, h2⟩, Adv.refl _ _, fun h => by omega⟩
def endE (q V a : Nat) : Int := if a ≤ 8 * q then endOf q V a else 3
theorem RdS.end_ {w : World} {F : Nat → Prop} {b q V a : Nat} (h : RdS w F b q V a) :
    Calls Tryz.prog 144 #[.pointer (some ⟨b, 0, none⟩)] w fun e w' => e = .returned (.int .i64 (endE q V a)) ∧ Adv Nul w Nul w' := by
  rcases h with ⟨h1, h2, h3⟩ | ⟨h1, h2⟩
  · refine (rend_ok b q V a F w h2 h3).mono ?_
    rintro e w' ⟨rfl, k⟩
    exact ⟨by rw [endE, if_pos h1], ⟨k.os, k.tape, k.output, k.size, fun i hi _ => k.block i hi, fun _ h => h.elim⟩⟩
  · refine (rend_err b 3 F w h2).mono ?_
    rintro e w' ⟨rfl, rfl⟩
    exact ⟨by rw [endE, if_neg (by omega)], Adv.refl _ _⟩
theorem endE_64 (q V : Nat) : (endE q V 64 == 0) = decide (q = 8) := by
  unfold endE endOf
  by_cases h : q = 8
  · subst h
    simp [Nat.mod_one]
  · rw [decide_eq_false h, beq_eq_false_iff_ne]
    split
    · split
      · omega
      · decide
    · decide
/-- what stays while bits are read -/
structure GE (W : World) (F : Nat → Prop) (b q V y z pn : Nat) (a : Nat) (w : World) : Prop where
  rs : RdS w F b q V a
  ad : Adv F W F w
  fy : ¬ F y
  fz : ¬ F z
  cy : W.cell? ⟨y, 1, none⟩ = some (.int .u64 (pn : Int))
  ly : y < W.heap.size
  bz : ∃ C, Blk W z 140 C ∧ C.size = 3
section
variable {W w w' : World} {F : Nat → Prop} {b q V y z pn a : Nat}
theorem GE.cell (h : GE W F b q V y z pn a w) : w.cell? ⟨y, 1, none⟩ = some (.int .u64 (pn : Int)) := (World.cell?_of_block (h.ad.block y h.ly h.fy)).trans h.cy
theorem GE.drew (h : GE W F b q V y z pn a w) : GE W F b q V y z pn a w.drew := ⟨h.rs.far (fun _ _ _ => rfl) (Nat.le_refl _), h.ad.drew, h.fy, h.fz, h.cy, h.ly, h.bz⟩
theorem GE.alloc (h : GE W F b q V y z pn a w) (o : Obj) : GE W F b q V y z pn a (w.alloc o) := ⟨h.rs.far (fun _ _ hk => Below.heap_alloc _ _ _ hk) (by simp), h.ad.alloc o, h.fy, h.fz, h.cy, h.ly, h.bz⟩
theorem GE.put {u : Nat} (h : GE W F b q V y z pn a w) (hu : W.heap.size ≤ u) (hF : ¬ F u) (D : List Value) : GE W F b q V y z pn a (w.setCells u 0 D) :=
  ⟨h.rs.far (fun _ hk _ => lsetCells_heap u (fun e => hF (e ▸ hk)) D 0 w) (Adv.lsetCells D 0 _ (Adv.refl (fun k => k = u) w) (.inl rfl)).size, Adv.lsetCells D 0 _ h.ad (.inr hu), h.fy, h.fz, h.cy, h.ly, h.bz⟩
theorem GE.get (h : GE W F b q V y z pn a w) (n : Nat) (hn : n ≤ 64) :
    Calls Tryz.prog 143 #[.pointer (some ⟨b, 0, none⟩), .int .i64 (n : Int)] w fun e w' => ∃ x : Nat, e = .returned (.int .u64 (x : Int)) ∧ GE W F b q V y z pn (a + n) w' ∧ Adv F w F w' ∧ (a + n ≤ 8 * q → x = bitsAt q V a n) := by
  refine (h.rs.get n hn).mono ?_
  rintro e w' ⟨x, rfl, h1, h2, h3⟩
  exact ⟨x, rfl, ⟨h1, h.ad.trans h2, h.fy, h.fz, h.cy, h.ly, h.bz⟩, h2, h3⟩
theorem GE.newF (h : GE W F b q V y z pn a w) : ¬ F w.heap.size := fun hf => Nat.lt_irrefl _ (h.rs.bd _ hf)
end
/-- what the two reads leave -/
def GotR (W : World) (F : Nat → Prop) (b q V y z pn : Nat) (t7 : Value) (wr : World) : Prop :=
  ∃ u x1 x2 : Nat, t7 = .pointer (some ⟨u, 0, none⟩) ∧ Blk wr u 140 (h3 (pn : Int) (x1 : Int) (x2 : Int)) ∧ GE W F b q V y z pn 64 wr ∧ (40 ≤ 8 * q → x1 = bitsAt q V 0 40) ∧ (64 ≤ 8 * q → x2 = bitsAt q V 40 24) ∧ W.heap.size ≤ u ∧ ¬ F u
theorem got_fin {W w : World} {F : Nat → Prop} {b q V y z pn u x1 x2 : Nat} {C : Array Value} (h : GE W F b q V y z pn 64 w) (hB : Blk w u 140 C) (hC : C.size = 3) (hu : W.heap.size ≤ u) (hF : ¬ F u) (h1 : 40 ≤ 8 * q → x1 = bitsAt q V 0 40) (h2 : 64 ≤ 8 * q → x2 = bitsAt q V 40 24) :
    GotR W F b q V y z pn (.pointer (some ⟨u, 0, none⟩)) (w.setCells u 0 (h3 (pn : Int) (x1 : Int) (x2 : Int)).toList) :=
  ⟨u, x1, x2, rfl, hB.putAll (by rw [hC]; rfl), h.put hu hF _, h1, h2, hu, hF⟩

set_option maxRecDepth 3000 in
set_option maxHeartbeats 3200000 in
theorem hunseal_any (v : Value) (n : Nat) (l : List Nat) (w : World) (h : Rd w 1 v n (l.map u8)) (hl : ∀ x ∈ l, x < 256) : Calls Tryz.prog 107 #[v] w (UhR w l) := by
  obtain ⟨A0, c0, rfl, _, _⟩ := h.form
  obtain ⟨z, hz⟩ : ∃ z, z = w.heap.size := ⟨_, rfl⟩
  obtain ⟨V, hV⟩ : ∃ V, V = w.alloc (.cells #[.int .u64 0, .int .u64 0, .int .u64 0] 140) := ⟨_, rfl⟩
  have HZ := Lib.hid (show Blk V z 140 (h3 0 0 0) by rw [hV, hz]; exact Blk.new _ _ _)
  have HA := Lib.hid (show Adv Nul w Nul V by rw [hV]; exact (Adv.refl _ _).alloc _)
  have HR := Lib.hid (show Rd V 1 (.slice A0 n c0) n (l.map u8) by rw [hV]; exact h.up _)
  have HL := Lib.hid hl
  have HV := Lib.hid hV
  have HZZ := Lib.hid hz
  clear h hl hV hz
  go_enter Tryz.func107, Tryz.ntmps107
  go_wp2_with fail
  rw [← HV.out, ← HZZ.out]
  refine (unseal_any _ n l _ HR.out HL.out).mono ?_
  intro x w1 h
  obtain ⟨A, k, F1, rfl, s1, t1⟩ := h
  obtain ⟨p, hp⟩ : ∃ p, p = unsealP l := ⟨_, rfl⟩
  obtain ⟨E, hE⟩ : ∃ E, E = unsealE l := ⟨_, rfl⟩
  rw [← hp, ← hE]
  rw [← hp] at s1
  obtain ⟨pe, pn, pf, pg, D⟩ := p
  obtain ⟨d, hd⟩ : ∃ d, d = D.length := ⟨_, rfl⟩
  simp only [← hd] at s1 ⊢
  obtain ⟨y, hy⟩ : ∃ y, y = w1.heap.size := ⟨_, rfl⟩
  obtain ⟨W, hW⟩ : ∃ W, W = w1.alloc (.cells #[.int .u64 (pe : Int), .int .u64 (pn : Int), .bool pf, .bool pg, .slice A d k] 177) := ⟨_, rfl⟩
  have HY := Lib.hid (show Blk W y 177 #[.int .u64 (pe : Int), .int .u64 (pn : Int), .bool pf, .bool pg, .slice A d k] by rw [hW, hy]; exact Blk.new _ _ _)
  have HT := Lib.hid (show Adv Nul V Nul W by rw [hW]; exact (t1.sub (fun _ h => h.elim)).alloc _)
  have HZ1 := Lib.hid (HZ.out.keep (HT.out.block z HZ.out.lt (fun h => h)))
  have HRD := Lib.hid (show Rd W 1 (.slice A d k) d (D.map u8) by rw [hW]; exact s1.rd.up _)
  have HYZ := Lib.hid (show y ≠ z by have := HZ.out.lt; have := t1.size; omega)
  have HP := Lib.hid hp
  have HE := Lib.hid hE
  have HD := Lib.hid hd
  have HW := Lib.hid hW
  have HYY := Lib.hid hy
  clear s1 t1 hp hE hd hy hW
  go_upto_region 2 with (fail)
  rw [← HW.out, ← HYY.out]
  obtain ⟨c0, c1, c2, c3, c4⟩ := HY.out.five
  have HLZ := Lib.hid (show w.heap.size ≤ z by rw [HZZ.out]; exact Nat.le_refl _)
  by_cases hw : Whole l
  · have hp' : (⟨pe, pn, pf, pg, D⟩ : Pc) = dec l := by rw [HP.out, unsealP, if_pos hw]
    obtain rfl : E = 0 := by rw [HE.out, unsealE, if_pos hw]
    have HDEC := Lib.hid hp'
    have HWH := Lib.hid hw
    have hl8 : ∀ x ∈ D, x < 256 := by
      have e : D = (dec l).d := congrArg Pc.d hp'
      rw [e]
      exact fun x hx => HL.out x (List.mem_of_mem_drop (List.mem_of_mem_take hx))
    have hdle : d ≤ 106 := by
      have e : D = (dec l).d := congrArg Pc.d hp'
      rw [HD.out, e]
      exact (dec_ok hw.1 hw.2.1 HL.out).2.2
    have HL8 := Lib.hid hl8
    have HDLE := Lib.hid hdle
    clear hw hp' hl8 hdle
    cases pf with
    | false =>
      go_wp2_with (first
        | (refine op_store3 sizeHead rfl (.tmp 2) (.tmp 25) rfl z _ (h3 0 0 0) HZ1.out rfl rfl (h3_one _ _ _) rfl rfl ?_)
        | fail)
      obtain ⟨hz0, hz1, hz2⟩ := (HZ1.out.putAll (D := h3 0 0 0) rfl).three
      have hfin : UhR w l (.returned (.tuple #[.agg #[.int .u64 0, .int .u64 0, .int .u64 0], .bool false])) (W.setCells z 0 (h3 0 0 0).toList) := UhR.no 0 0 0 (by rw [unHd, ← HDEC.out]; exact if_neg (fun h => by simpa using h.2.1)) (Adv.lsetCells _ 0 _ (HA.out.trans HT.out) (.inr HLZ.out))
      exact bodyPost_ret (v := .tuple #[.agg #[.int .u64 0, .int .u64 0, .int .u64 0], .bool false]) (by simp [results, Tryz.results107, go_sem, hz0, hz1, hz2]) rfl hfin
    | true =>
    cases pg with
    | false =>
      go_wp2_with (first
        | (refine op_store3 sizeHead rfl (.tmp 2) (.tmp 25) rfl z _ (h3 0 0 0) HZ1.out rfl rfl (h3_one _ _ _) rfl rfl ?_)
        | fail)
      obtain ⟨hz0, hz1, hz2⟩ := (HZ1.out.putAll (D := h3 0 0 0) rfl).three
      have hfin : UhR w l (.returned (.tuple #[.agg #[.int .u64 0, .int .u64 0, .int .u64 0], .bool false])) (W.setCells z 0 (h3 0 0 0).toList) := UhR.no 0 0 0 (by rw [unHd, ← HDEC.out]; exact if_neg (fun h => by simpa using h.2.2.1)) (Adv.lsetCells _ 0 _ (HA.out.trans HT.out) (.inr HLZ.out))
      exact bodyPost_ret (v := .tuple #[.agg #[.int .u64 0, .int .u64 0, .int .u64 0], .bool false]) (by simp [results, Tryz.results107, go_sem, hz0, hz1, hz2]) rfl hfin
    | true =>
      obtain ⟨Vn, hVn⟩ : ∃ V, V = val D := ⟨_, rfl⟩
      have HVN := Lib.hid hVn
      have hopen : Calls Tryz.prog 142 #[.slice A d k] W fun e w' => ∃ b F, e = .returned (.pointer (some ⟨b, 0, none⟩)) ∧ RSt w' F b d Vn 0 ∧ Adv Nul W F w' ∧ Bd F w' := open_any _ d Vn W (by rw [hVn, HD.out, be_of_val HL8.out, ← HD.out]; exact HRD.out) (by have := HDLE.out; omega)
      have HOPEN := Lib.hid hopen
      clear hVn hopen
      go_wp2_with fail
      refine HOPEN.out.mono ?_
      rintro e W2 ⟨b, F, rfl, r2, t2, b2⟩
      have hfy : ¬ F y := fun h => by rcases t2.into y h with h | h; exact h.elim; exact absurd HY.out.lt (by omega)
      have hfz : ¬ F z := fun h => by rcases t2.into z h with h | h; exact h.elim; exact absurd HZ1.out.lt (by omega)
      have HY2 := HY.out.keep (t2.block y HY.out.lt (fun h => h))
      have G0 := Lib.hid (show GE W2 F b d Vn y z pn 0 W2 from ⟨.inl ⟨Nat.zero_le _, r2, b2⟩, Adv.refl _ _, hfy, hfz, HY2.cell 1, HY2.lt, ⟨_, HZ1.out.keep (t2.block z HZ1.out.lt (fun h => h)), rfl⟩⟩)
      have G1 := Lib.hid G0.out.drew
      have K1 := Lib.hid G0.out.drew.cell
      have HT2 := Lib.hid (HA.out.trans (HT.out.trans t2))
      have HZ2 := Lib.hid (HZ1.out.keep (t2.block z HZ1.out.lt (fun h => h)))
      clear r2 t2 b2 hfy hfz HY2 c0 c1 c2 c3 c4
      go_upto_region 5 with (fail)
      go_cut [7] (fun t7 wr => GotR W2 F b d Vn y z pn t7 wr)
      case first =>
        refine rstart (S := (fun w' => w'.cell? ⟨y, 1, none⟩ = some (.int .u64 (pn : Int)))) (by first | with_reducible exact K8.out | with_reducible exact K7.out | with_reducible exact K6.out | with_reducible exact K5.out | with_reducible exact K4.out | with_reducible exact K3.out | with_reducible exact K2.out | with_reducible exact K1.out) (fun hH => ?_)
        refine tk (i := 0) (oi := ⟨some 29, .fieldAddr 177 (.tmp 4) 1, 0, "head.go:77", #[], none⟩) hH.out (by rintro w s0; go_simp <;> with_reducible rfl) ?_
        simp only [Act.put, sA, sB, sC]
        refine tk (i := 1) (oi := ⟨some 30, .load 38 (.tmp 29), 38, "head.go:77", #[⟨0, .data⟩], none⟩) hH.out (by rintro w s0; go_simp <;> with_reducible rfl) ?_
        simp only [Act.put, sA, sB, sC]
        refine tk (i := 2) (oi := ⟨some 31, .move (.tmp 6), 203, "head.go:77", #[], none⟩) hH.out (by rintro w s0; go_simp <;> with_reducible rfl) ?_
        simp only [Act.put, sA, sB, sC]
        refine tk (i := 4) (oi := ⟨some 33, .move (.tmp 6), 203, "head.go:77", #[], none⟩) hH.out (by rintro w s0; go_simp <;> with_reducible rfl) ?_
        simp only [Act.put, sA, sB, sC]
        refine wpAnyH_ready (rs := [3, 7]) (by kernel_rfl) (by simp) ?_
        refine AllReadyH.cons (o := ⟨some 32, .call ⟨.value (.func 143), #[.tmp 31, .const (Go.Value.int Go.IntKind.i64 40)], #[203, 3]⟩, 38, "head.go:77", #[⟨2, .data⟩], none⟩) rfl (fun K hK => ?_) (AllReadyH.cons (o := ⟨some 7, .alloc 140, 0, "head.go:77", #[], none⟩) rfl (fun K hK => ?_) AllReadyH.nil)
        · go_simp
          refine (G1.out.get 40 (by decide)).mono ?_
          rintro x w4 ⟨x1, rfl, g4, a4, e4⟩
          have G2 := Lib.hid g4
          have X1 := Lib.hid e4
          have K2 := Lib.hid g4.cell
          clear g4 a4 e4
          go_wp2_with fail
          refine hK.out _ _ (by first | with_reducible exact K8.out | with_reducible exact K7.out | with_reducible exact K6.out | with_reducible exact K5.out | with_reducible exact K4.out | with_reducible exact K3.out | with_reducible exact K2.out | with_reducible exact K1.out) (fun hHeld => ?_)
          replace hH := Lib.hid hHeld
          clear hK K hHeld
          try simp only [Act.put, sA, sB, sC]
          refine wpAnyH_ready (rs := [5, 7]) (by kernel_rfl) (by simp) ?_
          refine AllReadyH.cons (o := ⟨some 34, .call ⟨.value (.func 143), #[.tmp 33, .const (Go.Value.int Go.IntKind.i64 24)], #[203, 3]⟩, 38, "head.go:77", #[⟨4, .data⟩, ⟨3, .chain⟩], none⟩) rfl (fun K hK => ?_) (AllReadyH.cons (o := ⟨some 7, .alloc 140, 0, "head.go:77", #[], none⟩) rfl (fun K hK => ?_) AllReadyH.nil)
          · go_simp
            refine (G2.out.get 24 (by decide)).mono ?_
            rintro x w5 ⟨x2, rfl, g5, a5, e5⟩
            have G3 := Lib.hid g5
            have X2 := Lib.hid e5
            have K3 := Lib.hid g5.cell
            have HB4 := Lib.hid (Blk.new w5 140 #[.int .u64 0, .int .u64 0, .int .u64 0])
            have G4 := Lib.hid (g5.alloc (.cells #[.int .u64 0, .int .u64 0, .int .u64 0] 140))
            have K4 := Lib.hid (g5.alloc (.cells #[.int .u64 0, .int .u64 0, .int .u64 0] 140)).cell
            have HU := Lib.hid (show W2.heap.size ≤ w5.heap.size from g5.ad.size)
            have HF := Lib.hid g5.newF
            clear g5 a5 e5
            go_wp2_with fail
            refine hK.out _ _ (by first | with_reducible exact K8.out | with_reducible exact K7.out | with_reducible exact K6.out | with_reducible exact K5.out | with_reducible exact K4.out | with_reducible exact K3.out | with_reducible exact K2.out | with_reducible exact K1.out) (fun hHeld => ?_)
            replace hH := Lib.hid hHeld
            clear hK K hHeld
            try simp only [Act.put, sA, sB, sC]
            refine tk (i := 6) (oi := ⟨some 35, .build 140 #[(0, .tmp 30), (1, .tmp 32), (2, .tmp 34)], 140, "head.go:77", #[⟨1, .data⟩, ⟨3, .data⟩, ⟨5, .data⟩], none⟩) hH.out (by rintro w s0; go_simp <;> with_reducible rfl) ?_
            simp only [Act.put, sA, sB, sC]
            refine rdy (i := 7) (oi := ⟨some 7, .alloc 140, 0, "head.go:77", #[], none⟩) (fun K hK => ?_)
            go_simp
            refine hK.out _ _ (by first | with_reducible exact K8.out | with_reducible exact K7.out | with_reducible exact K6.out | with_reducible exact K5.out | with_reducible exact K4.out | with_reducible exact K3.out | with_reducible exact K2.out | with_reducible exact K1.out) (fun hHeld => ?_)
            replace hH := Lib.hid hHeld
            clear hK K hHeld
            try simp only [Act.put, sA, sB, sC]
            refine rdy (i := 8) (oi := ⟨none, .store 140 (.tmp 7) (.tmp 35), 0, "head.go:77", #[⟨7, .data⟩, ⟨6, .data⟩, ⟨5, .chain⟩, ⟨0, .phase⟩, ⟨1, .phase⟩, ⟨2, .phase⟩, ⟨3, .phase⟩, ⟨4, .phase⟩, ⟨5, .phase⟩, ⟨6, .phase⟩, ⟨7, .phase⟩], none⟩) (fun K hK => ?_)
            refine st_store3 sizeHead rfl (.tmp 7) (.tmp 35) rfl _ _ (h3 (pn : Int) (x1 : Int) (x2 : Int)) HB4.out rfl rfl (h3_one _ _ _) rfl rfl ?_
            have HFIN := Lib.hid (got_fin G4.out HB4.out rfl HU.out HF.out X1.out X2.out)
            have K6 := Lib.hid (G4.out.put HU.out HF.out (h3 (pn : Int) (x1 : Int) (x2 : Int)).toList).cell
            refine hK.out _ _ (by first | with_reducible exact K8.out | with_reducible exact K7.out | with_reducible exact K6.out | with_reducible exact K5.out | with_reducible exact K4.out | with_reducible exact K3.out | with_reducible exact K2.out | with_reducible exact K1.out) (fun hHeld => ?_)
            replace hH := Lib.hid hHeld
            clear hK K hHeld
            try simp only [Act.put]
            refine wpAnyH_done (by kernel_rfl) ?_ _
            go_wp2_with fail
            go_meet
            exact HFIN.out
          · go_simp
            have HB3 := Lib.hid (Blk.new w4 140 #[.int .u64 0, .int .u64 0, .int .u64 0])
            have G3 := Lib.hid (G2.out.alloc (.cells #[.int .u64 0, .int .u64 0, .int .u64 0] 140))
            have K3 := Lib.hid (G2.out.alloc (.cells #[.int .u64 0, .int .u64 0, .int .u64 0] 140)).cell
            have HU := Lib.hid (show W2.heap.size ≤ w4.heap.size from G2.out.ad.size)
            have HF := Lib.hid G2.out.newF
            refine hK.out _ _ (by first | with_reducible exact K8.out | with_reducible exact K7.out | with_reducible exact K6.out | with_reducible exact K5.out | with_reducible exact K4.out | with_reducible exact K3.out | with_reducible exact K2.out | with_reducible exact K1.out) (fun hHeld => ?_)
            replace hH := Lib.hid hHeld
            clear hK K hHeld
            try simp only [Act.put, sA, sB, sC]
            refine rdy (i := 5) (oi := ⟨some 34, .call ⟨.value (.func 143), #[.tmp 33, .const (Go.Value.int Go.IntKind.i64 24)], #[203, 3]⟩, 38, "head.go:77", #[⟨4, .data⟩, ⟨3, .chain⟩], none⟩) (fun K hK => ?_)
            go_simp
            refine (G3.out.get 24 (by decide)).mono ?_
            rintro x w5 ⟨x2, rfl, g5, a5, e5⟩
            have HB4 := Lib.hid (HB3.out.keep (a5.block _ HB3.out.lt HF.out))
            have G4 := Lib.hid g5
            have X2 := Lib.hid e5
            have K4 := Lib.hid g5.cell
            clear g5 a5 e5
            go_wp2_with fail
            refine hK.out _ _ (by first | with_reducible exact K8.out | with_reducible exact K7.out | with_reducible exact K6.out | with_reducible exact K5.out | with_reducible exact K4.out | with_reducible exact K3.out | with_reducible exact K2.out | with_reducible exact K1.out) (fun hHeld => ?_)
            replace hH := Lib.hid hHeld
            clear hK K hHeld
            try simp only [Act.put, sA, sB, sC]
            refine tk (i := 6) (oi := ⟨some 35, .build 140 #[(0, .tmp 30), (1, .tmp 32), (2, .tmp 34)], 140, "head.go:77", #[⟨1, .data⟩, ⟨3, .data⟩, ⟨5, .data⟩], none⟩) hH.out (by rintro w s0; go_simp <;> with_reducible rfl) ?_
            simp only [Act.put, sA, sB, sC]
            refine rdy (i := 8) (oi := ⟨none, .store 140 (.tmp 7) (.tmp 35), 0, "head.go:77", #[⟨7, .data⟩, ⟨6, .data⟩, ⟨5, .chain⟩, ⟨0, .phase⟩, ⟨1, .phase⟩, ⟨2, .phase⟩, ⟨3, .phase⟩, ⟨4, .phase⟩, ⟨5, .phase⟩, ⟨6, .phase⟩, ⟨7, .phase⟩], none⟩) (fun K hK => ?_)
            refine st_store3 sizeHead rfl (.tmp 7) (.tmp 35) rfl _ _ (h3 (pn : Int) (x1 : Int) (x2 : Int)) HB4.out rfl rfl (h3_one _ _ _) rfl rfl ?_
            have HFIN := Lib.hid (got_fin G4.out HB4.out rfl HU.out HF.out X1.out X2.out)
            have K6 := Lib.hid (G4.out.put HU.out HF.out (h3 (pn : Int) (x1 : Int) (x2 : Int)).toList).cell
            refine hK.out _ _ (by first | with_reducible exact K8.out | with_reducible exact K7.out | with_reducible exact K6.out | with_reducible exact K5.out | with_reducible exact K4.out | with_reducible exact K3.out | with_reducible exact K2.out | with_reducible exact K1.out) (fun hHeld => ?_)
            replace hH := Lib.hid hHeld
            clear hK K hHeld
            try simp only [Act.put]
            refine wpAnyH_done (by kernel_rfl) ?_ _
            go_wp2_with fail
            go_meet
            exact HFIN.out
        · go_simp
          have HB2 := Lib.hid ((Blk.new W2 140 #[.int .u64 0, .int .u64 0, .int .u64 0]).drew)
          have G1c := Lib.hid ((G0.out.alloc (.cells #[.int .u64 0, .int .u64 0, .int .u64 0] 140)).drew)
          have K5 := Lib.hid ((G0.out.alloc (.cells #[.int .u64 0, .int .u64 0, .int .u64 0] 140)).drew).cell
          have HU := Lib.hid (show W2.heap.size ≤ W2.heap.size from Nat.le_refl _)
          have HF := Lib.hid G0.out.newF
          refine hK.out _ _ (by first | with_reducible exact K8.out | with_reducible exact K7.out | with_reducible exact K6.out | with_reducible exact K5.out | with_reducible exact K4.out | with_reducible exact K3.out | with_reducible exact K2.out | with_reducible exact K1.out) (fun hHeld => ?_)
          replace hH := Lib.hid hHeld
          clear hK K hHeld
          try simp only [Act.put, sA, sB, sC]
          refine rdy (i := 3) (oi := ⟨some 32, .call ⟨.value (.func 143), #[.tmp 31, .const (Go.Value.int Go.IntKind.i64 40)], #[203, 3]⟩, 38, "head.go:77", #[⟨2, .data⟩], none⟩) (fun K hK => ?_)
          go_simp
          refine (G1c.out.get 40 (by decide)).mono ?_
          rintro x w4 ⟨x1, rfl, g4, a4, e4⟩
          have G2 := Lib.hid g4
          have HB3 := Lib.hid (HB2.out.keep (a4.block _ HB2.out.lt HF.out))
          have X1 := Lib.hid e4
          have K2 := Lib.hid g4.cell
          clear g4 a4 e4
          go_wp2_with fail
          refine hK.out _ _ (by first | with_reducible exact K8.out | with_reducible exact K7.out | with_reducible exact K6.out | with_reducible exact K5.out | with_reducible exact K4.out | with_reducible exact K3.out | with_reducible exact K2.out | with_reducible exact K1.out) (fun hHeld => ?_)
          replace hH := Lib.hid hHeld
          clear hK K hHeld
          try simp only [Act.put, sA, sB, sC]
          refine rdy (i := 5) (oi := ⟨some 34, .call ⟨.value (.func 143), #[.tmp 33, .const (Go.Value.int Go.IntKind.i64 24)], #[203, 3]⟩, 38, "head.go:77", #[⟨4, .data⟩, ⟨3, .chain⟩], none⟩) (fun K hK => ?_)
          go_simp
          refine (G2.out.get 24 (by decide)).mono ?_
          rintro x w5 ⟨x2, rfl, g5, a5, e5⟩
          have HB4 := Lib.hid (HB3.out.keep (a5.block _ HB3.out.lt HF.out))
          have G4 := Lib.hid g5
          have X2 := Lib.hid e5
          have K4 := Lib.hid g5.cell
          clear g5 a5 e5
          go_wp2_with fail
          refine hK.out _ _ (by first | with_reducible exact K8.out | with_reducible exact K7.out | with_reducible exact K6.out | with_reducible exact K5.out | with_reducible exact K4.out | with_reducible exact K3.out | with_reducible exact K2.out | with_reducible exact K1.out) (fun hHeld => ?_)
          replace hH := Lib.hid hHeld
          clear hK K hHeld
          try simp only [Act.put, sA, sB, sC]
          refine tk (i := 6) (oi := ⟨some 35, .build 140 #[(0, .tmp 30), (1, .tmp 32), (2, .tmp 34)], 140, "head.go:77", #[⟨1, .data⟩, ⟨3, .data⟩, ⟨5, .data⟩], none⟩) hH.out (by rintro w s0; go_simp <;> with_reducible rfl) ?_
          simp only [Act.put, sA, sB, sC]
          refine rdy (i := 8) (oi := ⟨none, .store 140 (.tmp 7) (.tmp 35), 0, "head.go:77", #[⟨7, .data⟩, ⟨6, .data⟩, ⟨5, .chain⟩, ⟨0, .phase⟩, ⟨1, .phase⟩, ⟨2, .phase⟩, ⟨3, .phase⟩, ⟨4, .phase⟩, ⟨5, .phase⟩, ⟨6, .phase⟩, ⟨7, .phase⟩], none⟩) (fun K hK => ?_)
          refine st_store3 sizeHead rfl (.tmp 7) (.tmp 35) rfl _ _ (h3 (pn : Int) (x1 : Int) (x2 : Int)) HB4.out rfl rfl (h3_one _ _ _) rfl rfl ?_
          have HFIN := Lib.hid (got_fin G4.out HB4.out rfl HU.out HF.out X1.out X2.out)
          have K6 := Lib.hid (G4.out.put HU.out HF.out (h3 (pn : Int) (x1 : Int) (x2 : Int)).toList).cell
          refine hK.out _ _ (by first | with_reducible exact K8.out | with_reducible exact K7.out | with_reducible exact K6.out | with_reducible exact K5.out | with_reducible exact K4.out | with_reducible exact K3.out | with_reducible exact K2.out | with_reducible exact K1.out) (fun hHeld => ?_)
          replace hH := Lib.hid hHeld
          clear hK K hHeld
          try simp only [Act.put]
          refine wpAnyH_done (by kernel_rfl) ?_ _
          go_wp2_with fail
          go_meet
          exact HFIN.out
      case rest =>
      obtain ⟨u, x1, x2, rfl, hU, hG, hx1, hx2, hu, hFu⟩ := hcut
      obtain ⟨C, hbz, hCs⟩ := hG.bz
      obtain ⟨W9, rfl⟩ : ∃ W9, W9 = wc := ⟨_, rfl⟩
      have hbz' := hbz.keep (hG.ad.block z hbz.lt hG.fz)
      obtain ⟨E9, hE9⟩ : ∃ E, E = endE d Vn 64 := ⟨_, rfl⟩
      have HE9 := Lib.hid hE9
      have HEND := Lib.hid (fun (w : World) (h : RdS w F b d Vn 64) => h.end_)
      have HG := Lib.hid hG
      have HU := Lib.hid hU
      have HUZ := Lib.hid (show u ≠ z from fun e => by have := hbz.lt; omega)
      have HZW := Lib.hid hbz'
      have HCZ := Lib.hid hCs
      have M1 := Lib.hid (show W9.drew.cell? ⟨u, 0, none⟩ = some (.int .u64 (pn : Int)) ∧ W9.drew.cell? ⟨u, 1, none⟩ = some (.int .u64 (x1 : Int)) ∧ W9.drew.cell? ⟨u, 2, none⟩ = some (.int .u64 (x2 : Int)) from hU.three)
      obtain ⟨B, hB⟩ : ∃ B, B = (E9 == 0) := ⟨_, rfl⟩
      have hB' : (E9 == 0) = B := hB.symm
      have HBB := Lib.hid (show B = decide (d = 8) by rw [hB, hE9, endE_64])
      have HX1 := Lib.hid hx1
      have HX2 := Lib.hid hx2
      clear hE9 hG hU hu hFu hbz hbz' hCs hx1 hx2 hB
      go_upto_region 6 with (fail)
      refine rstart (S := (fun w' => w'.cell? ⟨u, 0, none⟩ = some (.int .u64 (pn : Int)) ∧ w'.cell? ⟨u, 1, none⟩ = some (.int .u64 (x1 : Int)) ∧ w'.cell? ⟨u, 2, none⟩ = some (.int .u64 (x2 : Int)))) (by first | with_reducible exact M3.out | with_reducible exact M2.out | with_reducible exact M1.out) (fun hH => ?_)
      refine tk (i := 0) (oi := ⟨some 36, .load 140 (.tmp 7), 140, "head.go:78", #[], none⟩) hH.out (by rintro w ⟨s0, s1, s2⟩; go_simp <;> with_reducible rfl) ?_
      simp only [Act.put, sA, sB, sC]
      refine tk (i := 1) (oi := ⟨some 37, .move (.tmp 6), 203, "head.go:78", #[], none⟩) hH.out (by rintro w ⟨s0, s1, s2⟩; go_simp <;> with_reducible rfl) ?_
      simp only [Act.put, sA, sB, sC]
      refine rdy (i := 2) (oi := ⟨some 38, .call ⟨.value (.func 144), #[.tmp 37], #[203]⟩, 26, "head.go:78", #[⟨1, .data⟩], none⟩) (fun K hK => ?_)
      go_simp
      refine (HEND.out _ HG.out.drew.rs).mono ?_
      rintro x w9 ⟨rfl, t9⟩
      rw [← HE9.out]
      have M2 := Lib.hid ((HU.out.keep (t9.block u HU.out.lt (fun h => h))).three)
      have HU9 := Lib.hid (HU.out.keep (t9.block u HU.out.lt (fun h => h)))
      have HZ9 := Lib.hid (HZW.out.keep (t9.block z HZW.out.lt (fun h => h)))
      have HT9 := Lib.hid t9
      clear t9
      go_wp2_with fail
      refine hK.out _ _ (by first | with_reducible exact M3.out | with_reducible exact M2.out | with_reducible exact M1.out) (fun hHeld => ?_)
      replace hH := Lib.hid hHeld
      clear hK K hHeld
      try simp only [Act.put, sA, sB, sC]
      refine tk (i := 3) (oi := ⟨some 39, .binOp .eql 26 (.tmp 38) (.const (Go.Value.int Go.IntKind.i64 0)) 26, 4, "head.go:78", #[⟨2, .data⟩, { on := 4, ground := Go.Ground.gcOnly Go.Departure.lateStores }], none⟩) hH.out (by rintro w ⟨s0, s1, s2⟩; go_simp <;> with_reducible rfl) ?_
      simp only [Act.put, sA, sB, sC]
      refine rdy (i := 4) (oi := ⟨none, .store 140 (.tmp 2) (.tmp 36), 0, "head.go:78", #[⟨0, .data⟩, ⟨2, .chain⟩, ⟨0, .phase⟩, { on := 1, ground := Go.Ground.textOnly Go.Departure.lateStores }, { on := 2, ground := Go.Ground.textOnly Go.Departure.lateStoresUnsure }, { on := 3, ground := Go.Ground.textOnly Go.Departure.lateStores }], none⟩) (fun K hK => ?_)
      refine st_store3 sizeHead rfl (.tmp 2) (.tmp 36) rfl z _ (h3 (pn : Int) (x1 : Int) (x2 : Int)) HZ9.out HCZ.out rfl (h3_one _ _ _) rfl rfl ?_
      have M3 := Lib.hid ((HU9.out.keep (lsetCells_heap z HUZ.out (h3 (pn : Int) (x1 : Int) (x2 : Int)).toList 0 w9)).three)
      have HZF := Lib.hid (HZ9.out.putAll (D := h3 (pn : Int) (x1 : Int) (x2 : Int)) (by rw [HCZ.out]; rfl))
      refine hK.out _ _ (by first | with_reducible exact M3.out | with_reducible exact M2.out | with_reducible exact M1.out) (fun hHeld => ?_)
      replace hH := Lib.hid hHeld
      clear hK K hHeld
      try simp only [Act.put]
      refine tk (i := 5) (oi := ⟨some 3, .assign (.tmp 39), 4, "head.go:78", #[⟨3, .data⟩, ⟨4, .chain⟩, ⟨0, .phase⟩, ⟨1, .phase⟩, ⟨2, .phase⟩, ⟨3, .phase⟩, ⟨4, .phase⟩], none⟩) hH.out (by rintro w ⟨s0, s1, s2⟩; go_simp <;> with_reducible rfl) ?_
      simp only [Act.put, sA, sB, sC]
      refine wpAnyH_done (by kernel_rfl) ?_ _
      obtain ⟨hz0, hz1, hz2⟩ := HZF.out.three
      have hadv : Adv Nul w Nul (w9.setCells z 0 (h3 (pn : Int) (x1 : Int) (x2 : Int)).toList) := (Adv.lsetCells _ 0 _ ((HT2.out.trans HG.out.drew.ad).over HT9.out) (.inr HLZ.out)).sub (fun _ h => h.elim)
      have hfin : UhR w l (.returned (.tuple #[.agg #[.int .u64 (pn : Int), .int .u64 (x1 : Int), .int .u64 (x2 : Int)], .bool B])) (w9.setCells z 0 (h3 (pn : Int) (x1 : Int) (x2 : Int)).toList) := by
        have hb := HBB.out
        cases B with
        | false =>
          refine UhR.no pn x1 x2 ?_ hadv
          rw [unHd, ← HDEC.out]
          refine if_neg (fun h => ?_)
          have h1 := h.2.2.2
          rw [← HD.out] at h1
          exact absurd hb.symm (by rw [decide_eq_true h1]; decide)
        | true =>
          have h8 : d = 8 := of_decide_eq_true hb.symm
          refine UhR.yes ?_ hadv
          have hD8 : D.length = 8 := by rw [← HD.out]; exact h8
          have hv := val_lt8 hD8 HL8.out
          rw [← HVN.out] at hv
          have e1 := HX1.out (by omega)
          have e2 := HX2.out (by omega)
          rw [h8] at e1 e2
          rw [bits_tail hv] at e1
          rw [bits_floor] at e2
          rw [unHd, ← HDEC.out, if_pos ⟨HWH.out, rfl, rfl, hD8⟩, e1, e2, HVN.out]
      have HFIN := Lib.hid hfin
      clear hfin hadv
      go_wp2_with fail
      exact bodyPost_ret (v := .tuple #[.agg #[.int .u64 (pn : Int), .int .u64 (x1 : Int), .int .u64 (x2 : Int)], .bool B]) (by simp [results, Tryz.results107, go_sem, hz0, hz1, hz2]) rfl HFIN.out
  · obtain rfl : E = 4 := by rw [HE.out, unsealE, if_neg hw]
    have HNW := Lib.hid hw
    clear hw
    go_wp2_with (first
      | (refine op_store3 sizeHead rfl (.tmp 2) (.tmp 25) rfl z _ (h3 0 0 0) HZ1.out rfl rfl (h3_one _ _ _) rfl rfl ?_)
      | fail)
    obtain ⟨hz0, hz1, hz2⟩ := (HZ1.out.putAll (D := h3 0 0 0) rfl).three
    have hfin : UhR w l (.returned (.tuple #[.agg #[.int .u64 0, .int .u64 0, .int .u64 0], .bool false])) (W.setCells z 0 (h3 0 0 0).toList) := UhR.no 0 0 0 (by rw [unHd]; exact if_neg (fun h => HNW.out h.1)) (Adv.lsetCells _ 0 _ (HA.out.trans HT.out) (.inr HLZ.out))
    exact bodyPost_ret (v := .tuple #[.agg #[.int .u64 0, .int .u64 0, .int .u64 0], .bool false]) (by simp [results, Tryz.results107, go_sem, hz0, hz1, hz2]) rfl hfin
end Go.Proofs.YtcglfknkkeaegaaGreatDoor
namespace Go.Proofs.YtcglfknkkeaegaaGreatDoor
open Go.RowKit

/-- how many pieces a record of m bytes has -/
def needN (m : Nat) : Nat := max 1 ((m + 105) / 106)
theorem needN_pos (m : Nat) : 1 ≤ needN m := Nat.le_max_left _ _
theorem needN_ge (m : Nat) : m ≤ needN m * 106 := by
  have := Nat.le_max_right 1 ((m + 105) / 106)
  unfold needN; omega
theorem needN_le {m k : Nat} (hk : 1 ≤ k) (h : m ≤ k * 106) : needN m ≤ k := by
  unfold needN; omega
/-- the pieces of a record -/
def pieceAt (e c : Nat) (l : List Nat) (i : Nat) : Pc := ⟨e, c + i, i == 0, i == needN l.length - 1, (l.drop (i * 106)).take 106⟩
def cutP (e c : Nat) (l : List Nat) : List Pc := (List.range (needN l.length)).map (pieceAt e c l)
theorem cutP_length (e c : Nat) (l : List Nat) : (cutP e c l).length = needN l.length := by simp [cutP]
theorem cutP_at (e c : Nat) (l : List Nat) {i : Nat} (h : i < needN l.length) : (cutP e c l)[i]'(by rw [cutP_length]; exact h) = pieceAt e c l i := by simp [cutP]
/-- which error -/
def cutE (e c m : Nat) : Int := if e ≤ 16777215 ∧ c ≤ 1099511627775 ∧ needN m - 1 ≤ 1099511627775 - c then (if m ≤ 8192 then 0 else 5) else 2
def cutV (e c : Nat) (l : List Nat) : List Pc := if cutE e c l.length = 0 then cutP e c l else []

theorem ret_int {k : IntKind} {a b : Int} (h : a = b) : Ending.returned (.int k a) = .returned (.int k b) := by rw [h]
set_option maxRecDepth 3000 in
theorem need_any (m : Nat) (w : World) (hm : m ≤ 1000000000) : Calls Tryz.prog 176 #[.int .i64 (m : Int)] w fun x w' => x = .returned (.int .i64 (needN m : Int)) ∧ w = w' := by
  have hmI : (m : Int) ≤ 1000000000 := by omega
  have e : ((needN m : Nat) : Int) = max 1 (((m : Int) + 105) / 106) := by unfold needN; omega
  have HE := Lib.hid e
  clear hm e
  go_enter Tryz.func176, Tryz.ntmps176
  go_wp2_with fail
  all_goals
    go_ret
    exact ⟨ret_int (by rw [HE.out]; omega), rfl⟩

/-- Pieces that can be read. -/
def PRd (w : World) (v : Value) (ps : List Pc) : Prop :=
  ∃ A k, v = .slice A ps.length k ∧ ps.length ≤ k ∧ k ≤ maxLen ∧ (0 < ps.length → ∃ b o, A = some ⟨b, o, none⟩ ∧ b < w.heap.size ∧ ∀ i (h : i < ps.length), ∃ a q,
    w.cell? ⟨b, o + (i * 5 + 0), none⟩ = some (.int .u64 (ps[i].e : Int)) ∧ w.cell? ⟨b, o + (i * 5 + 1), none⟩ = some (.int .u64 (ps[i].c : Int)) ∧ w.cell? ⟨b, o + (i * 5 + 2), none⟩ = some (.bool ps[i].f) ∧ w.cell? ⟨b, o + (i * 5 + 3), none⟩ = some (.bool ps[i].g) ∧
    w.cell? ⟨b, o + (i * 5 + 4), none⟩ = some (.slice a ps[i].d.length q) ∧ Rd w 1 (.slice a ps[i].d.length q) ps[i].d.length (ps[i].d.map u8))
theorem PRd.nil (w : World) : PRd w (.slice none 0 0) [] := ⟨none, 0, rfl, Nat.le_refl _, Nat.zero_le _, fun h => absurd h (by decide)⟩
theorem PRd.step {w w' : World} {v : Value} {ps : List Pc} {F' : Nat → Prop} (h : PRd w v ps) (ha : Adv Nul w F' w') : PRd w' v ps := by
  obtain ⟨A, k, rfl, h1, h2, h3⟩ := h
  refine ⟨A, k, rfl, h1, h2, fun hn => ?_⟩
  obtain ⟨b, o, rfl, hb, hc⟩ := h3 hn
  have hk : w'.heap[b]? = w.heap[b]? := ha.block b hb (fun h => h)
  refine ⟨b, o, rfl, Nat.lt_of_lt_of_le hb ha.size, fun i hi => ?_⟩
  obtain ⟨a, q, c0, c1, c2, c3, c4, hr⟩ := hc i hi
  have e : ∀ j, w'.cell? ⟨b, j, none⟩ = w.cell? ⟨b, j, none⟩ := fun j => World.cell?_of_block hk
  exact ⟨a, q, by rw [e]; exact c0, by rw [e]; exact c1, by rw [e]; exact c2, by rw [e]; exact c3, by rw [e]; exact c4, hr.far (fun _ _ _ h => ha.block _ h (fun h => h)) ha.size⟩
end Go.Proofs.YtcglfknkkeaegaaGreatDoor
namespace Go.Proofs.YtcglfknkkeaegaaGreatDoor
open Go.RowKit

def allD (ps : List Pc) : List Nat := ps.flatMap (fun p => p.d)
theorem allD_cons (p : Pc) (ps : List Pc) : allD (p :: ps) = p.d ++ allD ps := by simp [allD]
def hdP (ps : List Pc) : Pc := ps.headD zeroP
def goodAt (n e0 c0 i : Nat) (p : Pc) : Prop := p.e ≤ 16777215 ∧ p.e = e0 ∧ p.c ≤ 1099511627775 ∧ p.c = c0 + i ∧ p.f = (i == 0) ∧ p.g = (i == n - 1) ∧ (p.d.length = 106 ∨ (i = n - 1 ∧ p.d.length < 106 ∧ (0 < p.d.length ∨ i = 0)))
/-- the document's -/
def JoinOk (ps : List Pc) : Prop := 0 < ps.length ∧ (∀ i (h : i < ps.length), goodAt ps.length (hdP ps).e (hdP ps).c i ps[i]) ∧ (allD ps).length ≤ 8192
instance (n e0 c0 i : Nat) (p : Pc) : Decidable (goodAt n e0 c0 i p) := by unfold goodAt; exact inferInstance
instance (ps : List Pc) : Decidable (JoinOk ps) := by unfold JoinOk; exact inferInstance
def joinV (ps : List Pc) : List Nat := if JoinOk ps then allD ps else []
def joinE (ps : List Pc) : Int := if JoinOk ps then 0 else 4
/-- the program's -/
def JoinP (ps : List Pc) : Prop := 0 < ps.length ∧ (allD ps).length ≤ 8192 ∧ cutE (hdP ps).e (hdP ps).c (allD ps).length = 0 ∧ cutP (hdP ps).e (hdP ps).c (allD ps) = ps

theorem allD_pieces (e c : Nat) (l : List Nat) : ∀ k, allD ((List.range k).map (pieceAt e c l)) = l.take (k * 106)
  | 0 => by simp [allD]
  | k + 1 => by
    have ih := allD_pieces e c l k
    unfold allD at ih ⊢
    rw [List.range_succ, List.map_append, List.flatMap_append, ih, show (k + 1) * 106 = k * 106 + 106 by omega, List.take_add]
    simp [pieceAt]
theorem allD_cut (e c : Nat) (l : List Nat) : allD (cutP e c l) = l := by
  rw [cutP, allD_pieces]
  exact List.take_of_length_le (needN_ge _)
theorem cutE_zero {e c m : Nat} : cutE e c m = 0 ↔ e ≤ 16777215 ∧ c ≤ 1099511627775 ∧ needN m - 1 ≤ 1099511627775 - c ∧ m ≤ 8192 := by
  unfold cutE
  constructor
  · intro h
    split at h
    · next h1 =>
      split at h
      · next h2 => exact ⟨h1.1, h1.2.1, h1.2.2, h2⟩
      · simp at h
    · simp at h
  · rintro ⟨h1, h2, h3, h4⟩
    rw [if_pos ⟨h1, h2, h3⟩, if_pos h4]
theorem joinP_cut {e c : Nat} {l : List Nat} (h : cutE e c l.length = 0) : JoinP (cutP e c l) := by
  have hn := needN_pos l.length
  have h0 : (cutP e c l).length = needN l.length := cutP_length e c l
  have hh : hdP (cutP e c l) = pieceAt e c l 0 := by
    obtain ⟨p, t, e1⟩ : ∃ p t, cutP e c l = p :: t := List.exists_cons_of_length_pos (by omega)
    have e2 := cutP_at e c l (i := 0) (by omega)
    rw [hdP, e1]
    simp only [e1, List.getElem_cons_zero] at e2
    simpa using e2
  refine ⟨by omega, ?_, ?_, ?_⟩
  · rw [allD_cut]; exact (cutE_zero.mp h).2.2.2
  · rw [hh, allD_cut]; simpa [pieceAt] using h
  · rw [hh, allD_cut]; simp [pieceAt]
theorem drop_all : ∀ (i : Nat) (ps : List Pc), i ≤ ps.length → (∀ j (h : j < ps.length), j < i → ps[j].d.length = 106) → (allD ps).drop (i * 106) = allD (ps.drop i)
  | 0, ps, _, _ => by simp
  | i + 1, [], h, _ => by simp at h
  | i + 1, p :: ps, h, hl => by
    have h0 : p.d.length = 106 := hl 0 (by simp) (by omega)
    rw [allD_cons, show (i + 1) * 106 = p.d.length + i * 106 by omega, ← List.drop_drop, List.drop_left]
    simpa using drop_all i ps (by simpa using h) (fun j hj hji => hl (j + 1) (by simpa using hj) (by omega))
theorem need_of {n m k : Nat} (hn : 0 < n) (e : m = (n - 1) * 106 + k) (hk : k = 106 ∨ (k < 106 ∧ (0 < k ∨ n - 1 = 0))) : needN m = n := by
  unfold needN
  omega
theorem join_iff (ps : List Pc) : JoinP ps ↔ JoinOk ps := by
  constructor
  · rintro ⟨h1, h2, h3, h4⟩
    obtain ⟨k1, k2, k3, k4⟩ := cutE_zero.mp h3
    have hn : ps.length = needN (allD ps).length := by rw [← cutP_length (hdP ps).e (hdP ps).c (allD ps), h4]
    refine ⟨h1, fun i hi => ?_, h2⟩
    have hat : ps[i] = pieceAt (hdP ps).e (hdP ps).c (allD ps) i := by
      have := cutP_at (hdP ps).e (hdP ps).c (allD ps) (i := i) (by omega)
      rw [← this]
      congr 1
      exact h4.symm
    rw [hat, hn]
    refine ⟨k1, rfl, ?_, rfl, rfl, rfl, ?_⟩
    · show (hdP ps).c + i ≤ _
      omega
    · have hl : (pieceAt (hdP ps).e (hdP ps).c (allD ps) i).d.length = min 106 ((allD ps).length - i * 106) := by simp [pieceAt]
      have hi' : i < needN (allD ps).length := by omega
      show (pieceAt (hdP ps).e (hdP ps).c (allD ps) i).d.length = 106 ∨ _
      rw [hl]
      unfold needN at hi' ⊢
      omega
  · rintro ⟨h1, h2, h3⟩
    have hfull : ∀ j (h : j < ps.length), j < ps.length - 1 → ps[j].d.length = 106 := fun j h hj => by
      rcases (h2 j h).2.2.2.2.2.2 with a | a
      · exact a
      · omega
    have hlast := (h2 (ps.length - 1) (by omega)).2.2.2.2.2.2
    have hd := drop_all (ps.length - 1) ps (by omega) hfull
    have hone : ps.drop (ps.length - 1) = [ps[ps.length - 1]] := by
      rw [List.drop_eq_getElem_cons (by omega), List.drop_of_length_le (by omega)]
    have hlen : (allD ps).length = (ps.length - 1) * 106 + ps[ps.length - 1].d.length := by
      have e := congrArg List.length hd
      rw [hone] at e
      simp only [List.length_drop, allD, List.flatMap_cons, List.flatMap_nil, List.append_nil] at e
      have hk : 0 < ps[ps.length - 1].d.length ∨ ps.length - 1 = 0 := by omega
      unfold allD
      omega
    have hneed : needN (allD ps).length = ps.length := need_of h1 hlen (by omega)
    have g0 := h2 0 h1
    have gl := h2 (ps.length - 1) (by omega)
    have hE : cutE (hdP ps).e (hdP ps).c (allD ps).length = 0 := by
      refine cutE_zero.mpr ⟨?_, ?_, ?_, h3⟩
      · rw [← g0.2.1]; exact g0.1
      · have a := g0.2.2.1
        have b := g0.2.2.2.1
        omega
      · have a := gl.2.2.1
        have b := gl.2.2.2.1
        omega
    refine ⟨h1, h3, hE, ?_⟩
    apply List.ext_getElem
    · rw [cutP_length]; exact hneed
    · intro i hi1 hi2
      rw [cutP_at _ _ _ (by omega)]
      obtain ⟨a1, a2, a3, a4, a5, a6, a7⟩ := h2 i hi2
      have hdi := drop_all i ps (by omega) (fun j h hj => hfull j h (by omega))
      have hpd : ((allD ps).drop (i * 106)).take 106 = ps[i].d := by
        rw [hdi, List.drop_eq_getElem_cons hi2, allD_cons]
        rcases Nat.lt_or_ge i (ps.length - 1) with c | c
        · rw [List.take_left' (hfull i hi2 c)]
        · rw [List.drop_of_length_le (by omega)]
          show (ps[i].d ++ []).take 106 = _
          rw [List.append_nil, List.take_of_length_le (by omega)]
      unfold pieceAt
      rw [hneed, hpd, ← a2, ← a4, ← a5, ← a6]
theorem allD_take_le (ps : List Pc) (k : Nat) : (allD (ps.take k)).length ≤ (allD ps).length := by
  have h : allD ps = allD (ps.take k) ++ allD (ps.drop k) := by
    unfold allD
    rw [← List.flatMap_append, List.take_append_drop]
  rw [h, List.length_append]
  omega
theorem allD_take_succ {ps : List Pc} {k : Nat} {p : Pc} (h : ps[k]? = some p) : allD (ps.take (k + 1)) = allD (ps.take k) ++ p.d := by
  rw [List.take_add_one, h]
  simp [allD]
theorem allD_lt {ps : List Pc} (h : ∀ p ∈ ps, ∀ x ∈ p.d, x < 256) : ∀ x ∈ allD ps, x < 256 := by
  intro x hx
  obtain ⟨p, hp, hx⟩ := List.mem_flatMap.mp hx
  exact h p hp x hx
theorem cutV_lt {e c : Nat} {l : List Nat} (h : ∀ x ∈ l, x < 256) : ∀ p ∈ cutV e c l, ∀ x ∈ p.d, x < 256 := by
  intro p hp x hx
  unfold cutV at hp
  split at hp
  · obtain ⟨i, _, rfl⟩ := List.mem_map.mp hp
    exact h x (List.mem_of_mem_drop (List.mem_of_mem_take hx))
  · simp at hp
end Go.Proofs.YtcglfknkkeaegaaGreatDoor
namespace Go.Proofs.YtcglfknkkeaegaaGreatDoor
open Go.RowKit

/-- rows of numbers of so many bits -/
def wN (l : List (Nat × Nat)) : Nat := l.foldl (fun a d => a * 2 ^ d.2 + d.1) 0
def wL (l : List (Nat × Nat)) : Nat := l.foldl (fun a d => a + d.2) 0
def wFit (l : List (Nat × Nat)) : Prop := ∀ d ∈ l, d.1 < 2 ^ d.2
theorem wN_snoc (l : List (Nat × Nat)) (d : Nat × Nat) : wN (l ++ [d]) = wN l * 2 ^ d.2 + d.1 := by simp [wN]
theorem wL_snoc (l : List (Nat × Nat)) (d : Nat × Nat) : wL (l ++ [d]) = wL l + d.2 := by simp [wL]
theorem wsnoc {α : Type} {motive : List α → Prop} (nil : motive []) (app : ∀ l a, motive l → motive (l ++ [a])) (l : List α) : motive l := by
  have h : ∀ m : List α, motive m.reverse := by
    intro m
    induction m with
    | nil => exact nil
    | cons a m ih => rw [List.reverse_cons]; exact app _ _ ih
  have := h l.reverse
  rwa [List.reverse_reverse] at this
theorem wL_append (l1 l2 : List (Nat × Nat)) : wL (l1 ++ l2) = wL l1 + wL l2 := by
  induction l2 using wsnoc with
  | nil => simp [wL]
  | app l2 d ih => rw [← List.append_assoc, wL_snoc, wL_snoc, ih, Nat.add_assoc]
theorem wN_append (l1 l2 : List (Nat × Nat)) : wN (l1 ++ l2) = wN l1 * 2 ^ wL l2 + wN l2 := by
  induction l2 using wsnoc with
  | nil => simp [wL, wN]
  | app l2 d ih => rw [← List.append_assoc, wN_snoc, wN_snoc, wL_snoc, ih, Nat.add_mul, Nat.pow_add, Nat.mul_assoc, Nat.add_assoc]
theorem wN_lt (l : List (Nat × Nat)) (h : wFit l) : wN l < 2 ^ wL l := by
  induction l using wsnoc with
  | nil => simp [wN, wL]
  | app l d ih => rw [wN_snoc, wL_snoc]; exact put_lt _ _ _ _ (ih (fun x hx => h x (by simp [hx]))) (h d (by simp))
theorem bits_mid (N v k r m pd q V a T : Nat) (hr : r < 2 ^ m) (hv : v < 2 ^ k) (hT : 8 * q = T + pd) (ha : T = a + k + m) (hV : V = ((N * 2 ^ k + v) * 2 ^ m + r) * 2 ^ pd) : bitsAt q V a k = v := by
  unfold bitsAt
  rw [show 8 * q - a - k = m + pd from by omega, hV, Nat.pow_add, Nat.mul_comm (2 ^ m) (2 ^ pd), ← Nat.div_div_eq_div_mul, Nat.mul_div_cancel _ (Nat.two_pow_pos _), Nat.add_comm, Nat.add_mul_div_right _ _ (Nat.two_pow_pos _), Nat.div_eq_of_lt hr, Nat.zero_add, Nat.add_comm, Nat.add_mul_mod_self_right, Nat.mod_eq_of_lt hv]
/-- what stands behind l1 -/
theorem word_at (l1 l2 : List (Nat × Nat)) (d : Nat × Nat) (h : wFit (l1 ++ d :: l2)) :
    bitsAt (qn (wL (l1 ++ d :: l2))) (wN (l1 ++ d :: l2) * 2 ^ pad (wL (l1 ++ d :: l2))) (wL l1) d.2 = d.1 := by
  have e : l1 ++ d :: l2 = (l1 ++ [d]) ++ l2 := by simp
  have h1 := wN_append (l1 ++ [d]) l2
  rw [wN_snoc] at h1
  have h2 := wL_append (l1 ++ [d]) l2
  rw [wL_snoc] at h2
  rw [e]
  exact bits_mid (wN l1) d.1 d.2 (wN l2) (wL l2) (pad (wL ((l1 ++ [d]) ++ l2))) _ _ _ (wL ((l1 ++ [d]) ++ l2)) (wN_lt l2 (fun x hx => h x (by simp [hx]))) (h d (by simp)) (qn_pad _) h2 (by rw [h1])

/-- A put: a home, its bytes. -/
structure Pt where
  a : Int
  d : List Nat
/-- whether they are a transaction of so many homes -/
def isTx (ps : List Pt) (h : Int) : Prop := (1 ≤ ps.length ∧ ps.length ≤ 24) ∧ ∀ i (hi : i < ps.length), (0 ≤ ps[i].a ∧ ps[i].a < h) ∧ ps[i].d.length = 128 ∧ ∀ k (hk : k < i), ps[k].a ≠ ps[i].a
instance (ps : List Pt) (h : Int) : Decidable (isTx ps h) := by unfold isTx; exact inferInstance
def bW (x : Nat) : Nat × Nat := (x, 8)
def pW (p : Pt) : List (Nat × Nat) := (p.a.toNat, 12) :: p.d.map bW
def recW (ps : List Pt) : List (Nat × Nat) := (ps.length, 8) :: ps.flatMap pW
def recB (ps : List Pt) : List Nat := rowOf (wN (recW ps)) (wL (recW ps))
theorem wL_bytes (l : List Nat) : wL (l.map bW) = 8 * l.length := by
  induction l using wsnoc with
  | nil => rfl
  | app l x ih => rw [List.map_append, List.map_singleton, wL_snoc, ih, List.length_append]; simp [bW]; omega
theorem wL_cons (d : Nat × Nat) (l : List (Nat × Nat)) : wL (d :: l) = d.2 + wL l := by
  have := wL_append [d] l
  simpa [wL] using this
theorem wL_put {p : Pt} (h : p.d.length = 128) : wL (pW p) = 1036 := by rw [pW, wL_cons, wL_bytes, h]
theorem wL_puts : ∀ (ps : List Pt), (∀ p ∈ ps, p.d.length = 128) → wL (ps.flatMap pW) = 1036 * ps.length
  | [], _ => rfl
  | p :: ps, h => by
    rw [List.flatMap_cons, wL_append, wL_put (h p (by simp)), wL_puts ps (fun q hq => h q (by simp [hq])), List.length_cons]; omega
theorem wL_rec {ps : List Pt} (h : ∀ p ∈ ps, p.d.length = 128) : wL (recW ps) = 8 + 1036 * ps.length := by rw [recW, wL_cons, wL_puts ps h]
theorem isTx.row {ps : List Pt} {h : Int} (k : isTx ps h) : ∀ p ∈ ps, (0 ≤ p.a ∧ p.a < h) ∧ p.d.length = 128 := fun p hp => by
  obtain ⟨i, hi, rfl⟩ := List.getElem_of_mem hp
  exact ⟨(k.2 i hi).1, (k.2 i hi).2.1⟩
theorem isTx.mono {ps : List Pt} {h h' : Int} (k : isTx ps h) (hh : h ≤ h') : isTx ps h' := ⟨k.1, fun i hi => ⟨⟨(k.2 i hi).1.1, by have := (k.2 i hi).1.2; omega⟩, (k.2 i hi).2⟩⟩
theorem recB_length {ps : List Pt} (h : ∀ p ∈ ps, p.d.length = 128) : (recB ps).length = qn (8 + 1036 * ps.length) := by rw [recB, rowOf, be_length, wL_rec h]
theorem recB_lt (ps : List Pt) : ∀ x ∈ recB ps, x < 256 := fun x hx => be_lt _ _ x hx
theorem recB_small {ps : List Pt} {h : Int} (k : isTx ps h) : (recB ps).length ≤ 3109 := by
  rw [recB_length (fun p hp => (k.row p hp).2), qn]
  have := k.1.2
  omega
/-- how many sectors a transaction takes -/
def needT (ps : List Pt) : Nat := needN (recB ps).length

/-- of a record: how many puts, which -/
def decN (l : List Nat) : Nat := bitsAt l.length (val l) 0 8
def decA (l : List Nat) (i : Nat) : Nat := bitsAt l.length (val l) (8 + 1036 * i) 12
def decX (l : List Nat) (i k : Nat) : Nat := bitsAt l.length (val l) (20 + 1036 * i + 8 * k) 8
def decT (l : List Nat) (i : Nat) : Pt := ⟨(decA l i : Int), (List.range 128).map (decX l i)⟩
def decP (l : List Nat) : List Pt := (List.range (decN l)).map (decT l)
def decE (l : List Nat) : Int := endE l.length (val l) (8 + 1036 * decN l)
theorem wFit_bytes {l : List Nat} (h : ∀ x ∈ l, x < 256) : wFit (l.map bW) := fun d hd => by
  obtain ⟨x, hx, rfl⟩ := List.mem_map.mp hd
  exact h x hx
theorem wFit_put {p : Pt} (h0 : 0 ≤ p.a) (h1 : p.a < 4096) (hd : ∀ x ∈ p.d, x < 256) : wFit (pW p) := fun d hm => by
  rcases List.mem_cons.mp hm with rfl | hm
  · show p.a.toNat < 4096
    omega
  · exact wFit_bytes hd d hm
theorem wFit_rec {ps : List Pt} {h : Int} (k : isTx ps h) (hh : h ≤ 4096) (hd : ∀ p ∈ ps, ∀ x ∈ p.d, x < 256) : wFit (recW ps) := fun d hm => by
  rcases List.mem_cons.mp hm with rfl | hm
  · show ps.length < 256
    have := k.1.2
    omega
  · obtain ⟨p, hp, hm⟩ := List.mem_flatMap.mp hm
    have := (k.row p hp).1
    exact wFit_put this.1 (by omega) (hd p hp) d hm
theorem rec_val {ps : List Pt} (h : wFit (recW ps)) : val (recB ps) = wN (recW ps) * 2 ^ pad (wL (recW ps)) := by
  rw [recB, rowOf, val_be]
  refine Nat.mod_eq_of_lt ?_
  have e : (256 : Nat) ^ qn (wL (recW ps)) = 2 ^ wL (recW ps) * 2 ^ pad (wL (recW ps)) := by
    rw [show (256 : Nat) = 2 ^ 8 from rfl, ← Nat.pow_mul, qn_pad, Nat.pow_add]
  rw [e]
  exact Nat.mul_lt_mul_of_pos_right (wN_lt _ h) (Nat.two_pow_pos _)
theorem rec_split {ps : List Pt} {i : Nat} (hi : i < ps.length) : recW ps = ((ps.length, 8) :: (ps.take i).flatMap pW) ++ (pW ps[i] ++ (ps.drop (i + 1)).flatMap pW) := by
  have e : ps = ps.take i ++ (ps[i] :: ps.drop (i + 1)) := by rw [List.getElem_cons_drop, List.take_append_drop]
  have e2 : ps.flatMap pW = (ps.take i).flatMap pW ++ (pW ps[i] ++ (ps.drop (i + 1)).flatMap pW) := by
    have := congrArg (List.flatMap pW) e
    rwa [List.flatMap_append, List.flatMap_cons] at this
  rw [recW, e2, List.cons_append]
theorem rec_bits {ps : List Pt} (h : wFit (recW ps)) {l1 l2 : List (Nat × Nat)} {d : Nat × Nat} (e : recW ps = l1 ++ d :: l2) : bitsAt (recB ps).length (val (recB ps)) (wL l1) d.2 = d.1 := by
  have h1 := word_at l1 l2 d (by rw [← e]; exact h)
  rw [← e] at h1
  rw [rec_val h, recB, rowOf, be_length]
  exact h1
/-- what was put is got -/
theorem rec_back {ps : List Pt} {h : Int} (k : isTx ps h) (hh : h ≤ 4096) (hd : ∀ p ∈ ps, ∀ x ∈ p.d, x < 256) : decP (recB ps) = ps ∧ decE (recB ps) = 0 := by
  have hf := wFit_rec k hh hd
  have hr : ∀ p ∈ ps, p.d.length = 128 := fun p hp => (k.row p hp).2
  have hn : decN (recB ps) = ps.length := rec_bits hf (l1 := []) (l2 := ps.flatMap pW) (d := (ps.length, 8)) rfl
  constructor
  · unfold decP
    rw [hn]
    apply List.ext_getElem
    · simp
    · intro i hi1 hi2
      have hp0 := (k.row ps[i] (List.getElem_mem hi2)).1
      have hp1 := hr ps[i] (List.getElem_mem hi2)
      have hpre : wL ((ps.length, 8) :: (ps.take i).flatMap pW) = 8 + 1036 * i := by
        rw [wL_cons, wL_puts _ (fun p hp => hr p (List.mem_of_mem_take hp)), List.length_take, Nat.min_eq_left (by omega)]
      have hsp := rec_split hi2
      have ha : decA (recB ps) i = ps[i].a.toNat := by
        have := rec_bits hf (l1 := (ps.length, 8) :: (ps.take i).flatMap pW) (d := (ps[i].a.toNat, 12)) (l2 := ps[i].d.map bW ++ (ps.drop (i + 1)).flatMap pW) (by rw [hsp, pW]; rfl)
        rw [hpre] at this
        exact this
      have hx : (List.range 128).map (decX (recB ps) i) = ps[i].d := by
        apply List.ext_getElem
        · simp [hp1]
        · intro j hj1 hj2
          simp only [List.getElem_map, List.getElem_range]
          have hsp2 : ps[i].d = ps[i].d.take j ++ (ps[i].d[j] :: ps[i].d.drop (j + 1)) := by rw [List.getElem_cons_drop, List.take_append_drop]
          have := rec_bits hf (l1 := ((ps.length, 8) :: (ps.take i).flatMap pW) ++ ((ps[i].a.toNat, 12) :: (ps[i].d.take j).map bW)) (d := bW ps[i].d[j]) (l2 := (ps[i].d.drop (j + 1)).map bW ++ (ps.drop (i + 1)).flatMap pW) (by
            have e3 : ps[i].d.map bW = (ps[i].d.take j).map bW ++ (bW ps[i].d[j] :: (ps[i].d.drop (j + 1)).map bW) := by
              have := congrArg (List.map bW) hsp2
              rwa [List.map_append, List.map_cons] at this
            rw [hsp, pW, e3]
            simp only [List.append_assoc, List.cons_append])
          rw [wL_append, hpre, wL_cons, wL_bytes, List.length_take, Nat.min_eq_left (by omega)] at this
          have e4 : 8 + 1036 * i + (12 + 8 * j) = 20 + 1036 * i + 8 * j := by omega
          have e5 : ((ps[i].a.toNat, 12) : Nat × Nat).2 = 12 := rfl
          rw [e5, e4] at this
          exact this
      simp only [List.getElem_map, List.getElem_range]
      unfold decT
      rw [ha, hx, Int.toNat_of_nonneg hp0.1]
  · have hq : (recB ps).length = qn (wL (recW ps)) := by rw [recB, rowOf, be_length]
    have hw := wL_rec hr
    have h1 := qn_pad (wL (recW ps))
    have hp := pad_lt (wL (recW ps))
    unfold decE endE
    rw [hn, ← hw, if_pos (by rw [hq]; omega), rec_val hf, hq]
    unfold endOf
    rw [show 8 * qn (wL (recW ps)) - wL (recW ps) = pad (wL (recW ps)) from by omega, if_pos ⟨hp, Nat.mul_mod_left _ _⟩]
end Go.Proofs.YtcglfknkkeaegaaGreatDoor
