/- Pieces handed over: mine, plain; structs stored whole. Pieces compared; ends of a sector; parts of bytes that can be read. Which piece bytes are: the program's Unseal. Pieces that came in; whether any piece is sealed at all; which stamps there are. ATOMIC SECTORS: a sector torn between two pieces. Which piece bytes are: the document's Unseal. Plain arithmetic of heads. -/
import Derived.Test.YtcglfknkkeaegaaGreatDoorMq03
import Derived.Deep.DeepCutAuto
import Derived.Deep.Slices
import Derived.Deep.Fields
import Derived.ChangeArms
import Derived.Test.YtcglfknkkeaegaaGreatDoorMq00
namespace Go.Proofs.YtcglfknkkeaegaaGreatDoor
open Go.RowKit

theorem Blk.lsetCells {g : Nat} {t : TypeId} : ∀ (vs : List Value) (o : Nat) (w : World) (cs : Array Value), Blk w g t cs → ∃ cs', Blk (w.setCells g o vs) g t cs' ∧ cs'.size = cs.size
  | [], _, _, cs, h => ⟨cs, h, rfl⟩
  | v :: r, o, w, cs, h => by
    rw [World.setCells]
    obtain ⟨cs', h1, h2⟩ := Blk.lsetCells r (o + 1) _ _ (h.set_ o v)
    exact ⟨cs', h1, by rw [h2]; simp⟩


theorem Blk.putAll {w : World} {g : Nat} {t : TypeId} {C D : Array Value} (h : Blk w g t C) (hs : D.size = C.size) : Blk (w.setCells g 0 D.toList) g t D := by
  obtain ⟨C', h1, h2⟩ := Blk.lsetCells D.toList 0 w C h
  have e : C' = D := by
    apply Array.ext (by omega)
    intro k hk1 hk2
    have hin := World.cell?_setCells_in g D.toList 0 w (fun j hj => by
      rw [h.cell (0 + j), Nat.zero_add, Array.getElem?_eq_getElem (by simp at hj; omega)]; rfl) k (by simpa using hk2)
    rw [Nat.zero_add, h1.cell k, Array.getElem?_eq_getElem hk1] at hin
    simpa using hin
  rw [← e]; rw [e] at h1 ⊢; exact h1
theorem Blk.five {w : World} {b : Nat} {t : TypeId} {a0 a1 a2 a3 a4 : Value} (h : Blk w b t #[a0, a1, a2, a3, a4]) : w.cell? ⟨b, 0, none⟩ = some a0 ∧ w.cell? ⟨b, 1, none⟩ = some a1 ∧ w.cell? ⟨b, 2, none⟩ = some a2 ∧ w.cell? ⟨b, 3, none⟩ = some a3 ∧ w.cell? ⟨b, 4, none⟩ = some a4 :=
  ⟨h.cell 0, h.cell 1, h.cell 2, h.cell 3, h.cell 4⟩
theorem Blk.there {w : World} {g : Nat} {t : TypeId} {C : Array Value} (h : Blk w g t C) : w.there g 0 C.size := fun j hj =>
  ⟨by rw [h.cell (0 + j), Nat.zero_add, Array.getElem?_eq_getElem hj]; rfl, h.frozen (0 + j)⟩
theorem sizePiece : (Tryz.prog.info? 177).map (·.size) = some 5 := by kernel_rfl
def pc5 (e c : Int) (f g : Bool) (v : Value) : Array Value := #[.int .u64 e, .int .u64 c, .bool f, .bool g, v]
theorem pc5_one (e c : Int) (f g : Bool) (A : Option Addr) (m k : Nat) : (pc5 e c f g (.slice A m k)).all (·.oneCell') = true := by simp [pc5, Value.oneCell']
theorem st_store5 {ops : Array Oper} {o : Oper} {a : Act} {w : World} {Q : Exit → Act → World → Prop} {K : Act → World → Prop} {E : Prop} {t t' : TypeId} (hsz : (Tryz.prog.info? t).map (·.size) = some 5) (hgd : o.guard = none) (x y : Operand) (ho : o.op = .store t x y)
    (z : Nat) (C D : Array Value) (hB : Blk w z t' C) (hC : C.size = 5) (hD : D.size = 5) (h1 : D.all (·.oneCell') = true) (hx : a.eval x = .pointer (some ⟨z, 0, none⟩)) (hy : a.eval y = .agg D)
    (h : K (a.put o.dst undef) (w.setCells z 0 D.toList)) : if Region.wanted o (yielded ops a.tmps) = true then Oper.wp Tryz.prog o a w K Q else E := by
  rw [if_pos (by simp [Region.wanted, hgd])]
  refine wp_store_mid t x y ho z 0 D hx hy ?_ (by rw [hsz, hD]) h1 h
  have := hB.there
  rw [hC] at this
  rw [hD]; exact this
end Go.Proofs.YtcglfknkkeaegaaGreatDoor
namespace Go.Proofs.YtcglfknkkeaegaaGreatDoor
open Go.RowKit

theorem Rd.sub {w : World} {b o n c : Nat} {l : List Nat} (h : Rd w 1 (.slice (some ⟨b, o, none⟩) n c) n (l.map u8)) (s m c' : Nat) (hs : s + m ≤ n) (hc : m ≤ c') (hc' : c' ≤ maxLen) : Rd w 1 (.slice (some ⟨b, o + s, none⟩) m c') m (((l.drop s).take m).map u8) := by
  have hl : l.length = n := by obtain ⟨_, _, _, _, _, h, _⟩ := h; simpa using h
  refine ⟨_, c', rfl, hc, hc', by simp; omega, fun e => (by cases e), fun h0 => ?_⟩
  obtain ⟨b', o', e, hb, hcell⟩ := h.cells (by omega) (by decide)
  injection e with e
  injection e with e1 e2
  subst e1 e2
  refine ⟨_, rfl, hb, fun j u hu => ?_⟩
  rw [List.map_take, List.getElem?_take] at hu
  split at hu
  · rw [add_none, Nat.add_assoc]
    exact hcell (s + j) u (by rw [List.map_drop, List.getElem?_drop] at hu; exact hu)
  · cases hu
theorem Rd.drew {w : World} {v : Value} {n : Nat} {xs : List Value} (h : Rd w 1 v n xs) : Rd w.drew 1 v n xs := h
theorem Rd.len8 {w : World} {v : Value} {n : Nat} {l : List Nat} (h : Rd w 1 v n (l.map u8)) : l.length = n := by obtain ⟨_, _, _, _, _, h, _⟩ := h; simpa using h
theorem Rd.adr {w : World} {v : Value} {n : Nat} {l : List Nat} (h : Rd w 1 v n (l.map u8)) (hn : 0 < n) : ∃ b o c, v = .slice (some ⟨b, o, none⟩) n c ∧ b < w.heap.size ∧ n ≤ c ∧ c ≤ maxLen := by
  obtain ⟨A, c, rfl, h1, h2⟩ := h.form
  obtain ⟨b, o, rfl, hb, _⟩ := h.cells hn (by decide)
  exact ⟨b, o, c, rfl, hb, h1, h2⟩
theorem Rd.at8 {w : World} {b o n c : Nat} {l : List Nat} (h : Rd w 1 (.slice (some ⟨b, o, none⟩) n c) n (l.map u8)) {k : Nat} (hk : k < n) : w.cell? ⟨b, o + k, none⟩ = some (.int .u8 ((l.getD k 0 : Nat) : Int)) := by
  have hl := h.len8
  obtain ⟨b', o', e, hb, hcell⟩ := h.cells (by omega) (by decide)
  injection e with e
  injection e with e1 e2
  subst e1 e2
  rw [hcell k (u8 (l.getD k 0)) (by rw [List.getElem?_map, List.getD_eq_getElem?_getD, List.getElem?_eq_getElem (by omega)]; rfl)]
  rfl

set_option maxRecDepth 3000 in
set_option maxHeartbeats 800000 in
theorem ends_any (v : Value) (l : List Nat) (w : World) (h : Rd w 1 v 128 (l.map u8)) (hl : ∀ x ∈ l, x < 256) :
    Calls Tryz.prog 106 #[v] w fun x w' => x = .returned (.tuple #[.int .u64 ((val (l.take 8) / 1099511627776 : Nat) : Int), .int .u64 ((val (l.drop 120) / 1099511627776 : Nat) : Int)]) ∧ ∃ k, w' = w.drewN k := by
  have hll := h.len8
  obtain ⟨b, o, c, rfl, _, hnc, hcm⟩ := h.adr (by decide)
  have h1 := h.sub 0 8 c (by decide) (by omega) hcm
  have h2 := h.sub 120 8 (c - 120) (by decide) (by omega) (by omega)
  rw [Nat.add_zero, List.drop_zero] at h1
  rw [List.take_of_length_le (by simp; omega)] at h2
  unfold maxLen at hcm
  have H1 := Lib.hid h1
  have H2 := Lib.hid h2
  have L1 := Lib.hid (show ∀ x ∈ l.take 8, x < 256 from fun x hx => hl x (List.mem_of_mem_take hx))
  have L2 := Lib.hid (show ∀ x ∈ l.drop 120, x < 256 from fun x hx => hl x (List.mem_of_mem_drop hx))
  have hc120 : (120 : Int) ≤ (c : Int) := by omega
  have hc8 : (8 : Int) ≤ (c : Int) := by omega
  have hc1 : (128 : Int) ≤ (c : Int) := by omega
  have hcn : ¬ c = 120 := by omega
  clear h hl hll h1 h2 hnc
  obtain ⟨a, ha⟩ : ∃ a, a = val (l.take 8) := ⟨_, rfl⟩
  obtain ⟨d, hd⟩ : ∃ d, d = val (l.drop 120) := ⟨_, rfl⟩
  have HA := Lib.hid ha
  have HD := Lib.hid hd
  rw [← ha, ← hd]
  clear ha hd
  go_enter Tryz.func106, Tryz.ntmps106
  go_wp2_with fail
  refine rstart (S := (fun _ => True)) (by first | trivial) (fun hH => ?_)
  refine tk (i := 0) (oi := ⟨some 7, .move (.tmp 0), 118, "lap.go:104", #[], none⟩) hH.out (by rintro w _; go_simp <;> with_reducible rfl) ?_
  simp only [Act.put, sA, sB, sC]
  refine tk (i := 1) (oi := ⟨some 8, .slice 118 (.tmp 7) none (some (.const (Go.Value.int Go.IntKind.i64 8))) none, 118, "lap.go:104", #[⟨0, .data⟩], none⟩) hH.out (by rintro w _; go_simp <;> with_reducible rfl) ?_
  simp only [Act.put, sA, sB, sC]
  refine tk (i := 4) (oi := ⟨some 11, .move (.tmp 0), 118, "lap.go:104", #[], none⟩) hH.out (by rintro w _; go_simp <;> with_reducible rfl) ?_
  simp only [Act.put, sA, sB, sC]
  refine tk (i := 5) (oi := ⟨some 12, .slice 118 (.tmp 11) (some (.const (Go.Value.int Go.IntKind.i64 120))) none none, 118, "lap.go:104", #[⟨4, .data⟩], none⟩) hH.out (by rintro w _; go_simp <;> with_reducible rfl) ?_
  simp only [Act.put, sA, sB, sC]
  refine rdy (i := 2) (oi := ⟨some 9, .call ⟨.value (.func 140), #[.tmp 8], #[118]⟩, 38, "lap.go:104", #[⟨1, .data⟩], none⟩) (fun K hK => ?_)
  go_simp
  refine (number_any _ 8 _ _ H1.out.drew (by decide) L1.out).mono ?_
  rintro x w1 ⟨rfl, rfl⟩
  rw [← HA.out]
  go_wp2_with fail
  refine hK.out _ _ (by first | trivial) (fun hHeld => ?_)
  replace hH := Lib.hid hHeld
  clear hK K hHeld
  try simp only [Act.put, sA, sB, sC]
  refine rdy (i := 3) (oi := ⟨some 10, .call ⟨.value (.func 139), #[.tmp 9], #[38]⟩, 38, "lap.go:104", #[⟨2, .data⟩, ⟨2, .chain⟩], none⟩) (fun K hK => ?_)
  go_simp
  refine (epoch_any a _).mono ?_
  rintro x w1 ⟨rfl, rfl⟩
  go_wp2_with fail
  refine hK.out _ _ (by first | trivial) (fun hHeld => ?_)
  replace hH := Lib.hid hHeld
  clear hK K hHeld
  try simp only [Act.put, sA, sB, sC]
  refine rdy (i := 6) (oi := ⟨some 13, .call ⟨.value (.func 140), #[.tmp 12], #[118]⟩, 38, "lap.go:104", #[⟨5, .data⟩, ⟨3, .chain⟩], none⟩) (fun K hK => ?_)
  go_simp
  refine (number_any _ 8 _ _ H2.out.drew (by decide) L2.out).mono ?_
  rintro x w1 ⟨rfl, rfl⟩
  rw [← HD.out]
  go_wp2_with fail
  refine hK.out _ _ (by first | trivial) (fun hHeld => ?_)
  replace hH := Lib.hid hHeld
  clear hK K hHeld
  try simp only [Act.put, sA, sB, sC]
  refine rdy (i := 7) (oi := ⟨some 14, .call ⟨.value (.func 139), #[.tmp 13], #[38]⟩, 38, "lap.go:104", #[⟨6, .data⟩, ⟨6, .chain⟩], none⟩) (fun K hK => ?_)
  go_simp
  refine (epoch_any d _).mono ?_
  rintro x w1 ⟨rfl, rfl⟩
  go_wp2_with fail
  refine hK.out _ _ (by first | trivial) (fun hHeld => ?_)
  replace hH := Lib.hid hHeld
  clear hK K hHeld
  try simp only [Act.put, sA, sB, sC]
  refine tk (i := 8) (oi := ⟨some 2, .assign (.tmp 10), 38, "lap.go:104", #[⟨3, .data⟩, ⟨7, .chain⟩, ⟨0, .phase⟩, ⟨1, .phase⟩, ⟨2, .phase⟩, ⟨3, .phase⟩, { on := 4, ground := Go.Ground.textOnly Go.Departure.lateStores }, { on := 5, ground := Go.Ground.textOnly Go.Departure.lateStoresUnsure }, { on := 6, ground := Go.Ground.textOnly Go.Departure.lateStoresUnsure }, { on := 7, ground := Go.Ground.textOnly Go.Departure.lateStoresUnsure }], none⟩) hH.out (by rintro w _; go_simp <;> with_reducible rfl) ?_
  simp only [Act.put, sA, sB, sC]
  refine tk (i := 9) (oi := ⟨some 3, .assign (.tmp 14), 38, "lap.go:104", #[⟨7, .data⟩, ⟨8, .chain⟩, ⟨0, .phase⟩, ⟨1, .phase⟩, ⟨2, .phase⟩, ⟨3, .phase⟩, ⟨4, .phase⟩, ⟨5, .phase⟩, ⟨6, .phase⟩, ⟨7, .phase⟩, ⟨8, .phase⟩], none⟩) hH.out (by rintro w _; go_simp <;> with_reducible rfl) ?_
  simp only [Act.put, sA, sB, sC]
  refine wpAnyH_done (by kernel_rfl) ?_ _
  go_wp2_with fail
  go_ret2
  exact ⟨rfl, 1, rfl⟩
end Go.Proofs.YtcglfknkkeaegaaGreatDoor
namespace Go.Proofs.YtcglfknkkeaegaaGreatDoor
open Go.RowKit

def UnR (w : World) (l : List Nat) (x : Ending) (w' : World) : Prop :=
  ∃ a k F, x = .returned (.tuple #[.agg #[.int .u64 ((unsealP l).e : Int), .int .u64 ((unsealP l).c : Int), .bool (unsealP l).f, .bool (unsealP l).g, .slice a (unsealP l).d.length k], .int .i64 (unsealE l)]) ∧
    Sl w' F 5 1 (.slice a (unsealP l).d.length k) (unsealP l).d.length ((unsealP l).d.map u8) ∧ Adv Nul w F w'
theorem UnR.none {w w' : World} {l : List Nat} (h : ¬ Whole l) (ha : Adv Nul w Nul w') : UnR w l (.returned (.tuple #[.agg #[.int .u64 0, .int .u64 0, .bool false, .bool false, .slice none 0 0], .int .i64 4])) w' := by
  have e : unsealP l = zeroP := if_neg h
  have e2 : unsealE l = 4 := if_neg h
  unfold UnR
  rw [e, e2]
  exact ⟨_, _, _, rfl, Sl.nil _ _ _, ha⟩
theorem UnR.some {w w' : World} {l : List Nat} {F : Nat → Prop} {a : Option Addr} {k : Nat} (h : Whole l) (hs : Sl w' F 5 1 (.slice a (dec l).d.length k) (dec l).d.length ((dec l).d.map u8)) (ha : Adv Nul w F w') :
    UnR w l (.returned (.tuple #[.agg #[.int .u64 ((dec l).e : Int), .int .u64 ((dec l).c : Int), .bool (dec l).f, .bool (dec l).g, .slice a (dec l).d.length k], .int .i64 0])) w' := by
  have e : unsealP l = dec l := if_pos h
  have e2 : unsealE l = 0 := if_pos h
  unfold UnR
  rw [e, e2]
  exact ⟨_, _, _, rfl, hs, ha⟩
theorem op_store5 {ops : Array Oper} {rest : List Oper} {o : Oper} {a : Act} {w : World} {Q : Exit → Act → World → Prop} {t t' : TypeId} (hsz : (Tryz.prog.info? t).map (·.size) = some 5) (hgd : o.guard = none) (x y : Operand) (ho : o.op = .store t x y)
    (z : Nat) (C D : Array Value) (hB : Blk w z t' C) (hC : C.size = 5) (hD : D.size = 5) (h1 : D.all (·.oneCell') = true) (hx : a.eval x = .pointer (some ⟨z, 0, none⟩)) (hy : a.eval y = .agg D)
    (h : wpList Tryz.prog ops Q rest (a.put o.dst undef) (w.setCells z 0 D.toList)) : wpList Tryz.prog ops Q (o :: rest) a w := by
  refine wpList_plain hgd fun K hK => ?_
  have h0 := st_store5 (ops := ops) (K := K) (Q := Q) (E := True) hsz hgd x y ho z C D hB hC hD h1 hx hy (hK _ _ h)
  rwa [if_pos (by simp [Region.wanted, hgd])] at h0

set_option maxRecDepth 3000 in
theorem unseal_bad (v : Value) (n : Nat) (l : List Nat) (w : World) (h : Rd w 1 v n (l.map u8)) (hb : n ≠ 128 ∨ 106 < l.getD 9 0) :
    Calls Tryz.prog 141 #[v] w (UnR w l) := by
  have hll := h.len8
  have hw : ¬ Whole l := fun h => by obtain ⟨h1, h2, _⟩ := h; omega
  obtain ⟨A, c, rfl, hnc, hcm⟩ := h.form
  unfold maxLen at hcm
  have HW := Lib.hid hw
  by_cases hn : n = 128
  · subst hn
    obtain ⟨b, o, c', e, _, _, _⟩ := h.adr (by decide)
    injection e with e1 _ e3
    subst e1 e3
    have c9 := h.at8 (k := 9) (by decide)
    obtain ⟨x, hx⟩ : ∃ x, x = l.getD 9 0 := ⟨_, rfl⟩
    rw [← hx] at c9 hb
    have hxI : (106 : Int) < (x : Int) := by omega
    clear h hll hw hb hx
    go_enter Tryz.func141, Tryz.ntmps141
    go_wp2_with fail
    exact bodyPost_ret (v := .tuple #[.agg #[.int .u64 0, .int .u64 0, .bool false, .bool false, .slice none 0 0], .int .i64 4]) (by simp [results, Tryz.results141, go_sem]) rfl (UnR.none HW.out ((Adv.refl _ _).alloc _))
  · have hb : ((n : Int) != 128) = true := by rw [bne_iff_ne]; omega
    clear h hll hw hn
    go_enter Tryz.func141, Tryz.ntmps141
    go_wp2_with fail
    exact bodyPost_ret (v := .tuple #[.agg #[.int .u64 0, .int .u64 0, .bool false, .bool false, .slice none 0 0], .int .i64 4]) (by simp [results, Tryz.results141, go_sem]) rfl (UnR.none HW.out ((Adv.refl _ _).alloc _))

/-- the piece that is made of bytes -/
def MadeR (w : World) (t : TypeId) (p : Pc) (t5 : Value) (wr : World) : Prop :=
  ∃ z a k F, t5 = .pointer (some ⟨z, 0, none⟩) ∧ Blk wr z t #[.int .u64 (p.e : Int), .int .u64 (p.c : Int), .bool p.f, .bool p.g, .slice a p.d.length k] ∧ Sl wr F 5 1 (.slice a p.d.length k) p.d.length (p.d.map u8) ∧ Adv Nul w F wr
theorem k89 {w : World} {b o c x8 x9 : Nat} {l : List Nat} (h : Rd w 1 (.slice (some ⟨b, o, none⟩) 128 c) 128 (l.map u8)) (e8 : x8 = l.getD 8 0) (e9 : x9 = l.getD 9 0) :
    w.cell? ⟨b, o + 8, none⟩ = some (.int .u8 (x8 : Int)) ∧ w.cell? ⟨b, o + 9, none⟩ = some (.int .u8 (x9 : Int)) := by
  rw [e8, e9]; exact ⟨h.at8 (by decide), h.at8 (by decide)⟩
theorem Rd.put {w : World} {b o n c z : Nat} {xs : List Value} (h : Rd w 1 (.slice (some ⟨b, o, none⟩) n c) n xs) (hne : b ≠ z) (D : List Value) : Rd (w.setCells z 0 D) 1 (.slice (some ⟨b, o, none⟩) n c) n xs :=
  h.far (fun k hk _ _ => lsetCells_heap z (by simp [Value.ownBlock] at hk; omega) D 0 w) (Adv.lsetCells D 0 _ (Adv.refl (fun k => k = z) w) (.inl rfl)).size
theorem Sl.put {w : World} {F : Nat → Prop} {e : TypeId} {size n z : Nat} {v : Value} {xs : List Value} (h : Sl w F e size v n xs) (hF : ∀ k, F k → k ≠ z) (D : List Value) : Sl (w.setCells z 0 D) F e size v n xs :=
  ⟨own_keep h.own fun j hj => lsetCells_heap z (hF j (h.inF j hj)) D 0 w, h.inF, fun j hj => Nat.lt_of_lt_of_le (h.bd j hj) (Adv.lsetCells D 0 _ (Adv.refl (fun k => k = z) w) (.inl rfl)).size⟩
theorem made_fin {W w' : World} {t : TypeId} {P : Pc} {z n pe pn k : Nat} {C : Array Value} {F : Nat → Prop} {a : Option Addr} {f g : Bool} (hB : Blk w' z t C) (hC : C.size = 5) (hS : Sl w' F 5 1 (.slice a n k) n (P.d.map u8)) (hn : P.d.length = n) (hA : Adv Nul W F w') (hz : W.heap.size ≤ z) (hF : ∀ k, F k → k ≠ z)
    (e1 : pe = P.e) (e2 : pn = P.c) (e3 : f = P.f) (e4 : g = P.g) : MadeR W t P (.pointer (some ⟨z, 0, none⟩)) (w'.setCells z 0 (pc5 (pe : Int) (pn : Int) f g (.slice a n k)).toList) := by
  subst hn e1 e2 e3 e4
  exact ⟨z, a, k, F, rfl, hB.putAll (by rw [hC]; rfl), ⟨own_keep hS.own fun j hj => lsetCells_heap z (hF j (hS.inF j hj)) _ 0 w', hS.inF, fun j hj => Nat.lt_of_lt_of_le (hS.bd j hj) (Adv.lsetCells _ 0 _ (Adv.refl (fun k => k = z) w') (.inl rfl)).size⟩, Adv.lsetCells _ 0 _ hA (.inr hz)⟩
theorem u8_bit0 (x : Nat) (h : x < 256) : (bits .and .u8 (x : Int) 1 != 0) = (x % 2 == 1) := by
  revert h; revert x; decide +kernel
theorem u8_bit1 (x : Nat) (h : x < 256) : (bits .and .u8 (x : Int) 2 != 0) = (x / 2 % 2 == 1) := by
  revert h; revert x; decide +kernel

set_option maxRecDepth 3000 in
set_option maxHeartbeats 3200000 in
theorem unseal_len (v : Value) (l : List Nat) (w : World) (h : Rd w 1 v 128 (l.map u8)) (hl : ∀ x ∈ l, x < 256) (h9 : l.getD 9 0 ≤ 106) :
    Calls Tryz.prog 141 #[v] w (UnR w l) := by
  have hll := h.len8
  obtain ⟨b, o, c, rfl, hb, hnc, hcm⟩ := h.adr (by decide)
  have hok := dec_ok hll h9 hl
  have hdl : (dec l).d.length = l.getD 9 0 := by show ((l.drop 10).take (l.getD 9 0)).length = _; rw [List.length_take, List.length_drop]; omega
  have hdb : ∀ x ∈ (dec l).d, x < 256 := fun x hx => hl x (List.mem_of_mem_drop (List.mem_of_mem_take hx))
  have hx8 : l.getD 8 0 < 256 := by rw [List.getD_eq_getElem?_getD, List.getElem?_eq_getElem (by omega)]; exact hl _ (List.getElem_mem _)
  obtain ⟨z, hz⟩ : ∃ z, z = w.heap.size := ⟨_, rfl⟩
  obtain ⟨W, hW⟩ : ∃ W, W = w.alloc (.cells #[.int .u64 0, .int .u64 0, .bool false, .bool false, .slice none 0 0] 177) := ⟨_, rfl⟩
  have hZ : Blk W z 177 #[.int .u64 0, .int .u64 0, .bool false, .bool false, .slice none 0 0] := by rw [hW, hz]; exact Blk.new _ _ _
  have hA : Adv Nul w Nul W := by rw [hW]; exact (Adv.refl _ _).alloc _
  have hR : Rd W 1 (.slice (some ⟨b, o, none⟩) 128 c) 128 (l.map u8) := by rw [hW]; exact h.up _
  have hzb : b < z := by rw [hz]; exact hb
  have c8 := hR.at8 (k := 8) (by decide)
  have c9 := hR.at8 (k := 9) (by decide)
  have hr1 := hR.sub 0 8 c (by decide) (by omega) hcm
  rw [Nat.add_zero, List.drop_zero] at hr1
  have hr2 := hR.sub 10 (l.getD 9 0) (c - 10) (by omega) (by omega) (by omega)
  have hv8 : val (l.take 8) < 18446744073709551616 := by
    have := val_lt 8 (l.take 8) (by rw [List.length_take]; omega) (fun x hx => hl x (List.mem_of_mem_take hx))
    rwa [pow8] at this
  have hb0 := u8_bit0 _ hx8
  have hb1 := u8_bit1 _ hx8
  unfold maxLen at hcm
  obtain ⟨x8, h8⟩ : ∃ x, x = l.getD 8 0 := ⟨_, rfl⟩
  obtain ⟨x9, hx9⟩ : ∃ x, x = l.getD 9 0 := ⟨_, rfl⟩
  obtain ⟨s, hs⟩ : ∃ s, s = val (l.take 8) := ⟨_, rfl⟩
  obtain ⟨P, hP⟩ : ∃ P, P = dec l := ⟨_, rfl⟩
  have hPe : P.e = s / 1099511627776 := by rw [hP, hs]; rfl
  have hPc : P.c = s % 1099511627776 := by rw [hP, hs]; rfl
  have hPf : P.f = (x8 % 2 == 1) := by rw [hP, h8]; rfl
  have hPg : P.g = (x8 / 2 % 2 == 1) := by rw [hP, h8]; rfl
  have hPd : P.d = (l.drop 10).take x9 := by rw [hP, hx9]; rfl
  rw [← h8] at c8 hb0 hb1
  rw [← hx9] at c9 hr2 h9 hdl
  rw [← hs] at hv8
  rw [← hP] at hok hdl hdb
  rw [← hPf] at hb0
  rw [← hPg] at hb1
  rw [← hPd] at hr2
  have h9I : (x9 : Int) ≤ 106 := by omega
  have hc10 : (10 : Int) ≤ (c : Int) := by omega
  have hc118 : (118 : Int) ≤ (c : Int) - 10 := by omega
  have hc128 : (128 : Int) ≤ (c : Int) := by omega
  have hcn : ¬ c = 10 := by omega
  have hx9c : (x9 : Int) ≤ (c : Int) - 10 := by omega
  have hx9n : x9 ≤ c - 10 := by omega
  have HW := Lib.hid hW
  have HZ := Lib.hid hZ
  have HA := Lib.hid hA
  have HR := Lib.hid hR
  have HR1 := Lib.hid hr1
  have HR2 := Lib.hid hr2
  have HS := Lib.hid hs
  have HV8 := Lib.hid hv8
  have HOK := Lib.hid hok
  have HDL := Lib.hid hdl
  have HDB := Lib.hid hdb
  have HL := Lib.hid hl
  have HP := Lib.hid hP
  obtain ⟨pe, hpe⟩ : ∃ x, x = P.e := ⟨_, rfl⟩
  obtain ⟨pn, hpn⟩ : ∃ x, x = P.c := ⟨_, rfl⟩
  have HPE := Lib.hid hpe
  have HPN := Lib.hid hpn
  have HPE' := Lib.hid (show pe = s / 1099511627776 by rw [hpe, hPe])
  have HPN' := Lib.hid (show pn = s % 1099511627776 by rw [hpn, hPc])
  have HX8 := Lib.hid h8
  have HX9 := Lib.hid hx9
  have H9B := Lib.hid (show x9 ≤ 1000000000 by omega)
  have HBW := Lib.hid (show b < W.heap.size from Nat.lt_of_lt_of_le hb hA.size)
  have K0 := Lib.hid (k89 hR.drew h8 hx9)
  have KA := Lib.hid (k89 (hR.up (.cells #[.int .u64 0, .int .u64 0, .bool false, .bool false, .slice none 0 0] 177)).drew h8 hx9)
  have HB0 := Lib.hid hb0
  have HB1 := Lib.hid hb1
  have HZZ := Lib.hid hz
  have HZB := Lib.hid hzb
  have H9 := Lib.hid h9
  clear h hl hll hb hnc hcm hok hdl hdb hx8 hW hZ hA hR hr1 hr2 hv8 hb0 hb1 h8 hx9 hs hP hPe hPc hPf hPg hPd h9 hz hzb hpe hpn
  go_enter Tryz.func141, Tryz.ntmps141
  go_upto_region 1 with (fail)
  rw [← HW.out, ← HZZ.out]
  go_wp2_with fail
  refine (number_any _ 8 _ _ HR1.out (by decide) (fun x hx => HL.out x (List.mem_of_mem_take hx))).mono ?_
  rintro x w1 ⟨rfl, rfl⟩
  rw [← HS.out]
  go_upto_region 4 with (fail)
  go_cut [5] (fun t5 wr => MadeR W 177 P t5 wr)
  case first =>
    have hb0 := HB0.out
    have hb1 := HB1.out
    obtain ⟨f, hf⟩ : ∃ f, f = P.f := ⟨_, rfl⟩
    obtain ⟨g, hg⟩ : ∃ g, g = P.g := ⟨_, rfl⟩
    rw [← hf] at hb0
    rw [← hg] at hb1
    have HF := Lib.hid hf
    have HG := Lib.hid hg
    clear hf hg
    refine rstart (S := (fun w' => w'.cell? ⟨b, o + 8, none⟩ = some (.int .u8 (x8 : Int)) ∧ w'.cell? ⟨b, o + 9, none⟩ = some (.int .u8 (x9 : Int)))) (by first | with_reducible exact KE.out | with_reducible exact KD.out | with_reducible exact KC.out | with_reducible exact KA.out | with_reducible exact K0.out) (fun hH => ?_)
    refine tk (i := 0) (oi := ⟨some 21, .move (.tmp 4), 38, "lap.go:85", #[], none⟩) hH.out (by rintro w ⟨s0, s1⟩; go_simp <;> with_reducible rfl) ?_
    simp only [Act.put, sA, sB, sC]
    refine tk (i := 2) (oi := ⟨some 23, .move (.tmp 4), 38, "lap.go:85", #[], none⟩) hH.out (by rintro w ⟨s0, s1⟩; go_simp <;> with_reducible rfl) ?_
    simp only [Act.put, sA, sB, sC]
    refine tk (i := 4) (oi := ⟨some 25, .move (.tmp 0), 118, "lap.go:85", #[], none⟩) hH.out (by rintro w ⟨s0, s1⟩; go_simp <;> with_reducible rfl) ?_
    simp only [Act.put, sA, sB, sC]
    refine tk (i := 5) (oi := ⟨some 26, .indexAddr 118 (.tmp 25) (.const (Go.Value.int Go.IntKind.i64 8)), 0, "lap.go:85", #[⟨4, .data⟩], none⟩) hH.out (by rintro w ⟨s0, s1⟩; go_simp <;> with_reducible rfl) ?_
    simp only [Act.put, sA, sB, sC]
    refine tk (i := 6) (oi := ⟨some 27, .load 5 (.tmp 26), 5, "lap.go:85", #[⟨5, .data⟩], none⟩) hH.out (by rintro w ⟨s0, s1⟩; go_simp <;> with_reducible rfl) ?_
    simp only [Act.put, sA, sB, sC]
    refine tk (i := 7) (oi := ⟨some 28, .binOp .and 5 (.tmp 27) (.const (Go.Value.int Go.IntKind.u8 1)) 5, 5, "lap.go:85", #[⟨6, .data⟩], none⟩) hH.out (by rintro w ⟨s0, s1⟩; go_simp <;> with_reducible rfl) ?_
    simp only [Act.put, sA, sB, sC]
    refine tk (i := 8) (oi := ⟨some 29, .binOp .neq 5 (.tmp 28) (.const (Go.Value.int Go.IntKind.u8 0)) 5, 4, "lap.go:85", #[⟨7, .data⟩], none⟩) hH.out (by rintro w ⟨s0, s1⟩; go_simp <;> with_reducible rfl) ?_
    simp only [Act.put, sA, sB, sC]
    refine tk (i := 9) (oi := ⟨some 30, .move (.tmp 0), 118, "lap.go:85", #[], none⟩) hH.out (by rintro w ⟨s0, s1⟩; go_simp <;> with_reducible rfl) ?_
    simp only [Act.put, sA, sB, sC]
    refine tk (i := 10) (oi := ⟨some 31, .indexAddr 118 (.tmp 30) (.const (Go.Value.int Go.IntKind.i64 8)), 0, "lap.go:85", #[⟨9, .data⟩], none⟩) hH.out (by rintro w ⟨s0, s1⟩; go_simp <;> with_reducible rfl) ?_
    simp only [Act.put, sA, sB, sC]
    refine tk (i := 11) (oi := ⟨some 32, .load 5 (.tmp 31), 5, "lap.go:85", #[⟨10, .data⟩], none⟩) hH.out (by rintro w ⟨s0, s1⟩; go_simp <;> with_reducible rfl) ?_
    simp only [Act.put, sA, sB, sC]
    refine tk (i := 12) (oi := ⟨some 33, .binOp .and 5 (.tmp 32) (.const (Go.Value.int Go.IntKind.u8 2)) 5, 5, "lap.go:85", #[⟨11, .data⟩], none⟩) hH.out (by rintro w ⟨s0, s1⟩; go_simp <;> with_reducible rfl) ?_
    simp only [Act.put, sA, sB, sC]
    refine tk (i := 13) (oi := ⟨some 34, .binOp .neq 5 (.tmp 33) (.const (Go.Value.int Go.IntKind.u8 0)) 5, 4, "lap.go:85", #[⟨12, .data⟩], none⟩) hH.out (by rintro w ⟨s0, s1⟩; go_simp <;> with_reducible rfl) ?_
    simp only [Act.put, sA, sB, sC]
    refine tk (i := 14) (oi := ⟨some 35, .move (.tmp 0), 118, "lap.go:85", #[], none⟩) hH.out (by rintro w ⟨s0, s1⟩; go_simp <;> with_reducible rfl) ?_
    simp only [Act.put, sA, sB, sC]
    refine tk (i := 15) (oi := ⟨some 36, .slice 118 (.tmp 35) (some (.const (Go.Value.int Go.IntKind.i64 10))) none none, 118, "lap.go:85", #[⟨14, .data⟩], none⟩) hH.out (by rintro w ⟨s0, s1⟩; go_simp <;> with_reducible rfl) ?_
    simp only [Act.put, sA, sB, sC]
    refine tk (i := 16) (oi := ⟨some 37, .move (.tmp 0), 118, "lap.go:85", #[], none⟩) hH.out (by rintro w ⟨s0, s1⟩; go_simp <;> with_reducible rfl) ?_
    simp only [Act.put, sA, sB, sC]
    refine tk (i := 17) (oi := ⟨some 38, .indexAddr 118 (.tmp 37) (.const (Go.Value.int Go.IntKind.i64 9)), 0, "lap.go:85", #[⟨16, .data⟩], none⟩) hH.out (by rintro w ⟨s0, s1⟩; go_simp <;> with_reducible rfl) ?_
    simp only [Act.put, sA, sB, sC]
    refine tk (i := 18) (oi := ⟨some 39, .load 5 (.tmp 38), 5, "lap.go:85", #[⟨17, .data⟩], none⟩) hH.out (by rintro w ⟨s0, s1⟩; go_simp <;> with_reducible rfl) ?_
    simp only [Act.put, sA, sB, sC]
    refine tk (i := 19) (oi := ⟨some 40, .slice 118 (.tmp 36) none (some (.tmp 39)) none, 118, "lap.go:85", #[⟨15, .data⟩, ⟨18, .data⟩], none⟩) hH.out (by rintro w ⟨s0, s1⟩; go_simp <;> with_reducible rfl) ?_
    simp only [Act.put, sA, sB, sC]
    refine wpAnyH_ready (rs := [1, 22]) (by kernel_rfl) (by simp) ?_
    refine AllReadyH.cons (o := ⟨some 22, .call ⟨.value (.func 139), #[.tmp 21], #[38]⟩, 38, "lap.go:86", #[⟨0, .data⟩], none⟩) rfl (fun K hK => ?_) (AllReadyH.cons (o := ⟨some 5, .alloc 177, 0, "lap.go:85", #[], none⟩) rfl (fun K hK => ?_) AllReadyH.nil)
    · go_simp
      refine (epoch_any s _).mono ?_
      rintro x w1 ⟨rfl, rfl⟩
      rw [← HPE'.out]
      go_wp2_with fail
      refine hK.out _ _ (by first | with_reducible exact KE.out | with_reducible exact KD.out | with_reducible exact KC.out | with_reducible exact KA.out | with_reducible exact K0.out) (fun hHeld => ?_)
      replace hH := Lib.hid hHeld
      clear hK K hHeld
      try simp only [Act.put, sA, sB, sC]
      refine wpAnyH_ready (rs := [3, 22]) (by kernel_rfl) (by simp) ?_
      refine AllReadyH.cons (o := ⟨some 24, .call ⟨.value (.func 169), #[.tmp 23], #[38]⟩, 38, "lap.go:87", #[⟨2, .data⟩, ⟨1, .chain⟩], none⟩) rfl (fun K hK => ?_) (AllReadyH.cons (o := ⟨some 5, .alloc 177, 0, "lap.go:85", #[], none⟩) rfl (fun K hK => ?_) AllReadyH.nil)
      · go_simp
        refine (count_any s HV8.out _).mono ?_
        rintro x w1 ⟨rfl, rfl⟩
        rw [← HPN'.out]
        go_wp2_with fail
        refine hK.out _ _ (by first | with_reducible exact KE.out | with_reducible exact KD.out | with_reducible exact KC.out | with_reducible exact KA.out | with_reducible exact K0.out) (fun hHeld => ?_)
        replace hH := Lib.hid hHeld
        clear hK K hHeld
        try simp only [Act.put, sA, sB, sC]
        refine wpAnyH_ready (rs := [20, 22]) (by kernel_rfl) (by simp) ?_
        refine AllReadyH.cons (o := ⟨some 41, .call ⟨.value (.func 170), #[.tmp 40], #[118]⟩, 118, "lap.go:90", #[⟨19, .data⟩, ⟨3, .chain⟩], none⟩) rfl (fun K hK => ?_) (AllReadyH.cons (o := ⟨some 5, .alloc 177, 0, "lap.go:85", #[], none⟩) rfl (fun K hK => ?_) AllReadyH.nil)
        · go_simp
          refine (lclone_any _ x9 _ _ HR2.out.drew (u8_one _) H9B.out).mono ?_
          rintro x wc ⟨vc, Fc, rfl, hc, ac⟩
          obtain ⟨Ac, cc, rfl, _, _⟩ := hc.form0
          have hrc := HR.out.drew.far (fun _ _ _ h => ac.block _ h (fun h => h)) ac.size
          have HRX := Lib.hid (hrc.up (.cells #[.int .u64 0, .int .u64 0, .bool false, .bool false, .slice none 0 0] 177))
          have KC := Lib.hid (k89 hrc HX8.out HX9.out)
          have KD := Lib.hid (k89 HRX.out HX8.out HX9.out)
          have HCS := Lib.hid (hc.lup1 (.cells #[.int .u64 0, .int .u64 0, .bool false, .bool false, .slice none 0 0] 177))
          have HCA := Lib.hid (Adv.of_drew (ac.alloc (.cells #[.int .u64 0, .int .u64 0, .bool false, .bool false, .slice none 0 0] 177)))
          have HZC := Lib.hid (Blk.new wc 177 #[.int .u64 0, .int .u64 0, .bool false, .bool false, .slice none 0 0])
          have HWZ := Lib.hid (show W.heap.size ≤ wc.heap.size from ac.size)
          have HBZ := Lib.hid (show b ≠ wc.heap.size by have := HBW.out; have := HWZ.out; omega)
          have HFZ := Lib.hid (show ∀ k, Fc k → k ≠ wc.heap.size from fun k hk e => by have := hc.bd k hk; omega)
          clear hrc hc ac
          go_wp2_with fail
          refine hK.out _ _ (by first | with_reducible exact KE.out | with_reducible exact KD.out | with_reducible exact KC.out | with_reducible exact KA.out | with_reducible exact K0.out) (fun hHeld => ?_)
          replace hH := Lib.hid hHeld
          clear hK K hHeld
          try simp only [Act.put, sA, sB, sC]
          refine tk (i := 21) (oi := ⟨some 42, .build 177 #[(0, .tmp 22), (1, .tmp 24), (2, .tmp 29), (3, .tmp 34), (4, .tmp 41)], 177, "lap.go:85", #[⟨1, .data⟩, ⟨3, .data⟩, ⟨8, .data⟩, ⟨13, .data⟩, ⟨20, .data⟩], none⟩) hH.out (by rintro w ⟨s0, s1⟩; go_simp <;> with_reducible rfl) ?_
          simp only [Act.put, sA, sB, sC]
          refine rdy (i := 22) (oi := ⟨some 5, .alloc 177, 0, "lap.go:85", #[], none⟩) (fun K hK => ?_)
          go_simp
          refine hK.out _ _ (by first | with_reducible exact KE.out | with_reducible exact KD.out | with_reducible exact KC.out | with_reducible exact KA.out | with_reducible exact K0.out) (fun hHeld => ?_)
          replace hH := Lib.hid hHeld
          clear hK K hHeld
          try simp only [Act.put, sA, sB, sC]
          refine rdy (i := 23) (oi := ⟨none, .store 177 (.tmp 5) (.tmp 42), 0, "lap.go:85", #[⟨22, .data⟩, ⟨21, .data⟩, ⟨20, .chain⟩, ⟨0, .phase⟩, ⟨1, .phase⟩, ⟨2, .phase⟩, ⟨3, .phase⟩, ⟨4, .phase⟩, ⟨5, .phase⟩, ⟨6, .phase⟩, ⟨7, .phase⟩, ⟨8, .phase⟩, ⟨9, .phase⟩, ⟨10, .phase⟩, ⟨11, .phase⟩, ⟨12, .phase⟩, ⟨13, .phase⟩, ⟨14, .phase⟩, ⟨15, .phase⟩, ⟨16, .phase⟩, ⟨17, .phase⟩, ⟨18, .phase⟩, ⟨19, .phase⟩, ⟨20, .phase⟩, ⟨21, .phase⟩, ⟨22, .phase⟩], none⟩) (fun K hK => ?_)
          refine st_store5 sizePiece rfl (.tmp 5) (.tmp 42) rfl _ _ (pc5 (pe : Int) (pn : Int) f g (.slice Ac x9 cc)) HZC.out rfl rfl (pc5_one _ _ _ _ _ _ _) rfl rfl ?_
          have KE := Lib.hid (k89 (HRX.out.put HBZ.out (pc5 (pe : Int) (pn : Int) f g (.slice Ac x9 cc)).toList) HX8.out HX9.out)
          have HFIN := Lib.hid (made_fin (P := P) HZC.out rfl HCS.out HDL.out HCA.out HWZ.out HFZ.out HPE.out HPN.out HF.out HG.out)
          refine hK.out _ _ (by first | with_reducible exact KE.out | with_reducible exact KD.out | with_reducible exact KC.out | with_reducible exact KA.out | with_reducible exact K0.out) (fun hHeld => ?_)
          replace hH := Lib.hid hHeld
          clear hK K hHeld
          try simp only [Act.put]
          refine wpAnyH_done (by kernel_rfl) ?_ _
          go_wp2_with fail
          go_meet
          exact HFIN.out
        · go_simp
          refine hK.out _ _ (by first | with_reducible exact KE.out | with_reducible exact KD.out | with_reducible exact KC.out | with_reducible exact KA.out | with_reducible exact K0.out) (fun hHeld => ?_)
          replace hH := Lib.hid hHeld
          clear hK K hHeld
          try simp only [Act.put, sA, sB, sC]
          refine rdy (i := 20) (oi := ⟨some 41, .call ⟨.value (.func 170), #[.tmp 40], #[118]⟩, 118, "lap.go:90", #[⟨19, .data⟩, ⟨3, .chain⟩], none⟩) (fun K hK => ?_)
          go_simp
          refine (lclone_any _ x9 _ _ (HR2.out.up (.cells #[.int .u64 0, .int .u64 0, .bool false, .bool false, .slice none 0 0] 177)).drew (u8_one _) H9B.out).mono ?_
          rintro x wc ⟨vc, Fc, rfl, hc, ac⟩
          obtain ⟨Ac, cc, rfl, _, _⟩ := hc.form0
          have HRX := Lib.hid ((HR.out.up (.cells #[.int .u64 0, .int .u64 0, .bool false, .bool false, .slice none 0 0] 177)).drew.far (fun _ _ _ h => ac.block _ h (fun h => h)) ac.size)
          have KD := Lib.hid (k89 HRX.out HX8.out HX9.out)
          have HCS := Lib.hid hc
          have HCA := Lib.hid ((((Adv.refl Nul W).alloc (.cells #[.int .u64 0, .int .u64 0, .bool false, .bool false, .slice none 0 0] 177)).drew).over' ac)
          have HZC := Lib.hid ((Blk.new W 177 #[.int .u64 0, .int .u64 0, .bool false, .bool false, .slice none 0 0]).drew.keep (ac.block _ (Blk.new W 177 #[.int .u64 0, .int .u64 0, .bool false, .bool false, .slice none 0 0]).drew.lt (fun h => h)))
          have HWZ := Lib.hid (show W.heap.size ≤ W.heap.size from Nat.le_refl _)
          have HBZ := Lib.hid (show b ≠ W.heap.size from Nat.ne_of_lt HBW.out)
          have HFZ := Lib.hid (show ∀ k, Fc k → k ≠ W.heap.size from fun k hk e => by rcases ac.into k hk with h | h; exact h; simp at h; omega)
          clear hc ac
          go_wp2_with fail
          refine hK.out _ _ (by first | with_reducible exact KE.out | with_reducible exact KD.out | with_reducible exact KC.out | with_reducible exact KA.out | with_reducible exact K0.out) (fun hHeld => ?_)
          replace hH := Lib.hid hHeld
          clear hK K hHeld
          try simp only [Act.put, sA, sB, sC]
          refine tk (i := 21) (oi := ⟨some 42, .build 177 #[(0, .tmp 22), (1, .tmp 24), (2, .tmp 29), (3, .tmp 34), (4, .tmp 41)], 177, "lap.go:85", #[⟨1, .data⟩, ⟨3, .data⟩, ⟨8, .data⟩, ⟨13, .data⟩, ⟨20, .data⟩], none⟩) hH.out (by rintro w ⟨s0, s1⟩; go_simp <;> with_reducible rfl) ?_
          simp only [Act.put, sA, sB, sC]
          refine rdy (i := 23) (oi := ⟨none, .store 177 (.tmp 5) (.tmp 42), 0, "lap.go:85", #[⟨22, .data⟩, ⟨21, .data⟩, ⟨20, .chain⟩, ⟨0, .phase⟩, ⟨1, .phase⟩, ⟨2, .phase⟩, ⟨3, .phase⟩, ⟨4, .phase⟩, ⟨5, .phase⟩, ⟨6, .phase⟩, ⟨7, .phase⟩, ⟨8, .phase⟩, ⟨9, .phase⟩, ⟨10, .phase⟩, ⟨11, .phase⟩, ⟨12, .phase⟩, ⟨13, .phase⟩, ⟨14, .phase⟩, ⟨15, .phase⟩, ⟨16, .phase⟩, ⟨17, .phase⟩, ⟨18, .phase⟩, ⟨19, .phase⟩, ⟨20, .phase⟩, ⟨21, .phase⟩, ⟨22, .phase⟩], none⟩) (fun K hK => ?_)
          refine st_store5 sizePiece rfl (.tmp 5) (.tmp 42) rfl _ _ (pc5 (pe : Int) (pn : Int) f g (.slice Ac x9 cc)) HZC.out rfl rfl (pc5_one _ _ _ _ _ _ _) rfl rfl ?_
          have KE := Lib.hid (k89 (HRX.out.put HBZ.out (pc5 (pe : Int) (pn : Int) f g (.slice Ac x9 cc)).toList) HX8.out HX9.out)
          have HFIN := Lib.hid (made_fin (P := P) HZC.out rfl HCS.out HDL.out HCA.out HWZ.out HFZ.out HPE.out HPN.out HF.out HG.out)
          refine hK.out _ _ (by first | with_reducible exact KE.out | with_reducible exact KD.out | with_reducible exact KC.out | with_reducible exact KA.out | with_reducible exact K0.out) (fun hHeld => ?_)
          replace hH := Lib.hid hHeld
          clear hK K hHeld
          try simp only [Act.put]
          refine wpAnyH_done (by kernel_rfl) ?_ _
          go_wp2_with fail
          go_meet
          exact HFIN.out
      · go_simp
        refine hK.out _ _ (by first | with_reducible exact KE.out | with_reducible exact KD.out | with_reducible exact KC.out | with_reducible exact KA.out | with_reducible exact K0.out) (fun hHeld => ?_)
        replace hH := Lib.hid hHeld
        clear hK K hHeld
        try simp only [Act.put, sA, sB, sC]
        refine rdy (i := 3) (oi := ⟨some 24, .call ⟨.value (.func 169), #[.tmp 23], #[38]⟩, 38, "lap.go:87", #[⟨2, .data⟩, ⟨1, .chain⟩], none⟩) (fun K hK => ?_)
        go_simp
        refine (count_any s HV8.out _).mono ?_
        rintro x w1 ⟨rfl, rfl⟩
        rw [← HPN'.out]
        go_wp2_with fail
        refine hK.out _ _ (by first | with_reducible exact KE.out | with_reducible exact KD.out | with_reducible exact KC.out | with_reducible exact KA.out | with_reducible exact K0.out) (fun hHeld => ?_)
        replace hH := Lib.hid hHeld
        clear hK K hHeld
        try simp only [Act.put, sA, sB, sC]
        refine rdy (i := 20) (oi := ⟨some 41, .call ⟨.value (.func 170), #[.tmp 40], #[118]⟩, 118, "lap.go:90", #[⟨19, .data⟩, ⟨3, .chain⟩], none⟩) (fun K hK => ?_)
        go_simp
        refine (lclone_any _ x9 _ _ (HR2.out.up (.cells #[.int .u64 0, .int .u64 0, .bool false, .bool false, .slice none 0 0] 177)).drew (u8_one _) H9B.out).mono ?_
        rintro x wc ⟨vc, Fc, rfl, hc, ac⟩
        obtain ⟨Ac, cc, rfl, _, _⟩ := hc.form0
        have HRX := Lib.hid ((HR.out.up (.cells #[.int .u64 0, .int .u64 0, .bool false, .bool false, .slice none 0 0] 177)).drew.far (fun _ _ _ h => ac.block _ h (fun h => h)) ac.size)
        have KD := Lib.hid (k89 HRX.out HX8.out HX9.out)
        have HCS := Lib.hid hc
        have HCA := Lib.hid ((((Adv.refl Nul W).alloc (.cells #[.int .u64 0, .int .u64 0, .bool false, .bool false, .slice none 0 0] 177)).drew).over' ac)
        have HZC := Lib.hid ((Blk.new W 177 #[.int .u64 0, .int .u64 0, .bool false, .bool false, .slice none 0 0]).drew.keep (ac.block _ (Blk.new W 177 #[.int .u64 0, .int .u64 0, .bool false, .bool false, .slice none 0 0]).drew.lt (fun h => h)))
        have HWZ := Lib.hid (show W.heap.size ≤ W.heap.size from Nat.le_refl _)
        have HBZ := Lib.hid (show b ≠ W.heap.size from Nat.ne_of_lt HBW.out)
        have HFZ := Lib.hid (show ∀ k, Fc k → k ≠ W.heap.size from fun k hk e => by rcases ac.into k hk with h | h; exact h; simp at h; omega)
        clear hc ac
        go_wp2_with fail
        refine hK.out _ _ (by first | with_reducible exact KE.out | with_reducible exact KD.out | with_reducible exact KC.out | with_reducible exact KA.out | with_reducible exact K0.out) (fun hHeld => ?_)
        replace hH := Lib.hid hHeld
        clear hK K hHeld
        try simp only [Act.put, sA, sB, sC]
        refine tk (i := 21) (oi := ⟨some 42, .build 177 #[(0, .tmp 22), (1, .tmp 24), (2, .tmp 29), (3, .tmp 34), (4, .tmp 41)], 177, "lap.go:85", #[⟨1, .data⟩, ⟨3, .data⟩, ⟨8, .data⟩, ⟨13, .data⟩, ⟨20, .data⟩], none⟩) hH.out (by rintro w ⟨s0, s1⟩; go_simp <;> with_reducible rfl) ?_
        simp only [Act.put, sA, sB, sC]
        refine rdy (i := 23) (oi := ⟨none, .store 177 (.tmp 5) (.tmp 42), 0, "lap.go:85", #[⟨22, .data⟩, ⟨21, .data⟩, ⟨20, .chain⟩, ⟨0, .phase⟩, ⟨1, .phase⟩, ⟨2, .phase⟩, ⟨3, .phase⟩, ⟨4, .phase⟩, ⟨5, .phase⟩, ⟨6, .phase⟩, ⟨7, .phase⟩, ⟨8, .phase⟩, ⟨9, .phase⟩, ⟨10, .phase⟩, ⟨11, .phase⟩, ⟨12, .phase⟩, ⟨13, .phase⟩, ⟨14, .phase⟩, ⟨15, .phase⟩, ⟨16, .phase⟩, ⟨17, .phase⟩, ⟨18, .phase⟩, ⟨19, .phase⟩, ⟨20, .phase⟩, ⟨21, .phase⟩, ⟨22, .phase⟩], none⟩) (fun K hK => ?_)
        refine st_store5 sizePiece rfl (.tmp 5) (.tmp 42) rfl _ _ (pc5 (pe : Int) (pn : Int) f g (.slice Ac x9 cc)) HZC.out rfl rfl (pc5_one _ _ _ _ _ _ _) rfl rfl ?_
        have KE := Lib.hid (k89 (HRX.out.put HBZ.out (pc5 (pe : Int) (pn : Int) f g (.slice Ac x9 cc)).toList) HX8.out HX9.out)
        have HFIN := Lib.hid (made_fin (P := P) HZC.out rfl HCS.out HDL.out HCA.out HWZ.out HFZ.out HPE.out HPN.out HF.out HG.out)
        refine hK.out _ _ (by first | with_reducible exact KE.out | with_reducible exact KD.out | with_reducible exact KC.out | with_reducible exact KA.out | with_reducible exact K0.out) (fun hHeld => ?_)
        replace hH := Lib.hid hHeld
        clear hK K hHeld
        try simp only [Act.put]
        refine wpAnyH_done (by kernel_rfl) ?_ _
        go_wp2_with fail
        go_meet
        exact HFIN.out
    · go_simp
      refine hK.out _ _ (by first | with_reducible exact KE.out | with_reducible exact KD.out | with_reducible exact KC.out | with_reducible exact KA.out | with_reducible exact K0.out) (fun hHeld => ?_)
      replace hH := Lib.hid hHeld
      clear hK K hHeld
      try simp only [Act.put, sA, sB, sC]
      refine rdy (i := 1) (oi := ⟨some 22, .call ⟨.value (.func 139), #[.tmp 21], #[38]⟩, 38, "lap.go:86", #[⟨0, .data⟩], none⟩) (fun K hK => ?_)
      go_simp
      refine (epoch_any s _).mono ?_
      rintro x w1 ⟨rfl, rfl⟩
      rw [← HPE'.out]
      go_wp2_with fail
      refine hK.out _ _ (by first | with_reducible exact KE.out | with_reducible exact KD.out | with_reducible exact KC.out | with_reducible exact KA.out | with_reducible exact K0.out) (fun hHeld => ?_)
      replace hH := Lib.hid hHeld
      clear hK K hHeld
      try simp only [Act.put, sA, sB, sC]
      refine rdy (i := 3) (oi := ⟨some 24, .call ⟨.value (.func 169), #[.tmp 23], #[38]⟩, 38, "lap.go:87", #[⟨2, .data⟩, ⟨1, .chain⟩], none⟩) (fun K hK => ?_)
      go_simp
      refine (count_any s HV8.out _).mono ?_
      rintro x w1 ⟨rfl, rfl⟩
      rw [← HPN'.out]
      go_wp2_with fail
      refine hK.out _ _ (by first | with_reducible exact KE.out | with_reducible exact KD.out | with_reducible exact KC.out | with_reducible exact KA.out | with_reducible exact K0.out) (fun hHeld => ?_)
      replace hH := Lib.hid hHeld
      clear hK K hHeld
      try simp only [Act.put, sA, sB, sC]
      refine rdy (i := 20) (oi := ⟨some 41, .call ⟨.value (.func 170), #[.tmp 40], #[118]⟩, 118, "lap.go:90", #[⟨19, .data⟩, ⟨3, .chain⟩], none⟩) (fun K hK => ?_)
      go_simp
      refine (lclone_any _ x9 _ _ (HR2.out.up (.cells #[.int .u64 0, .int .u64 0, .bool false, .bool false, .slice none 0 0] 177)).drew (u8_one _) H9B.out).mono ?_
      rintro x wc ⟨vc, Fc, rfl, hc, ac⟩
      obtain ⟨Ac, cc, rfl, _, _⟩ := hc.form0
      have HRX := Lib.hid ((HR.out.up (.cells #[.int .u64 0, .int .u64 0, .bool false, .bool false, .slice none 0 0] 177)).drew.far (fun _ _ _ h => ac.block _ h (fun h => h)) ac.size)
      have KD := Lib.hid (k89 HRX.out HX8.out HX9.out)
      have HCS := Lib.hid hc
      have HCA := Lib.hid ((((Adv.refl Nul W).alloc (.cells #[.int .u64 0, .int .u64 0, .bool false, .bool false, .slice none 0 0] 177)).drew).over' ac)
      have HZC := Lib.hid ((Blk.new W 177 #[.int .u64 0, .int .u64 0, .bool false, .bool false, .slice none 0 0]).drew.keep (ac.block _ (Blk.new W 177 #[.int .u64 0, .int .u64 0, .bool false, .bool false, .slice none 0 0]).drew.lt (fun h => h)))
      have HWZ := Lib.hid (show W.heap.size ≤ W.heap.size from Nat.le_refl _)
      have HBZ := Lib.hid (show b ≠ W.heap.size from Nat.ne_of_lt HBW.out)
      have HFZ := Lib.hid (show ∀ k, Fc k → k ≠ W.heap.size from fun k hk e => by rcases ac.into k hk with h | h; exact h; simp at h; omega)
      clear hc ac
      go_wp2_with fail
      refine hK.out _ _ (by first | with_reducible exact KE.out | with_reducible exact KD.out | with_reducible exact KC.out | with_reducible exact KA.out | with_reducible exact K0.out) (fun hHeld => ?_)
      replace hH := Lib.hid hHeld
      clear hK K hHeld
      try simp only [Act.put, sA, sB, sC]
      refine tk (i := 21) (oi := ⟨some 42, .build 177 #[(0, .tmp 22), (1, .tmp 24), (2, .tmp 29), (3, .tmp 34), (4, .tmp 41)], 177, "lap.go:85", #[⟨1, .data⟩, ⟨3, .data⟩, ⟨8, .data⟩, ⟨13, .data⟩, ⟨20, .data⟩], none⟩) hH.out (by rintro w ⟨s0, s1⟩; go_simp <;> with_reducible rfl) ?_
      simp only [Act.put, sA, sB, sC]
      refine rdy (i := 23) (oi := ⟨none, .store 177 (.tmp 5) (.tmp 42), 0, "lap.go:85", #[⟨22, .data⟩, ⟨21, .data⟩, ⟨20, .chain⟩, ⟨0, .phase⟩, ⟨1, .phase⟩, ⟨2, .phase⟩, ⟨3, .phase⟩, ⟨4, .phase⟩, ⟨5, .phase⟩, ⟨6, .phase⟩, ⟨7, .phase⟩, ⟨8, .phase⟩, ⟨9, .phase⟩, ⟨10, .phase⟩, ⟨11, .phase⟩, ⟨12, .phase⟩, ⟨13, .phase⟩, ⟨14, .phase⟩, ⟨15, .phase⟩, ⟨16, .phase⟩, ⟨17, .phase⟩, ⟨18, .phase⟩, ⟨19, .phase⟩, ⟨20, .phase⟩, ⟨21, .phase⟩, ⟨22, .phase⟩], none⟩) (fun K hK => ?_)
      refine st_store5 sizePiece rfl (.tmp 5) (.tmp 42) rfl _ _ (pc5 (pe : Int) (pn : Int) f g (.slice Ac x9 cc)) HZC.out rfl rfl (pc5_one _ _ _ _ _ _ _) rfl rfl ?_
      have KE := Lib.hid (k89 (HRX.out.put HBZ.out (pc5 (pe : Int) (pn : Int) f g (.slice Ac x9 cc)).toList) HX8.out HX9.out)
      have HFIN := Lib.hid (made_fin (P := P) HZC.out rfl HCS.out HDL.out HCA.out HWZ.out HFZ.out HPE.out HPN.out HF.out HG.out)
      refine hK.out _ _ (by first | with_reducible exact KE.out | with_reducible exact KD.out | with_reducible exact KC.out | with_reducible exact KA.out | with_reducible exact K0.out) (fun hHeld => ?_)
      replace hH := Lib.hid hHeld
      clear hK K hHeld
      try simp only [Act.put]
      refine wpAnyH_done (by kernel_rfl) ?_ _
      go_wp2_with fail
      go_meet
      exact HFIN.out
  case rest =>
  obtain ⟨zp, a5, k5, F5, rfl, hB5, hS5, hA5⟩ := hcut
  have hz5 := HZ.out.keep (hA5.block z HZ.out.lt (fun h => h))
  have hr5 := HR.out.far (fun _ _ _ h => hA5.block _ h (fun h => h)) hA5.size
  have hzF : ∀ k, F5 k → k ≠ z := fun k hk e => by
    rcases hA5.into k hk with h | h
    · exact h
    · have := HZ.out.lt; omega
  obtain ⟨d0, d1, d2, d3, d4⟩ := hB5.five
  have hds := hS5.rd
  have HZ5 := Lib.hid hz5
  have HR5 := Lib.hid hr5
  have HZF := Lib.hid hzF
  have HB5 := Lib.hid hB5
  have HS5 := Lib.hid hS5
  have HA5 := Lib.hid (HA.out.trans hA5)
  have HDS := Lib.hid hds
  have HLL := Lib.hid (show w.heap.size ≤ z by have := HZZ.out; omega)
  clear hz5 hr5 hzF hB5 hS5 hA5 hds
  obtain ⟨q, hq⟩ : ∃ q, q = P.d.length := ⟨_, rfl⟩
  obtain ⟨pf, hpf⟩ : ∃ x, x = P.f := ⟨_, rfl⟩
  obtain ⟨pg, hpg⟩ : ∃ x, x = P.g := ⟨_, rfl⟩
  rw [← HPE.out] at d0
  rw [← HPN.out] at d1
  rw [← hpf] at d2
  rw [← hpg] at d3
  rw [← hq] at d4
  have hseal := seal_ok P _ wc HOK.out HDS.out HDB.out
  rw [← HPE.out, ← HPN.out, ← hpf, ← hpg, ← hq] at hseal
  have HSEAL := Lib.hid hseal
  have HQ := Lib.hid hq
  have HPF := Lib.hid hpf
  have HPG := Lib.hid hpg
  clear hseal hq hpf hpg
  go_wp2_with fail
  refine (HSEAL.out).mono ?_
  rintro x w2 ⟨v2, F2, rfl, h2, a2⟩
  obtain ⟨g2, e2, rfl, _, _⟩ := h2.form0
  have hb2 := HB5.out.keep (a2.block zp HB5.out.lt (fun h => h))
  obtain ⟨d0, d1, d2, d3, d4⟩ := hb2.five
  rw [← HPE.out] at d0
  rw [← HPN.out] at d1
  rw [← HPF.out] at d2
  rw [← HPG.out] at d3
  rw [← HQ.out] at d4
  have HZ2 := Lib.hid (HZ5.out.keep (a2.block z HZ5.out.lt (fun h => h)))
  have HR2' := Lib.hid (HR5.out.far (fun _ _ _ h => a2.block _ h (fun h => h)) a2.size)
  have HS2 := Lib.hid (HS5.out.far a2 (fun _ h _ => h))
  have HA2 := Lib.hid (HA5.out.over a2)
  have HE2 := Lib.hid h2.rd
  have HSL := Lib.hid (sealL_lt HOK.out.2.2 HDB.out)
  clear h2 a2 hb2
  by_cases hw : sealL P = l
  · have HWH := Lib.hid (show Whole l from ⟨HR.out.len8, by rw [← HX9.out]; exact H9.out, by rw [← HP.out]; exact hw⟩)
    have HDC := Lib.hid (decide_eq_true hw)
    clear hw
    go_wp2_with (first
      | (go_at_call 117; refine (equal_any _ _ 128 128 _ _ _ HE2.out HR2'.out HSL.out HL.out).mono ?_; rintro x w3 ⟨rfl, rfl⟩; rw [HDC.out])
      | (refine op_store5 sizePiece rfl (.tmp 2) (.tmp 57) rfl z _ (pc5 (pe : Int) (pn : Int) pf pg (.slice a5 q k5)) HZ2.out rfl rfl (pc5_one _ _ _ _ _ _ _) rfl rfl ?_)
      | fail)
    obtain ⟨hz0, hz1, hz2, hz3, hz4⟩ := (HZ2.out.putAll (D := pc5 (pe : Int) (pn : Int) pf pg (.slice a5 q k5)) rfl).five
    have hfin : UnR w l (.returned (.tuple #[.agg #[.int .u64 (pe : Int), .int .u64 (pn : Int), .bool pf, .bool pg, .slice a5 q k5], .int .i64 0])) (w2.setCells z 0 (pc5 (pe : Int) (pn : Int) pf pg (.slice a5 q k5)).toList) := by
      have hs := HS2.out.put HZF.out (pc5 (pe : Int) (pn : Int) pf pg (.slice a5 q k5)).toList
      have h := UnR.some HWH.out (by rw [← HP.out]; exact hs) (Adv.lsetCells _ 0 _ HA2.out (.inr HLL.out))
      rw [← HP.out, ← HPE.out, ← HPN.out, ← HPF.out, ← HPG.out, ← HQ.out] at h
      exact h
    exact bodyPost_ret (v := .tuple #[.agg #[.int .u64 (pe : Int), .int .u64 (pn : Int), .bool pf, .bool pg, .slice a5 q k5], .int .i64 0]) (by simp [results, Tryz.results141, go_sem, hz0, hz1, hz2, hz3, hz4]) rfl hfin
  · have HWH := Lib.hid (show ¬ Whole l from fun h => hw (by rw [HP.out]; exact h.2.2))
    have HDC := Lib.hid (decide_eq_false hw)
    clear hw
    go_wp2_with (first
      | (go_at_call 117; refine (equal_any _ _ 128 128 _ _ _ HE2.out HR2'.out HSL.out HL.out).mono ?_; rintro x w3 ⟨rfl, rfl⟩; rw [HDC.out])
      | (refine op_store5 sizePiece rfl (.tmp 2) (.tmp 56) rfl z _ (pc5 0 0 false false (.slice none 0 0)) HZ2.out rfl rfl (pc5_one _ _ _ _ _ _ _) rfl rfl ?_)
      | fail)
    obtain ⟨hz0, hz1, hz2, hz3, hz4⟩ := (HZ2.out.putAll (D := pc5 0 0 false false (.slice none 0 0)) rfl).five
    have hfin := UnR.none HWH.out ((Adv.lsetCells (pc5 0 0 false false (.slice none 0 0)).toList 0 _ HA2.out (.inr HLL.out)).sub (G := Nul) (fun _ h => h.elim))
    exact bodyPost_ret (v := .tuple #[.agg #[.int .u64 0, .int .u64 0, .bool false, .bool false, .slice none 0 0], .int .i64 4]) (by simp [results, Tryz.results141, go_sem, hz0, hz1, hz2, hz3, hz4]) rfl hfin
end Go.Proofs.YtcglfknkkeaegaaGreatDoor
namespace Go.Proofs.YtcglfknkkeaegaaGreatDoor
open Go.ChangeShapes Go.WideShapes Go.ChangeAt Go.RowKit Go.Deep

set_option maxRecDepth 3000 in
theorem unseal_any (v : Value) (n : Nat) (l : List Nat) (w : World) (h : Rd w 1 v n (l.map u8)) (hl : ∀ x ∈ l, x < 256) : Calls Tryz.prog 141 #[v] w (UnR w l) := by
  by_cases hn : n = 128
  · subst hn
    by_cases h9 : l.getD 9 0 ≤ 106
    · exact unseal_len v l w h hl h9
    · exact unseal_bad v _ l w h (.inr (by omega))
  · exact unseal_bad v n l w h (.inl hn)
end Go.Proofs.YtcglfknkkeaegaaGreatDoor
namespace Go.Proofs.YtcglfknkkeaegaaGreatDoor
open Go.RowKit

def sealE (p : Pc) : Int := if p.ok then 0 else 2
def SealO (w : World) (p : Pc) (x : Ending) (w' : World) : Prop :=
  ∃ A m k F, x = .returned (.tuple #[.slice A m k, .int .i64 (sealE p)]) ∧ Adv Nul w F w' ∧ (p.ok → m = 128 ∧ Sl w' F 5 1 (.slice A 128 k) 128 ((sealL p).map u8)) ∧ (¬ p.ok → A = none ∧ m = 0 ∧ k = 0)
theorem seal_any (p : Pc) (v : Value) (w : World) (hv : Rd w 1 v p.d.length (p.d.map u8)) (hd : ∀ x ∈ p.d, x < 256) :
    Calls Tryz.prog 164 #[.agg #[.int .u64 (p.e : Int), .int .u64 (p.c : Int), .bool p.f, .bool p.g, v]] w (SealO w p) := by
  by_cases h : p.ok
  · refine (seal_ok p v w h hv hd).mono ?_
    rintro x w' ⟨v', F, rfl, h1, a1⟩
    obtain ⟨A, k, rfl, _, _⟩ := h1.form0
    exact ⟨A, 128, k, F, by rw [sealE, if_pos h], a1, fun _ => ⟨rfl, h1⟩, fun h' => absurd h h'⟩
  · refine (seal_no p v w h hv).mono ?_
    rintro x w' ⟨rfl, a1⟩
    exact ⟨none, 0, 0, Nul, by rw [sealE, if_neg h], a1, fun h' => absurd h' h, fun _ => ⟨rfl, rfl, rfl⟩⟩
end Go.Proofs.YtcglfknkkeaegaaGreatDoor
namespace Go.Proofs.YtcglfknkkeaegaaGreatDoor
open Go.RowKit
end Go.Proofs.YtcglfknkkeaegaaGreatDoor
namespace Go.Proofs.YtcglfknkkeaegaaGreatDoor

structure Hd where
  g : Nat
  t : Nat
  f : Nat
def hdata (h : Hd) : List Nat := be 8 (h.t * 16777216 + h.f)
def hPc (e : Nat) (h : Hd) : Pc := ⟨e, h.g, true, true, hdata h⟩
def hOk (e : Nat) (h : Hd) : Prop := (e ≤ 16777215 ∧ h.g ≤ 1099511627775) ∧ h.t < 1099511627776 ∧ h.f < 16777216
instance (e : Nat) (h : Hd) : Decidable (hOk e h) := by unfold hOk; exact inferInstance
def hSec (e : Nat) (h : Hd) : List Nat := sealL (hPc e h)
/-- the head that a sector is, if it is one's -/
def unHd (l : List Nat) : Option Hd := if Whole l ∧ (dec l).f = true ∧ (dec l).g = true ∧ (dec l).d.length = 8 then some ⟨(dec l).c, val (dec l).d / 16777216, val (dec l).d % 16777216⟩ else none

theorem hdata_length (h : Hd) : (hdata h).length = 8 := be_length 8 _
theorem hdata_lt (h : Hd) : ∀ x ∈ hdata h, x < 256 := fun x hx => be_lt 8 _ x hx
theorem hPc_ok {e : Nat} {h : Hd} (k : hOk e h) : (hPc e h).ok := ⟨k.1.1, k.1.2, by show (hdata h).length ≤ 106; rw [hdata_length]; decide⟩
theorem hSec_length {e : Nat} {h : Hd} (k : hOk e h) : (hSec e h).length = 128 := sealL_length (hPc_ok k).2.2
theorem hSec_lt {e : Nat} {h : Hd} (k : hOk e h) : ∀ x ∈ hSec e h, x < 256 := sealL_lt (hPc_ok k).2.2 (hdata_lt h)
theorem hdata_val {h : Hd} (ht : h.t < 1099511627776) (hf : h.f < 16777216) : val (hdata h) = h.t * 16777216 + h.f := by
  unfold hdata
  rw [val_be]
  refine Nat.mod_eq_of_lt ?_
  have e : (256 : Nat) ^ 8 = 18446744073709551616 := by decide
  rw [e]
  omega
theorem unHd_hSec {e : Nat} {h : Hd} (k : hOk e h) : unHd (hSec e h) = some h := by
  have ho := hPc_ok k
  have e1 : dec (hSec e h) = hPc e h := dec_seal ho
  have ev : val (hdata h) = h.t * 16777216 + h.f := hdata_val k.2.1 k.2.2
  unfold unHd
  rw [e1, if_pos ⟨seal_whole ho, rfl, rfl, hdata_length h⟩]
  show some (Hd.mk h.g (val (hdata h) / 16777216) (val (hdata h) % 16777216)) = some h
  rw [ev]
  have a1 : (h.t * 16777216 + h.f) / 16777216 = h.t := by have := k.2.2; omega
  have a2 : (h.t * 16777216 + h.f) % 16777216 = h.f := by have := k.2.2; omega
  rw [a1, a2]
/-- the bits that are read of a piece's bytes -/
theorem be_of_val {l : List Nat} (hl : ∀ x ∈ l, x < 256) : be l.length (val l) = l := be_val l.length l rfl hl
theorem val_lt8 {l : List Nat} (h8 : l.length = 8) (hl : ∀ x ∈ l, x < 256) : val l < 18446744073709551616 := by
  have h := val_lt 8 l h8 hl
  have e : (256 : Nat) ^ 8 = 18446744073709551616 := by decide
  rw [e] at h
  exact h
theorem bits_tail {V : Nat} (hV : V < 18446744073709551616) : bitsAt 8 V 0 40 = V / 16777216 := by
  unfold bitsAt
  have e : 2 ^ (8 * 8 - 0 - 40) = 16777216 := by decide
  have e2 : 2 ^ 40 = 1099511627776 := by decide
  rw [e, e2]
  omega
theorem bits_floor (V : Nat) : bitsAt 8 V 40 24 = V % 16777216 := by
  unfold bitsAt
  have e : 2 ^ (8 * 8 - 40 - 24) = 1 := by decide
  have e2 : 2 ^ 24 = 16777216 := by decide
  rw [e, e2, Nat.div_one]
theorem row64 (t f : Nat) : rowOf (t * 2 ^ 24 + f) 64 = be 8 (t * 16777216 + f) := by
  have e1 : qn 64 = 8 := by decide
  have e2 : pad 64 = 0 := by decide
  unfold rowOf
  rw [e1, e2, Nat.pow_zero, Nat.mul_one]
end Go.Proofs.YtcglfknkkeaegaaGreatDoor
