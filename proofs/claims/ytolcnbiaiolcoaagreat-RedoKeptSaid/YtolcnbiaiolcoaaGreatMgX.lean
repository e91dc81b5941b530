/- Pieces handed over: mine, plain; structs stored whole. Pieces compared; ends of a sector; parts of bytes that can be read. -/
import Derived.Test.YtolcnbiaiolcoaaGreatLpR
namespace Go.Proofs.YtolcnbiaiolcoaaGreat
open Go.RowKit

theorem Blk.lsetCells {g : Nat} {t : TypeId} : ∀ (vs : List Value) (o : Nat) (w : World) (cs : Array Value), Blk w g t cs → ∃ cs', Blk (w.setCells g o vs) g t cs' ∧ cs'.size = cs.size
  | [], _, _, cs, h => ⟨cs, h, rfl⟩
  | v :: r, o, w, cs, h => by
    rw [World.setCells]
    obtain ⟨cs', h1, h2⟩ := Blk.lsetCells r (o + 1) _ _ (h.set_ o v)
    exact ⟨cs', h1, by rw [h2]; simp⟩


theorem Blk.putAll {w : World} {g : Nat} {t : TypeId} {C D : Array Value} (h : Blk w g t C) (hs : D.size = C.size) : Blk (w.setCells g 0 D.toList) g t D := by
  obtain ⟨C', h1, h2⟩ := Blk.lsetCells D.toList 0 w C h
  have e : C' = D := by
    apply Array.ext (by omega)
    intro k hk1 hk2
    have hin := World.cell?_setCells_in g D.toList 0 w (fun j hj => by
      rw [h.cell (0 + j), Nat.zero_add, Array.getElem?_eq_getElem (by simp at hj; omega)]; rfl) k (by simpa using hk2)
    rw [Nat.zero_add, h1.cell k, Array.getElem?_eq_getElem hk1] at hin
    simpa using hin
  rw [← e]; rw [e] at h1 ⊢; exact h1
theorem Blk.five {w : World} {b : Nat} {t : TypeId} {a0 a1 a2 a3 a4 : Value} (h : Blk w b t #[a0, a1, a2, a3, a4]) : w.cell? ⟨b, 0, none⟩ = some a0 ∧ w.cell? ⟨b, 1, none⟩ = some a1 ∧ w.cell? ⟨b, 2, none⟩ = some a2 ∧ w.cell? ⟨b, 3, none⟩ = some a3 ∧ w.cell? ⟨b, 4, none⟩ = some a4 :=
  ⟨h.cell 0, h.cell 1, h.cell 2, h.cell 3, h.cell 4⟩
theorem Blk.there {w : World} {g : Nat} {t : TypeId} {C : Array Value} (h : Blk w g t C) : w.there g 0 C.size := fun j hj =>
  ⟨by rw [h.cell (0 + j), Nat.zero_add, Array.getElem?_eq_getElem hj]; rfl, h.frozen (0 + j)⟩
theorem sizePiece : (Tryz.prog.info? 100).map (·.size) = some 5 := by kernel_rfl
theorem sizeRPiece : (Tryz.prog.info? 91).map (·.size) = some 5 := by kernel_rfl
def pc5 (e c : Int) (f g : Bool) (v : Value) : Array Value := #[.int .u64 e, .int .u64 c, .bool f, .bool g, v]
theorem pc5_one (e c : Int) (f g : Bool) (A : Option Addr) (m k : Nat) : (pc5 e c f g (.slice A m k)).all (·.oneCell') = true := by simp [pc5, Value.oneCell']
theorem st_store5 {ops : Array Oper} {o : Oper} {a : Act} {w : World} {Q : Exit → Act → World → Prop} {K : Act → World → Prop} {E : Prop} {t t' : TypeId} (hsz : (Tryz.prog.info? t).map (·.size) = some 5) (hgd : o.guard = none) (x y : Operand) (ho : o.op = .store t x y)
    (z : Nat) (C D : Array Value) (hB : Blk w z t' C) (hC : C.size = 5) (hD : D.size = 5) (h1 : D.all (·.oneCell') = true) (hx : a.eval x = .pointer (some ⟨z, 0, none⟩)) (hy : a.eval y = .agg D)
    (h : K (a.put o.dst undef) (w.setCells z 0 D.toList)) : if Region.wanted o (yielded ops a.tmps) = true then Oper.wp Tryz.prog o a w K Q else E := by
  rw [if_pos (by simp [Region.wanted, hgd])]
  refine wp_store_mid t x y ho z 0 D hx hy ?_ (by rw [hsz, hD]) h1 h
  have := hB.there
  rw [hC] at this
  rw [hD]; exact this

/-- a piece that came back: its data in new memory -/
def MineR (w : World) (e c : Int) (f g : Bool) (l : List Nat) (x : Ending) (w' : World) : Prop :=
  ∃ a k F, x = .returned (.agg #[.int .u64 e, .int .u64 c, .bool f, .bool g, .slice a l.length k]) ∧ Sl w' F 5 1 (.slice a l.length k) l.length (l.map u8) ∧ Adv Nul w F w'
end Go.Proofs.YtolcnbiaiolcoaaGreat
namespace Go.Proofs.YtolcnbiaiolcoaaGreat
open Go.RowKit

theorem Rd.sub {w : World} {b o n c : Nat} {l : List Nat} (h : Rd w 1 (.slice (some ⟨b, o, none⟩) n c) n (l.map u8)) (s m c' : Nat) (hs : s + m ≤ n) (hc : m ≤ c') (hc' : c' ≤ maxLen) : Rd w 1 (.slice (some ⟨b, o + s, none⟩) m c') m (((l.drop s).take m).map u8) := by
  have hl : l.length = n := by obtain ⟨_, _, _, _, _, h, _⟩ := h; simpa using h
  refine ⟨_, c', rfl, hc, hc', by simp; omega, fun e => (by cases e), fun h0 => ?_⟩
  obtain ⟨b', o', e, hb, hcell⟩ := h.cells (by omega) (by decide)
  injection e with e
  injection e with e1 e2
  subst e1 e2
  refine ⟨_, rfl, hb, fun j u hu => ?_⟩
  rw [List.map_take, List.getElem?_take] at hu
  split at hu
  · rw [add_none, Nat.add_assoc]
    exact hcell (s + j) u (by rw [List.map_drop, List.getElem?_drop] at hu; exact hu)
  · cases hu
theorem Rd.drew {w : World} {v : Value} {n : Nat} {xs : List Value} (h : Rd w 1 v n xs) : Rd w.drew 1 v n xs := h
theorem Rd.len8 {w : World} {v : Value} {n : Nat} {l : List Nat} (h : Rd w 1 v n (l.map u8)) : l.length = n := by obtain ⟨_, _, _, _, _, h, _⟩ := h; simpa using h
theorem Rd.adr {w : World} {v : Value} {n : Nat} {l : List Nat} (h : Rd w 1 v n (l.map u8)) (hn : 0 < n) : ∃ b o c, v = .slice (some ⟨b, o, none⟩) n c ∧ b < w.heap.size ∧ n ≤ c ∧ c ≤ maxLen := by
  obtain ⟨A, c, rfl, h1, h2⟩ := h.form
  obtain ⟨b, o, rfl, hb, _⟩ := h.cells hn (by decide)
  exact ⟨b, o, c, rfl, hb, h1, h2⟩
theorem Rd.at8 {w : World} {b o n c : Nat} {l : List Nat} (h : Rd w 1 (.slice (some ⟨b, o, none⟩) n c) n (l.map u8)) {k : Nat} (hk : k < n) : w.cell? ⟨b, o + k, none⟩ = some (.int .u8 ((l.getD k 0 : Nat) : Int)) := by
  have hl := h.len8
  obtain ⟨b', o', e, hb, hcell⟩ := h.cells (by omega) (by decide)
  injection e with e
  injection e with e1 e2
  subst e1 e2
  rw [hcell k (u8 (l.getD k 0)) (by rw [List.getElem?_map, List.getD_eq_getElem?_getD, List.getElem?_eq_getElem (by omega)]; rfl)]
  rfl

set_option maxRecDepth 3000 in
theorem ends_none (v : Value) (n : Nat) (l : List Nat) (w : World) (h : Rd w 1 v n (l.map u8)) (hn : n ≠ 128) :
    Calls Tryz.prog 69 #[v] w fun x w' => x = .returned (.tuple #[.int .u64 0, .int .u64 0]) ∧ w = w' := by
  obtain ⟨A, c, rfl, _, hc⟩ := h.form
  unfold maxLen at hc
  have hb : ((n : Int) != 128) = true := by rw [bne_iff_ne]; omega
  clear h hn
  go_enter Tryz.func69, Tryz.ntmps69
  go_wp2_with fail
  go_ret2
  exact ⟨rfl, rfl⟩
set_option maxRecDepth 3000 in
set_option maxHeartbeats 800000 in
theorem ends_any (v : Value) (l : List Nat) (w : World) (h : Rd w 1 v 128 (l.map u8)) (hl : ∀ x ∈ l, x < 256) :
    Calls Tryz.prog 69 #[v] w fun x w' => x = .returned (.tuple #[.int .u64 ((val (l.take 8) / 1099511627776 : Nat) : Int), .int .u64 ((val (l.drop 120) / 1099511627776 : Nat) : Int)]) ∧ ∃ k, w' = w.drewN k := by
  have hll := h.len8
  obtain ⟨b, o, c, rfl, _, hnc, hcm⟩ := h.adr (by decide)
  have h1 := h.sub 0 8 c (by decide) (by omega) hcm
  have h2 := h.sub 120 8 (c - 120) (by decide) (by omega) (by omega)
  rw [Nat.add_zero, List.drop_zero] at h1
  rw [List.take_of_length_le (by simp; omega)] at h2
  unfold maxLen at hcm
  have H1 := Lib.hid h1
  have H2 := Lib.hid h2
  have L1 := Lib.hid (show ∀ x ∈ l.take 8, x < 256 from fun x hx => hl x (List.mem_of_mem_take hx))
  have L2 := Lib.hid (show ∀ x ∈ l.drop 120, x < 256 from fun x hx => hl x (List.mem_of_mem_drop hx))
  have hc120 : (120 : Int) ≤ (c : Int) := by omega
  have hc8 : (8 : Int) ≤ (c : Int) := by omega
  have hc1 : (128 : Int) ≤ (c : Int) := by omega
  have hcn : ¬ c = 120 := by omega
  clear h hl hll h1 h2 hnc
  obtain ⟨a, ha⟩ : ∃ a, a = val (l.take 8) := ⟨_, rfl⟩
  obtain ⟨d, hd⟩ : ∃ d, d = val (l.drop 120) := ⟨_, rfl⟩
  have HA := Lib.hid ha
  have HD := Lib.hid hd
  rw [← ha, ← hd]
  clear ha hd
  go_enter Tryz.func69, Tryz.ntmps69
  go_wp2_with fail
  refine wp_region_held_drew (S := (fun _ => True)) (by kernel_rfl) (by first | trivial) (fun hHeld => ?_)
  clear hHeld
  refine wpAnyH_take (i := 0) (oi := ⟨some 7, .move (.tmp 0), 53, "lap.go:104", #[], none⟩) (v := ?_) rfl (by kernel_rfl) (by kernel_rfl) (by kernel_rfl) (fun _ _ _ h => h) (Or.inl ⟨by rfl, ?_⟩) (by first | trivial) ?_
  rotate_left
  · (intro w hSw; obtain _ := hSw; go_simp <;> with_reducible rfl)
  simp only [Act.put, List.setIfInBounds_toArray, List.set_cons_zero, List.set_cons_succ]
  refine wpAnyH_take (i := 1) (oi := ⟨some 8, .slice 53 (.tmp 7) none (some (.const (Go.Value.int Go.IntKind.i64 8))) none, 53, "lap.go:104", #[⟨0, .data⟩], none⟩) (v := ?_) rfl (by kernel_rfl) (by kernel_rfl) (by kernel_rfl) (fun _ _ _ h => h) (Or.inl ⟨by rfl, ?_⟩) (by first | trivial) ?_
  rotate_left
  · (intro w hSw; obtain _ := hSw; go_simp <;> with_reducible rfl)
  simp only [Act.put, List.setIfInBounds_toArray, List.set_cons_zero, List.set_cons_succ]
  refine wpAnyH_take (i := 4) (oi := ⟨some 11, .move (.tmp 0), 53, "lap.go:104", #[], none⟩) (v := ?_) rfl (by kernel_rfl) (by kernel_rfl) (by kernel_rfl) (fun _ _ _ h => h) (Or.inl ⟨by rfl, ?_⟩) (by first | trivial) ?_
  rotate_left
  · (intro w hSw; obtain _ := hSw; go_simp <;> with_reducible rfl)
  simp only [Act.put, List.setIfInBounds_toArray, List.set_cons_zero, List.set_cons_succ]
  refine wpAnyH_take (i := 5) (oi := ⟨some 12, .slice 53 (.tmp 11) (some (.const (Go.Value.int Go.IntKind.i64 120))) none none, 53, "lap.go:104", #[⟨4, .data⟩], none⟩) (v := ?_) rfl (by kernel_rfl) (by kernel_rfl) (by kernel_rfl) (fun _ _ _ h => h) (Or.inl ⟨by rfl, ?_⟩) (by first | trivial) ?_
  rotate_left
  · (intro w hSw; obtain _ := hSw; go_simp <;> with_reducible rfl)
  simp only [Act.put, List.setIfInBounds_toArray, List.set_cons_zero, List.set_cons_succ]
  refine wpAnyH_ready (rs := [2]) (by kernel_rfl) (by simp) ?_
  refine AllReadyH.cons (o := ⟨some 9, .call { callee := Go.Callee.value (.func 98), args := #[Go.Operand.tmp 8], argTypes := #[53] }, 49, "lap.go:104", #[⟨1, .data⟩], none⟩) rfl (fun K hK => ?_) AllReadyH.nil
  go_simp
  refine (number_any _ 8 _ _ H1.out.drew (by decide) L1.out).mono ?_
  rintro x w1 ⟨rfl, rfl⟩
  rw [← HA.out]
  go_wp2_with fail
  refine hK.out _ _ (by first | trivial) (fun hHeld => ?_)
  clear hK K hHeld
  try simp only [Act.put, List.setIfInBounds_toArray, List.set_cons_zero, List.set_cons_succ]
  refine wpAnyH_ready (rs := [3]) (by kernel_rfl) (by simp) ?_
  refine AllReadyH.cons (o := ⟨some 10, .call { callee := Go.Callee.value (.func 97), args := #[Go.Operand.tmp 9], argTypes := #[49] }, 49, "lap.go:104", #[⟨2, .data⟩, ⟨2, .chain⟩], none⟩) rfl (fun K hK => ?_) AllReadyH.nil
  go_simp
  refine (epoch_any a _).mono ?_
  rintro x w1 ⟨rfl, rfl⟩
  go_wp2_with fail
  refine hK.out _ _ (by first | trivial) (fun hHeld => ?_)
  clear hK K hHeld
  try simp only [Act.put, List.setIfInBounds_toArray, List.set_cons_zero, List.set_cons_succ]
  refine wpAnyH_ready (rs := [6]) (by kernel_rfl) (by simp) ?_
  refine AllReadyH.cons (o := ⟨some 13, .call { callee := Go.Callee.value (.func 98), args := #[Go.Operand.tmp 12], argTypes := #[53] }, 49, "lap.go:104", #[⟨5, .data⟩, ⟨3, .chain⟩], none⟩) rfl (fun K hK => ?_) AllReadyH.nil
  go_simp
  refine (number_any _ 8 _ _ H2.out.drew (by decide) L2.out).mono ?_
  rintro x w1 ⟨rfl, rfl⟩
  rw [← HD.out]
  go_wp2_with fail
  refine hK.out _ _ (by first | trivial) (fun hHeld => ?_)
  clear hK K hHeld
  try simp only [Act.put, List.setIfInBounds_toArray, List.set_cons_zero, List.set_cons_succ]
  refine wpAnyH_ready (rs := [7]) (by kernel_rfl) (by simp) ?_
  refine AllReadyH.cons (o := ⟨some 14, .call { callee := Go.Callee.value (.func 97), args := #[Go.Operand.tmp 13], argTypes := #[49] }, 49, "lap.go:104", #[⟨6, .data⟩, ⟨6, .chain⟩], none⟩) rfl (fun K hK => ?_) AllReadyH.nil
  go_simp
  refine (epoch_any d _).mono ?_
  rintro x w1 ⟨rfl, rfl⟩
  go_wp2_with fail
  refine hK.out _ _ (by first | trivial) (fun hHeld => ?_)
  clear hK K hHeld
  try simp only [Act.put, List.setIfInBounds_toArray, List.set_cons_zero, List.set_cons_succ]
  refine wpAnyH_take (i := 8) (oi := ⟨some 2, .assign (.tmp 10), 49, "lap.go:104", #[⟨3, .data⟩, ⟨7, .chain⟩, ⟨0, .phase⟩, ⟨1, .phase⟩, ⟨2, .phase⟩, ⟨3, .phase⟩, { on := 4, ground := Go.Ground.textOnly Go.Departure.lateStores }, { on := 5, ground := Go.Ground.textOnly Go.Departure.lateStoresUnsure }, { on := 6, ground := Go.Ground.textOnly Go.Departure.lateStoresUnsure }, { on := 7, ground := Go.Ground.textOnly Go.Departure.lateStoresUnsure }], none⟩) (v := ?_) rfl (by kernel_rfl) (by kernel_rfl) (by kernel_rfl) (fun _ _ _ h => h) (Or.inl ⟨by rfl, ?_⟩) (by first | trivial) ?_
  rotate_left
  · (intro w hSw; obtain _ := hSw; go_simp <;> with_reducible rfl)
  simp only [Act.put, List.setIfInBounds_toArray, List.set_cons_zero, List.set_cons_succ]
  refine wpAnyH_take (i := 9) (oi := ⟨some 3, .assign (.tmp 14), 49, "lap.go:104", #[⟨7, .data⟩, ⟨8, .chain⟩, ⟨0, .phase⟩, ⟨1, .phase⟩, ⟨2, .phase⟩, ⟨3, .phase⟩, ⟨4, .phase⟩, ⟨5, .phase⟩, ⟨6, .phase⟩, ⟨7, .phase⟩, ⟨8, .phase⟩], none⟩) (v := ?_) rfl (by kernel_rfl) (by kernel_rfl) (by kernel_rfl) (fun _ _ _ h => h) (Or.inl ⟨by rfl, ?_⟩) (by first | trivial) ?_
  rotate_left
  · (intro w hSw; obtain _ := hSw; go_simp <;> with_reducible rfl)
  simp only [Act.put, List.setIfInBounds_toArray, List.set_cons_zero, List.set_cons_succ]
  refine wpAnyH_done (by kernel_rfl) ?_ _
  go_wp2_with fail
  go_ret2
  exact ⟨rfl, 1, rfl⟩
end Go.Proofs.YtolcnbiaiolcoaaGreat
