/- DiskLasts. -/
import Derived.Test.YtmkalkfmbheejaaDkP
import Derived.Test.YtmkalkfmbheejaaDkTl
namespace Go.Proofs.Ytmkalkfmbheejaa
open Go.RowKit

/-- behind the first k writes -/
structure La (w : World) (d : Nat) (L : List (List Nat)) (GS : Nat → Prop) (vS : Value) (k : Nat) (F G : Nat → Prop) (Q : List (Nat × List Nat)) (vA vD : Value) (wr : World) : Prop where
  len : Q.length = k
  dk : Dk wr F d 6 ⟨L, Q, false, none⟩
  dat : Dat wr G vA vD Q
  secs : Secs wr GS vS L
  fg : Sep F G
  fs : Sep F GS
  gs : Sep G GS
  fb : ∀ j, F j → w.heap.size ≤ j
  gb : ∀ j, G j → w.heap.size ≤ j
  below : Below w.heap.size w wr
def LaRel (w : World) (d : Nat) (L : List (List Nat)) (GS : Nat → Prop) (vS : Value) (t11 t12 t13 : Value) (wr : World) : Prop :=
  ∃ k F G Q, t13 = .int .i64 ((k : Nat) : Int) ∧ k ≤ 10 ∧ La w d L GS vS k F G Q t11 t12 wr
def LbRel (w8 : World) (t : Value) (wr : World) : Prop := ∃ i, t = .int .i64 ((i : Nat) : Int) ∧ i ≤ 6 ∧ Adv Nul w8 Nul wr
def LcRel (w9 : World) (L : List (List Nat)) (Q : List (Nat × List Nat)) (i : Nat) (r : List Nat) (t19 t20 : Value) (wr : World) : Prop :=
  ∃ k, t20 = .int .i64 ((k : Nat) : Int) ∧ t19 = .bool (fitsB L Q i r k) ∧ k ≤ Q.length ∧ ∃ nd, wr = w9.drewN nd

theorem tails_i (ti : Int) {t : Nat} (hti : ti = (t : Int)) (z i : Nat) (r : List Nat) (W : List (List Nat)) (Q : List (Nat × List Nat)) (vW vA vD : Value) (GS G : Nat → Prop) (w : World) (hr : Rd w 1 (.slice (some ⟨z, 0, none⟩) 128 128) 128 (r.map u8)) (ht : t < 128) (hi : i < W.length) (hS : Secs w GS vW W) (hD : Dat w G vA vD Q) (hQ : Q.length ≤ 1000)
    (hp : ∃ p, Plain W Q i Q.length p ∧ r.drop t = p.drop t) :
    Calls Try.prog 30 #[.slice (some ⟨z, 0, none⟩) 128 128, .int .i64 ti, .int .i64 (i : Int), vW, vA, vD] w fun e w' => e = .returned (.bool true) ∧ ∃ nd, w' = w.drewN nd := by
  subst hti
  exact tails_true z t i r W Q vW vA vD GS G w hr ht hi hS hD hQ hp
theorem ab_int {a i : Nat} (h : a = i) : ((a : Int) == (i : Int)) = true := by subst h; simp
theorem cg_int {cg : Nat} (h : 128 ≤ cg) : (128 : Int) ≤ (cg : Int) := by omega
theorem last_facts {Q : List (Nat × List Nat)} (hq : Q.length ≤ 1000) (hz : 0 < Q.length) :
    ∃ n : Nat, n < Q.length ∧ (Q.length : Int) - 1 = (n : Int) ∧ (n : Int) < (Q.length : Int) ∧ wrap64 (n : Int) = (n : Int) ∧ n ≤ 9223372036854775807 ∧ Q.length - 1 = n :=
  ⟨Q.length - 1, by omega, by omega, by omega, by unfold wrap64; omega, by omega, rfl⟩
theorem torn_facts {torn : Int} (t0 : 0 < torn) (t1 : torn < 128) : torn = ((torn.toNat : Nat) : Int) ∧ torn.toNat < 128 ∧ torn.toNat ≤ 128 ∧ 0 ≤ torn ∧ torn ≤ 128 :=
  ⟨by omega, by omega, by omega, by omega, by omega⟩
theorem rows_far {w w5 w6 : World} {G F5 F1 F6 : Nat → Prop} {vs : List Value} {Q : List (Nat × List Nat)} (h : ∀ k (h : k < vs.length), ∃ q, Q[k]? = some q ∧ q.2.length = 128 ∧ Sl w G 5 1 vs[k] 128 (q.2.map u8)) (a5 : Adv Nul w F5 w5) (a6 : Adv F1 w5 F6 w6) (hs : Sep F1 G) :
    ∀ k (h : k < vs.length), ∃ q, Q[k]? = some q ∧ q.2.length = 128 ∧ Sl w6 G 5 1 vs[k] 128 (q.2.map u8) := fun j hj => by
  obtain ⟨q, k1, k2, k3⟩ := h j hj
  exact ⟨q, k1, k2, (k3.far a5 (fun _ h _ => h)).far a6 hs⟩
theorem Sl.up {w : World} {F : Nat → Prop} {e : TypeId} {size n : Nat} {v : Value} {xs : List Value} (h : Sl w F e size v n xs) (o : Obj) : Sl (w.alloc o) F e size v n xs := h.keepH (fun k hk => Below.heap_alloc _ _ _ (h.bd k hk)) (by simp)
theorem Sep.from_ {F G : Nat → Prop} {w : World} (hb : Bd F w) (hG : ∀ k, G k → w.heap.size ≤ k) : Sep F G := fun k h1 h2 => by have := hb k h1; have := hG k h2; omega
theorem Adv.forget {F F' : Nat → Prop} {w w' : World} (h : Adv F w F' w') : Adv F w Nul w' := h.sub (fun _ h => h.elim)

set_option maxRecDepth 8000 in
set_option maxHeartbeats 12800000 in
theorem lasts_walk (w : World) (v1 : Value) (h1 : ∃ ds, DkDosIn w v1 ds) (v2 : Value) (h2 : ∃ ds, DkDosIn w v2 ds) (vk : Value) (h3 : ∃ ks : List Int, Rd w 1 vk ks.length (ks.map (Value.int .i64)) ∧ (∀ b, vk.ownBlock = some b → 0 < ks.length → b < w.heap.size)) (torn : Int) (_ : (Lit.int .i64 torn).wf = true) :
    Calls Try.prog 4 #[v1, v2, vk, .int .i64 torn] w fun e w' => e = .returned (.bool true) ∧ Below w.heap.size w w' := by
  obtain ⟨d1, h1⟩ := h1
  obtain ⟨ds, h2⟩ := h2
  obtain ⟨ks, hk1, hk2⟩ := h3
  obtain ⟨A, c, rfl, hmc, hcm⟩ := h2.rd.form
  have HD1 := Lib.hid h1
  have HD := Lib.hid h2
  have HK1 := Lib.hid hk1
  have HK2 := Lib.hid hk2
  obtain ⟨m, hm⟩ : ∃ m, m = ds.length := ⟨_, rfl⟩
  have HM := Lib.hid hm
  rw [← hm]
  clear h1 h2 hk1 hk2 hm hmc hcm
  go_enter Try.func4, Try.ntmps4
  go_wp2_with (first
    | (go_at_call 27; refine (played_any _ _ _ HD1.out).mono ?_; rintro e w1 ⟨d, F, s, rfl, h1, f1, a1⟩; have H1 := Lib.hid h1; have FR1 := Lib.hid f1; have A1 := Lib.hid a1; clear h1 f1 a1)
    | (go_at_call 14; refine (flush_dk d 6 F s _ H1.out).mono ?_; rw [flushS_plain FR1.out.fuse, FR1.out.dead, FR1.out.fuse]; rintro e w2 ⟨rfl, h2, a2⟩; obtain ⟨L, hL⟩ : ∃ L, L = lays s.L s.Q := ⟨_, rfl⟩; rw [← hL] at h2; have H2 := Lib.hid h2; have A2 := Lib.hid (A1.out.trans a2); clear h2 a2 hL)
    | (go_at_call 28; refine (sectors_any d F ⟨L, [], false, none⟩ _ H2.out).mono ?_; rintro e w3 ⟨vS, GS, rfl, h3, a3⟩; have S3 := Lib.hid (show Secs w3 GS vS L from h3); have A3 := Lib.hid a3; clear h3 a3)
    | fail)
  have hla : La w d L GS vS 0 F Nul [] (.slice none 0 0) (.slice none 0 0) w3 :=
    ⟨rfl, H2.out.far A3.out (fun _ h _ => h), Dat.nil w3, S3.out, fun _ _ h => h, Sep.from_ H2.out.bd (fun k hk => A3.out.new_at hk), fun _ h _ => h, fun j hj => A2.out.new_at hj, fun _ h => h.elim, (A2.out.over A3.out).toBelow⟩
  have HLA := Lib.hid hla
  clear hla H1 FR1 A1 H2 A2 S3 A3
  go_loopw [11, 12, 13] (LaRel w d L GS vS) (fun _ _ t _ => 10 - (intOf t).toNat)
  case atStart => exact ⟨0, F, Nul, [], rfl, by omega, HLA.out⟩
  case round =>
    obtain ⟨k, F1, G1, Q, rfl, hk, hla⟩ := hrel
    clear HLA
    obtain ⟨vs, hvs, hsD, hsR⟩ := hla.dat.ex
    obtain ⟨aA, cA, rfl, l1, l2⟩ := hla.dat.a.form0
    obtain ⟨aD, cD, rfl, l3, l4⟩ := hsD.form0
    clear l1 l2 l3 l4
    have HLA := Lib.hid hla
    have HVS := Lib.hid hvs
    have HSD := Lib.hid hsD
    have HSR := Lib.hid hsR
    have hql := hla.len
    have HQL := Lib.hid hql
    clear hla hvs hsD hsR
    by_cases hgo : k < m ∧ k < 10
    · obtain ⟨hkm, hk10⟩ := hgo
      have hlt : k < ds.length := by have := HM.out; omega
      obtain ⟨b, o, c', e, hb, g0, g1, g2, g3, g4, g5⟩ := HD.out.at_ hlt
      rw [← HM.out] at e
      injection e with e1 e2 e3
      subst e1
      subst e3
      clear g0 g2 g4 g5 e2
      have hfit := HD.out.fit _ (List.getElem_mem hlt)
      obtain ⟨x, hx⟩ : ∃ x, x = ds[k] := ⟨_, rfl⟩
      rw [← hx] at g1 g3 hfit
      have hbw : b < w.heap.size := hb
      have old : ∀ w' u j, w.cell? ⟨b, j, none⟩ = some u → Below w.heap.size w w' → w'.cell? ⟨b, j, none⟩ = some u := fun w' u j hu hB => (World.cell?_of_block (hB.block b hbw)).trans hu
      have hki : (k : Int) < (m : Int) := by omega
      have hki2 : (k : Int) < 10 := by omega
      have HC : Hid (∀ w', Below w.heap.size w w' → w'.cell? ⟨b, o + k * 6 + 1, none⟩ = some (.int .i64 x.a) ∧ w'.cell? ⟨b, o + k * 6 + 3, none⟩ = some x.bv) := fun w' hB => ⟨old _ _ _ g1 hB, old _ _ _ g3 hB⟩
      have HFIT := Lib.hid hfit
      have HK10 := Lib.hid hk10
      have hk2 : k + 1 ≤ 9223372036854775807 := by omega
      clear g1 g3 hfit hx hb old hlt hk hk10 hkm hbw hql
      go_wp2_with fail
      refine wp_region_held_drew (S := (fun w' => w'.cell? ⟨b, o + k * 6 + 1, none⟩ = some (.int .i64 x.a) ∧ w'.cell? ⟨b, o + k * 6 + 3, none⟩ = some x.bv)) (by kernel_rfl) (by first | exact HC.out _ HLA.out.below.drew | exact HC.out _ HB5.out) (fun hHeld => ?_)
      clear hHeld
      refine wpAnyH_take (i := 0) (oi := { dst := some 43, op := Go.Op.move (Go.Operand.tmp 1), type := 22, pos := "law.go:129", after := #[], guard := none }) (v := ?_) rfl (by kernel_rfl) (by kernel_rfl) (by kernel_rfl) (fun _ _ _ h => h) (Or.inl ⟨by rfl, ?_⟩) (by first | exact HC.out _ HLA.out.below.drew | exact HC.out _ HB5.out) ?_
      rotate_left
      · (intro w hSw; obtain ⟨s0, s1⟩ := hSw; go_simp <;> with_reducible rfl)
      simp only [Act.put, List.setIfInBounds_toArray, List.set_cons_zero, List.set_cons_succ]
      refine wpAnyH_take (i := 1) (oi := { dst := some 44, op := Go.Op.move (Go.Operand.tmp 13), type := 3, pos := "law.go:129", after := #[], guard := none }) (v := ?_) rfl (by kernel_rfl) (by kernel_rfl) (by kernel_rfl) (fun _ _ _ h => h) (Or.inl ⟨by rfl, ?_⟩) (by first | exact HC.out _ HLA.out.below.drew | exact HC.out _ HB5.out) ?_
      rotate_left
      · (intro w hSw; obtain ⟨s0, s1⟩ := hSw; go_simp <;> with_reducible rfl)
      simp only [Act.put, List.setIfInBounds_toArray, List.set_cons_zero, List.set_cons_succ]
      refine wpAnyH_take (i := 2) (oi := { dst := some 45, op := Go.Op.indexAddr 22 (Go.Operand.tmp 43) (Go.Operand.tmp 44), type := 0, pos := "law.go:129", after := #[{ on := 0, ground := Go.Ground.data }, { on := 1, ground := Go.Ground.data }], guard := none }) (v := ?_) rfl (by kernel_rfl) (by kernel_rfl) (by kernel_rfl) (fun _ _ _ h => h) (Or.inl ⟨by rfl, ?_⟩) (by first | exact HC.out _ HLA.out.below.drew | exact HC.out _ HB5.out) ?_
      rotate_left
      · (intro w hSw; obtain ⟨s0, s1⟩ := hSw; go_simp <;> with_reducible rfl)
      simp only [Act.put, List.setIfInBounds_toArray, List.set_cons_zero, List.set_cons_succ]
      refine wpAnyH_take (i := 3) (oi := { dst := some 46, op := Go.Op.fieldAddr 34 (Go.Operand.tmp 45) 1, type := 0, pos := "law.go:129", after := #[{ on := 2, ground := Go.Ground.data }], guard := none }) (v := ?_) rfl (by kernel_rfl) (by kernel_rfl) (by kernel_rfl) (fun _ _ _ h => h) (Or.inl ⟨by rfl, ?_⟩) (by first | exact HC.out _ HLA.out.below.drew | exact HC.out _ HB5.out) ?_
      rotate_left
      · (intro w hSw; obtain ⟨s0, s1⟩ := hSw; go_simp <;> with_reducible rfl)
      simp only [Act.put, List.setIfInBounds_toArray, List.set_cons_zero, List.set_cons_succ]
      refine wpAnyH_take (i := 4) (oi := { dst := some 47, op := Go.Op.load 3 (Go.Operand.tmp 46), type := 3, pos := "law.go:129", after := #[{ on := 3, ground := Go.Ground.data }], guard := none }) (v := ?_) rfl (by kernel_rfl) (by kernel_rfl) (by kernel_rfl) (fun _ _ _ h => h) (Or.inl ⟨by rfl, ?_⟩) (by first | exact HC.out _ HLA.out.below.drew | exact HC.out _ HB5.out) ?_
      rotate_left
      · (intro w hSw; obtain ⟨s0, s1⟩ := hSw; go_simp <;> with_reducible rfl)
      simp only [Act.put, List.setIfInBounds_toArray, List.set_cons_zero, List.set_cons_succ]
      refine wpAnyH_take (i := 6) (oi := { dst := some 49, op := Go.Op.move (Go.Operand.tmp 1), type := 22, pos := "law.go:129", after := #[], guard := none }) (v := ?_) rfl (by kernel_rfl) (by kernel_rfl) (by kernel_rfl) (fun _ _ _ h => h) (Or.inl ⟨by rfl, ?_⟩) (by first | exact HC.out _ HLA.out.below.drew | exact HC.out _ HB5.out) ?_
      rotate_left
      · (intro w hSw; obtain ⟨s0, s1⟩ := hSw; go_simp <;> with_reducible rfl)
      simp only [Act.put, List.setIfInBounds_toArray, List.set_cons_zero, List.set_cons_succ]
      refine wpAnyH_take (i := 7) (oi := { dst := some 50, op := Go.Op.move (Go.Operand.tmp 13), type := 3, pos := "law.go:129", after := #[], guard := none }) (v := ?_) rfl (by kernel_rfl) (by kernel_rfl) (by kernel_rfl) (fun _ _ _ h => h) (Or.inl ⟨by rfl, ?_⟩) (by first | exact HC.out _ HLA.out.below.drew | exact HC.out _ HB5.out) ?_
      rotate_left
      · (intro w hSw; obtain ⟨s0, s1⟩ := hSw; go_simp <;> with_reducible rfl)
      simp only [Act.put, List.setIfInBounds_toArray, List.set_cons_zero, List.set_cons_succ]
      refine wpAnyH_take (i := 8) (oi := { dst := some 51, op := Go.Op.indexAddr 22 (Go.Operand.tmp 49) (Go.Operand.tmp 50), type := 0, pos := "law.go:129", after := #[{ on := 6, ground := Go.Ground.data }, { on := 7, ground := Go.Ground.data }], guard := none }) (v := ?_) rfl (by kernel_rfl) (by kernel_rfl) (by kernel_rfl) (fun _ _ _ h => h) (Or.inl ⟨by rfl, ?_⟩) (by first | exact HC.out _ HLA.out.below.drew | exact HC.out _ HB5.out) ?_
      rotate_left
      · (intro w hSw; obtain ⟨s0, s1⟩ := hSw; go_simp <;> with_reducible rfl)
      simp only [Act.put, List.setIfInBounds_toArray, List.set_cons_zero, List.set_cons_succ]
      refine wpAnyH_take (i := 9) (oi := { dst := some 52, op := Go.Op.fieldAddr 34 (Go.Operand.tmp 51) 3, type := 0, pos := "law.go:129", after := #[{ on := 8, ground := Go.Ground.data }], guard := none }) (v := ?_) rfl (by kernel_rfl) (by kernel_rfl) (by kernel_rfl) (fun _ _ _ h => h) (Or.inl ⟨by rfl, ?_⟩) (by first | exact HC.out _ HLA.out.below.drew | exact HC.out _ HB5.out) ?_
      rotate_left
      · (intro w hSw; obtain ⟨s0, s1⟩ := hSw; go_simp <;> with_reducible rfl)
      simp only [Act.put, List.setIfInBounds_toArray, List.set_cons_zero, List.set_cons_succ]
      refine wpAnyH_take (i := 10) (oi := { dst := some 53, op := Go.Op.load 30 (Go.Operand.tmp 52), type := 30, pos := "law.go:129", after := #[{ on := 9, ground := Go.Ground.data }], guard := none }) (v := ?_) rfl (by kernel_rfl) (by kernel_rfl) (by kernel_rfl) (fun _ _ _ h => h) (Or.inl ⟨by rfl, ?_⟩) (by first | exact HC.out _ HLA.out.below.drew | exact HC.out _ HB5.out) ?_
      rotate_left
      · (intro w hSw; obtain ⟨s0, s1⟩ := hSw; go_simp <;> with_reducible rfl)
      simp only [Act.put, List.setIfInBounds_toArray, List.set_cons_zero, List.set_cons_succ]
      refine wpAnyH_ready (rs := [5]) (by kernel_rfl) (by simp) ?_
      refine AllReadyH.cons (o := { dst := some 48, op := Go.Op.call { callee := Go.Callee.value (Go.Operand.func 29), args := #[Go.Operand.tmp 47, Go.Operand.const (Go.Value.int Go.IntKind.i64 0), Go.Operand.const (Go.Value.int Go.IntKind.i64 5)], argTypes := #[3, 3, 3] }, type := 3, pos := "law.go:129", after := #[{ on := 4, ground := Go.Ground.data }], guard := none }) rfl (fun K hK => ?_) AllReadyH.nil
      go_simp
      refine (within_any x.a 0 5 _ (by decide)).mono ?_
      rintro e w5 ⟨y, rfl, hy0, hy5, hyy, rfl⟩
      clear hyy
      obtain ⟨y, rfl⟩ := Int.eq_ofNat_of_zero_le hy0
      have HY := Lib.hid (show y < 6 by omega)
      clear hy0 hy5
      go_wp2_with fail
      refine hK.out _ _ (by first | exact HC.out _ HLA.out.below.drew | exact HC.out _ HB5.out) (fun hHeld => ?_)
      clear hK K hHeld
      try simp only [Act.put, List.setIfInBounds_toArray, List.set_cons_zero, List.set_cons_succ]
      refine wpAnyH_ready (rs := [11]) (by kernel_rfl) (by simp) ?_
      refine AllReadyH.cons (o := { dst := some 54, op := Go.Op.call { callee := Go.Callee.value (Go.Operand.func 9), args := #[Go.Operand.tmp 53], argTypes := #[30] }, type := 30, pos := "law.go:129", after := #[{ on := 10, ground := Go.Ground.data }, { on := 5, ground := Go.Ground.chain }], guard := none }) rfl (fun K hK => ?_) AllReadyH.nil
      go_simp
      refine (sector_any x.bv x.b _ (HFIT.out.b.far HLA.out.below.drew)).mono ?_
      rintro e w5 ⟨v5, F5, rfl, h5, a5⟩
      obtain ⟨g5, c5, rfl, _, _⟩ := h5.form (by decide)
      have H5 := Lib.hid h5
      have A5 := Lib.hid a5.of_drew
      have HB5 := Lib.hid (HLA.out.below.trans (a5.of_drew.toBelow.mono HLA.out.below.size))
      clear h5 a5
      go_wp2_with fail
      refine hK.out _ _ (by first | exact HC.out _ HLA.out.below.drew | exact HC.out _ HB5.out) (fun hHeld => ?_)
      clear hK K hHeld
      try simp only [Act.put, List.setIfInBounds_toArray, List.set_cons_zero, List.set_cons_succ]
      refine wpAnyH_take (i := 12) (oi := { dst := some 14, op := Go.Op.assign (Go.Operand.tmp 48), type := 3, pos := "law.go:129", after := #[{ on := 5, ground := Go.Ground.data }, { on := 11, ground := Go.Ground.chain }, { on := 0, ground := Go.Ground.phase }, { on := 1, ground := Go.Ground.phase }, { on := 2, ground := Go.Ground.phase }, { on := 3, ground := Go.Ground.phase }, { on := 4, ground := Go.Ground.phase }, { on := 5, ground := Go.Ground.phase }, { on := 6, ground := Go.Ground.textOnly Go.Departure.lateStores }, { on := 7, ground := Go.Ground.textOnly Go.Departure.lateStores }, { on := 8, ground := Go.Ground.textOnly Go.Departure.lateStores }, { on := 9, ground := Go.Ground.textOnly Go.Departure.lateStores }, { on := 10, ground := Go.Ground.textOnly Go.Departure.lateStores }, { on := 11, ground := Go.Ground.textOnly Go.Departure.lateStoresUnsure }], guard := none }) (v := ?_) rfl (by kernel_rfl) (by kernel_rfl) (by kernel_rfl) (fun _ _ _ h => h) (Or.inl ⟨by rfl, ?_⟩) (by first | exact HC.out _ HLA.out.below.drew | exact HC.out _ HB5.out) ?_
      rotate_left
      · (intro w hSw; obtain ⟨s0, s1⟩ := hSw; go_simp <;> with_reducible rfl)
      simp only [Act.put, List.setIfInBounds_toArray, List.set_cons_zero, List.set_cons_succ]
      refine wpAnyH_take (i := 13) (oi := { dst := some 15, op := Go.Op.assign (Go.Operand.tmp 54), type := 30, pos := "law.go:129", after := #[{ on := 11, ground := Go.Ground.data }, { on := 12, ground := Go.Ground.chain }, { on := 0, ground := Go.Ground.phase }, { on := 1, ground := Go.Ground.phase }, { on := 2, ground := Go.Ground.phase }, { on := 3, ground := Go.Ground.phase }, { on := 4, ground := Go.Ground.phase }, { on := 5, ground := Go.Ground.phase }, { on := 6, ground := Go.Ground.phase }, { on := 7, ground := Go.Ground.phase }, { on := 8, ground := Go.Ground.phase }, { on := 9, ground := Go.Ground.phase }, { on := 10, ground := Go.Ground.phase }, { on := 11, ground := Go.Ground.phase }, { on := 12, ground := Go.Ground.phase }], guard := none }) (v := ?_) rfl (by kernel_rfl) (by kernel_rfl) (by kernel_rfl) (fun _ _ _ h => h) (Or.inl ⟨by rfl, ?_⟩) (by first | exact HC.out _ HLA.out.below.drew | exact HC.out _ HB5.out) ?_
      rotate_left
      · (intro w hSw; obtain ⟨s0, s1⟩ := hSw; go_simp <;> with_reducible rfl)
      simp only [Act.put, List.setIfInBounds_toArray, List.set_cons_zero, List.set_cons_succ]
      refine wpAnyH_done (by kernel_rfl) ?_ _
      go_wp2_with (first
        | (go_at_call 12; refine (write_dk d 6 128 (y : Int) (.slice (some ⟨g5, 0, none⟩) 128 c5) F1 _ (sec x.b) _ (HLA.out.dk.far A5.out (fun _ h _ => h)) H5.out.rd (H5.out.new_sep A5.out HLA.out.dk.bd) (by show Q.length ≤ 1000000; have := HQL.out; have := HK10.out; omega)).mono ?_; rw [writeS_plain (s := ⟨L, Q, false, none⟩) rfl (by rw [HLA.out.dk.len]; have := HY.out; omega) (sec_length x.b)]; rintro e w6 ⟨rfl, F6, h6, a6⟩; have H6 := Lib.hid h6; have A6 := Lib.hid a6; have hA6 := (HLA.out.dat.a.far A5.out (fun _ h _ => h)).far a6 HLA.out.fg; have hD6 := (HSD.out.far A5.out (fun _ h _ => h)).far a6 HLA.out.fg; have HA6 := Lib.hid hA6; have HD6 := Lib.hid hD6; clear h6 a6 hA6 hD6)
        | (at_builtin; refine op_append_own rfl (.tmp 60) (.tmp 62) 32 3 rfl Try.underlying32 infoInt rfl (by decide) rfl (HA6.out.up _).own ⟨w6.heap.size, 0, none⟩ 1 1 rfl [_] rfl (cell_one_new _ _ _) (by intro u hu; simp at hu; subst hu; rfl) (by have := HK10.out; have := HQL.out; unfold maxLen; omega) (by have := HK10.out; have := HQL.out; omega) ?_; intro vA' w7 hownA hgA hatA; obtain ⟨av, an, ac, rfl⟩ : ∃ A n c, vA' = .slice A n c := by { rcases hownA.2 with ⟨rfl, _⟩ | ⟨_, _, _, rfl, _⟩ <;> exact ⟨_, _, _, rfl⟩ }; have HD7 := Lib.hid ((HD6.out.up _).grown_other hgA (HA6.out.up _).own (by decide)); have OA := Lib.hid hownA; have GA : Hid ((w6.alloc (.cells #[.int .i64 (y : Int)] 3)).grownBy w7 (Value.slice aA Q.length cA).ownBlock) := hgA; have TA : Hid ((Value.slice av an ac).ownBlock = (Value.slice aA Q.length cA).ownBlock ∨ (Value.slice av an ac).ownBlock = some (w6.alloc (.cells #[.int .i64 (y : Int)] 3)).heap.size) := hatA; clear hownA hgA hatA)
        | (at_builtin; refine op_append_own rfl (.tmp 64) (.tmp 66) 49 30 rfl Try.underlying49 infoBytes rfl (by decide) rfl (HD7.out.up _).own ⟨w7.heap.size, 0, none⟩ 1 1 rfl [_] rfl (cell_one_new _ _ _) (by intro u hu; simp at hu; subst hu; rfl) (by have := HK10.out; have := HQL.out; unfold maxLen; omega) (by have := HK10.out; have := HQL.out; omega) ?_; intro vD' w8 hownD hgD hatD; obtain ⟨dv, dn, dc, rfl⟩ : ∃ A n c, vD' = .slice A n c := by { rcases hownD.2 with ⟨rfl, _⟩ | ⟨_, _, _, rfl, _⟩ <;> exact ⟨_, _, _, rfl⟩ }; have OD := Lib.hid hownD; have GD : Hid ((w7.alloc (.cells #[.slice (some ⟨g5, 0, none⟩) 128 c5] 30)).grownBy w8 (Value.slice aD Q.length cD).ownBlock) := hgD; have TD : Hid ((Value.slice dv dn dc).ownBlock = (Value.slice aD Q.length cD).ownBlock ∨ (Value.slice dv dn dc).ownBlock = some (w7.alloc (.cells #[.slice (some ⟨g5, 0, none⟩) 128 c5] 30)).heap.size) := hatD; clear hownD hgD hatD)
        | fail)
      have hk10 := HK10.out
      refine ⟨?_, by simp [intOf]; omega⟩
      have hsz := HLA.out.below.size
      have sFF5 : Sep F1 F5 := Sep.from_ HLA.out.dk.bd (fun j hj => A5.out.new_at hj)
      have bG5 : Bd G1 w5 := A5.out.bd HLA.out.dat.bd
      have bS5 : Bd GS w5 := A5.out.bd HLA.out.secs.bd
      have hR6 := rows_far HSR.out A5.out A6.out HLA.out.fg
      obtain ⟨G', d1, d2⟩ := Dat.snoc HA6.out HVS.out HD6.out hR6 (H5.out.far A6.out sFF5) (sec_length _) OA.out GA.out TA.out (Nat.le_refl _) OD.out GD.out TD.out (Nat.le_refl _)
      have sU6 : Sep (fun j => G1 j ∨ F5 j) F6 := fun j h1 h2 => by
        rcases h1 with h1 | h1
        · exact A6.out.sep HLA.out.fg bG5 j h2 h1
        · exact A6.out.sep sFF5 H5.out.bd j h2 h1
      have sUS : Sep (fun j => G1 j ∨ F5 j) GS := fun j h1 h2 => by
        rcases h1 with h1 | h1
        · exact HLA.out.gs j h1 h2
        · have := HLA.out.secs.bd j h2
          have := A5.out.new_at h1
          omega
      have fb6 := A6.out.from_ HLA.out.fb HB5.out.size
      have b6 := Adv.below HB5.out A6.out HLA.out.fb HB5.out.size
      have ub : ∀ j, (G1 j ∨ F5 j) → w.heap.size ≤ j := fun j hj => by
        rcases hj with hj | hj
        · exact HLA.out.gb j hj
        · have := A5.out.new_at hj
          omega
      refine ⟨k + 1, F6, G', Q ++ [(y, sec x.b)], by simp, by omega, by rw [List.length_append, HQL.out]; rfl, H6.out.far d2 sU6, d1, ((HLA.out.secs.far A5.out (fun _ h _ => h)).far A6.out HLA.out.fs).far d2 sUS, (d2.sep sU6 H6.out.bd).symm, A6.out.sep HLA.out.fs bS5, d2.sep sUS (A6.out.bd bS5), fb6, d2.from_ ub b6.size, Adv.below b6 d2 ub b6.size⟩
    · have hex : (k : Int) = 10 ∧ (10 : Int) < (m : Int) ∨ (m : Int) ≤ (k : Int) := by omega
      have HKQ := Lib.hid (show Q.length ≤ 1000 by omega)
      clear hgo hk hql
      rcases hex with ⟨h10, hm10⟩ | hm10
      · rw [h10]
        clear h10
        have hrow := HLA.out.dk.1.row
        have hat := HLA.out.dk.1.at_
        have hlen := HLA.out.dk.1.len
        obtain ⟨L2, hL2⟩ : ∃ L2, L2 = laysBy (kept ks torn Q.length) Q L Q.length := ⟨_, rfl⟩
        have hs8 : crashS ⟨L, Q, false, none⟩ ks torn = ⟨L2, [], false, none⟩ := by rw [hL2]; rfl
        have hcc : ∀ i r, r = isS ⟨L2, [], false, none⟩ i → Plain L Q i Q.length r ∨ (0 < Q.length ∧ (Q.getD (Q.length - 1) (0, [])).1 = i ∧ 0 < torn ∧ torn < 128 ∧ r.take torn.toNat = ((Q.getD (Q.length - 1) (0, [])).2).take torn.toNat ∧ ∃ p, Plain L Q i Q.length p ∧ r.drop torn.toNat = p.drop torn.toNat) := fun i r hr =>
          crash_cases ks torn Q L hrow (fun q hq => by have h := hat q hq; exact ⟨by rw [show L.length = 6 from hlen]; exact h.1, h.2⟩) i r (by rw [← hL2]; exact hr)
        have HCC := Lib.hid hcc
        have HS8 := Lib.hid hs8
        have HLEN := Lib.hid (show L.length = 6 from hlen)
        clear hrow hat hlen hL2 hs8 hcc
        go_wp2_with (first
          | (go_at_call 21; refine (crash_dk d 6 _ vk F1 ⟨L, Q, false, none⟩ ks torn _ HLA.out.dk (HK1.out.far_old HLA.out.below) (fun j hj hn hF => by have := HLA.out.fb j hF; have := HK2.out j hj hn; omega)).mono ?_; rw [HS8.out]; rintro e w8 ⟨rfl, h8, a8⟩; have D8 := Lib.hid (HLA.out.dat.far a8 HLA.out.fg); have S8 := Lib.hid (HLA.out.secs.far a8 HLA.out.fs); have B8 := Lib.hid (Adv.below HLA.out.below a8 HLA.out.fb HLA.out.below.size); have H8 := Lib.hid h8; clear h8 a8)
          | fail)
        clear HLA HVS HSD HSR HQL
        go_loopw [16] (LbRel w8) (fun t _ => 6 - (intOf t).toNat)
        case atStart => exact ⟨0, rfl, by omega, (Adv.refl Nul w8)⟩
        case round =>
          obtain ⟨i, rfl, hi, ha⟩ := hrel
          have HA := Lib.hid ha
          clear ha
          by_cases hi6 : i < 6
          · have hii : (i : Int) < 6 := by omega
            have HI6 := Lib.hid hi6
            have hiL : (i : Int) < (L.length : Int) := by rw [HLEN.out]; exact hii
            clear hi hi6
            go_wp2_with (first
              | (go_at_call 16; refine (read_dk d 6 F1 ⟨L2, [], false, none⟩ i _ (H8.out.far HA.out (fun _ h _ => h)) HI6.out).mono ?_; rintro e w9 ⟨z, rfl, hz, hzl, a9⟩; obtain ⟨r, hr⟩ : ∃ r, r = isS ⟨L2, [], false, none⟩ i := ⟨_, rfl⟩; rw [← hr] at hz hzl; have HCI := Lib.hid (HCC.out i r hr); have RZ := Lib.hid (hz.rd8 hzl); have A9 := Lib.hid (HA.out.over a9.forget); have D9 := Lib.hid (D8.out.far A9.out (fun _ h _ => h)); have S9 := Lib.hid (S8.out.far A9.out (fun _ h _ => h)); obtain ⟨gS, cS, zS, e, hgs, kS, hzs, rS, lS⟩ := S9.out.at_ (by rw [HLEN.out]; exact HI6.out); subst e; unfold sv at kS rS; have RS := Lib.hid rS; obtain ⟨f0, hf0⟩ : ∃ f0, f0 = fitsB L Q i r 0 := ⟨_, rfl⟩; have HF0 := Lib.hid hf0; clear hr hz hzl a9 hgs hzs rS lS hf0)
              | (go_at_call 18; refine (same_any _ _ _ _ r (L.getD i []) _ RZ.out RS.out).mono ?_; rw [show decide (r = L.getD i []) = f0 from HF0.out.symm]; rintro e w10 ⟨rfl, n10, rfl⟩)
              | fail)
            have hq0 := HKQ.out
            go_loopw [19, 20] (LcRel w9 L Q i r) (fun _ t' _ => Q.length - (intOf t').toNat)
            case atStart => exact ⟨0, rfl, by rw [HF0.out], Nat.zero_le _, n10, rfl⟩
            case round =>
              obtain ⟨j, rfl, rfl, hj, nd, rfl⟩ := hrel
              clear hq0
              obtain ⟨fb, hfb⟩ : ∃ fb, fb = fitsB L Q i r j := ⟨_, rfl⟩
              rw [← hfb]
              have HFB := Lib.hid hfb
              clear hfb
              by_cases hlt : j < Q.length
              · have HLT := Lib.hid hlt
                obtain ⟨gA, cA', gD, cD', g, cg, e1, kA, e2, kD, hcg, rD, lD⟩ := D9.out.at_ hlt
                injection e1 with e1 e1b e1c
                injection e2 with e2 e2b e2c
                subst e1 e2
                have hjq : (j : Int) < (Q.length : Int) := by omega
                have hj2 : j + 1 ≤ 9223372036854775807 := by have := HKQ.out; omega
                have hnext : fitsB L Q i r (j + 1) = (fb || (decide ((Q.getD j (0, [])).1 = i) && decide (r = (Q.getD j (0, [])).2))) := by rw [fitsB, ← HFB.out]
                obtain ⟨q, hq⟩ : ∃ q, q = Q.getD j (0, []) := ⟨_, rfl⟩
                rw [← hq] at kA rD hnext
                obtain ⟨a, hqa⟩ : ∃ a, a = q.1 := ⟨_, rfl⟩
                rw [← hqa] at kA hnext
                have RD := Lib.hid rD
                have HN := Lib.hid hnext
                clear hj hlt hcg rD lD hnext hq hqa e1b e1c e2b e2c
                cases fb with
                | true =>
                  have HE := Lib.hid (show fitsB L Q i r (j + 1) = true by rw [HN.out]; rfl)
                  go_wp2_with fail
                  have hlt := HLT.out
                  exact ⟨⟨j + 1, by simp, by rw [HE.out], by omega, _, rfl⟩, by simp [intOf]; omega⟩
                | false =>
                  by_cases hai : a = i
                  · have hab : ((a : Int) == (i : Int)) = true := by rw [beq_iff_eq]; omega
                    obtain ⟨fn, hfn⟩ : ∃ fn, fn = decide (r = q.2) := ⟨_, rfl⟩
                    have HE := Lib.hid (show fitsB L Q i r (j + 1) = fn by rw [HN.out, decide_eq_true hai, hfn]; rfl)
                    have HFN := Lib.hid hfn
                    clear hai hfn
                    go_wp2_with (first
                      | (go_at_call 18; refine (same_any _ _ _ _ r q.2 (w9.drewN nd) RZ.out RD.out).mono ?_; rw [← HFN.out]; rintro e w11 ⟨rfl, n11, rfl⟩)
                      | fail)
                    have hlt := HLT.out
                    exact ⟨⟨j + 1, by simp, by rw [HE.out], by omega, _, rfl⟩, by simp [intOf]; omega⟩
                  · have hab : ((a : Int) == (i : Int)) = false := by rw [beq_eq_false_iff_ne]; omega
                    have HE := Lib.hid (show fitsB L Q i r (j + 1) = false by rw [HN.out, decide_eq_false hai]; rfl)
                    clear hai
                    go_wp2_with fail
                    have hlt := HLT.out
                    exact ⟨⟨j + 1, by simp, by rw [HE.out], by omega, _, rfl⟩, by simp [intOf]; omega⟩
              · obtain rfl : j = Q.length := by omega
                clear hj hlt
                have HFT : Hid (¬ (0 < Q.length ∧ (Q.getD (Q.length - 1) (0, [])).1 = i ∧ 0 < torn ∧ torn < 128) → fb = true) := fun hno => by
                  rcases HCI.out with hpl | ⟨hz, hqx, ht0, ht1, _, _⟩
                  · exact HFB.out.trans (fitsB_plain L Q i r _ hpl)
                  · exact absurd ⟨hz, hqx, ht0, ht1⟩ hno
                rcases Nat.eq_zero_or_pos Q.length with hz | hz
                · have hfb := HFT.out (fun h => by omega)
                  subst hfb
                  have hqi : (Q.length : Int) - 1 = -1 := by omega
                  clear hz
                  go_wp2_with fail
                  have hi6 := HI6.out
                  exact ⟨⟨i + 1, by simp, by omega, A9.out.drewN nd⟩, by simp [intOf]; omega⟩
                · obtain ⟨n, hnl, hqi, hnq, hnw, hn64, hn1⟩ := last_facts HKQ.out hz
                  obtain ⟨gA, cA', gD, cD', g, cg, e1, kA, e2, kD, hcg, rD, lD⟩ := D9.out.at_ hnl
                  injection e1 with e1 e1b e1c
                  injection e2 with e2 e2b e2c
                  subst e1 e2
                  obtain ⟨a, hqa⟩ : ∃ a, a = (Q.getD n (0, [])).1 := ⟨_, rfl⟩
                  rw [← hqa] at kA
                  have HQA := Lib.hid hqa
                  have HN1 := Lib.hid hn1
                  have HZ := Lib.hid hz
                  have RD := Lib.hid rD
                  have HCG := Lib.hid hcg
                  clear hz hnl hcg rD lD hqa e1b e1c e2b e2c hn1
                  by_cases hai : a = i
                  · have hab : ((a : Int) == (i : Int)) = true := ab_int hai
                    have HAI := Lib.hid hai
                    clear hai
                    by_cases ht0 : 0 < torn
                    · by_cases ht1 : torn < 128
                      · go_wp2_with fail
                        cases fb with
                        | true =>
                          refine wp_region_held_drew (S := (fun _ => True)) (by kernel_rfl) (by first | trivial) (fun hHeld => ?_)
                          clear hHeld
                          refine wpAnyH_take (i := 0) (oi := { dst := some 137, op := Go.Op.move (Go.Operand.tmp 19), type := 4, pos := "law.go:143", after := #[], guard := none }) (v := ?_) rfl (by kernel_rfl) (by kernel_rfl) (by kernel_rfl) (fun _ _ _ h => h) (Or.inl ⟨by rfl, ?_⟩) (by first | trivial) ?_
                          rotate_left
                          · (intro w hSw; obtain _ := hSw; go_simp <;> with_reducible rfl)
                          simp only [Act.put, List.setIfInBounds_toArray, List.set_cons_zero, List.set_cons_succ]
                          refine wpAnyH_take (i := 1) (oi := { dst := some 138, op := Go.Op.move (Go.Operand.tmp 137), type := 4, pos := "law.go:143", after := #[{ on := 0, ground := Go.Ground.data }], guard := none }) (v := ?_) rfl (by kernel_rfl) (by kernel_rfl) (by kernel_rfl) (fun _ _ _ h => h) (Or.inl ⟨by rfl, ?_⟩) (by first | trivial) ?_
                          rotate_left
                          · (intro w hSw; obtain _ := hSw; go_simp <;> with_reducible rfl)
                          simp only [Act.put, List.setIfInBounds_toArray, List.set_cons_zero, List.set_cons_succ]
                          refine wpAnyH_take (i := 2) (oi := { dst := some 139, op := Go.Op.move (Go.Operand.tmp 17), type := 30, pos := "law.go:143", after := #[{ on := 1, ground := Go.Ground.guard }], guard := some (1, false) }) (v := undef) rfl (by kernel_rfl) (by kernel_rfl) (by kernel_rfl) (fun _ _ _ h => h) (Or.inr ⟨by rfl, rfl⟩) (by first | trivial) ?_
                          try simp only [Act.put, List.setIfInBounds_toArray, List.set_cons_zero, List.set_cons_succ]
                          refine wpAnyH_take (i := 3) (oi := { dst := some 140, op := Go.Op.move (Go.Operand.tmp 3), type := 3, pos := "law.go:143", after := #[{ on := 1, ground := Go.Ground.guard }], guard := some (1, false) }) (v := undef) rfl (by kernel_rfl) (by kernel_rfl) (by kernel_rfl) (fun _ _ _ h => h) (Or.inr ⟨by rfl, rfl⟩) (by first | trivial) ?_
                          try simp only [Act.put, List.setIfInBounds_toArray, List.set_cons_zero, List.set_cons_succ]
                          refine wpAnyH_take (i := 4) (oi := { dst := some 141, op := Go.Op.slice 30 (Go.Operand.tmp 139) none (some (Go.Operand.tmp 140)) none, type := 30, pos := "law.go:143", after := #[{ on := 2, ground := Go.Ground.data }, { on := 3, ground := Go.Ground.data }, { on := 1, ground := Go.Ground.guard }], guard := some (1, false) }) (v := undef) rfl (by kernel_rfl) (by kernel_rfl) (by kernel_rfl) (fun _ _ _ h => h) (Or.inr ⟨by rfl, rfl⟩) (by first | trivial) ?_
                          try simp only [Act.put, List.setIfInBounds_toArray, List.set_cons_zero, List.set_cons_succ]
                          refine wpAnyH_take (i := 5) (oi := { dst := some 142, op := Go.Op.move (Go.Operand.tmp 12), type := 49, pos := "law.go:143", after := #[{ on := 1, ground := Go.Ground.guard }], guard := some (1, false) }) (v := undef) rfl (by kernel_rfl) (by kernel_rfl) (by kernel_rfl) (fun _ _ _ h => h) (Or.inr ⟨by rfl, rfl⟩) (by first | trivial) ?_
                          try simp only [Act.put, List.setIfInBounds_toArray, List.set_cons_zero, List.set_cons_succ]
                          refine wpAnyH_take (i := 6) (oi := { dst := some 143, op := Go.Op.move (Go.Operand.tmp 21), type := 3, pos := "law.go:143", after := #[{ on := 1, ground := Go.Ground.guard }], guard := some (1, false) }) (v := undef) rfl (by kernel_rfl) (by kernel_rfl) (by kernel_rfl) (fun _ _ _ h => h) (Or.inr ⟨by rfl, rfl⟩) (by first | trivial) ?_
                          try simp only [Act.put, List.setIfInBounds_toArray, List.set_cons_zero, List.set_cons_succ]
                          refine wpAnyH_take (i := 7) (oi := { dst := some 144, op := Go.Op.indexAddr 49 (Go.Operand.tmp 142) (Go.Operand.tmp 143), type := 0, pos := "law.go:143", after := #[{ on := 5, ground := Go.Ground.data }, { on := 6, ground := Go.Ground.data }, { on := 1, ground := Go.Ground.guard }], guard := some (1, false) }) (v := undef) rfl (by kernel_rfl) (by kernel_rfl) (by kernel_rfl) (fun _ _ _ h => h) (Or.inr ⟨by rfl, rfl⟩) (by first | trivial) ?_
                          try simp only [Act.put, List.setIfInBounds_toArray, List.set_cons_zero, List.set_cons_succ]
                          refine wpAnyH_take (i := 8) (oi := { dst := some 145, op := Go.Op.load 30 (Go.Operand.tmp 144), type := 30, pos := "law.go:143", after := #[{ on := 7, ground := Go.Ground.data }, { on := 1, ground := Go.Ground.guard }], guard := some (1, false) }) (v := undef) rfl (by kernel_rfl) (by kernel_rfl) (by kernel_rfl) (fun _ _ _ h => h) (Or.inr ⟨by rfl, rfl⟩) (by first | trivial) ?_
                          try simp only [Act.put, List.setIfInBounds_toArray, List.set_cons_zero, List.set_cons_succ]
                          refine wpAnyH_take (i := 9) (oi := { dst := some 146, op := Go.Op.move (Go.Operand.tmp 3), type := 3, pos := "law.go:143", after := #[{ on := 1, ground := Go.Ground.guard }], guard := some (1, false) }) (v := undef) rfl (by kernel_rfl) (by kernel_rfl) (by kernel_rfl) (fun _ _ _ h => h) (Or.inr ⟨by rfl, rfl⟩) (by first | trivial) ?_
                          try simp only [Act.put, List.setIfInBounds_toArray, List.set_cons_zero, List.set_cons_succ]
                          refine wpAnyH_take (i := 10) (oi := { dst := some 147, op := Go.Op.slice 30 (Go.Operand.tmp 145) none (some (Go.Operand.tmp 146)) none, type := 30, pos := "law.go:143", after := #[{ on := 8, ground := Go.Ground.data }, { on := 9, ground := Go.Ground.data }, { on := 1, ground := Go.Ground.guard }], guard := some (1, false) }) (v := undef) rfl (by kernel_rfl) (by kernel_rfl) (by kernel_rfl) (fun _ _ _ h => h) (Or.inr ⟨by rfl, rfl⟩) (by first | trivial) ?_
                          try simp only [Act.put, List.setIfInBounds_toArray, List.set_cons_zero, List.set_cons_succ]
                          refine wpAnyH_take (i := 11) (oi := { dst := some 148, op := Go.Op.call { callee := Go.Callee.value (Go.Operand.func 18), args := #[Go.Operand.tmp 141, Go.Operand.tmp 147], argTypes := #[30, 30] }, type := 4, pos := "law.go:143", after := #[{ on := 4, ground := Go.Ground.data }, { on := 10, ground := Go.Ground.data }, { on := 1, ground := Go.Ground.chain }, { on := 1, ground := Go.Ground.guard }], guard := some (1, false) }) (v := undef) rfl (by kernel_rfl) (by kernel_rfl) (by kernel_rfl) (fun _ _ _ h => h) (Or.inr ⟨by rfl, rfl⟩) (by first | trivial) ?_
                          try simp only [Act.put, List.setIfInBounds_toArray, List.set_cons_zero, List.set_cons_succ]
                          refine wpAnyH_take (i := 12) (oi := { dst := some 149, op := Go.Op.move (Go.Operand.tmp 148), type := 4, pos := "law.go:143", after := #[{ on := 11, ground := Go.Ground.data }, { on := 11, ground := Go.Ground.chain }, { on := 1, ground := Go.Ground.guard }], guard := some (1, false) }) (v := undef) rfl (by kernel_rfl) (by kernel_rfl) (by kernel_rfl) (fun _ _ _ h => h) (Or.inr ⟨by rfl, rfl⟩) (by first | trivial) ?_
                          try simp only [Act.put, List.setIfInBounds_toArray, List.set_cons_zero, List.set_cons_succ]
                          refine wpAnyH_take (i := 13) (oi := { dst := some 150, op := Go.Op.move (Go.Operand.tmp 17), type := 30, pos := "law.go:143", after := #[{ on := 12, ground := Go.Ground.guard }], guard := some (12, true) }) (v := undef) rfl (by kernel_rfl) (by kernel_rfl) (by kernel_rfl) (fun _ _ _ h => h) (Or.inr ⟨by rfl, rfl⟩) (by first | trivial) ?_
                          try simp only [Act.put, List.setIfInBounds_toArray, List.set_cons_zero, List.set_cons_succ]
                          refine wpAnyH_take (i := 14) (oi := { dst := some 151, op := Go.Op.move (Go.Operand.tmp 3), type := 3, pos := "law.go:143", after := #[{ on := 12, ground := Go.Ground.guard }], guard := some (12, true) }) (v := undef) rfl (by kernel_rfl) (by kernel_rfl) (by kernel_rfl) (fun _ _ _ h => h) (Or.inr ⟨by rfl, rfl⟩) (by first | trivial) ?_
                          try simp only [Act.put, List.setIfInBounds_toArray, List.set_cons_zero, List.set_cons_succ]
                          refine wpAnyH_take (i := 15) (oi := { dst := some 152, op := Go.Op.move (Go.Operand.tmp 16), type := 3, pos := "law.go:143", after := #[{ on := 12, ground := Go.Ground.guard }], guard := some (12, true) }) (v := undef) rfl (by kernel_rfl) (by kernel_rfl) (by kernel_rfl) (fun _ _ _ h => h) (Or.inr ⟨by rfl, rfl⟩) (by first | trivial) ?_
                          try simp only [Act.put, List.setIfInBounds_toArray, List.set_cons_zero, List.set_cons_succ]
                          refine wpAnyH_take (i := 16) (oi := { dst := some 153, op := Go.Op.move (Go.Operand.tmp 10), type := 49, pos := "law.go:143", after := #[{ on := 12, ground := Go.Ground.guard }], guard := some (12, true) }) (v := undef) rfl (by kernel_rfl) (by kernel_rfl) (by kernel_rfl) (fun _ _ _ h => h) (Or.inr ⟨by rfl, rfl⟩) (by first | trivial) ?_
                          try simp only [Act.put, List.setIfInBounds_toArray, List.set_cons_zero, List.set_cons_succ]
                          refine wpAnyH_take (i := 17) (oi := { dst := some 154, op := Go.Op.move (Go.Operand.tmp 11), type := 32, pos := "law.go:143", after := #[{ on := 12, ground := Go.Ground.guard }], guard := some (12, true) }) (v := undef) rfl (by kernel_rfl) (by kernel_rfl) (by kernel_rfl) (fun _ _ _ h => h) (Or.inr ⟨by rfl, rfl⟩) (by first | trivial) ?_
                          try simp only [Act.put, List.setIfInBounds_toArray, List.set_cons_zero, List.set_cons_succ]
                          refine wpAnyH_take (i := 18) (oi := { dst := some 155, op := Go.Op.move (Go.Operand.tmp 12), type := 49, pos := "law.go:143", after := #[{ on := 12, ground := Go.Ground.guard }], guard := some (12, true) }) (v := undef) rfl (by kernel_rfl) (by kernel_rfl) (by kernel_rfl) (fun _ _ _ h => h) (Or.inr ⟨by rfl, rfl⟩) (by first | trivial) ?_
                          try simp only [Act.put, List.setIfInBounds_toArray, List.set_cons_zero, List.set_cons_succ]
                          refine wpAnyH_take (i := 19) (oi := { dst := some 156, op := Go.Op.call { callee := Go.Callee.value (Go.Operand.func 30), args := #[Go.Operand.tmp 150, Go.Operand.tmp 151, Go.Operand.tmp 152, Go.Operand.tmp 153, Go.Operand.tmp 154, Go.Operand.tmp 155], argTypes := #[30, 3, 3, 49, 32, 49] }, type := 4, pos := "law.go:143", after := #[{ on := 13, ground := Go.Ground.data }, { on := 14, ground := Go.Ground.data }, { on := 15, ground := Go.Ground.data }, { on := 16, ground := Go.Ground.data }, { on := 17, ground := Go.Ground.data }, { on := 18, ground := Go.Ground.data }, { on := 12, ground := Go.Ground.chain }, { on := 12, ground := Go.Ground.guard }], guard := some (12, true) }) (v := undef) rfl (by kernel_rfl) (by kernel_rfl) (by kernel_rfl) (fun _ _ _ h => h) (Or.inr ⟨by rfl, rfl⟩) (by first | trivial) ?_
                          try simp only [Act.put, List.setIfInBounds_toArray, List.set_cons_zero, List.set_cons_succ]
                          refine wpAnyH_take (i := 20) (oi := { dst := some 157, op := Go.Op.pick (Go.Operand.tmp 149) (Go.Operand.tmp 156) (Go.Operand.const (Go.Value.bool false)), type := 4, pos := "law.go:143", after := #[{ on := 12, ground := Go.Ground.data }, { on := 19, ground := Go.Ground.data }, { on := 1, ground := Go.Ground.guard }], guard := some (1, false) }) (v := undef) rfl (by kernel_rfl) (by kernel_rfl) (by kernel_rfl) (fun _ _ _ h => h) (Or.inr ⟨by rfl, rfl⟩) (by first | trivial) ?_
                          try simp only [Act.put, List.setIfInBounds_toArray, List.set_cons_zero, List.set_cons_succ]
                          refine wpAnyH_take (i := 21) (oi := { dst := some 158, op := Go.Op.pick (Go.Operand.tmp 138) (Go.Operand.const (Go.Value.bool true)) (Go.Operand.tmp 157), type := 4, pos := "law.go:143", after := #[{ on := 1, ground := Go.Ground.data }, { on := 20, ground := Go.Ground.data }], guard := none }) (v := ?_) rfl (by kernel_rfl) (by kernel_rfl) (by kernel_rfl) (fun _ _ _ h => h) (Or.inl ⟨by rfl, ?_⟩) (by first | trivial) ?_
                          rotate_left
                          · (intro w hSw; obtain _ := hSw; go_simp <;> with_reducible rfl)
                          simp only [Act.put, List.setIfInBounds_toArray, List.set_cons_zero, List.set_cons_succ]
                          refine wpAnyH_take (i := 22) (oi := { dst := some 19, op := Go.Op.assign (Go.Operand.tmp 158), type := 4, pos := "law.go:143", after := #[{ on := 21, ground := Go.Ground.data }, { on := 19, ground := Go.Ground.chain }, { on := 0, ground := Go.Ground.phase }, { on := 1, ground := Go.Ground.phase }, { on := 2, ground := Go.Ground.phase }, { on := 3, ground := Go.Ground.phase }, { on := 4, ground := Go.Ground.phase }, { on := 5, ground := Go.Ground.phase }, { on := 6, ground := Go.Ground.phase }, { on := 7, ground := Go.Ground.phase }, { on := 8, ground := Go.Ground.phase }, { on := 9, ground := Go.Ground.phase }, { on := 10, ground := Go.Ground.phase }, { on := 11, ground := Go.Ground.phase }, { on := 12, ground := Go.Ground.phase }, { on := 13, ground := Go.Ground.phase }, { on := 14, ground := Go.Ground.phase }, { on := 15, ground := Go.Ground.phase }, { on := 16, ground := Go.Ground.phase }, { on := 17, ground := Go.Ground.phase }, { on := 18, ground := Go.Ground.phase }, { on := 19, ground := Go.Ground.phase }, { on := 20, ground := Go.Ground.phase }, { on := 21, ground := Go.Ground.phase }], guard := none }) (v := ?_) rfl (by kernel_rfl) (by kernel_rfl) (by kernel_rfl) (fun _ _ _ h => h) (Or.inl ⟨by rfl, ?_⟩) (by first | trivial) ?_
                          rotate_left
                          · (intro w hSw; obtain _ := hSw; go_simp <;> with_reducible rfl)
                          simp only [Act.put, List.setIfInBounds_toArray, List.set_cons_zero, List.set_cons_succ]
                          refine wpAnyH_done (by kernel_rfl) ?_ _
                          go_wp2
                          have hi6 := HI6.out
                          exact ⟨⟨i + 1, by simp, by omega, A9.out.drewN _⟩, by simp [intOf]; omega⟩
                        | false =>
                          rcases HCI.out with hpl | ⟨_, _, _, _, htx, hp⟩
                          · have h := fitsB_plain L Q i r _ hpl
                            rw [← HFB.out] at h
                            cases h
                          · rw [HN1.out] at htx
                            obtain ⟨hti, ht128, htle, htz, htl⟩ := torn_facts ht0 ht1
                            have htc := Int.le_trans htl (cg_int HCG.out)
                            have HTI := Lib.hid hti
                            have HT1 := Lib.hid ht128
                            have HP := Lib.hid hp
                            have rzf := RZ.out.front8 htle
                            have rdf := RD.out.front8 htle
                            rw [← htx] at rdf
                            have RZF := Lib.hid rzf
                            have RDF := Lib.hid rdf
                            clear hti ht128 htle hp rzf rdf htx
                            refine wp_region_held_drew (S := (fun w' => w'.cell? ⟨gD, n, none⟩ = some (.slice (some ⟨g, 0, none⟩) 128 cg))) (by kernel_rfl) (by first | exact kD) (fun hHeld => ?_)
                            clear hHeld
                            refine wpAnyH_take (i := 0) (oi := { dst := some 137, op := Go.Op.move (Go.Operand.tmp 19), type := 4, pos := "law.go:143", after := #[], guard := none }) (v := ?_) rfl (by kernel_rfl) (by kernel_rfl) (by kernel_rfl) (fun _ _ _ h => h) (Or.inl ⟨by rfl, ?_⟩) (by first | exact kD) ?_
                            rotate_left
                            · (intro w hSw; obtain s0 := hSw; go_simp <;> with_reducible rfl)
                            simp only [Act.put, List.setIfInBounds_toArray, List.set_cons_zero, List.set_cons_succ]
                            refine wpAnyH_take (i := 1) (oi := { dst := some 138, op := Go.Op.move (Go.Operand.tmp 137), type := 4, pos := "law.go:143", after := #[{ on := 0, ground := Go.Ground.data }], guard := none }) (v := ?_) rfl (by kernel_rfl) (by kernel_rfl) (by kernel_rfl) (fun _ _ _ h => h) (Or.inl ⟨by rfl, ?_⟩) (by first | exact kD) ?_
                            rotate_left
                            · (intro w hSw; obtain s0 := hSw; go_simp <;> with_reducible rfl)
                            simp only [Act.put, List.setIfInBounds_toArray, List.set_cons_zero, List.set_cons_succ]
                            refine wpAnyH_take (i := 2) (oi := { dst := some 139, op := Go.Op.move (Go.Operand.tmp 17), type := 30, pos := "law.go:143", after := #[{ on := 1, ground := Go.Ground.guard }], guard := some (1, false) }) (v := ?_) rfl (by kernel_rfl) (by kernel_rfl) (by kernel_rfl) (fun _ _ _ h => h) (Or.inl ⟨by rfl, ?_⟩) (by first | exact kD) ?_
                            rotate_left
                            · (intro w hSw; obtain s0 := hSw; go_simp <;> with_reducible rfl)
                            simp only [Act.put, List.setIfInBounds_toArray, List.set_cons_zero, List.set_cons_succ]
                            refine wpAnyH_take (i := 3) (oi := { dst := some 140, op := Go.Op.move (Go.Operand.tmp 3), type := 3, pos := "law.go:143", after := #[{ on := 1, ground := Go.Ground.guard }], guard := some (1, false) }) (v := ?_) rfl (by kernel_rfl) (by kernel_rfl) (by kernel_rfl) (fun _ _ _ h => h) (Or.inl ⟨by rfl, ?_⟩) (by first | exact kD) ?_
                            rotate_left
                            · (intro w hSw; obtain s0 := hSw; go_simp <;> with_reducible rfl)
                            simp only [Act.put, List.setIfInBounds_toArray, List.set_cons_zero, List.set_cons_succ]
                            refine wpAnyH_take (i := 4) (oi := { dst := some 141, op := Go.Op.slice 30 (Go.Operand.tmp 139) none (some (Go.Operand.tmp 140)) none, type := 30, pos := "law.go:143", after := #[{ on := 2, ground := Go.Ground.data }, { on := 3, ground := Go.Ground.data }, { on := 1, ground := Go.Ground.guard }], guard := some (1, false) }) (v := ?_) rfl (by kernel_rfl) (by kernel_rfl) (by kernel_rfl) (fun _ _ _ h => h) (Or.inl ⟨by rfl, ?_⟩) (by first | exact kD) ?_
                            rotate_left
                            · (intro w hSw; obtain s0 := hSw; go_simp <;> with_reducible rfl)
                            simp only [Act.put, List.setIfInBounds_toArray, List.set_cons_zero, List.set_cons_succ]
                            refine wpAnyH_take (i := 5) (oi := { dst := some 142, op := Go.Op.move (Go.Operand.tmp 12), type := 49, pos := "law.go:143", after := #[{ on := 1, ground := Go.Ground.guard }], guard := some (1, false) }) (v := ?_) rfl (by kernel_rfl) (by kernel_rfl) (by kernel_rfl) (fun _ _ _ h => h) (Or.inl ⟨by rfl, ?_⟩) (by first | exact kD) ?_
                            rotate_left
                            · (intro w hSw; obtain s0 := hSw; go_simp <;> with_reducible rfl)
                            simp only [Act.put, List.setIfInBounds_toArray, List.set_cons_zero, List.set_cons_succ]
                            refine wpAnyH_take (i := 6) (oi := { dst := some 143, op := Go.Op.move (Go.Operand.tmp 21), type := 3, pos := "law.go:143", after := #[{ on := 1, ground := Go.Ground.guard }], guard := some (1, false) }) (v := ?_) rfl (by kernel_rfl) (by kernel_rfl) (by kernel_rfl) (fun _ _ _ h => h) (Or.inl ⟨by rfl, ?_⟩) (by first | exact kD) ?_
                            rotate_left
                            · (intro w hSw; obtain s0 := hSw; go_simp <;> with_reducible rfl)
                            simp only [Act.put, List.setIfInBounds_toArray, List.set_cons_zero, List.set_cons_succ]
                            refine wpAnyH_take (i := 7) (oi := { dst := some 144, op := Go.Op.indexAddr 49 (Go.Operand.tmp 142) (Go.Operand.tmp 143), type := 0, pos := "law.go:143", after := #[{ on := 5, ground := Go.Ground.data }, { on := 6, ground := Go.Ground.data }, { on := 1, ground := Go.Ground.guard }], guard := some (1, false) }) (v := ?_) rfl (by kernel_rfl) (by kernel_rfl) (by kernel_rfl) (fun _ _ _ h => h) (Or.inl ⟨by rfl, ?_⟩) (by first | exact kD) ?_
                            rotate_left
                            · (intro w hSw; obtain s0 := hSw; go_simp <;> with_reducible rfl)
                            simp only [Act.put, List.setIfInBounds_toArray, List.set_cons_zero, List.set_cons_succ]
                            refine wpAnyH_take (i := 8) (oi := { dst := some 145, op := Go.Op.load 30 (Go.Operand.tmp 144), type := 30, pos := "law.go:143", after := #[{ on := 7, ground := Go.Ground.data }, { on := 1, ground := Go.Ground.guard }], guard := some (1, false) }) (v := ?_) rfl (by kernel_rfl) (by kernel_rfl) (by kernel_rfl) (fun _ _ _ h => h) (Or.inl ⟨by rfl, ?_⟩) (by first | exact kD) ?_
                            rotate_left
                            · (intro w hSw; obtain s0 := hSw; go_simp <;> with_reducible rfl)
                            simp only [Act.put, List.setIfInBounds_toArray, List.set_cons_zero, List.set_cons_succ]
                            refine wpAnyH_take (i := 9) (oi := { dst := some 146, op := Go.Op.move (Go.Operand.tmp 3), type := 3, pos := "law.go:143", after := #[{ on := 1, ground := Go.Ground.guard }], guard := some (1, false) }) (v := ?_) rfl (by kernel_rfl) (by kernel_rfl) (by kernel_rfl) (fun _ _ _ h => h) (Or.inl ⟨by rfl, ?_⟩) (by first | exact kD) ?_
                            rotate_left
                            · (intro w hSw; obtain s0 := hSw; go_simp <;> with_reducible rfl)
                            simp only [Act.put, List.setIfInBounds_toArray, List.set_cons_zero, List.set_cons_succ]
                            refine wpAnyH_take (i := 10) (oi := { dst := some 147, op := Go.Op.slice 30 (Go.Operand.tmp 145) none (some (Go.Operand.tmp 146)) none, type := 30, pos := "law.go:143", after := #[{ on := 8, ground := Go.Ground.data }, { on := 9, ground := Go.Ground.data }, { on := 1, ground := Go.Ground.guard }], guard := some (1, false) }) (v := ?_) rfl (by kernel_rfl) (by kernel_rfl) (by kernel_rfl) (fun _ _ _ h => h) (Or.inl ⟨by rfl, ?_⟩) (by first | exact kD) ?_
                            rotate_left
                            · (intro w hSw; obtain s0 := hSw; go_simp <;> with_reducible rfl)
                            simp only [Act.put, List.setIfInBounds_toArray, List.set_cons_zero, List.set_cons_succ]
                            refine wpAnyH_ready (rs := [11]) (by kernel_rfl) (by simp) ?_
                            refine AllReadyH.cons (o := { dst := some 148, op := Go.Op.call { callee := Go.Callee.value (Go.Operand.func 18), args := #[Go.Operand.tmp 141, Go.Operand.tmp 147], argTypes := #[30, 30] }, type := 4, pos := "law.go:143", after := #[{ on := 4, ground := Go.Ground.data }, { on := 10, ground := Go.Ground.data }, { on := 1, ground := Go.Ground.chain }, { on := 1, ground := Go.Ground.guard }], guard := some (1, false) }) rfl (fun K hK => ?_) AllReadyH.nil
                            go_simp
                            refine (same_eq _ _ torn.toNat (r.take torn.toNat) (w9.drewN (nd + 1)) RZF.out RDF.out).mono ?_
                            rintro e w12 ⟨rfl, n12, rfl⟩
                            go_wp2_with fail
                            refine hK.out _ _ (by first | exact kD) (fun hHeld => ?_)
                            clear hK K hHeld
                            try simp only [Act.put, List.setIfInBounds_toArray, List.set_cons_zero, List.set_cons_succ]
                            refine wpAnyH_take (i := 12) (oi := { dst := some 149, op := Go.Op.move (Go.Operand.tmp 148), type := 4, pos := "law.go:143", after := #[{ on := 11, ground := Go.Ground.data }, { on := 11, ground := Go.Ground.chain }, { on := 1, ground := Go.Ground.guard }], guard := some (1, false) }) (v := ?_) rfl (by kernel_rfl) (by kernel_rfl) (by kernel_rfl) (fun _ _ _ h => h) (Or.inl ⟨by rfl, ?_⟩) (by first | exact kD) ?_
                            rotate_left
                            · (intro w hSw; obtain s0 := hSw; go_simp <;> with_reducible rfl)
                            simp only [Act.put, List.setIfInBounds_toArray, List.set_cons_zero, List.set_cons_succ]
                            refine wpAnyH_take (i := 13) (oi := { dst := some 150, op := Go.Op.move (Go.Operand.tmp 17), type := 30, pos := "law.go:143", after := #[{ on := 12, ground := Go.Ground.guard }], guard := some (12, true) }) (v := ?_) rfl (by kernel_rfl) (by kernel_rfl) (by kernel_rfl) (fun _ _ _ h => h) (Or.inl ⟨by rfl, ?_⟩) (by first | exact kD) ?_
                            rotate_left
                            · (intro w hSw; obtain s0 := hSw; go_simp <;> with_reducible rfl)
                            simp only [Act.put, List.setIfInBounds_toArray, List.set_cons_zero, List.set_cons_succ]
                            refine wpAnyH_take (i := 14) (oi := { dst := some 151, op := Go.Op.move (Go.Operand.tmp 3), type := 3, pos := "law.go:143", after := #[{ on := 12, ground := Go.Ground.guard }], guard := some (12, true) }) (v := ?_) rfl (by kernel_rfl) (by kernel_rfl) (by kernel_rfl) (fun _ _ _ h => h) (Or.inl ⟨by rfl, ?_⟩) (by first | exact kD) ?_
                            rotate_left
                            · (intro w hSw; obtain s0 := hSw; go_simp <;> with_reducible rfl)
                            simp only [Act.put, List.setIfInBounds_toArray, List.set_cons_zero, List.set_cons_succ]
                            refine wpAnyH_take (i := 15) (oi := { dst := some 152, op := Go.Op.move (Go.Operand.tmp 16), type := 3, pos := "law.go:143", after := #[{ on := 12, ground := Go.Ground.guard }], guard := some (12, true) }) (v := ?_) rfl (by kernel_rfl) (by kernel_rfl) (by kernel_rfl) (fun _ _ _ h => h) (Or.inl ⟨by rfl, ?_⟩) (by first | exact kD) ?_
                            rotate_left
                            · (intro w hSw; obtain s0 := hSw; go_simp <;> with_reducible rfl)
                            simp only [Act.put, List.setIfInBounds_toArray, List.set_cons_zero, List.set_cons_succ]
                            refine wpAnyH_take (i := 16) (oi := { dst := some 153, op := Go.Op.move (Go.Operand.tmp 10), type := 49, pos := "law.go:143", after := #[{ on := 12, ground := Go.Ground.guard }], guard := some (12, true) }) (v := ?_) rfl (by kernel_rfl) (by kernel_rfl) (by kernel_rfl) (fun _ _ _ h => h) (Or.inl ⟨by rfl, ?_⟩) (by first | exact kD) ?_
                            rotate_left
                            · (intro w hSw; obtain s0 := hSw; go_simp <;> with_reducible rfl)
                            simp only [Act.put, List.setIfInBounds_toArray, List.set_cons_zero, List.set_cons_succ]
                            refine wpAnyH_take (i := 17) (oi := { dst := some 154, op := Go.Op.move (Go.Operand.tmp 11), type := 32, pos := "law.go:143", after := #[{ on := 12, ground := Go.Ground.guard }], guard := some (12, true) }) (v := ?_) rfl (by kernel_rfl) (by kernel_rfl) (by kernel_rfl) (fun _ _ _ h => h) (Or.inl ⟨by rfl, ?_⟩) (by first | exact kD) ?_
                            rotate_left
                            · (intro w hSw; obtain s0 := hSw; go_simp <;> with_reducible rfl)
                            simp only [Act.put, List.setIfInBounds_toArray, List.set_cons_zero, List.set_cons_succ]
                            refine wpAnyH_take (i := 18) (oi := { dst := some 155, op := Go.Op.move (Go.Operand.tmp 12), type := 49, pos := "law.go:143", after := #[{ on := 12, ground := Go.Ground.guard }], guard := some (12, true) }) (v := ?_) rfl (by kernel_rfl) (by kernel_rfl) (by kernel_rfl) (fun _ _ _ h => h) (Or.inl ⟨by rfl, ?_⟩) (by first | exact kD) ?_
                            rotate_left
                            · (intro w hSw; obtain s0 := hSw; go_simp <;> with_reducible rfl)
                            simp only [Act.put, List.setIfInBounds_toArray, List.set_cons_zero, List.set_cons_succ]
                            refine wpAnyH_ready (rs := [19]) (by kernel_rfl) (by simp) ?_
                            refine AllReadyH.cons (o := { dst := some 156, op := Go.Op.call { callee := Go.Callee.value (Go.Operand.func 30), args := #[Go.Operand.tmp 150, Go.Operand.tmp 151, Go.Operand.tmp 152, Go.Operand.tmp 153, Go.Operand.tmp 154, Go.Operand.tmp 155], argTypes := #[30, 3, 3, 49, 32, 49] }, type := 4, pos := "law.go:143", after := #[{ on := 13, ground := Go.Ground.data }, { on := 14, ground := Go.Ground.data }, { on := 15, ground := Go.Ground.data }, { on := 16, ground := Go.Ground.data }, { on := 17, ground := Go.Ground.data }, { on := 18, ground := Go.Ground.data }, { on := 12, ground := Go.Ground.chain }, { on := 12, ground := Go.Ground.guard }], guard := some (12, true) }) rfl (fun K hK => ?_) AllReadyH.nil
                            go_simp
                            refine (tails_i torn HTI.out z i r L Q _ _ _ GS G1 (w9.drewN (nd + 1 + n12)) RZ.out HT1.out (by rw [HLEN.out]; exact HI6.out) (S9.out.far ((Adv.refl Nul w9).drewN _) (fun _ h _ => h)) (D9.out.far ((Adv.refl Nul w9).drewN _) (fun _ h _ => h)) HKQ.out HP.out).mono ?_
                            rintro e w13 ⟨rfl, n13, rfl⟩
                            go_wp2_with fail
                            refine hK.out _ _ (by first | exact kD) (fun hHeld => ?_)
                            clear hK K hHeld
                            try simp only [Act.put, List.setIfInBounds_toArray, List.set_cons_zero, List.set_cons_succ]
                            refine wpAnyH_take (i := 20) (oi := { dst := some 157, op := Go.Op.pick (Go.Operand.tmp 149) (Go.Operand.tmp 156) (Go.Operand.const (Go.Value.bool false)), type := 4, pos := "law.go:143", after := #[{ on := 12, ground := Go.Ground.data }, { on := 19, ground := Go.Ground.data }, { on := 1, ground := Go.Ground.guard }], guard := some (1, false) }) (v := ?_) rfl (by kernel_rfl) (by kernel_rfl) (by kernel_rfl) (fun _ _ _ h => h) (Or.inl ⟨by rfl, ?_⟩) (by first | exact kD) ?_
                            rotate_left
                            · (intro w hSw; obtain s0 := hSw; go_simp <;> with_reducible rfl)
                            simp only [Act.put, List.setIfInBounds_toArray, List.set_cons_zero, List.set_cons_succ]
                            refine wpAnyH_take (i := 21) (oi := { dst := some 158, op := Go.Op.pick (Go.Operand.tmp 138) (Go.Operand.const (Go.Value.bool true)) (Go.Operand.tmp 157), type := 4, pos := "law.go:143", after := #[{ on := 1, ground := Go.Ground.data }, { on := 20, ground := Go.Ground.data }], guard := none }) (v := ?_) rfl (by kernel_rfl) (by kernel_rfl) (by kernel_rfl) (fun _ _ _ h => h) (Or.inl ⟨by rfl, ?_⟩) (by first | exact kD) ?_
                            rotate_left
                            · (intro w hSw; obtain s0 := hSw; go_simp <;> with_reducible rfl)
                            simp only [Act.put, List.setIfInBounds_toArray, List.set_cons_zero, List.set_cons_succ]
                            refine wpAnyH_take (i := 22) (oi := { dst := some 19, op := Go.Op.assign (Go.Operand.tmp 158), type := 4, pos := "law.go:143", after := #[{ on := 21, ground := Go.Ground.data }, { on := 19, ground := Go.Ground.chain }, { on := 0, ground := Go.Ground.phase }, { on := 1, ground := Go.Ground.phase }, { on := 2, ground := Go.Ground.phase }, { on := 3, ground := Go.Ground.phase }, { on := 4, ground := Go.Ground.phase }, { on := 5, ground := Go.Ground.phase }, { on := 6, ground := Go.Ground.phase }, { on := 7, ground := Go.Ground.phase }, { on := 8, ground := Go.Ground.phase }, { on := 9, ground := Go.Ground.phase }, { on := 10, ground := Go.Ground.phase }, { on := 11, ground := Go.Ground.phase }, { on := 12, ground := Go.Ground.phase }, { on := 13, ground := Go.Ground.phase }, { on := 14, ground := Go.Ground.phase }, { on := 15, ground := Go.Ground.phase }, { on := 16, ground := Go.Ground.phase }, { on := 17, ground := Go.Ground.phase }, { on := 18, ground := Go.Ground.phase }, { on := 19, ground := Go.Ground.phase }, { on := 20, ground := Go.Ground.phase }, { on := 21, ground := Go.Ground.phase }], guard := none }) (v := ?_) rfl (by kernel_rfl) (by kernel_rfl) (by kernel_rfl) (fun _ _ _ h => h) (Or.inl ⟨by rfl, ?_⟩) (by first | exact kD) ?_
                            rotate_left
                            · (intro w hSw; obtain s0 := hSw; go_simp <;> with_reducible rfl)
                            simp only [Act.put, List.setIfInBounds_toArray, List.set_cons_zero, List.set_cons_succ]
                            refine wpAnyH_done (by kernel_rfl) ?_ _
                            go_wp2
                            have hi6 := HI6.out
                            exact ⟨⟨i + 1, by simp, by omega, A9.out.drewN _⟩, by simp [intOf]; omega⟩
                      · have hfb := HFT.out (fun h => ht1 h.2.2.2)
                        subst hfb
                        have ht1' : (128 : Int) ≤ torn := by omega
                        clear ht1
                        go_wp2_with fail
                        have hi6 := HI6.out
                        exact ⟨⟨i + 1, by simp, by omega, A9.out.drewN nd⟩, by simp [intOf]; omega⟩
                    · have hfb := HFT.out (fun h => ht0 h.2.2.1)
                      subst hfb
                      have ht0' : torn ≤ 0 := by omega
                      clear ht0
                      go_wp2_with fail
                      have hi6 := HI6.out
                      exact ⟨⟨i + 1, by simp, by omega, A9.out.drewN nd⟩, by simp [intOf]; omega⟩
                  · have hfb := HFT.out (fun h => hai (by rw [HQA.out, ← HN1.out]; exact h.2.1))
                    subst hfb
                    have hab : ((a : Int) == (i : Int)) = false := by rw [beq_eq_false_iff_ne]; omega
                    clear hai
                    go_wp2_with fail
                    have hi6 := HI6.out
                    exact ⟨⟨i + 1, by simp, by omega, A9.out.drewN nd⟩, by simp [intOf]; omega⟩
          · obtain rfl : i = 6 := by omega
            clear hi hi6
            have HW := Lib.hid (H8.out.far HA.out (fun _ h _ => h))
            go_wp2_with (first
              | (go_at_call 24; refine (live_dk d 6 F1 _ _ HW.out).mono ?_; rintro e w12 ⟨rfl, rfl⟩)
              | (go_at_call 31; refine (waits_dk d 6 F1 _ _ HW.out (Nat.zero_le _)).mono ?_; rintro e w12 ⟨z12, rfl, hs12, a12⟩; clear hs12; have A12 := Lib.hid a12; clear a12)
              | (go_at_call 26; refine (lives_any _).mono ?_; rintro e w13 ⟨rfl, hb13⟩)
              | fail)
            go_ret
            have b1 := B8.out.trans (HA.out.toBelow.mono B8.out.size)
            have b2 := b1.trans (A12.out.toBelow.mono b1.size)
            exact ⟨rfl, b2.trans (hb13.mono b2.size)⟩
      · have hmk : ¬ k < m := by omega
        clear hm10
        go_wp2_with fail
        clear hmk
        obtain ⟨kk, hkk⟩ : ∃ kk : Int, kk = (k : Int) := ⟨_, rfl⟩
        rw [← hkk]
        clear hkk
        have hrow := HLA.out.dk.1.row
        have hat := HLA.out.dk.1.at_
        have hlen := HLA.out.dk.1.len
        obtain ⟨L2, hL2⟩ : ∃ L2, L2 = laysBy (kept ks torn Q.length) Q L Q.length := ⟨_, rfl⟩
        have hs8 : crashS ⟨L, Q, false, none⟩ ks torn = ⟨L2, [], false, none⟩ := by rw [hL2]; rfl
        have hcc : ∀ i r, r = isS ⟨L2, [], false, none⟩ i → Plain L Q i Q.length r ∨ (0 < Q.length ∧ (Q.getD (Q.length - 1) (0, [])).1 = i ∧ 0 < torn ∧ torn < 128 ∧ r.take torn.toNat = ((Q.getD (Q.length - 1) (0, [])).2).take torn.toNat ∧ ∃ p, Plain L Q i Q.length p ∧ r.drop torn.toNat = p.drop torn.toNat) := fun i r hr =>
          crash_cases ks torn Q L hrow (fun q hq => by have h := hat q hq; exact ⟨by rw [show L.length = 6 from hlen]; exact h.1, h.2⟩) i r (by rw [← hL2]; exact hr)
        have HCC := Lib.hid hcc
        have HS8 := Lib.hid hs8
        have HLEN := Lib.hid (show L.length = 6 from hlen)
        clear hrow hat hlen hL2 hs8 hcc
        go_wp2_with (first
          | (go_at_call 21; refine (crash_dk d 6 _ vk F1 ⟨L, Q, false, none⟩ ks torn _ HLA.out.dk (HK1.out.far_old HLA.out.below) (fun j hj hn hF => by have := HLA.out.fb j hF; have := HK2.out j hj hn; omega)).mono ?_; rw [HS8.out]; rintro e w8 ⟨rfl, h8, a8⟩; have D8 := Lib.hid (HLA.out.dat.far a8 HLA.out.fg); have S8 := Lib.hid (HLA.out.secs.far a8 HLA.out.fs); have B8 := Lib.hid (Adv.below HLA.out.below a8 HLA.out.fb HLA.out.below.size); have H8 := Lib.hid h8; clear h8 a8)
          | fail)
        clear HLA HVS HSD HSR HQL
        go_loopw [16] (LbRel w8) (fun t _ => 6 - (intOf t).toNat)
        case atStart => exact ⟨0, rfl, by omega, (Adv.refl Nul w8)⟩
        case round =>
          obtain ⟨i, rfl, hi, ha⟩ := hrel
          have HA := Lib.hid ha
          clear ha
          by_cases hi6 : i < 6
          · have hii : (i : Int) < 6 := by omega
            have HI6 := Lib.hid hi6
            have hiL : (i : Int) < (L.length : Int) := by rw [HLEN.out]; exact hii
            clear hi hi6
            go_wp2_with (first
              | (go_at_call 16; refine (read_dk d 6 F1 ⟨L2, [], false, none⟩ i _ (H8.out.far HA.out (fun _ h _ => h)) HI6.out).mono ?_; rintro e w9 ⟨z, rfl, hz, hzl, a9⟩; obtain ⟨r, hr⟩ : ∃ r, r = isS ⟨L2, [], false, none⟩ i := ⟨_, rfl⟩; rw [← hr] at hz hzl; have HCI := Lib.hid (HCC.out i r hr); have RZ := Lib.hid (hz.rd8 hzl); have A9 := Lib.hid (HA.out.over a9.forget); have D9 := Lib.hid (D8.out.far A9.out (fun _ h _ => h)); have S9 := Lib.hid (S8.out.far A9.out (fun _ h _ => h)); obtain ⟨gS, cS, zS, e, hgs, kS, hzs, rS, lS⟩ := S9.out.at_ (by rw [HLEN.out]; exact HI6.out); subst e; unfold sv at kS rS; have RS := Lib.hid rS; obtain ⟨f0, hf0⟩ : ∃ f0, f0 = fitsB L Q i r 0 := ⟨_, rfl⟩; have HF0 := Lib.hid hf0; clear hr hz hzl a9 hgs hzs rS lS hf0)
              | (go_at_call 18; refine (same_any _ _ _ _ r (L.getD i []) _ RZ.out RS.out).mono ?_; rw [show decide (r = L.getD i []) = f0 from HF0.out.symm]; rintro e w10 ⟨rfl, n10, rfl⟩)
              | fail)
            have hq0 := HKQ.out
            go_loopw [19, 20] (LcRel w9 L Q i r) (fun _ t' _ => Q.length - (intOf t').toNat)
            case atStart => exact ⟨0, rfl, by rw [HF0.out], Nat.zero_le _, n10, rfl⟩
            case round =>
              obtain ⟨j, rfl, rfl, hj, nd, rfl⟩ := hrel
              clear hq0
              obtain ⟨fb, hfb⟩ : ∃ fb, fb = fitsB L Q i r j := ⟨_, rfl⟩
              rw [← hfb]
              have HFB := Lib.hid hfb
              clear hfb
              by_cases hlt : j < Q.length
              · have HLT := Lib.hid hlt
                obtain ⟨gA, cA', gD, cD', g, cg, e1, kA, e2, kD, hcg, rD, lD⟩ := D9.out.at_ hlt
                injection e1 with e1 e1b e1c
                injection e2 with e2 e2b e2c
                subst e1 e2
                have hjq : (j : Int) < (Q.length : Int) := by omega
                have hj2 : j + 1 ≤ 9223372036854775807 := by have := HKQ.out; omega
                have hnext : fitsB L Q i r (j + 1) = (fb || (decide ((Q.getD j (0, [])).1 = i) && decide (r = (Q.getD j (0, [])).2))) := by rw [fitsB, ← HFB.out]
                obtain ⟨q, hq⟩ : ∃ q, q = Q.getD j (0, []) := ⟨_, rfl⟩
                rw [← hq] at kA rD hnext
                obtain ⟨a, hqa⟩ : ∃ a, a = q.1 := ⟨_, rfl⟩
                rw [← hqa] at kA hnext
                have RD := Lib.hid rD
                have HN := Lib.hid hnext
                clear hj hlt hcg rD lD hnext hq hqa e1b e1c e2b e2c
                cases fb with
                | true =>
                  have HE := Lib.hid (show fitsB L Q i r (j + 1) = true by rw [HN.out]; rfl)
                  go_wp2_with fail
                  have hlt := HLT.out
                  exact ⟨⟨j + 1, by simp, by rw [HE.out], by omega, _, rfl⟩, by simp [intOf]; omega⟩
                | false =>
                  by_cases hai : a = i
                  · have hab : ((a : Int) == (i : Int)) = true := by rw [beq_iff_eq]; omega
                    obtain ⟨fn, hfn⟩ : ∃ fn, fn = decide (r = q.2) := ⟨_, rfl⟩
                    have HE := Lib.hid (show fitsB L Q i r (j + 1) = fn by rw [HN.out, decide_eq_true hai, hfn]; rfl)
                    have HFN := Lib.hid hfn
                    clear hai hfn
                    go_wp2_with (first
                      | (go_at_call 18; refine (same_any _ _ _ _ r q.2 (w9.drewN nd) RZ.out RD.out).mono ?_; rw [← HFN.out]; rintro e w11 ⟨rfl, n11, rfl⟩)
                      | fail)
                    have hlt := HLT.out
                    exact ⟨⟨j + 1, by simp, by rw [HE.out], by omega, _, rfl⟩, by simp [intOf]; omega⟩
                  · have hab : ((a : Int) == (i : Int)) = false := by rw [beq_eq_false_iff_ne]; omega
                    have HE := Lib.hid (show fitsB L Q i r (j + 1) = false by rw [HN.out, decide_eq_false hai]; rfl)
                    clear hai
                    go_wp2_with fail
                    have hlt := HLT.out
                    exact ⟨⟨j + 1, by simp, by rw [HE.out], by omega, _, rfl⟩, by simp [intOf]; omega⟩
              · obtain rfl : j = Q.length := by omega
                clear hj hlt
                have HFT : Hid (¬ (0 < Q.length ∧ (Q.getD (Q.length - 1) (0, [])).1 = i ∧ 0 < torn ∧ torn < 128) → fb = true) := fun hno => by
                  rcases HCI.out with hpl | ⟨hz, hqx, ht0, ht1, _, _⟩
                  · exact HFB.out.trans (fitsB_plain L Q i r _ hpl)
                  · exact absurd ⟨hz, hqx, ht0, ht1⟩ hno
                rcases Nat.eq_zero_or_pos Q.length with hz | hz
                · have hfb := HFT.out (fun h => by omega)
                  subst hfb
                  have hqi : (Q.length : Int) - 1 = -1 := by omega
                  clear hz
                  go_wp2_with fail
                  have hi6 := HI6.out
                  exact ⟨⟨i + 1, by simp, by omega, A9.out.drewN nd⟩, by simp [intOf]; omega⟩
                · obtain ⟨n, hnl, hqi, hnq, hnw, hn64, hn1⟩ := last_facts HKQ.out hz
                  obtain ⟨gA, cA', gD, cD', g, cg, e1, kA, e2, kD, hcg, rD, lD⟩ := D9.out.at_ hnl
                  injection e1 with e1 e1b e1c
                  injection e2 with e2 e2b e2c
                  subst e1 e2
                  obtain ⟨a, hqa⟩ : ∃ a, a = (Q.getD n (0, [])).1 := ⟨_, rfl⟩
                  rw [← hqa] at kA
                  have HQA := Lib.hid hqa
                  have HN1 := Lib.hid hn1
                  have HZ := Lib.hid hz
                  have RD := Lib.hid rD
                  have HCG := Lib.hid hcg
                  clear hz hnl hcg rD lD hqa e1b e1c e2b e2c hn1
                  by_cases hai : a = i
                  · have hab : ((a : Int) == (i : Int)) = true := ab_int hai
                    have HAI := Lib.hid hai
                    clear hai
                    by_cases ht0 : 0 < torn
                    · by_cases ht1 : torn < 128
                      · go_wp2_with fail
                        cases fb with
                        | true =>
                          refine wp_region_held_drew (S := (fun _ => True)) (by kernel_rfl) (by first | trivial) (fun hHeld => ?_)
                          clear hHeld
                          refine wpAnyH_take (i := 0) (oi := { dst := some 137, op := Go.Op.move (Go.Operand.tmp 19), type := 4, pos := "law.go:143", after := #[], guard := none }) (v := ?_) rfl (by kernel_rfl) (by kernel_rfl) (by kernel_rfl) (fun _ _ _ h => h) (Or.inl ⟨by rfl, ?_⟩) (by first | trivial) ?_
                          rotate_left
                          · (intro w hSw; obtain _ := hSw; go_simp <;> with_reducible rfl)
                          simp only [Act.put, List.setIfInBounds_toArray, List.set_cons_zero, List.set_cons_succ]
                          refine wpAnyH_take (i := 1) (oi := { dst := some 138, op := Go.Op.move (Go.Operand.tmp 137), type := 4, pos := "law.go:143", after := #[{ on := 0, ground := Go.Ground.data }], guard := none }) (v := ?_) rfl (by kernel_rfl) (by kernel_rfl) (by kernel_rfl) (fun _ _ _ h => h) (Or.inl ⟨by rfl, ?_⟩) (by first | trivial) ?_
                          rotate_left
                          · (intro w hSw; obtain _ := hSw; go_simp <;> with_reducible rfl)
                          simp only [Act.put, List.setIfInBounds_toArray, List.set_cons_zero, List.set_cons_succ]
                          refine wpAnyH_take (i := 2) (oi := { dst := some 139, op := Go.Op.move (Go.Operand.tmp 17), type := 30, pos := "law.go:143", after := #[{ on := 1, ground := Go.Ground.guard }], guard := some (1, false) }) (v := undef) rfl (by kernel_rfl) (by kernel_rfl) (by kernel_rfl) (fun _ _ _ h => h) (Or.inr ⟨by rfl, rfl⟩) (by first | trivial) ?_
                          try simp only [Act.put, List.setIfInBounds_toArray, List.set_cons_zero, List.set_cons_succ]
                          refine wpAnyH_take (i := 3) (oi := { dst := some 140, op := Go.Op.move (Go.Operand.tmp 3), type := 3, pos := "law.go:143", after := #[{ on := 1, ground := Go.Ground.guard }], guard := some (1, false) }) (v := undef) rfl (by kernel_rfl) (by kernel_rfl) (by kernel_rfl) (fun _ _ _ h => h) (Or.inr ⟨by rfl, rfl⟩) (by first | trivial) ?_
                          try simp only [Act.put, List.setIfInBounds_toArray, List.set_cons_zero, List.set_cons_succ]
                          refine wpAnyH_take (i := 4) (oi := { dst := some 141, op := Go.Op.slice 30 (Go.Operand.tmp 139) none (some (Go.Operand.tmp 140)) none, type := 30, pos := "law.go:143", after := #[{ on := 2, ground := Go.Ground.data }, { on := 3, ground := Go.Ground.data }, { on := 1, ground := Go.Ground.guard }], guard := some (1, false) }) (v := undef) rfl (by kernel_rfl) (by kernel_rfl) (by kernel_rfl) (fun _ _ _ h => h) (Or.inr ⟨by rfl, rfl⟩) (by first | trivial) ?_
                          try simp only [Act.put, List.setIfInBounds_toArray, List.set_cons_zero, List.set_cons_succ]
                          refine wpAnyH_take (i := 5) (oi := { dst := some 142, op := Go.Op.move (Go.Operand.tmp 12), type := 49, pos := "law.go:143", after := #[{ on := 1, ground := Go.Ground.guard }], guard := some (1, false) }) (v := undef) rfl (by kernel_rfl) (by kernel_rfl) (by kernel_rfl) (fun _ _ _ h => h) (Or.inr ⟨by rfl, rfl⟩) (by first | trivial) ?_
                          try simp only [Act.put, List.setIfInBounds_toArray, List.set_cons_zero, List.set_cons_succ]
                          refine wpAnyH_take (i := 6) (oi := { dst := some 143, op := Go.Op.move (Go.Operand.tmp 21), type := 3, pos := "law.go:143", after := #[{ on := 1, ground := Go.Ground.guard }], guard := some (1, false) }) (v := undef) rfl (by kernel_rfl) (by kernel_rfl) (by kernel_rfl) (fun _ _ _ h => h) (Or.inr ⟨by rfl, rfl⟩) (by first | trivial) ?_
                          try simp only [Act.put, List.setIfInBounds_toArray, List.set_cons_zero, List.set_cons_succ]
                          refine wpAnyH_take (i := 7) (oi := { dst := some 144, op := Go.Op.indexAddr 49 (Go.Operand.tmp 142) (Go.Operand.tmp 143), type := 0, pos := "law.go:143", after := #[{ on := 5, ground := Go.Ground.data }, { on := 6, ground := Go.Ground.data }, { on := 1, ground := Go.Ground.guard }], guard := some (1, false) }) (v := undef) rfl (by kernel_rfl) (by kernel_rfl) (by kernel_rfl) (fun _ _ _ h => h) (Or.inr ⟨by rfl, rfl⟩) (by first | trivial) ?_
                          try simp only [Act.put, List.setIfInBounds_toArray, List.set_cons_zero, List.set_cons_succ]
                          refine wpAnyH_take (i := 8) (oi := { dst := some 145, op := Go.Op.load 30 (Go.Operand.tmp 144), type := 30, pos := "law.go:143", after := #[{ on := 7, ground := Go.Ground.data }, { on := 1, ground := Go.Ground.guard }], guard := some (1, false) }) (v := undef) rfl (by kernel_rfl) (by kernel_rfl) (by kernel_rfl) (fun _ _ _ h => h) (Or.inr ⟨by rfl, rfl⟩) (by first | trivial) ?_
                          try simp only [Act.put, List.setIfInBounds_toArray, List.set_cons_zero, List.set_cons_succ]
                          refine wpAnyH_take (i := 9) (oi := { dst := some 146, op := Go.Op.move (Go.Operand.tmp 3), type := 3, pos := "law.go:143", after := #[{ on := 1, ground := Go.Ground.guard }], guard := some (1, false) }) (v := undef) rfl (by kernel_rfl) (by kernel_rfl) (by kernel_rfl) (fun _ _ _ h => h) (Or.inr ⟨by rfl, rfl⟩) (by first | trivial) ?_
                          try simp only [Act.put, List.setIfInBounds_toArray, List.set_cons_zero, List.set_cons_succ]
                          refine wpAnyH_take (i := 10) (oi := { dst := some 147, op := Go.Op.slice 30 (Go.Operand.tmp 145) none (some (Go.Operand.tmp 146)) none, type := 30, pos := "law.go:143", after := #[{ on := 8, ground := Go.Ground.data }, { on := 9, ground := Go.Ground.data }, { on := 1, ground := Go.Ground.guard }], guard := some (1, false) }) (v := undef) rfl (by kernel_rfl) (by kernel_rfl) (by kernel_rfl) (fun _ _ _ h => h) (Or.inr ⟨by rfl, rfl⟩) (by first | trivial) ?_
                          try simp only [Act.put, List.setIfInBounds_toArray, List.set_cons_zero, List.set_cons_succ]
                          refine wpAnyH_take (i := 11) (oi := { dst := some 148, op := Go.Op.call { callee := Go.Callee.value (Go.Operand.func 18), args := #[Go.Operand.tmp 141, Go.Operand.tmp 147], argTypes := #[30, 30] }, type := 4, pos := "law.go:143", after := #[{ on := 4, ground := Go.Ground.data }, { on := 10, ground := Go.Ground.data }, { on := 1, ground := Go.Ground.chain }, { on := 1, ground := Go.Ground.guard }], guard := some (1, false) }) (v := undef) rfl (by kernel_rfl) (by kernel_rfl) (by kernel_rfl) (fun _ _ _ h => h) (Or.inr ⟨by rfl, rfl⟩) (by first | trivial) ?_
                          try simp only [Act.put, List.setIfInBounds_toArray, List.set_cons_zero, List.set_cons_succ]
                          refine wpAnyH_take (i := 12) (oi := { dst := some 149, op := Go.Op.move (Go.Operand.tmp 148), type := 4, pos := "law.go:143", after := #[{ on := 11, ground := Go.Ground.data }, { on := 11, ground := Go.Ground.chain }, { on := 1, ground := Go.Ground.guard }], guard := some (1, false) }) (v := undef) rfl (by kernel_rfl) (by kernel_rfl) (by kernel_rfl) (fun _ _ _ h => h) (Or.inr ⟨by rfl, rfl⟩) (by first | trivial) ?_
                          try simp only [Act.put, List.setIfInBounds_toArray, List.set_cons_zero, List.set_cons_succ]
                          refine wpAnyH_take (i := 13) (oi := { dst := some 150, op := Go.Op.move (Go.Operand.tmp 17), type := 30, pos := "law.go:143", after := #[{ on := 12, ground := Go.Ground.guard }], guard := some (12, true) }) (v := undef) rfl (by kernel_rfl) (by kernel_rfl) (by kernel_rfl) (fun _ _ _ h => h) (Or.inr ⟨by rfl, rfl⟩) (by first | trivial) ?_
                          try simp only [Act.put, List.setIfInBounds_toArray, List.set_cons_zero, List.set_cons_succ]
                          refine wpAnyH_take (i := 14) (oi := { dst := some 151, op := Go.Op.move (Go.Operand.tmp 3), type := 3, pos := "law.go:143", after := #[{ on := 12, ground := Go.Ground.guard }], guard := some (12, true) }) (v := undef) rfl (by kernel_rfl) (by kernel_rfl) (by kernel_rfl) (fun _ _ _ h => h) (Or.inr ⟨by rfl, rfl⟩) (by first | trivial) ?_
                          try simp only [Act.put, List.setIfInBounds_toArray, List.set_cons_zero, List.set_cons_succ]
                          refine wpAnyH_take (i := 15) (oi := { dst := some 152, op := Go.Op.move (Go.Operand.tmp 16), type := 3, pos := "law.go:143", after := #[{ on := 12, ground := Go.Ground.guard }], guard := some (12, true) }) (v := undef) rfl (by kernel_rfl) (by kernel_rfl) (by kernel_rfl) (fun _ _ _ h => h) (Or.inr ⟨by rfl, rfl⟩) (by first | trivial) ?_
                          try simp only [Act.put, List.setIfInBounds_toArray, List.set_cons_zero, List.set_cons_succ]
                          refine wpAnyH_take (i := 16) (oi := { dst := some 153, op := Go.Op.move (Go.Operand.tmp 10), type := 49, pos := "law.go:143", after := #[{ on := 12, ground := Go.Ground.guard }], guard := some (12, true) }) (v := undef) rfl (by kernel_rfl) (by kernel_rfl) (by kernel_rfl) (fun _ _ _ h => h) (Or.inr ⟨by rfl, rfl⟩) (by first | trivial) ?_
                          try simp only [Act.put, List.setIfInBounds_toArray, List.set_cons_zero, List.set_cons_succ]
                          refine wpAnyH_take (i := 17) (oi := { dst := some 154, op := Go.Op.move (Go.Operand.tmp 11), type := 32, pos := "law.go:143", after := #[{ on := 12, ground := Go.Ground.guard }], guard := some (12, true) }) (v := undef) rfl (by kernel_rfl) (by kernel_rfl) (by kernel_rfl) (fun _ _ _ h => h) (Or.inr ⟨by rfl, rfl⟩) (by first | trivial) ?_
                          try simp only [Act.put, List.setIfInBounds_toArray, List.set_cons_zero, List.set_cons_succ]
                          refine wpAnyH_take (i := 18) (oi := { dst := some 155, op := Go.Op.move (Go.Operand.tmp 12), type := 49, pos := "law.go:143", after := #[{ on := 12, ground := Go.Ground.guard }], guard := some (12, true) }) (v := undef) rfl (by kernel_rfl) (by kernel_rfl) (by kernel_rfl) (fun _ _ _ h => h) (Or.inr ⟨by rfl, rfl⟩) (by first | trivial) ?_
                          try simp only [Act.put, List.setIfInBounds_toArray, List.set_cons_zero, List.set_cons_succ]
                          refine wpAnyH_take (i := 19) (oi := { dst := some 156, op := Go.Op.call { callee := Go.Callee.value (Go.Operand.func 30), args := #[Go.Operand.tmp 150, Go.Operand.tmp 151, Go.Operand.tmp 152, Go.Operand.tmp 153, Go.Operand.tmp 154, Go.Operand.tmp 155], argTypes := #[30, 3, 3, 49, 32, 49] }, type := 4, pos := "law.go:143", after := #[{ on := 13, ground := Go.Ground.data }, { on := 14, ground := Go.Ground.data }, { on := 15, ground := Go.Ground.data }, { on := 16, ground := Go.Ground.data }, { on := 17, ground := Go.Ground.data }, { on := 18, ground := Go.Ground.data }, { on := 12, ground := Go.Ground.chain }, { on := 12, ground := Go.Ground.guard }], guard := some (12, true) }) (v := undef) rfl (by kernel_rfl) (by kernel_rfl) (by kernel_rfl) (fun _ _ _ h => h) (Or.inr ⟨by rfl, rfl⟩) (by first | trivial) ?_
                          try simp only [Act.put, List.setIfInBounds_toArray, List.set_cons_zero, List.set_cons_succ]
                          refine wpAnyH_take (i := 20) (oi := { dst := some 157, op := Go.Op.pick (Go.Operand.tmp 149) (Go.Operand.tmp 156) (Go.Operand.const (Go.Value.bool false)), type := 4, pos := "law.go:143", after := #[{ on := 12, ground := Go.Ground.data }, { on := 19, ground := Go.Ground.data }, { on := 1, ground := Go.Ground.guard }], guard := some (1, false) }) (v := undef) rfl (by kernel_rfl) (by kernel_rfl) (by kernel_rfl) (fun _ _ _ h => h) (Or.inr ⟨by rfl, rfl⟩) (by first | trivial) ?_
                          try simp only [Act.put, List.setIfInBounds_toArray, List.set_cons_zero, List.set_cons_succ]
                          refine wpAnyH_take (i := 21) (oi := { dst := some 158, op := Go.Op.pick (Go.Operand.tmp 138) (Go.Operand.const (Go.Value.bool true)) (Go.Operand.tmp 157), type := 4, pos := "law.go:143", after := #[{ on := 1, ground := Go.Ground.data }, { on := 20, ground := Go.Ground.data }], guard := none }) (v := ?_) rfl (by kernel_rfl) (by kernel_rfl) (by kernel_rfl) (fun _ _ _ h => h) (Or.inl ⟨by rfl, ?_⟩) (by first | trivial) ?_
                          rotate_left
                          · (intro w hSw; obtain _ := hSw; go_simp <;> with_reducible rfl)
                          simp only [Act.put, List.setIfInBounds_toArray, List.set_cons_zero, List.set_cons_succ]
                          refine wpAnyH_take (i := 22) (oi := { dst := some 19, op := Go.Op.assign (Go.Operand.tmp 158), type := 4, pos := "law.go:143", after := #[{ on := 21, ground := Go.Ground.data }, { on := 19, ground := Go.Ground.chain }, { on := 0, ground := Go.Ground.phase }, { on := 1, ground := Go.Ground.phase }, { on := 2, ground := Go.Ground.phase }, { on := 3, ground := Go.Ground.phase }, { on := 4, ground := Go.Ground.phase }, { on := 5, ground := Go.Ground.phase }, { on := 6, ground := Go.Ground.phase }, { on := 7, ground := Go.Ground.phase }, { on := 8, ground := Go.Ground.phase }, { on := 9, ground := Go.Ground.phase }, { on := 10, ground := Go.Ground.phase }, { on := 11, ground := Go.Ground.phase }, { on := 12, ground := Go.Ground.phase }, { on := 13, ground := Go.Ground.phase }, { on := 14, ground := Go.Ground.phase }, { on := 15, ground := Go.Ground.phase }, { on := 16, ground := Go.Ground.phase }, { on := 17, ground := Go.Ground.phase }, { on := 18, ground := Go.Ground.phase }, { on := 19, ground := Go.Ground.phase }, { on := 20, ground := Go.Ground.phase }, { on := 21, ground := Go.Ground.phase }], guard := none }) (v := ?_) rfl (by kernel_rfl) (by kernel_rfl) (by kernel_rfl) (fun _ _ _ h => h) (Or.inl ⟨by rfl, ?_⟩) (by first | trivial) ?_
                          rotate_left
                          · (intro w hSw; obtain _ := hSw; go_simp <;> with_reducible rfl)
                          simp only [Act.put, List.setIfInBounds_toArray, List.set_cons_zero, List.set_cons_succ]
                          refine wpAnyH_done (by kernel_rfl) ?_ _
                          go_wp2
                          have hi6 := HI6.out
                          exact ⟨⟨i + 1, by simp, by omega, A9.out.drewN _⟩, by simp [intOf]; omega⟩
                        | false =>
                          rcases HCI.out with hpl | ⟨_, _, _, _, htx, hp⟩
                          · have h := fitsB_plain L Q i r _ hpl
                            rw [← HFB.out] at h
                            cases h
                          · rw [HN1.out] at htx
                            obtain ⟨hti, ht128, htle, htz, htl⟩ := torn_facts ht0 ht1
                            have htc := Int.le_trans htl (cg_int HCG.out)
                            have HTI := Lib.hid hti
                            have HT1 := Lib.hid ht128
                            have HP := Lib.hid hp
                            have rzf := RZ.out.front8 htle
                            have rdf := RD.out.front8 htle
                            rw [← htx] at rdf
                            have RZF := Lib.hid rzf
                            have RDF := Lib.hid rdf
                            clear hti ht128 htle hp rzf rdf htx
                            refine wp_region_held_drew (S := (fun w' => w'.cell? ⟨gD, n, none⟩ = some (.slice (some ⟨g, 0, none⟩) 128 cg))) (by kernel_rfl) (by first | exact kD) (fun hHeld => ?_)
                            clear hHeld
                            refine wpAnyH_take (i := 0) (oi := { dst := some 137, op := Go.Op.move (Go.Operand.tmp 19), type := 4, pos := "law.go:143", after := #[], guard := none }) (v := ?_) rfl (by kernel_rfl) (by kernel_rfl) (by kernel_rfl) (fun _ _ _ h => h) (Or.inl ⟨by rfl, ?_⟩) (by first | exact kD) ?_
                            rotate_left
                            · (intro w hSw; obtain s0 := hSw; go_simp <;> with_reducible rfl)
                            simp only [Act.put, List.setIfInBounds_toArray, List.set_cons_zero, List.set_cons_succ]
                            refine wpAnyH_take (i := 1) (oi := { dst := some 138, op := Go.Op.move (Go.Operand.tmp 137), type := 4, pos := "law.go:143", after := #[{ on := 0, ground := Go.Ground.data }], guard := none }) (v := ?_) rfl (by kernel_rfl) (by kernel_rfl) (by kernel_rfl) (fun _ _ _ h => h) (Or.inl ⟨by rfl, ?_⟩) (by first | exact kD) ?_
                            rotate_left
                            · (intro w hSw; obtain s0 := hSw; go_simp <;> with_reducible rfl)
                            simp only [Act.put, List.setIfInBounds_toArray, List.set_cons_zero, List.set_cons_succ]
                            refine wpAnyH_take (i := 2) (oi := { dst := some 139, op := Go.Op.move (Go.Operand.tmp 17), type := 30, pos := "law.go:143", after := #[{ on := 1, ground := Go.Ground.guard }], guard := some (1, false) }) (v := ?_) rfl (by kernel_rfl) (by kernel_rfl) (by kernel_rfl) (fun _ _ _ h => h) (Or.inl ⟨by rfl, ?_⟩) (by first | exact kD) ?_
                            rotate_left
                            · (intro w hSw; obtain s0 := hSw; go_simp <;> with_reducible rfl)
                            simp only [Act.put, List.setIfInBounds_toArray, List.set_cons_zero, List.set_cons_succ]
                            refine wpAnyH_take (i := 3) (oi := { dst := some 140, op := Go.Op.move (Go.Operand.tmp 3), type := 3, pos := "law.go:143", after := #[{ on := 1, ground := Go.Ground.guard }], guard := some (1, false) }) (v := ?_) rfl (by kernel_rfl) (by kernel_rfl) (by kernel_rfl) (fun _ _ _ h => h) (Or.inl ⟨by rfl, ?_⟩) (by first | exact kD) ?_
                            rotate_left
                            · (intro w hSw; obtain s0 := hSw; go_simp <;> with_reducible rfl)
                            simp only [Act.put, List.setIfInBounds_toArray, List.set_cons_zero, List.set_cons_succ]
                            refine wpAnyH_take (i := 4) (oi := { dst := some 141, op := Go.Op.slice 30 (Go.Operand.tmp 139) none (some (Go.Operand.tmp 140)) none, type := 30, pos := "law.go:143", after := #[{ on := 2, ground := Go.Ground.data }, { on := 3, ground := Go.Ground.data }, { on := 1, ground := Go.Ground.guard }], guard := some (1, false) }) (v := ?_) rfl (by kernel_rfl) (by kernel_rfl) (by kernel_rfl) (fun _ _ _ h => h) (Or.inl ⟨by rfl, ?_⟩) (by first | exact kD) ?_
                            rotate_left
                            · (intro w hSw; obtain s0 := hSw; go_simp <;> with_reducible rfl)
                            simp only [Act.put, List.setIfInBounds_toArray, List.set_cons_zero, List.set_cons_succ]
                            refine wpAnyH_take (i := 5) (oi := { dst := some 142, op := Go.Op.move (Go.Operand.tmp 12), type := 49, pos := "law.go:143", after := #[{ on := 1, ground := Go.Ground.guard }], guard := some (1, false) }) (v := ?_) rfl (by kernel_rfl) (by kernel_rfl) (by kernel_rfl) (fun _ _ _ h => h) (Or.inl ⟨by rfl, ?_⟩) (by first | exact kD) ?_
                            rotate_left
                            · (intro w hSw; obtain s0 := hSw; go_simp <;> with_reducible rfl)
                            simp only [Act.put, List.setIfInBounds_toArray, List.set_cons_zero, List.set_cons_succ]
                            refine wpAnyH_take (i := 6) (oi := { dst := some 143, op := Go.Op.move (Go.Operand.tmp 21), type := 3, pos := "law.go:143", after := #[{ on := 1, ground := Go.Ground.guard }], guard := some (1, false) }) (v := ?_) rfl (by kernel_rfl) (by kernel_rfl) (by kernel_rfl) (fun _ _ _ h => h) (Or.inl ⟨by rfl, ?_⟩) (by first | exact kD) ?_
                            rotate_left
                            · (intro w hSw; obtain s0 := hSw; go_simp <;> with_reducible rfl)
                            simp only [Act.put, List.setIfInBounds_toArray, List.set_cons_zero, List.set_cons_succ]
                            refine wpAnyH_take (i := 7) (oi := { dst := some 144, op := Go.Op.indexAddr 49 (Go.Operand.tmp 142) (Go.Operand.tmp 143), type := 0, pos := "law.go:143", after := #[{ on := 5, ground := Go.Ground.data }, { on := 6, ground := Go.Ground.data }, { on := 1, ground := Go.Ground.guard }], guard := some (1, false) }) (v := ?_) rfl (by kernel_rfl) (by kernel_rfl) (by kernel_rfl) (fun _ _ _ h => h) (Or.inl ⟨by rfl, ?_⟩) (by first | exact kD) ?_
                            rotate_left
                            · (intro w hSw; obtain s0 := hSw; go_simp <;> with_reducible rfl)
                            simp only [Act.put, List.setIfInBounds_toArray, List.set_cons_zero, List.set_cons_succ]
                            refine wpAnyH_take (i := 8) (oi := { dst := some 145, op := Go.Op.load 30 (Go.Operand.tmp 144), type := 30, pos := "law.go:143", after := #[{ on := 7, ground := Go.Ground.data }, { on := 1, ground := Go.Ground.guard }], guard := some (1, false) }) (v := ?_) rfl (by kernel_rfl) (by kernel_rfl) (by kernel_rfl) (fun _ _ _ h => h) (Or.inl ⟨by rfl, ?_⟩) (by first | exact kD) ?_
                            rotate_left
                            · (intro w hSw; obtain s0 := hSw; go_simp <;> with_reducible rfl)
                            simp only [Act.put, List.setIfInBounds_toArray, List.set_cons_zero, List.set_cons_succ]
                            refine wpAnyH_take (i := 9) (oi := { dst := some 146, op := Go.Op.move (Go.Operand.tmp 3), type := 3, pos := "law.go:143", after := #[{ on := 1, ground := Go.Ground.guard }], guard := some (1, false) }) (v := ?_) rfl (by kernel_rfl) (by kernel_rfl) (by kernel_rfl) (fun _ _ _ h => h) (Or.inl ⟨by rfl, ?_⟩) (by first | exact kD) ?_
                            rotate_left
                            · (intro w hSw; obtain s0 := hSw; go_simp <;> with_reducible rfl)
                            simp only [Act.put, List.setIfInBounds_toArray, List.set_cons_zero, List.set_cons_succ]
                            refine wpAnyH_take (i := 10) (oi := { dst := some 147, op := Go.Op.slice 30 (Go.Operand.tmp 145) none (some (Go.Operand.tmp 146)) none, type := 30, pos := "law.go:143", after := #[{ on := 8, ground := Go.Ground.data }, { on := 9, ground := Go.Ground.data }, { on := 1, ground := Go.Ground.guard }], guard := some (1, false) }) (v := ?_) rfl (by kernel_rfl) (by kernel_rfl) (by kernel_rfl) (fun _ _ _ h => h) (Or.inl ⟨by rfl, ?_⟩) (by first | exact kD) ?_
                            rotate_left
                            · (intro w hSw; obtain s0 := hSw; go_simp <;> with_reducible rfl)
                            simp only [Act.put, List.setIfInBounds_toArray, List.set_cons_zero, List.set_cons_succ]
                            refine wpAnyH_ready (rs := [11]) (by kernel_rfl) (by simp) ?_
                            refine AllReadyH.cons (o := { dst := some 148, op := Go.Op.call { callee := Go.Callee.value (Go.Operand.func 18), args := #[Go.Operand.tmp 141, Go.Operand.tmp 147], argTypes := #[30, 30] }, type := 4, pos := "law.go:143", after := #[{ on := 4, ground := Go.Ground.data }, { on := 10, ground := Go.Ground.data }, { on := 1, ground := Go.Ground.chain }, { on := 1, ground := Go.Ground.guard }], guard := some (1, false) }) rfl (fun K hK => ?_) AllReadyH.nil
                            go_simp
                            refine (same_eq _ _ torn.toNat (r.take torn.toNat) (w9.drewN (nd + 1)) RZF.out RDF.out).mono ?_
                            rintro e w12 ⟨rfl, n12, rfl⟩
                            go_wp2_with fail
                            refine hK.out _ _ (by first | exact kD) (fun hHeld => ?_)
                            clear hK K hHeld
                            try simp only [Act.put, List.setIfInBounds_toArray, List.set_cons_zero, List.set_cons_succ]
                            refine wpAnyH_take (i := 12) (oi := { dst := some 149, op := Go.Op.move (Go.Operand.tmp 148), type := 4, pos := "law.go:143", after := #[{ on := 11, ground := Go.Ground.data }, { on := 11, ground := Go.Ground.chain }, { on := 1, ground := Go.Ground.guard }], guard := some (1, false) }) (v := ?_) rfl (by kernel_rfl) (by kernel_rfl) (by kernel_rfl) (fun _ _ _ h => h) (Or.inl ⟨by rfl, ?_⟩) (by first | exact kD) ?_
                            rotate_left
                            · (intro w hSw; obtain s0 := hSw; go_simp <;> with_reducible rfl)
                            simp only [Act.put, List.setIfInBounds_toArray, List.set_cons_zero, List.set_cons_succ]
                            refine wpAnyH_take (i := 13) (oi := { dst := some 150, op := Go.Op.move (Go.Operand.tmp 17), type := 30, pos := "law.go:143", after := #[{ on := 12, ground := Go.Ground.guard }], guard := some (12, true) }) (v := ?_) rfl (by kernel_rfl) (by kernel_rfl) (by kernel_rfl) (fun _ _ _ h => h) (Or.inl ⟨by rfl, ?_⟩) (by first | exact kD) ?_
                            rotate_left
                            · (intro w hSw; obtain s0 := hSw; go_simp <;> with_reducible rfl)
                            simp only [Act.put, List.setIfInBounds_toArray, List.set_cons_zero, List.set_cons_succ]
                            refine wpAnyH_take (i := 14) (oi := { dst := some 151, op := Go.Op.move (Go.Operand.tmp 3), type := 3, pos := "law.go:143", after := #[{ on := 12, ground := Go.Ground.guard }], guard := some (12, true) }) (v := ?_) rfl (by kernel_rfl) (by kernel_rfl) (by kernel_rfl) (fun _ _ _ h => h) (Or.inl ⟨by rfl, ?_⟩) (by first | exact kD) ?_
                            rotate_left
                            · (intro w hSw; obtain s0 := hSw; go_simp <;> with_reducible rfl)
                            simp only [Act.put, List.setIfInBounds_toArray, List.set_cons_zero, List.set_cons_succ]
                            refine wpAnyH_take (i := 15) (oi := { dst := some 152, op := Go.Op.move (Go.Operand.tmp 16), type := 3, pos := "law.go:143", after := #[{ on := 12, ground := Go.Ground.guard }], guard := some (12, true) }) (v := ?_) rfl (by kernel_rfl) (by kernel_rfl) (by kernel_rfl) (fun _ _ _ h => h) (Or.inl ⟨by rfl, ?_⟩) (by first | exact kD) ?_
                            rotate_left
                            · (intro w hSw; obtain s0 := hSw; go_simp <;> with_reducible rfl)
                            simp only [Act.put, List.setIfInBounds_toArray, List.set_cons_zero, List.set_cons_succ]
                            refine wpAnyH_take (i := 16) (oi := { dst := some 153, op := Go.Op.move (Go.Operand.tmp 10), type := 49, pos := "law.go:143", after := #[{ on := 12, ground := Go.Ground.guard }], guard := some (12, true) }) (v := ?_) rfl (by kernel_rfl) (by kernel_rfl) (by kernel_rfl) (fun _ _ _ h => h) (Or.inl ⟨by rfl, ?_⟩) (by first | exact kD) ?_
                            rotate_left
                            · (intro w hSw; obtain s0 := hSw; go_simp <;> with_reducible rfl)
                            simp only [Act.put, List.setIfInBounds_toArray, List.set_cons_zero, List.set_cons_succ]
                            refine wpAnyH_take (i := 17) (oi := { dst := some 154, op := Go.Op.move (Go.Operand.tmp 11), type := 32, pos := "law.go:143", after := #[{ on := 12, ground := Go.Ground.guard }], guard := some (12, true) }) (v := ?_) rfl (by kernel_rfl) (by kernel_rfl) (by kernel_rfl) (fun _ _ _ h => h) (Or.inl ⟨by rfl, ?_⟩) (by first | exact kD) ?_
                            rotate_left
                            · (intro w hSw; obtain s0 := hSw; go_simp <;> with_reducible rfl)
                            simp only [Act.put, List.setIfInBounds_toArray, List.set_cons_zero, List.set_cons_succ]
                            refine wpAnyH_take (i := 18) (oi := { dst := some 155, op := Go.Op.move (Go.Operand.tmp 12), type := 49, pos := "law.go:143", after := #[{ on := 12, ground := Go.Ground.guard }], guard := some (12, true) }) (v := ?_) rfl (by kernel_rfl) (by kernel_rfl) (by kernel_rfl) (fun _ _ _ h => h) (Or.inl ⟨by rfl, ?_⟩) (by first | exact kD) ?_
                            rotate_left
                            · (intro w hSw; obtain s0 := hSw; go_simp <;> with_reducible rfl)
                            simp only [Act.put, List.setIfInBounds_toArray, List.set_cons_zero, List.set_cons_succ]
                            refine wpAnyH_ready (rs := [19]) (by kernel_rfl) (by simp) ?_
                            refine AllReadyH.cons (o := { dst := some 156, op := Go.Op.call { callee := Go.Callee.value (Go.Operand.func 30), args := #[Go.Operand.tmp 150, Go.Operand.tmp 151, Go.Operand.tmp 152, Go.Operand.tmp 153, Go.Operand.tmp 154, Go.Operand.tmp 155], argTypes := #[30, 3, 3, 49, 32, 49] }, type := 4, pos := "law.go:143", after := #[{ on := 13, ground := Go.Ground.data }, { on := 14, ground := Go.Ground.data }, { on := 15, ground := Go.Ground.data }, { on := 16, ground := Go.Ground.data }, { on := 17, ground := Go.Ground.data }, { on := 18, ground := Go.Ground.data }, { on := 12, ground := Go.Ground.chain }, { on := 12, ground := Go.Ground.guard }], guard := some (12, true) }) rfl (fun K hK => ?_) AllReadyH.nil
                            go_simp
                            refine (tails_i torn HTI.out z i r L Q _ _ _ GS G1 (w9.drewN (nd + 1 + n12)) RZ.out HT1.out (by rw [HLEN.out]; exact HI6.out) (S9.out.far ((Adv.refl Nul w9).drewN _) (fun _ h _ => h)) (D9.out.far ((Adv.refl Nul w9).drewN _) (fun _ h _ => h)) HKQ.out HP.out).mono ?_
                            rintro e w13 ⟨rfl, n13, rfl⟩
                            go_wp2_with fail
                            refine hK.out _ _ (by first | exact kD) (fun hHeld => ?_)
                            clear hK K hHeld
                            try simp only [Act.put, List.setIfInBounds_toArray, List.set_cons_zero, List.set_cons_succ]
                            refine wpAnyH_take (i := 20) (oi := { dst := some 157, op := Go.Op.pick (Go.Operand.tmp 149) (Go.Operand.tmp 156) (Go.Operand.const (Go.Value.bool false)), type := 4, pos := "law.go:143", after := #[{ on := 12, ground := Go.Ground.data }, { on := 19, ground := Go.Ground.data }, { on := 1, ground := Go.Ground.guard }], guard := some (1, false) }) (v := ?_) rfl (by kernel_rfl) (by kernel_rfl) (by kernel_rfl) (fun _ _ _ h => h) (Or.inl ⟨by rfl, ?_⟩) (by first | exact kD) ?_
                            rotate_left
                            · (intro w hSw; obtain s0 := hSw; go_simp <;> with_reducible rfl)
                            simp only [Act.put, List.setIfInBounds_toArray, List.set_cons_zero, List.set_cons_succ]
                            refine wpAnyH_take (i := 21) (oi := { dst := some 158, op := Go.Op.pick (Go.Operand.tmp 138) (Go.Operand.const (Go.Value.bool true)) (Go.Operand.tmp 157), type := 4, pos := "law.go:143", after := #[{ on := 1, ground := Go.Ground.data }, { on := 20, ground := Go.Ground.data }], guard := none }) (v := ?_) rfl (by kernel_rfl) (by kernel_rfl) (by kernel_rfl) (fun _ _ _ h => h) (Or.inl ⟨by rfl, ?_⟩) (by first | exact kD) ?_
                            rotate_left
                            · (intro w hSw; obtain s0 := hSw; go_simp <;> with_reducible rfl)
                            simp only [Act.put, List.setIfInBounds_toArray, List.set_cons_zero, List.set_cons_succ]
                            refine wpAnyH_take (i := 22) (oi := { dst := some 19, op := Go.Op.assign (Go.Operand.tmp 158), type := 4, pos := "law.go:143", after := #[{ on := 21, ground := Go.Ground.data }, { on := 19, ground := Go.Ground.chain }, { on := 0, ground := Go.Ground.phase }, { on := 1, ground := Go.Ground.phase }, { on := 2, ground := Go.Ground.phase }, { on := 3, ground := Go.Ground.phase }, { on := 4, ground := Go.Ground.phase }, { on := 5, ground := Go.Ground.phase }, { on := 6, ground := Go.Ground.phase }, { on := 7, ground := Go.Ground.phase }, { on := 8, ground := Go.Ground.phase }, { on := 9, ground := Go.Ground.phase }, { on := 10, ground := Go.Ground.phase }, { on := 11, ground := Go.Ground.phase }, { on := 12, ground := Go.Ground.phase }, { on := 13, ground := Go.Ground.phase }, { on := 14, ground := Go.Ground.phase }, { on := 15, ground := Go.Ground.phase }, { on := 16, ground := Go.Ground.phase }, { on := 17, ground := Go.Ground.phase }, { on := 18, ground := Go.Ground.phase }, { on := 19, ground := Go.Ground.phase }, { on := 20, ground := Go.Ground.phase }, { on := 21, ground := Go.Ground.phase }], guard := none }) (v := ?_) rfl (by kernel_rfl) (by kernel_rfl) (by kernel_rfl) (fun _ _ _ h => h) (Or.inl ⟨by rfl, ?_⟩) (by first | exact kD) ?_
                            rotate_left
                            · (intro w hSw; obtain s0 := hSw; go_simp <;> with_reducible rfl)
                            simp only [Act.put, List.setIfInBounds_toArray, List.set_cons_zero, List.set_cons_succ]
                            refine wpAnyH_done (by kernel_rfl) ?_ _
                            go_wp2
                            have hi6 := HI6.out
                            exact ⟨⟨i + 1, by simp, by omega, A9.out.drewN _⟩, by simp [intOf]; omega⟩
                      · have hfb := HFT.out (fun h => ht1 h.2.2.2)
                        subst hfb
                        have ht1' : (128 : Int) ≤ torn := by omega
                        clear ht1
                        go_wp2_with fail
                        have hi6 := HI6.out
                        exact ⟨⟨i + 1, by simp, by omega, A9.out.drewN nd⟩, by simp [intOf]; omega⟩
                    · have hfb := HFT.out (fun h => ht0 h.2.2.1)
                      subst hfb
                      have ht0' : torn ≤ 0 := by omega
                      clear ht0
                      go_wp2_with fail
                      have hi6 := HI6.out
                      exact ⟨⟨i + 1, by simp, by omega, A9.out.drewN nd⟩, by simp [intOf]; omega⟩
                  · have hfb := HFT.out (fun h => hai (by rw [HQA.out, ← HN1.out]; exact h.2.1))
                    subst hfb
                    have hab : ((a : Int) == (i : Int)) = false := by rw [beq_eq_false_iff_ne]; omega
                    clear hai
                    go_wp2_with fail
                    have hi6 := HI6.out
                    exact ⟨⟨i + 1, by simp, by omega, A9.out.drewN nd⟩, by simp [intOf]; omega⟩
          · obtain rfl : i = 6 := by omega
            clear hi hi6
            have HW := Lib.hid (H8.out.far HA.out (fun _ h _ => h))
            go_wp2_with (first
              | (go_at_call 24; refine (live_dk d 6 F1 _ _ HW.out).mono ?_; rintro e w12 ⟨rfl, rfl⟩)
              | (go_at_call 31; refine (waits_dk d 6 F1 _ _ HW.out (Nat.zero_le _)).mono ?_; rintro e w12 ⟨z12, rfl, hs12, a12⟩; clear hs12; have A12 := Lib.hid a12; clear a12)
              | (go_at_call 26; refine (lives_any _).mono ?_; rintro e w13 ⟨rfl, hb13⟩)
              | fail)
            go_ret
            have b1 := B8.out.trans (HA.out.toBelow.mono B8.out.size)
            have b2 := b1.trans (A12.out.toBelow.mono b1.size)
            exact ⟨rfl, b2.trans (hb13.mono b2.size)⟩
end Go.Proofs.Ytmkalkfmbheejaa
