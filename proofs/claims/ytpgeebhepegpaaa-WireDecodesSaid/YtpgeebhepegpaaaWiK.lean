/- The document's reading of a message: files, the state while it reads. -/
import Derived.Test.YtpgeebhepegpaaaMwD
namespace Go.Proofs.Ytpgeebhepegpaaa
open Go.ChangeShapes Go.WideShapes Go.ChangeAt Go.RowKit

set_option maxRecDepth 3000 in
theorem Adv.freshX {G F' : Nat → Prop} {w w1 w2 : World} {z : Nat} (h : Adv G w G w1) (hz : w.heap.size ≤ z) (k : Adv (One z) w1 F' w2) : Adv G w G w2 :=
  ⟨k.os.trans h.os, k.tape.trans h.tape, k.output.trans h.output, Nat.le_trans h.size k.size, fun i hi hn => (k.block i (Nat.lt_of_lt_of_le hi h.size) (fun e => by unfold One at e; omega)).trans (h.block i hi hn), fun _ x => .inl x⟩
set_option maxRecDepth 3000 in
theorem built_file1 (i : Int) : Try.prog.built 25 [(0, .int .i64 i)] = some #[.int .i64 i, .int .i64 0] := by kernel_rfl
set_option maxRecDepth 3000 in
set_option maxHeartbeats 3200000 in
theorem XT.gotf {w : World} {G : Nat → Prop} {c q V a : Nat} (h : XT w G c q V a) :
    Calls Try.prog 54 #[.pointer (some ⟨c, 0, none⟩)] w fun e w' => e = .returned (.agg (flV q V a)) ∧ XT w' G c q V (a + 37) ∧ Adv G w G w' := by
  obtain ⟨p, hp⟩ : ∃ p, p = getT q V a 6 := ⟨_, rfl⟩
  obtain ⟨r, hr⟩ : ∃ r, r = getT q V (a + 6) 31 := ⟨_, rfl⟩
  have G0 := Lib.hid (fun (w : World) (h : XT w G c q V a) => h.getx 6 (by decide))
  have G1 := Lib.hid (fun (w : World) (h : XT w G c q V (a + 6)) => h.getx 31 (by decide))
  have e0 := wrap_getT q V a 6 (by decide)
  have e1 := wrap_getT q V (a + 6) 31 (by decide)
  rw [← hp] at e0
  rw [← hr] at e1
  have HBU := Lib.hid (built_file1 (wrap64 (p : Int)))
  obtain ⟨Z, hZ⟩ : ∃ Z : Array Value, Z = #[.int .i64 0, .int .i64 0] := ⟨_, rfl⟩
  have HI := Lib.hid infoFile7
  have HZS := Lib.hid (show Z.size = 2 by rw [hZ]; rfl)
  have HZ1 := Lib.hid (show Z.all (·.oneCell') = true by rw [hZ]; simp [Value.oneCell'])
  obtain ⟨C, hC⟩ : ∃ C : Array Value, C = #[.int .i64 (p : Int), .int .i64 0] := ⟨_, rfl⟩
  have HCC := Lib.hid hC
  have HCS := Lib.hid (show C.size = 2 by rw [hC]; rfl)
  have HC1 := Lib.hid (show C.all (·.oneCell') = true by rw [hC]; simp [Value.oneCell'])
  obtain ⟨D, hD⟩ : ∃ C : Array Value, C = #[.int .i64 (p : Int), .int .i64 (r : Int)] := ⟨_, rfl⟩
  have HDC := Lib.hid (show C.setIfInBounds 1 (.int .i64 (r : Int)) = D by rw [hC, hD]; rfl)
  have HDS := Lib.hid (show D.size = 2 by rw [hD]; rfl)
  have HD1 := Lib.hid (show D.all (·.oneCell') = true by rw [hD]; simp [Value.oneCell'])
  have HDV := Lib.hid (show D = flV q V a by rw [hD, hp, hr]; rfl)
  rw [← hp] at G0
  rw [← hr] at G1
  rw [← hZ] at HI
  rw [show (#[.int .i64 (wrap64 (p : Int)), .int .i64 0] : Array Value) = C by rw [hC, e0]] at HBU
  have H := Lib.hid h
  clear hp hr hZ hC hD h e0
  go_enter Try.func54, Try.ntmps54
  go_wp2_with (first
    | (refine kop_alloc rfl rfl HI.out ?_; intro z w1 hz hb ha; have HB1 := Lib.hid hb; have H1 := Lib.hid (H.out.far ha (fun _ x => x.elim)); have HZG := Lib.hid (show ¬ G z from fun x => by have := H.out.bd z x; omega); have HA1 := Lib.hid (show Adv G w G w1 from (Adv.refl G w).over ha); have HLZ := Lib.hid hz; clear hz hb ha H)
    | (go_at_call 53; refine (G0.out _ H1.out).mono ?_; rintro e w2 ⟨rfl, h2, a2⟩; have H2 := Lib.hid h2; have HA2 := Lib.hid (HA1.out.trans a2); have HB2 := Lib.hid (HB1.out.keep (a2.block z HB1.out.lt HZG.out)); clear h2 a2 G0)
    | (refine kop_built rfl rfl ?hbb HBU.out ?_; case hbb => kernel_rfl)
    | (refine kop_alloc rfl rfl HI.out ?_; intro u w3 hz hb ha; have HU3 := Lib.hid hb; have H3 := Lib.hid (H2.out.far ha (fun _ x => x.elim)); have HUG := Lib.hid (show ¬ G u from fun x => by have := H2.out.bd u x; omega); have HA3 := Lib.hid (HA2.out.over ha); have HB3 := Lib.hid (HB2.out.over ha); have HNE := Lib.hid (show z ≠ u from fun e => by have := HB2.out.lt; omega); have HLU := Lib.hid (Nat.le_trans HA2.out.size hz); clear hz hb ha H1 H2)
    | (refine kop_store rfl _ _ rfl u HU3.out rfl rfl sizeFile7 HCS.out HZS.out HC1.out ?_; intro w4 hb ha; have HU4 := Lib.hid hb; have H4 := Lib.hid (H3.out.far ha (fun i hi hg => HUG.out (by rw [← show i = u from hi]; exact hg))); have HB4 := Lib.hid (HB3.out.far1 ha HNE.out); have HA4 := Lib.hid (HA3.out.freshX HLU.out ha); clear hb ha H3 HU3 HB3)
    | (go_at_call 53; refine (G1.out _ H4.out).mono ?_; rintro e w5 ⟨rfl, h5, a5⟩; have HA5 := Lib.hid (HA4.out.trans a5); have HU5 := Lib.hid (HU4.out.keep (a5.block u HU4.out.lt HUG.out)); have HB5 := Lib.hid (HB4.out.keep (a5.block z HB4.out.lt HZG.out)); have hu1 := HU5.out.cell 1; have hf1 := HU5.out.frozen 1; rw [HCC.out] at hu1; replace hu1 := show _ = some (Value.int IntKind.i64 0) from hu1; have HU6 := Lib.hid (HU5.out.set_ 1 (.int .i64 (r : Int))); have HB6 := Lib.hid (HB5.out.far (p := ⟨u, 1, none⟩) HNE.out (.int .i64 (r : Int))); have H6 := Lib.hid (h5.far ((Adv.refl (One u) w5).setCell (p := ⟨u, 1, none⟩) (.inl rfl) (.int .i64 (r : Int))) (fun i hi hg => HUG.out (by rw [← show i = u from hi]; exact hg))); have HA6 := Lib.hid (HA5.out.freshX HLU.out ((Adv.refl (One u) w5).setCell (p := ⟨u, 1, none⟩) (.inl rfl) (.int .i64 (r : Int)))); rw [HDC.out] at HU6; clear h5 a5 G1)
    | (refine kop_load rfl _ rfl u HU6.out rfl Try.underlying25 rfl sizeFile7 HDS.out ?_)
    | (refine kop_store rfl _ _ rfl z HB6.out rfl rfl sizeFile7 HDS.out HZS.out HD1.out ?_; intro w7 hb ha; have HB7 := Lib.hid hb; have H7 := Lib.hid (H6.out.far ha (fun i hi hg => HZG.out (by rw [← show i = z from hi]; exact hg))); have HA7 := Lib.hid (HA6.out.freshX HLZ.out ha); clear hb ha)
    | fail)
  exact bodyPost_ret (kresM rfl _ _ rfl HB7.out Try.underlying25 rfl (by rw [sizeFile7, HDS.out])) rfl ⟨by rw [HDV.out], H7.out, HA7.out⟩
/-- while the document reads a message -/
structure QmS (W : World) (z u c q V a : Nat) (G : Nat → Prop) (Z C : Array Value) (w : World) : Prop where
  xs : XT w G c q V a
  bu : Blk w u 28 C
  bz : Blk w z 28 Z
  ad : Adv Nul W G w
  fu : ¬ G u
  fz : ¬ G z
  uz : u ≠ z
  nu : W.heap.size ≤ u
  nz : W.heap.size ≤ z
section
variable {W w w' : World} {z u c q V a a2 : Nat} {G F F2 : Nat → Prop} {Z C D : Array Value}
set_option maxRecDepth 3000 in
theorem QmS.get (h : QmS W z u c q V a G Z C w) (hr : XT w' G c q V a2) (ha : Adv G w G w') : QmS W z u c q V a2 G Z C w' :=
  ⟨hr, h.bu.keep (ha.block u h.bu.lt h.fu), h.bz.keep (ha.block z h.bz.lt h.fz), h.ad.trans ha, h.fu, h.fz, h.uz, h.nu, h.nz⟩
set_option maxRecDepth 3000 in
theorem QmS.put (h : QmS W z u c q V a G Z C w) (hB : Blk w' u 28 D) (ha : Adv (One u) w (One u) w') : QmS W z u c q V a G Z D w' :=
  ⟨h.xs.far ha (fun i hi hg => h.fu (by rw [← show i = u from hi]; exact hg)), hB, h.bz.far1 ha (fun e => h.uz e.symm), ⟨ha.os.trans h.ad.os, ha.tape.trans h.ad.tape, ha.output.trans h.ad.output, Nat.le_trans h.ad.size ha.size, fun i hi hn => (ha.block i (Nat.lt_of_lt_of_le hi h.ad.size) (fun e => by have := h.nu; have e' : i = u := e; omega)).trans (h.ad.block i hi hn), h.ad.into⟩, h.fu, h.fz, h.uz, h.nu, h.nz⟩
set_option maxRecDepth 3000 in
theorem QmS.set (h : QmS W z u c q V a G Z C w) (k : Nat) (v : Value) : QmS W z u c q V a G Z (C.setIfInBounds k v) (w.setCell ⟨u, k, none⟩ v) :=
  h.put (h.bu.set_ k v) ((Adv.refl (One u) w).setCell (p := ⟨u, k, none⟩) (.inl rfl) v)
set_option maxRecDepth 3000 in
/-- other blocks change -/
theorem QmS.far (h : QmS W z u c q V a G Z C w) (ha : Adv F w F2 w') (hs : Sep F G) (hu : ¬ F u) (hz : ¬ F z) (hn : ∀ i, F i → W.heap.size ≤ i) : QmS W z u c q V a G Z C w' :=
  ⟨h.xs.far ha hs, h.bu.keep (ha.block u h.bu.lt hu), h.bz.keep (ha.block z h.bz.lt hz), ⟨ha.os.trans h.ad.os, ha.tape.trans h.ad.tape, ha.output.trans h.ad.output, Nat.le_trans h.ad.size ha.size, fun i hi hn' => (ha.block i (Nat.lt_of_lt_of_le hi h.ad.size) (fun e => by have := hn i e; omega)).trans (h.ad.block i hi hn'), h.ad.into⟩, h.fu, h.fz, h.uz, h.nu, h.nz⟩
set_option maxRecDepth 3000 in
theorem QmS.over (h : QmS W z u c q V a G Z C w) (ha : Adv Nul w F2 w') : QmS W z u c q V a G Z C w' := h.far ha (fun _ x => x.elim) (fun x => x) (fun x => x) (fun _ x => x.elim)
end
set_option maxRecDepth 3000 in
/-- the reader's error -/
theorem XT.err {w : World} {G : Nat → Prop} {c q V a : Nat} (h : XT w G c q V a) : (a ≤ 8 * q ∧ w.cell? ⟨c, 1, none⟩ = some (.int .i64 0)) ∨ (8 * q < a ∧ w.cell? ⟨c, 1, none⟩ = some (.int .i64 3)) := by
  rcases h with ⟨h1, h2⟩ | ⟨h1, h2⟩
  · obtain ⟨_, _, _, h, _⟩ := h2.cells
    exact .inl ⟨h1, h⟩
  · exact .inr ⟨h1, h2.cells⟩
set_option maxRecDepth 3000 in
theorem XT.endx {w : World} {G : Nat → Prop} {c q V a : Nat} (h : XT w G c q V a) :
    Calls Try.prog 56 #[.pointer (some ⟨c, 0, none⟩)] w fun e w' => e = .returned (.int .i64 (endT q V a)) ∧ w = w' := by
  rcases h with ⟨h1, h2⟩ | ⟨h1, h2⟩
  · refine (xend_ok c q V a G w h2).mono ?_
    rintro e w' ⟨rfl, rfl⟩
    exact ⟨by rw [endT, if_pos h1], rfl⟩
  · refine (xend_err c 3 G w h2).mono ?_
    rintro e w' ⟨rfl, rfl⟩
    exact ⟨by rw [endT, if_neg (by omega)], rfl⟩
set_option maxRecDepth 3000 in
/-- a right message's head -/
theorem isM_head {m : Ms} (h : isM m = true) : 1 ≤ m.ty ∧ m.kd ≤ 14 ∧ (m.ty < 3 → 1 ≤ m.kd) := by
  unfold isM at h
  by_cases hc : 0 ≤ m.cl ∧ m.cl < 8 ∧ ctP m.ss
  · rw [if_neg (fun x => x hc)] at h
    by_cases t3 : m.ty = 3
    · rw [if_pos t3] at h
      simp only [Bool.and_eq_true] at h
      have h2 : m.kd = 0 := of_decide_eq_true h.1.1.2
      omega
    · rw [if_neg t3] at h
      by_cases h4 : rf m 0 = true ∧ rf m 2 = true ∧ 1 ≤ m.ty ∧ m.ty ≤ 2
      · have hk := (rf2_iff m).1 h4.2.1
        omega
      · rw [if_pos h4] at h; cases h
  · rw [if_pos hc] at h; cases h
/-- what the document asks of a head -/
def badH (q V : Nat) : Prop := 8 * q < 134 ∨ getT q V 0 2 < 1 ∨ 14 < getT q V 125 4 ∨ (getT q V 0 2 < 3 ∧ getT q V 125 4 < 1)
instance (q V : Nat) : Decidable (badH q V) := by unfold badH; infer_instance
set_option maxRecDepth 3000 in
theorem badH_none {l : List Nat} (h : badH l.length (byN l)) : decM l = none := by
  cases hd : decM l with
  | none => rfl
  | some m =>
    exfalso
    obtain ⟨h1, _, h3⟩ := decM_some hd
    have h4 := (decM_end hd).2.2
    have h5 := isM_head h1
    rw [← h3] at h5
    have e1 : (rdM l.length (byN l)).ty = ((getT l.length (byN l) 0 2 : Nat) : Int) := rfl
    have e2 : (rdM l.length (byN l)).kd = ((getT l.length (byN l) 125 4 : Nat) : Int) := rfl
    rw [e1, e2] at h5
    unfold badH at h
    omega
set_option maxRecDepth 3000 in
theorem dec_end_no {l : List Nat} (h : endT l.length (byN l) (endX l.length (byN l) (sW l.length (byN l))) ≠ 0) : decM l = none := by
  cases hd : decM l with
  | none => rfl
  | some m =>
    exfalso
    obtain ⟨h1, h2, _⟩ := decM_end hd
    exact h (endT_zero.2 ⟨h1, h2⟩)
set_option maxRecDepth 3000 in
theorem dec_is_no {l : List Nat} (h : ¬ (isM (rdM l.length (byN l)) = true ∧ wiB (rdM l.length (byN l)) = l)) : decM l = none := by
  unfold decM
  rw [if_neg h]
set_option maxRecDepth 3000 in
theorem dec_is_yes {l : List Nat} (h : isM (rdM l.length (byN l)) = true) (h2 : wiB (rdM l.length (byN l)) = l) : decM l = some (rdM l.length (byN l)) := by
  unfold decM
  rw [if_pos ⟨h, h2⟩]
end Go.Proofs.Ytpgeebhepegpaaa
