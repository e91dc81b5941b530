/- What decode keeps while it reads. decode. Which sector any piece is. -/
import Derived.Test.YtcglfknkkeaegaaGreatDoorMq12
import Derived.Test.YtcglfknkkeaegaaGreatDoorMq04
namespace Go.Proofs.YtcglfknkkeaegaaGreatDoor
open Go.RowKit Go.Maps

/-- so many bits, noughts where they are not there -/
def getX (q V a n : Nat) : Nat := if a + n ≤ 8 * q then bitsAt q V a n else 0
theorem getX_lt (q V a n : Nat) : getX q V a n < 2 ^ n := by
  unfold getX
  split
  · exact Nat.mod_lt _ (Nat.two_pow_pos _)
  · exact Nat.two_pow_pos _
theorem RdS.getx {w : World} {F : Nat → Prop} {b q V a : Nat} (h : RdS w F b q V a) (n : Nat) (hn : n ≤ 64) :
    Calls Tryz.prog 143 #[.pointer (some ⟨b, 0, none⟩), .int .i64 (n : Int)] w fun e w' => e = .returned (.int .u64 (getX q V a n : Int)) ∧ RdS w' F b q V (a + n) ∧ Adv F w F w' := by
  rcases h with ⟨h1, h2, h3⟩ | ⟨h1, h2⟩
  · by_cases hx : a + n ≤ 8 * q
    · refine (get_ok b q V a n F w h2 h3 hn hx).mono ?_
      rintro e w' ⟨rfl, k1, k2, k3⟩
      exact ⟨by rw [getX, if_pos hx], .inl ⟨hx, k1, k3⟩, k2⟩
    · refine (get_short b q V a n F w h2 h3 hn (by omega)).mono ?_
      rintro e w' ⟨rfl, k1, k2⟩
      exact ⟨by rw [getX, if_neg hx]; rfl, .inr ⟨by omega, k1⟩, k2⟩
  · refine (get_err b n 3 F w h2).mono ?_
    rintro e w' ⟨rfl, rfl⟩
    exact ⟨by rw [getX, if_neg (by omega)]; rfl, .inr ⟨by omega, h2⟩, Adv.refl _ _⟩
def gN (l : List Nat) : Nat := getX l.length (val l) 0 8
def gA (l : List Nat) (i : Nat) : Nat := getX l.length (val l) (8 + 1036 * i) 12
def gB (l : List Nat) (i k : Nat) : Nat := getX l.length (val l) (20 + 1036 * i + 8 * k) 8
def gT (l : List Nat) (i : Nat) : Pt := ⟨(gA l i : Int), (List.range 128).map (gB l i)⟩
/-- the puts of a record -/
def gP (l : List Nat) : List Pt := (List.range (gN l)).map (gT l)
def gE (l : List Nat) : Int := endE l.length (val l) (8 + 1036 * gN l)
theorem gN_lt (l : List Nat) : gN l < 256 := getX_lt _ _ _ _
theorem gA_lt (l : List Nat) (i : Nat) : gA l i < 4096 := getX_lt _ _ _ _
theorem gB_lt (l : List Nat) (i k : Nat) : gB l i k < 256 := getX_lt _ _ _ _
theorem gN_dec (l : List Nat) : gN l = decN l := by
  unfold gN decN getX
  split
  · rfl
  · have e : l = [] := List.length_eq_zero_iff.mp (by omega)
    subst e
    rfl
theorem gE_dec (l : List Nat) : gE l = decE l := by unfold gE decE; rw [gN_dec]
theorem endE_in {q V a : Nat} (h : endE q V a = 0) : a ≤ 8 * q := by
  unfold endE at h
  split at h
  · assumption
  · cases h
theorem gP_dec {l : List Nat} (h : decE l = 0) : gP l = decP l := by
  have hin := endE_in (show endE l.length (val l) (8 + 1036 * decN l) = 0 from h)
  unfold gP decP
  rw [gN_dec]
  apply List.ext_getElem
  · simp
  · intro i h1 h2
    have hi : i < decN l := by simpa using h2
    simp only [List.getElem_map, List.getElem_range]
    have ea : gA l i = decA l i := by unfold gA decA getX; rw [if_pos (by omega)]
    have ex : (List.range 128).map (gB l i) = (List.range 128).map (decX l i) := by
      apply List.ext_getElem
      · simp
      · intro j h3 h4
        have hj : j < 128 := by simpa using h4
        simp only [List.getElem_map, List.getElem_range]
        unfold gB decX getX
        rw [if_pos (by omega)]
    unfold gT decT
    rw [ea, ex]

section
variable {ops : Array Oper} {o : Oper} {a : Act} {w : World} {Q : Exit → Act → World → Prop} {K : Act → World → Prop} {E : Prop}
theorem st_storeN {t : TypeId} {m : Nat} (hsz : (Tryz.prog.info? t).map (·.size) = some m) (hgd : o.guard = none) (x y : Operand) (ho : o.op = .store t x y) (z off : Nat) (D : Array Value) (hT : w.there z off m) (hD : D.size = m) (h1 : D.all (·.oneCell') = true)
    (hx : a.eval x = .pointer (some ⟨z, off, none⟩)) (hy : a.eval y = .agg D) (h : K (a.put o.dst undef) (w.setCells z off D.toList)) : if Region.wanted o (yielded ops a.tmps) = true then Oper.wp Tryz.prog o a w K Q else E := by
  rw [if_pos (by simp [Region.wanted, hgd])]
  exact wp_store_mid t x y ho z off D hx hy (by rw [hD]; exact hT) (by rw [hsz, hD]) h1 h
theorem zero128 : madeCells #[.int .u8 0] 128 = ((List.replicate 128 0).map u8).toArray := by
  apply Array.ext_getElem?
  intro i
  rw [← Array.getElem?_toList, toList_madeCells_one, List.getElem?_toArray, List.map_replicate]
  rfl
theorem make_128 (w : World) : (Instr.makeSlice 118 (.int .i64 128) (.int .i64 128)).run Tryz.prog w = .ok (.slice (some ⟨w.heap.size, 0, none⟩) 128 128) (w.alloc (.cells ((List.replicate 128 0).map u8).toArray 5)) := by
  obtain ⟨i0, hi, hz0, hz1, hz2⟩ := info_parts Tryz.infoU8
  have hr := run_make (P := Tryz.prog) w 118 5 i0 (.int .u8 0) Tryz.underlying118 hi hz0 .i64 .i64 128 128 (by decide) (by decide) (by rw [hz2]; decide) (by decide)
  rw [hz1] at hr
  rw [← zero128]
  exact hr
theorem st_make128 (hgd : o.guard = none) (x y : Operand) (ho : o.op = .makeSlice 118 x y) (hx : a.eval x = .int .i64 128) (hy : a.eval y = .int .i64 128)
    (h : K (a.put o.dst (.slice (some ⟨w.heap.size, 0, none⟩) 128 128)) (w.alloc (.cells ((List.replicate 128 0).map u8).toArray 5))) : if Region.wanted o (yielded ops a.tmps) = true then Oper.wp Tryz.prog o a w K Q else E := by
  rw [if_pos (by simp [Region.wanted, hgd])]
  unfold Oper.wp execOp
  simp only [ho, hx, hy, Sem.run_bind, make_128, Result.andThen_ok]
  exact h
end
theorem infoPut : (Tryz.prog.info? 133).map (fun i => (i.zero, i.size, i.bytes)) = some (some (.agg #[.int .i64 0, .slice none 0 0]), 2, 32) := by kernel_rfl
theorem sizePut : (Tryz.prog.info? 133).map (·.size) = some 2 := by kernel_rfl
theorem made_puts (n : Nat) (hn : n ≤ 1000) (w : World) : (Instr.makeSlice 134 (.int .u64 (n : Int)) (.int .u64 (n : Int))).run Tryz.prog w = .ok (.slice (some ⟨w.heap.size, 0, none⟩) n n) (w.alloc (.cells (madeCells #[.int .i64 0, .slice none 0 0] (n * 2)) 133)) := by
  obtain ⟨ie, hie, hz, hs, hb⟩ := info_parts infoPut
  have h := run_make (P := Tryz.prog) w 134 133 ie _ Tryz.underlying134 hie hz .u64 .u64 n n (by omega) (Int.le_refl _) (by rw [hb]; omega) (by omega)
  simpa [hs, Value.cells] using h
theorem madeCells_size (C : Array Value) (n : Nat) : (madeCells C n).size = n := by simp [madeCells]

structure DcI (W : World) (F : Nat → Prop) (b z N : Nat) (l : List Nat) (Y : Nat → Nat) (k a : Nat) (w : World) : Prop where
  rd : RdS w F b l.length (val l) a
  blk : ∃ C, Blk w z 133 C ∧ C.size = N * 2
  at_ : ∀ i, i < k → w.cell? ⟨z, i * 2, none⟩ = some (.int .i64 (gA l i : Int)) ∧ w.cell? ⟨z, i * 2 + 1, none⟩ = some (.slice (some ⟨Y i, 0, none⟩) 128 128) ∧ Blk w (Y i) 5 (((List.range 128).map (gB l i)).map u8).toArray ∧ Y i ≠ z ∧ ¬ F (Y i) ∧ W.heap.size ≤ Y i
  adv : Adv Nul W Nul w
  newF : ∀ j, F j → W.heap.size ≤ j
  hz : W.heap.size ≤ z
  nz : ¬ F z
section
variable {W w w' : World} {F F' : Nat → Prop} {b z N : Nat} {l : List Nat} {Y : Nat → Nat} {k a : Nat}
theorem DcI.adv_ (h : DcI W F b z N l Y k a w) (ha : Adv F w F w') {a' : Nat} (hr : RdS w' F b l.length (val l) a') : DcI W F b z N l Y k a' w' := by
  obtain ⟨C, hB, hC⟩ := h.blk
  have hk := ha.block z hB.lt h.nz
  refine ⟨hr, ⟨C, hB.keep hk, hC⟩, fun i hi => ?_, ?_, h.newF, h.hz, h.nz⟩
  · obtain ⟨c0, c1, hy, h1, h2, h4⟩ := h.at_ i hi
    exact ⟨by rw [World.cell?_of_block hk]; exact c0, by rw [World.cell?_of_block hk]; exact c1, hy.keep (ha.block _ hy.lt h2), h1, h2, h4⟩
  · exact ⟨ha.os.trans h.adv.os, ha.tape.trans h.adv.tape, ha.output.trans h.adv.output, Nat.le_trans h.adv.size ha.size, fun j hj hn => (ha.block j (Nat.lt_of_lt_of_le hj h.adv.size) (fun x => by have := h.newF j x; omega)).trans (h.adv.block j hj hn), fun _ hj => hj.elim⟩
theorem DcI.over (h : DcI W F b z N l Y k a w) (ha : Adv Nul w F' w') : DcI W F b z N l Y k a w' :=
  h.adv_ ⟨ha.os, ha.tape, ha.output, ha.size, fun j hj _ => ha.block j hj (fun x => x), fun _ hj => .inl hj⟩ (h.rd.far (fun j _ hl => ha.block j hl (fun x => x)) ha.size)
theorem DcI.get (h : DcI W F b z N l Y k a w) (n : Nat) (hn : n ≤ 64) :
    Calls Tryz.prog 143 #[.pointer (some ⟨b, 0, none⟩), .int .i64 (n : Int)] w fun e w' => e = .returned (.int .u64 (getX l.length (val l) a n : Int)) ∧ DcI W F b z N l Y k (a + n) w' ∧ Adv F w F w' := by
  refine (h.rd.getx n hn).mono ?_
  rintro e w' ⟨rfl, h1, h2⟩
  exact ⟨rfl, h.adv_ h2 h1, h2⟩
theorem DcI.there (h : DcI W F b z N l Y k a w) (hk : k < N) : w.there z (k * 2) 2 := fun j hj => by
  obtain ⟨C, hB, hC⟩ := h.blk
  have h1 := hB.there (k * 2 + j) (by omega)
  rw [Nat.zero_add] at h1
  exact h1
/-- one put is in work: j of its bytes are there -/
structure DcJ (W : World) (F : Nat → Prop) (b z N : Nat) (l : List Nat) (Y : Nat → Nat) (k a y j : Nat) (w : World) : Prop where
  base : DcI W F b z N l Y k a w
  c0 : w.cell? ⟨z, k * 2, none⟩ = some (.int .i64 (gA l k : Int))
  c1 : w.cell? ⟨z, k * 2 + 1, none⟩ = some (.slice (some ⟨y, 0, none⟩) 128 128)
  yb : Blk w y 5 (((List.range j).map (gB l k) ++ List.replicate (128 - j) 0).map u8).toArray
  yz : y ≠ z
  yF : ¬ F y
  yY : ∀ i, i < k → Y i ≠ y
  yW : W.heap.size ≤ y
  kN : k < N
theorem DcJ.adv_ {y j : Nat} (h : DcJ W F b z N l Y k a y j w) (ha : Adv F w F w') {a' : Nat} (hr : RdS w' F b l.length (val l) a') : DcJ W F b z N l Y k a' y j w' := by
  obtain ⟨C, hB, hC⟩ := h.base.blk
  have hk := ha.block z hB.lt h.base.nz
  exact ⟨h.base.adv_ ha hr, by rw [World.cell?_of_block hk]; exact h.c0, by rw [World.cell?_of_block hk]; exact h.c1, h.yb.keep (ha.block _ h.yb.lt h.yF), h.yz, h.yF, h.yY, h.yW, h.kN⟩
theorem DcJ.drew {y j : Nat} (h : DcJ W F b z N l Y k a y j w) : DcJ W F b z N l Y k a y j w.drew := h.adv_ ((Adv.refl F w).drew) (h.base.rd.far (fun _ _ _ => rfl) (Nat.le_refl _))
theorem DcJ.get {y j : Nat} (h : DcJ W F b z N l Y k a y j w) (n : Nat) (hn : n ≤ 64) :
    Calls Tryz.prog 143 #[.pointer (some ⟨b, 0, none⟩), .int .i64 (n : Int)] w fun e w' => e = .returned (.int .u64 (getX l.length (val l) a n : Int)) ∧ DcJ W F b z N l Y k (a + n) y j w' := by
  refine (h.base.rd.getx n hn).mono ?_
  rintro e w' ⟨rfl, h1, h2⟩
  exact ⟨rfl, h.adv_ h2 h1⟩
theorem Adv.setCellsNew {W w : World} {z o : Nat} (h : Adv Nul W Nul w) (hz : W.heap.size ≤ z) (D : List Value) : Adv Nul W Nul (w.setCells z o D) := Adv.lsetCells D o _ h (.inr hz)
/-- a put is laid -/
theorem DcI.lay {y : Nat} {xa : Int} (h : DcI W F b z N l Y k a w) (hk : k < N) (hx : xa = (gA l k : Int)) (hy : Blk w y 5 ((List.replicate 128 0).map u8).toArray) (hyz : y ≠ z) (hyF : ¬ F y) (hyY : ∀ i, i < k → Y i ≠ y) (hyW : W.heap.size ≤ y) :
    DcJ W F b z N l Y k a y 0 (w.setCells z (k * 2) [.int .i64 xa, .slice (some ⟨y, 0, none⟩) 128 128]) := by
  subst hx
  obtain ⟨D, hD⟩ : ∃ D, D = [Value.int .i64 (gA l k : Int), .slice (some ⟨y, 0, none⟩) 128 128] := ⟨_, rfl⟩
  have hDl : D.length = 2 := by rw [hD]; rfl
  obtain ⟨C, hB, hC⟩ := h.blk
  obtain ⟨C', hB', hC'⟩ := Blk.lsetCells D (k * 2) w C hB
  have hfar : ∀ g, g ≠ z → (w.setCells z (k * 2) D).heap[g]? = w.heap[g]? := fun g hg => lsetCells_heap z hg D (k * 2) w
  have e : ∀ i j, i < k → j < 2 → (w.setCells z (k * 2) D).cell? ⟨z, i * 2 + j, none⟩ = w.cell? ⟨z, i * 2 + j, none⟩ := fun i j hi hj => World.cell?_setCells_out z D (k * 2) w _ (fun _ _ => .inl (by show i * 2 + j < k * 2; omega))
  have e2 : ∀ j (hj : j < D.length), (w.setCells z (k * 2) D).cell? ⟨z, k * 2 + j, none⟩ = some D[j] := fun j hj => World.cell?_setCells_in z D (k * 2) w (fun j hj => (h.there hk j (by omega)).1) j hj
  have hsz : w.heap.size ≤ (w.setCells z (k * 2) D).heap.size := (Adv.lsetCells D (k * 2) _ (Adv.refl (fun k => k = z) w) (.inl rfl)).size
  rw [← hD]
  refine ⟨⟨h.rd.far (fun g hg _ => hfar g (fun e => h.nz (e ▸ hg))) hsz, ⟨C', hB', by omega⟩, fun i hi => ?_, h.adv.setCellsNew h.hz D, h.newF, h.hz, h.nz⟩, ?_, ?_, ?_, hyz, hyF, hyY, hyW, hk⟩
  · obtain ⟨c0, c1, hy', h1, h2, h4⟩ := h.at_ i hi
    exact ⟨by have := e i 0 hi (by decide); rw [Nat.add_zero] at this; rw [this]; exact c0, by rw [e i 1 hi (by decide)]; exact c1, hy'.keep (hfar _ h1), h1, h2, h4⟩
  · have := e2 0 (by omega)
    rw [Nat.add_zero] at this
    rw [this]
    subst hD; rfl
  · have := e2 1 (by omega)
    rw [this]
    subst hD; rfl
  · have e3 : (List.range 0).map (gB l k) ++ List.replicate (128 - 0) 0 = List.replicate 128 0 := rfl
    rw [e3]
    exact hy.keep (hfar y hyz)
/-- a byte is laid -/
theorem DcJ.set {y j x : Nat} (h : DcJ W F b z N l Y k a y j w) (hj : j < 128) (hx : x = gB l k j) : DcJ W F b z N l Y k a y (j + 1) (w.setCell ⟨y, j, none⟩ (.int .u8 (x : Int))) := by
  have hfar : ∀ g, g ≠ y → (w.setCell ⟨y, j, none⟩ (.int .u8 (x : Int))).heap[g]? = w.heap[g]? := fun g hg => Below.heap_setCell w _ _ g hg
  have hsz : w.heap.size ≤ (w.setCell ⟨y, j, none⟩ (.int .u8 (x : Int))).heap.size := by simp [World.setCell]
  obtain ⟨C, hB, hC⟩ := h.base.blk
  have hk := hfar z h.yz.symm
  refine ⟨⟨h.base.rd.far (fun g hg _ => hfar g (fun e => h.yF (e ▸ hg))) hsz, ⟨C, hB.keep hk, hC⟩, fun i hi => ?_, h.base.adv.setCell (.inr h.yW) _, h.base.newF, h.base.hz, h.base.nz⟩, by rw [World.cell?_of_block hk]; exact h.c0, by rw [World.cell?_of_block hk]; exact h.c1, ?_, h.yz, h.yF, h.yY, h.yW, h.kN⟩
  · obtain ⟨c0, c1, hy', h1, h2, h4⟩ := h.base.at_ i hi
    exact ⟨by rw [World.cell?_of_block hk]; exact c0, by rw [World.cell?_of_block hk]; exact c1, hy'.keep (hfar _ (h.yY i hi)), h1, h2, h4⟩
  · have h1 := h.yb.set_ j (.int .u8 (x : Int))
    have e : (((List.range j).map (gB l k) ++ List.replicate (128 - j) 0).map u8).toArray.setIfInBounds j (.int .u8 (x : Int)) = (((List.range (j + 1)).map (gB l k) ++ List.replicate (128 - (j + 1)) 0).map u8).toArray := by
      rw [List.setIfInBounds_toArray]
      congr 1
      apply List.ext_getElem?
      intro i
      rw [List.getElem?_set]
      have hlen : (((List.range j).map (gB l k) ++ List.replicate (128 - j) 0).map u8).length = 128 := by simp; omega
      rw [hlen]
      have hl2 : (((List.range (j + 1)).map (gB l k) ++ List.replicate (128 - (j + 1)) 0).map u8).length = 128 := by simp; omega
      by_cases hij : j = i
      · subst hij
        rw [if_pos rfl, if_pos hj, List.getElem?_map, List.getElem?_append_left (by simp), List.getElem?_map, List.getElem?_range (by omega), hx]
        rfl
      · rw [if_neg hij]
        by_cases hi : i < 128
        · by_cases hlt : i < j
          · rw [List.getElem?_map, List.getElem?_map, List.getElem?_append_left (by simp; omega), List.getElem?_append_left (by simp; omega), List.getElem?_map, List.getElem?_map, List.getElem?_range hlt, List.getElem?_range (by omega)]
          · rw [List.getElem?_map, List.getElem?_map, List.getElem?_append_right (by simp; omega), List.getElem?_append_right (by simp; omega), List.getElem?_replicate, List.getElem?_replicate]
            simp only [List.length_map, List.length_range]
            rw [if_pos (by omega), if_pos (by omega)]
        · rw [List.getElem?_eq_none (by omega), List.getElem?_eq_none (by omega)]
    rw [e] at h1
    exact h1
theorem DcJ.done {y : Nat} (h : DcJ W F b z N l Y k a y 128 w) : DcI W F b z N l (fun i => if i = k then y else Y i) (k + 1) a w := by
  refine ⟨h.base.rd, h.base.blk, fun i hi => ?_, h.base.adv, h.base.newF, h.base.hz, h.base.nz⟩
  by_cases e : i = k
  · subst e
    simp only [if_true]
    have := h.yb
    rw [show (128 - 128 : Nat) = 0 from rfl, List.replicate_zero, List.append_nil] at this
    exact ⟨h.c0, h.c1, this, h.yz, h.yF, h.yW⟩
  · simp only [if_neg e]
    exact h.base.at_ i (by omega)
theorem DcI.qrd {G : Nat → Prop} (h : DcI W F b z N l Y N a w) (hN : N = gN l) (hG : Bd G W) : QRd w G (.slice (some ⟨z, 0, none⟩) N N) (gP l) := by
  obtain ⟨C, hB, hC⟩ := h.blk
  have hl : (gP l).length = N := by rw [hN]; simp [gP]
  have hlt := gN_lt l
  refine ⟨_, N, by rw [hl], by omega, by unfold maxLen; omega, fun hp => ⟨z, 0, rfl, ⟨hB.lt, fun x => by have := hG z x; have := h.hz; omega⟩, fun i hi => ?_⟩⟩
  obtain ⟨c0, c1, hy, h1, h2, hY⟩ := h.at_ i (by omega)
  have e : (gP l)[i]'hi = gT l i := by simp [gP]
  rw [e]
  have hd : (gT l i).d.length = 128 := by simp [gT]
  rw [hd]
  refine ⟨some ⟨Y i, 0, none⟩, 128, by rw [Nat.zero_add, Nat.add_zero]; exact c0, by rw [Nat.zero_add]; exact c1, hy.rdS8 (by simp), fun k hk _ x => ?_⟩
  have : Y i = k := by simpa [Value.ownBlock] using hk
  have := hG k x
  omega
end
end Go.Proofs.YtcglfknkkeaegaaGreatDoor
namespace Go.Proofs.YtcglfknkkeaegaaGreatDoor
open Go.RowKit Go.Maps

def DecR (w : World) (l : List Nat) (e : Ending) (w' : World) : Prop := ∃ z, e = .returned (.tuple #[.slice (some ⟨z, 0, none⟩) (gP l).length (gP l).length, .bool (decide (decE l = 0))]) ∧ (∀ G, Bd G w → QRd w' G (.slice (some ⟨z, 0, none⟩) (gP l).length (gP l).length) (gP l)) ∧ Adv Nul w Nul w'
def DcL (W : World) (F : Nat → Prop) (b z N : Nat) (l : List Nat) (t : Value) (wr : World) : Prop := ∃ (k : Nat) (Y : Nat → Nat), k ≤ N ∧ t = .int .i64 (k : Int) ∧ DcI W F b z N l Y k (8 + 1036 * k) wr
def DcM (W : World) (F : Nat → Prop) (b z N : Nat) (l : List Nat) (Y : Nat → Nat) (k y : Nat) (t : Value) (wr : World) : Prop := ∃ j : Nat, j ≤ 128 ∧ t = .int .i64 (j : Int) ∧ DcJ W F b z N l Y k (20 + 1036 * k + 8 * j) y j wr

theorem put_one (x : Int) (A : Option Addr) {m k : Nat} : (#[Value.int .i64 x, .slice A m k] : Array Value).all (·.oneCell') = true := by simp [Value.oneCell']
theorem dc_new {W w : World} {F : Nat → Prop} {b z N : Nat} {l : List Nat} {Y : Nat → Nat} {k a y : Nat} (h : DcI W F b z N l Y k a w) (hy : y = w.heap.size) : y ≠ z ∧ ¬ F y ∧ (∀ i, i < k → Y i ≠ y) ∧ W.heap.size ≤ y := by
  obtain ⟨C, hB, _⟩ := h.blk
  have h1 := hB.lt
  refine ⟨by omega, fun x => by have := h.rd.bd y x; omega, fun i hi => ?_, by rw [hy]; exact h.adv.size⟩
  have := (h.at_ i hi).2.2.1.lt
  omega
theorem DcJ.cellAt {W w : World} {F : Nat → Prop} {b z N : Nat} {l : List Nat} {Y : Nat → Nat} {k a y j : Nat} (h : DcJ W F b z N l Y k a y j w) (hj : j < 128) : ∃ u, w.cell? ⟨y, j, none⟩ = some u := by
  have hlen : (((List.range j).map (gB l k) ++ List.replicate (128 - j) 0).map u8).length = 128 := by simp; omega
  refine ⟨(((List.range j).map (gB l k) ++ List.replicate (128 - j) 0).map u8)[j]'(by omega), ?_⟩
  rw [h.yb.cell, List.getElem?_toArray, List.getElem?_eq_getElem (by omega)]

set_option maxRecDepth 3000 in
set_option maxHeartbeats 6400000 in
theorem gdecode_any (v : Value) (l : List Nat) (w : World) (h : Rd w 1 v l.length (l.map u8)) (h8 : ∀ x ∈ l, x < 256) (hl : l.length ≤ 200000) :
    Calls Tryz.prog 111 #[v] w (DecR w l) := by
  have hop : Calls Tryz.prog 142 #[v] w fun e w' => ∃ b F, e = .returned (.pointer (some ⟨b, 0, none⟩)) ∧ RSt w' F b l.length (val l) 0 ∧ Adv Nul w F w' ∧ Bd F w' :=
    open_any v l.length (val l) w (by rw [be_of_val h8]; exact h) (by omega)
  have HOP := Lib.hid hop
  obtain ⟨N, hN⟩ : ∃ N, N = gN l := ⟨_, rfl⟩
  have hN256 : N < 256 := by rw [hN]; exact gN_lt l
  have hNI : (N : Int) ≤ 256 := by omega
  have HN := Lib.hid hN
  have HN2 := Lib.hid hN256
  clear h h8 hl hop hN hN256
  go_enter Tryz.func111, Tryz.ntmps111
  go_wp2_with fail
  refine HOP.out.mono ?_
  rintro e w1 ⟨b, F, rfl, r1, a1, b1⟩
  have hR1 : RdS w1 F b l.length (val l) 0 := .inl ⟨Nat.zero_le _, r1, b1⟩
  have HG := Lib.hid (hR1.getx 8 (by decide))
  have HA1 := Lib.hid a1
  clear r1 b1 hR1 a1
  go_wp2_with fail
  refine HG.out.mono ?_
  rintro e w2 ⟨rfl, r2, a2⟩
  rw [show getX l.length (val l) 0 8 = N from HN.out.symm]
  have HA2 := Lib.hid (HA1.out.trans a2)
  have hmk := made_puts N (by have := HN2.out; omega)
  obtain ⟨z, hz⟩ : ∃ z, z = w2.heap.size := ⟨_, rfl⟩
  obtain ⟨V, hV⟩ : ∃ V, V = w2.alloc (.cells (madeCells #[.int .i64 0, .slice none 0 0] (N * 2)) 133) := ⟨_, rfl⟩
  have hav : Adv Nul w2 Nul V := by rw [hV]; exact (Adv.refl _ _).alloc _
  have HI := Lib.hid (show DcI w F b z N l (fun _ => 0) 0 8 V from by
    refine ⟨r2.far (fun j hj hl => by rw [hV]; exact Below.heap_alloc _ _ _ hl) hav.size, ⟨_, by rw [hV, hz]; exact Blk.new _ _ _, madeCells_size _ _⟩, fun i hi => absurd hi (Nat.not_lt_zero _), (HA2.out.sub (G := Nul) (fun _ x => x.elim)).trans hav, fun j hj => ?_, by rw [hz]; exact HA2.out.size, fun x => ?_⟩
    · rcases HA2.out.into j hj with h | h
      · exact h.elim
      · exact h
    · have := r2.bd z x; omega)
  have HV := Lib.hid hV
  have HZ := Lib.hid hz
  clear r2 a2 hz hV hav
  go_upto_region 3 with (fail)
  rw [← HV.out, ← HZ.out]
  clear hmk
  go_wp2_with fail
  go_loopw [15] (DcL w F b z N l) (fun t _ => N - (intOf t).toNat)
  case atStart => exact ⟨0, _, Nat.zero_le _, rfl, HI.out⟩
  case round =>
    obtain ⟨k, Y, hk, rfl, hi⟩ := hrel
    by_cases hlt : k < N
    · have hki : (k : Int) < (N : Int) := by omega
      have hk0 : (0 : Int) ≤ (k : Int) := by omega
      obtain ⟨x, hx⟩ : ∃ x, x = gA l k := ⟨_, rfl⟩
      have HX := Lib.hid hx
      have HGA := Lib.hid (show getX l.length (val l) (8 + 1036 * k) 12 = x by rw [hx]; rfl)
      have HWX := Lib.hid (show IntKind.i64.wrap (x : Int) = (gA l k : Int) by rw [IntKind.wrap_i64, ← hx]; have := gA_lt l k; omega)
      have HI0 := Lib.hid hi
      have HLT := Lib.hid hlt
      have HID := Lib.hid (hi.over ((Adv.refl Nul wr).drew))
      have HEQ := Lib.hid (show 8 + 1036 * k + 12 = 20 + 1036 * k by omega)
      clear hi hlt hk hx
      go_upto_region 6 with (fail)
      go_cut [] (fun w6 => ∃ y, DcJ w F b z N l Y k (20 + 1036 * k) y 0 w6)
      case first =>
        refine rstart (S := (fun _ => True)) (by first | trivial) (fun hH => ?_)
        refine tk (i := 0) (oi := ⟨some 18, .move (.tmp 5), 134, "record.go:70", #[], none⟩) hH.out (by rintro w _; go_simp <;> with_reducible rfl) ?_
        simp only [Act.put, sA, sB, sC]
        refine tk (i := 1) (oi := ⟨some 19, .move (.tmp 6), 3, "record.go:70", #[], none⟩) hH.out (by rintro w _; go_simp <;> with_reducible rfl) ?_
        simp only [Act.put, sA, sB, sC]
        refine tk (i := 2) (oi := ⟨some 20, .move (.tmp 4), 203, "record.go:70", #[], none⟩) hH.out (by rintro w _; go_simp <;> with_reducible rfl) ?_
        simp only [Act.put, sA, sB, sC]
        refine wpAnyH_ready (rs := [3, 5]) (by kernel_rfl) (by simp) ?_
        refine AllReadyH.cons (o := ⟨some 21, .call ⟨.value (.func 143), #[.tmp 20, .const (Go.Value.int Go.IntKind.i64 12)], #[203, 3]⟩, 38, "record.go:70", #[⟨2, .data⟩], none⟩) rfl (fun K hK => ?_) (AllReadyH.cons (o := ⟨some 23, .makeSlice 118 (.const (Go.Value.int Go.IntKind.i64 128)) (.const (Go.Value.int Go.IntKind.i64 128)), 118, "record.go:70", #[], none⟩) rfl (fun K hK => ?_) AllReadyH.nil)
        · go_simp
          refine (HID.out.get 12 (by decide)).mono ?_
          rintro e w4 ⟨rfl, g4, -⟩
          rw [HGA.out]
          rw [HEQ.out] at g4
          have G4 := Lib.hid g4
          clear g4
          go_wp2_with fail
          refine hK.out _ _ (by first | trivial) (fun hHeld => ?_)
          replace hH := Lib.hid hHeld
          clear hK K hHeld
          try simp only [Act.put, sA, sB, sC]
          refine tk (i := 4) (oi := ⟨some 22, .convert 38 3 (.tmp 21), 3, "record.go:70", #[⟨3, .data⟩], none⟩) hH.out (by rintro w _; go_simp <;> with_reducible rfl) ?_
          simp only [Act.put, sA, sB, sC]
          refine rdy (i := 5) (oi := ⟨some 23, .makeSlice 118 (.const (Go.Value.int Go.IntKind.i64 128)) (.const (Go.Value.int Go.IntKind.i64 128)), 118, "record.go:70", #[], none⟩) (fun K hK => ?_)
          refine st_make128 rfl _ _ rfl rfl rfl ?_
          obtain ⟨y, hy⟩ : ∃ y, y = w4.heap.size := ⟨_, rfl⟩
          obtain ⟨w5, hw5⟩ : ∃ W, W = w4.alloc (.cells ((List.replicate 128 0).map u8).toArray 5) := ⟨_, rfl⟩
          rw [← hw5, ← hy]
          have G5 := Lib.hid (show DcI w F b z N l Y k (20 + 1036 * k) w5 by rw [hw5]; exact G4.out.over ((Adv.refl Nul w4).alloc _))
          have HYB := Lib.hid (show Blk w5 y 5 ((List.replicate 128 0).map u8).toArray by rw [hw5, hy]; exact Blk.new _ _ _)
          have HYF := Lib.hid (dc_new G4.out hy)
          clear hy hw5
          refine hK.out _ _ (by first | trivial) (fun hHeld => ?_)
          replace hH := Lib.hid hHeld
          clear hK K hHeld
          try simp only [Act.put, sA, sB, sC]
          refine tk (i := 6) (oi := ⟨some 24, .build 133 #[(0, .tmp 22), (1, .tmp 23)], 133, "record.go:70", #[⟨4, .data⟩, ⟨5, .data⟩], none⟩) hH.out (by rintro w _; go_simp <;> with_reducible rfl) ?_
          simp only [Act.put, sA, sB, sC]
          refine tk (i := 7) (oi := ⟨some 25, .indexAddr 134 (.tmp 18) (.tmp 19), 0, "record.go:70", #[⟨0, .data⟩, ⟨1, .data⟩, ⟨0, .phase⟩, ⟨1, .phase⟩, ⟨2, .phase⟩, ⟨3, .phase⟩, ⟨4, .phase⟩, ⟨5, .phase⟩, ⟨6, .phase⟩], none⟩) hH.out (by rintro w _; go_simp <;> with_reducible rfl) ?_
          simp only [Act.put, sA, sB, sC]
          refine rdy (i := 8) (oi := ⟨none, .store 133 (.tmp 25) (.tmp 24), 0, "record.go:70", #[⟨7, .data⟩, ⟨6, .data⟩, ⟨3, .chain⟩, ⟨0, .phase⟩, ⟨1, .phase⟩, ⟨2, .phase⟩, ⟨3, .phase⟩, ⟨4, .phase⟩, ⟨5, .phase⟩, ⟨6, .phase⟩], none⟩) (fun K hK => ?_)
          refine st_storeN sizePut rfl (.tmp 25) (.tmp 24) rfl z (k * 2) #[.int .i64 (IntKind.i64.wrap (x : Int)), .slice (some ⟨y, 0, none⟩) 128 128] (G5.out.there HLT.out) rfl (put_one _ _) rfl rfl ?_
          have HJ := Lib.hid (G5.out.lay HLT.out HWX.out HYB.out HYF.out.1 HYF.out.2.1 HYF.out.2.2.1 HYF.out.2.2.2)
          refine hK.out _ _ (by first | trivial) (fun hHeld => ?_)
          replace hH := Lib.hid hHeld
          clear hK K hHeld
          try simp only [Act.put]
          refine wpAnyH_done (by kernel_rfl) ?_ _
          go_wp2_with fail
          go_meet
          exact ⟨y, HJ.out⟩
        · refine st_make128 rfl _ _ rfl rfl rfl ?_
          obtain ⟨y, hy⟩ : ∃ y, y = wr.drew.heap.size := ⟨_, rfl⟩
          obtain ⟨w5, hw5⟩ : ∃ W, W = wr.drew.alloc (.cells ((List.replicate 128 0).map u8).toArray 5) := ⟨_, rfl⟩
          rw [← hw5, ← hy]
          have G5 := Lib.hid (show DcI w F b z N l Y k (8 + 1036 * k) w5 by rw [hw5]; exact HID.out.over ((Adv.refl Nul wr.drew).alloc _))
          have HYB := Lib.hid (show Blk w5 y 5 ((List.replicate 128 0).map u8).toArray by rw [hw5, hy]; exact Blk.new _ _ _)
          have HYF := Lib.hid (dc_new HID.out hy)
          clear hy hw5
          refine hK.out _ _ (by first | trivial) (fun hHeld => ?_)
          replace hH := Lib.hid hHeld
          clear hK K hHeld
          try simp only [Act.put, sA, sB, sC]
          refine rdy (i := 3) (oi := ⟨some 21, .call ⟨.value (.func 143), #[.tmp 20, .const (Go.Value.int Go.IntKind.i64 12)], #[203, 3]⟩, 38, "record.go:70", #[⟨2, .data⟩], none⟩) (fun K hK => ?_)
          go_simp
          refine (G5.out.get 12 (by decide)).mono ?_
          rintro e w6 ⟨rfl, g6, a6⟩
          rw [HGA.out]
          rw [HEQ.out] at g6
          have G6 := Lib.hid g6
          have HYB6 := Lib.hid (HYB.out.keep (a6.block y HYB.out.lt HYF.out.2.1))
          clear g6 a6
          go_wp2_with fail
          refine hK.out _ _ (by first | trivial) (fun hHeld => ?_)
          replace hH := Lib.hid hHeld
          clear hK K hHeld
          try simp only [Act.put, sA, sB, sC]
          refine tk (i := 4) (oi := ⟨some 22, .convert 38 3 (.tmp 21), 3, "record.go:70", #[⟨3, .data⟩], none⟩) hH.out (by rintro w _; go_simp <;> with_reducible rfl) ?_
          simp only [Act.put, sA, sB, sC]
          refine tk (i := 6) (oi := ⟨some 24, .build 133 #[(0, .tmp 22), (1, .tmp 23)], 133, "record.go:70", #[⟨4, .data⟩, ⟨5, .data⟩], none⟩) hH.out (by rintro w _; go_simp <;> with_reducible rfl) ?_
          simp only [Act.put, sA, sB, sC]
          refine tk (i := 7) (oi := ⟨some 25, .indexAddr 134 (.tmp 18) (.tmp 19), 0, "record.go:70", #[⟨0, .data⟩, ⟨1, .data⟩, ⟨0, .phase⟩, ⟨1, .phase⟩, ⟨2, .phase⟩, ⟨3, .phase⟩, ⟨4, .phase⟩, ⟨5, .phase⟩, ⟨6, .phase⟩], none⟩) hH.out (by rintro w _; go_simp <;> with_reducible rfl) ?_
          simp only [Act.put, sA, sB, sC]
          refine rdy (i := 8) (oi := ⟨none, .store 133 (.tmp 25) (.tmp 24), 0, "record.go:70", #[⟨7, .data⟩, ⟨6, .data⟩, ⟨3, .chain⟩, ⟨0, .phase⟩, ⟨1, .phase⟩, ⟨2, .phase⟩, ⟨3, .phase⟩, ⟨4, .phase⟩, ⟨5, .phase⟩, ⟨6, .phase⟩], none⟩) (fun K hK => ?_)
          refine st_storeN sizePut rfl (.tmp 25) (.tmp 24) rfl z (k * 2) #[.int .i64 (IntKind.i64.wrap (x : Int)), .slice (some ⟨y, 0, none⟩) 128 128] (G6.out.there HLT.out) rfl (put_one _ _) rfl rfl ?_
          have HJ := Lib.hid (G6.out.lay HLT.out HWX.out HYB6.out HYF.out.1 HYF.out.2.1 HYF.out.2.2.1 HYF.out.2.2.2)
          refine hK.out _ _ (by first | trivial) (fun hHeld => ?_)
          replace hH := Lib.hid hHeld
          clear hK K hHeld
          try simp only [Act.put]
          refine wpAnyH_done (by kernel_rfl) ?_ _
          go_wp2_with fail
          go_meet
          exact ⟨y, HJ.out⟩
      case rest =>
        obtain ⟨y, hj⟩ := hcut
        have c1 := hj.c1
        have HJ0 := Lib.hid hj
        clear hj
        go_wp2_with fail
        go_loopw [32] (DcM w F b z N l Y k y) (fun t _ => 128 - (intOf t).toNat)
        case atStart => exact ⟨0, Nat.zero_le _, rfl, HJ0.out⟩
        case round =>
          obtain ⟨j, hj, rfl, hjj⟩ := hrel
          by_cases hlt : j < 128
          · have hji : (j : Int) < 128 := by omega
            have hj0 : (0 : Int) ≤ (j : Int) := by omega
            obtain ⟨xb, hxb⟩ : ∃ x, x = gB l k j := ⟨_, rfl⟩
            have HXB := Lib.hid hxb
            have HGB := Lib.hid (show getX l.length (val l) (20 + 1036 * k + 8 * j) 8 = xb by rw [hxb]; rfl)
            have HWB := Lib.hid (show IntKind.u8.wrap (xb : Int) = (xb : Int) by have := gB_lt l k j; rw [← hxb] at this; rw [IntKind.wrap_u8]; omega)
            have HEQ2 := Lib.hid (show 20 + 1036 * k + 8 * j + 8 = 20 + 1036 * k + 8 * (j + 1) by omega)
            have HLT2 := Lib.hid hlt
            have HJD := Lib.hid hjj.drew
            have k0 := hjj.c1
            have K0 := Lib.hid k0
            have KD := Lib.hid hjj.drew.c1
            clear hjj hlt hj hxb c1
            go_upto_region 10 with (fail)
            refine rstart (S := (fun w' => w'.cell? ⟨z, k * 2 + 1, none⟩ = some (.slice (some ⟨y, 0, none⟩) 128 128))) (by first | with_reducible exact K8.out | with_reducible exact K7.out | with_reducible exact KD.out | with_reducible exact K0.out) (fun hH => ?_)
            refine tk (i := 0) (oi := ⟨some 35, .move (.tmp 5), 134, "record.go:72", #[], none⟩) hH.out (by rintro w s0; go_simp <;> with_reducible rfl) ?_
            simp only [Act.put, sA, sB, sC]
            refine tk (i := 1) (oi := ⟨some 36, .move (.tmp 6), 3, "record.go:72", #[], none⟩) hH.out (by rintro w s0; go_simp <;> with_reducible rfl) ?_
            simp only [Act.put, sA, sB, sC]
            refine tk (i := 2) (oi := ⟨some 37, .indexAddr 134 (.tmp 35) (.tmp 36), 0, "record.go:72", #[⟨0, .data⟩, ⟨1, .data⟩], none⟩) hH.out (by rintro w s0; go_simp <;> with_reducible rfl) ?_
            simp only [Act.put, sA, sB, sC]
            refine tk (i := 3) (oi := ⟨some 38, .fieldAddr 133 (.tmp 37) 1, 0, "record.go:72", #[⟨2, .data⟩], none⟩) hH.out (by rintro w s0; go_simp <;> with_reducible rfl) ?_
            simp only [Act.put, sA, sB, sC]
            refine tk (i := 4) (oi := ⟨some 39, .load 118 (.tmp 38), 118, "record.go:72", #[⟨3, .data⟩], none⟩) hH.out (by rintro w s0; go_simp <;> with_reducible rfl) ?_
            simp only [Act.put, sA, sB, sC]
            refine tk (i := 5) (oi := ⟨some 40, .move (.tmp 7), 3, "record.go:72", #[], none⟩) hH.out (by rintro w s0; go_simp <;> with_reducible rfl) ?_
            simp only [Act.put, sA, sB, sC]
            refine tk (i := 6) (oi := ⟨some 41, .move (.tmp 4), 203, "record.go:72", #[], none⟩) hH.out (by rintro w s0; go_simp <;> with_reducible rfl) ?_
            simp only [Act.put, sA, sB, sC]
            refine rdy (i := 7) (oi := ⟨some 42, .call ⟨.value (.func 143), #[.tmp 41, .const (Go.Value.int Go.IntKind.i64 8)], #[203, 3]⟩, 38, "record.go:72", #[⟨6, .data⟩], none⟩) (fun K hK => ?_)
            go_simp
            refine (HJD.out.get 8 (by decide)).mono ?_
            rintro e w7 ⟨rfl, g7⟩
            rw [HGB.out]
            rw [HEQ2.out] at g7
            obtain ⟨u, ky⟩ := g7.cellAt HLT2.out
            have fy := g7.yb.frozen j
            have K7 := Lib.hid g7.c1
            have HS7 := Lib.hid (show DcJ w F b z N l Y k (20 + 1036 * k + 8 * (j + 1)) y (j + 1) (w7.setCell ⟨y, j, none⟩ (.int .u8 (IntKind.u8.wrap (xb : Int)))) by rw [HWB.out]; exact g7.set HLT2.out HXB.out)
            have K8 := Lib.hid HS7.out.c1
            clear g7
            go_wp2_with fail
            refine hK.out _ _ (by first | with_reducible exact K8.out | with_reducible exact K7.out | with_reducible exact KD.out | with_reducible exact K0.out) (fun hHeld => ?_)
            replace hH := Lib.hid hHeld
            clear hK K hHeld
            try simp only [Act.put, sA, sB, sC]
            refine tk (i := 8) (oi := ⟨some 43, .convert 38 5 (.tmp 42), 5, "record.go:72", #[⟨7, .data⟩], none⟩) hH.out (by rintro w s0; go_simp <;> with_reducible rfl) ?_
            simp only [Act.put, sA, sB, sC]
            refine tk (i := 9) (oi := ⟨some 44, .indexAddr 118 (.tmp 39) (.tmp 40), 0, "record.go:72", #[⟨4, .data⟩, ⟨5, .data⟩, ⟨0, .phase⟩, ⟨1, .phase⟩, ⟨2, .phase⟩, ⟨3, .phase⟩, ⟨4, .phase⟩, ⟨5, .phase⟩, ⟨6, .phase⟩, ⟨7, .phase⟩, ⟨8, .phase⟩], none⟩) hH.out (by rintro w s0; go_simp <;> with_reducible rfl) ?_
            simp only [Act.put, sA, sB, sC]
            refine rdy (i := 10) (oi := ⟨none, .store 5 (.tmp 44) (.tmp 43), 0, "record.go:72", #[⟨9, .data⟩, ⟨8, .data⟩, ⟨7, .chain⟩, ⟨0, .phase⟩, ⟨1, .phase⟩, ⟨2, .phase⟩, ⟨3, .phase⟩, ⟨4, .phase⟩, ⟨5, .phase⟩, ⟨6, .phase⟩, ⟨7, .phase⟩, ⟨8, .phase⟩], none⟩) (fun K hK => ?_)
            go_simp
            refine hK.out _ _ (by first | with_reducible exact K8.out | with_reducible exact K7.out | with_reducible exact KD.out | with_reducible exact K0.out) (fun hHeld => ?_)
            replace hH := Lib.hid hHeld
            clear hK K hHeld
            try simp only [Act.put]
            refine wpAnyH_done (by kernel_rfl) ?_ _
            go_wp2_with fail
            have hlt := HLT2.out
            exact ⟨⟨j + 1, by omega, by go_num, HS7.out⟩, by simp [intOf] <;> omega⟩
          · obtain rfl : j = 128 := by omega
            have HDN := Lib.hid (show DcI w F b z N l (fun i => if i = k then y else Y i) (k + 1) (8 + 1036 * (k + 1)) wr by
              have := hjj.done
              rwa [show 20 + 1036 * k + 8 * 128 = 8 + 1036 * (k + 1) by omega] at this)
            clear hjj hlt hj c1
            go_wp2_with fail
            have hlt := HLT.out
            exact ⟨⟨k + 1, _, by omega, by go_num, HDN.out⟩, by simp [intOf] <;> omega⟩
    · obtain rfl : k = N := by omega
      obtain ⟨E, hE⟩ : ∃ E, E = endE l.length (val l) (8 + 1036 * k) := ⟨_, rfl⟩
      have HEN := Lib.hid hi.rd.end_
      rw [← hE] at HEN
      have HI9 := Lib.hid hi
      have HE := Lib.hid (show E = decE l by rw [hE, ← gE_dec, gE, ← HN.out])
      clear hi hlt hk hE
      go_wp2_with fail
      refine HEN.out.mono ?_
      rintro e w9 ⟨rfl, a9⟩
      have HPL := Lib.hid (show (gP l).length = k by rw [HN.out]; simp [gP])
      have HQ := Lib.hid (show ∀ G, Bd G w → QRd w9 G (.slice (some ⟨z, 0, none⟩) k k) (gP l) from fun G hG => (HI9.out.over a9).qrd HN.out hG)
      have HA9 := Lib.hid (HI9.out.adv.trans a9)
      clear a9
      have hfin : ∀ B, B = decide (decE l = 0) → DecR w l (.returned (.tuple #[.slice (some ⟨z, 0, none⟩) k k, .bool B])) w9 := fun B hB => by
        subst hB
        refine ⟨z, by rw [HPL.out], fun G hG => ?_, HA9.out⟩
        rw [HPL.out]
        exact HQ.out G hG
      have HFIN := Lib.hid hfin
      clear hfin
      by_cases h0 : E = 0
      · subst h0
        have HF := Lib.hid (HFIN.out true (by rw [decide_eq_true HE.out.symm]))
        go_wp2_with fail
        exact bodyPost_ret (v := .tuple #[.slice (some ⟨z, 0, none⟩) k k, .bool true]) (by simp [results, Tryz.results111, go_sem]) rfl HF.out
      · have hb : ((E : Int) == 0) = false := by rw [beq_eq_false_iff_ne]; exact h0
        have HF := Lib.hid (HFIN.out false (by rw [decide_eq_false (by rw [← HE.out]; exact h0)]))
        clear h0
        go_wp2_with fail
        exact bodyPost_ret (v := .tuple #[.slice (some ⟨z, 0, none⟩) k k, .bool false]) (by simp [results, Tryz.results111, go_sem]) rfl HF.out
end Go.Proofs.YtcglfknkkeaegaaGreatDoor
namespace Go.Proofs.YtcglfknkkeaegaaGreatDoor
open Go.RowKit

theorem five2 {w : World} {b q : Nat} {t t' : TypeId} {a0 a1 a2 a3 a4 d0 d1 d2 d3 d4 : Value} (h : Blk w b t #[a0, a1, a2, a3, a4]) (h' : Blk w q t' #[d0, d1, d2, d3, d4]) :
    w.cell? ⟨b, 0, none⟩ = some a0 ∧ w.cell? ⟨b, 1, none⟩ = some a1 ∧ w.cell? ⟨b, 2, none⟩ = some a2 ∧ w.cell? ⟨b, 3, none⟩ = some a3 ∧ w.cell? ⟨b, 4, none⟩ = some a4 ∧ w.cell? ⟨q, 0, none⟩ = some d0 ∧ w.cell? ⟨q, 1, none⟩ = some d1 ∧ w.cell? ⟨q, 2, none⟩ = some d2 ∧ w.cell? ⟨q, 3, none⟩ = some d3 ∧ w.cell? ⟨q, 4, none⟩ = some d4 :=
  ⟨h.cell 0, h.cell 1, h.cell 2, h.cell 3, h.cell 4, h'.cell 0, h'.cell 1, h'.cell 2, h'.cell 3, h'.cell 4⟩
end Go.Proofs.YtcglfknkkeaegaaGreatDoor
