/- Rows of sectors in a slice: homes. -/
import Derived.Test.YtlpdpbhnfhihjaaGreatMgRd
import Derived.Test.YtlpdpbhnfhihjaaGreatLpKc
namespace Go.Proofs.YtlpdpbhnfhihjaaGreat
open Go.RowKit Go.Maps

theorem infoByts : (Tryz.prog.info? 53).map (fun i => (i.zero, i.size, i.bytes)) = some (some (.slice none 0 0), 1, 24) := by kernel_rfl
abbrev RC := Option Addr × Nat
def rcell (r : RC) : Value := .slice r.1 128 r.2
/-- rows that can be read, and that no step on G turns -/
def RwR (w : World) (G : Nat → Prop) (v : Value) (hs : List (List Nat)) : Prop :=
  ∃ A k, v = .slice A hs.length k ∧ hs.length ≤ k ∧ k ≤ maxLen ∧ (0 < hs.length → ∃ b, A = some ⟨b, 0, none⟩ ∧ (b < w.heap.size ∧ ¬ G b) ∧ ∀ i (h : i < hs.length), hs[i].length = 128 ∧ ∃ r : RC,
    w.cell? ⟨b, i, none⟩ = some (rcell r) ∧ Rd w 1 (rcell r) 128 (hs[i].map u8) ∧ ∀ k, (rcell r).ownBlock = some k → ¬ G k)
theorem RwR.adv {w w' : World} {G G' F F' : Nat → Prop} {v : Value} {hs : List (List Nat)} (h : RwR w G v hs) (ha : Adv F w F' w') (hF : ∀ k, F k → G k) (hG : ∀ k, G' k → G k ∨ w.heap.size ≤ k) : RwR w' G' v hs := by
  obtain ⟨A, k, rfl, h1, h2, h3⟩ := h
  refine ⟨A, k, rfl, h1, h2, fun hn => ?_⟩
  obtain ⟨b, rfl, ⟨hb, hg⟩, hc⟩ := h3 hn
  have hk : w'.heap[b]? = w.heap[b]? := ha.block b hb (fun x => hg (hF b x))
  refine ⟨b, rfl, ⟨Nat.lt_of_lt_of_le hb ha.size, fun x => ?_⟩, fun i hi => ?_⟩
  · rcases hG b x with h | h
    · exact hg h
    · omega
  · obtain ⟨hl, r, c0, hr, hs⟩ := hc i hi
    refine ⟨hl, r, (World.cell?_of_block hk).trans c0, hr.far (fun j hj _ hl => ha.block j hl (fun x => hs j hj (hF j x))) ha.size, fun j hj x => ?_⟩
    rcases hG j x with h | h
    · exact hs j hj h
    · have := Rd.lt (a := r.1) (q := r.2) hr hj (by decide)
      omega
theorem RwR.step {w w' : World} {G F' : Nat → Prop} {v : Value} {hs : List (List Nat)} (h : RwR w G v hs) (ha : Adv Nul w F' w') : RwR w' G v hs := h.adv ha (fun _ x => x.elim) (fun _ x => .inl x)
theorem RwR.len {w : World} {G : Nat → Prop} {A : Option Addr} {n k : Nat} {hs : List (List Nat)} (h : RwR w G (.slice A n k) hs) : n = hs.length ∧ n ≤ k ∧ k ≤ maxLen := by
  obtain ⟨A', k', e, h1, h2, _⟩ := h
  injection e with e1 e2 e3
  omega
theorem RwR.row {w : World} {G : Nat → Prop} {A : Option Addr} {n k : Nat} {hs : List (List Nat)} (h : RwR w G (.slice A n k) hs) {i : Nat} (hi : i < hs.length) : ∃ b, A = some ⟨b, 0, none⟩ ∧ (b < w.heap.size ∧ ¬ G b) ∧ hs[i].length = 128 ∧ ∃ r : RC, w.cell? ⟨b, i, none⟩ = some (rcell r) ∧ Rd w 1 (rcell r) 128 (hs[i].map u8) ∧ ∀ k, (rcell r).ownBlock = some k → ¬ G k := by
  obtain ⟨A', k', e, _, _, h3⟩ := h
  injection e with e1 e2 e3
  subst e1
  obtain ⟨b, e, hb, hc⟩ := h3 (by omega)
  exact ⟨b, e, hb, hc i hi⟩
/-- rows in a slice of one's own -/
structure HW (W : World) (G : Nat → Prop) (f : Nat → List Nat) (k : Nat) (vo : Value) (F : Nat → Prop) (rs : List RC) (w : World) : Prop where
  len : rs.length = k
  sl : Sl w F 53 1 vo k (rs.map rcell)
  at_ : ∀ i (h : i < rs.length), (f i).length = 128 ∧ Rd w 1 (rcell rs[i]) 128 ((f i).map u8) ∧ ∀ g, (rcell rs[i]).ownBlock = some g → ¬ F g ∧ ¬ G g
  adv : Adv Nul W F w
section
variable {W w w' : World} {G : Nat → Prop} {f : Nat → List Nat} {k : Nat} {vo : Value}
theorem HW.nil (W : World) (G : Nat → Prop) (f : Nat → List Nat) : HW W G f 0 (.slice none 0 0) Nul [] W := ⟨rfl, Sl.nil _ _ _, fun i h => absurd h (by simp), Adv.refl _ _⟩
theorem HW.step {F F' : Nat → Prop} {rs : List RC} (h : HW W G f k vo F rs w) (ha : Adv Nul w F' w') : HW W G f k vo F rs w' :=
  ⟨h.len, h.sl.far ha (fun _ h _ => h), fun i hi => by
    obtain ⟨e, hr, hn⟩ := h.at_ i hi
    exact ⟨e, hr.far (fun _ _ _ hl => ha.block _ hl (fun x => x)) ha.size, hn⟩, h.adv.over ha⟩
theorem HW.push {F : Nat → Prop} {rs : List RC} {vo' : Value} {r : RC} (h : HW W G f k vo F rs w) (hl : (f k).length = 128) (hr : Rd w 1 (rcell r) 128 ((f k).map u8)) (hnF : ∀ g, (rcell r).ownBlock = some g → ¬ F g ∧ ¬ G g)
    (hown : w'.ownsRow 0 53 1 vo' (k + 1) (rs.map rcell ++ [rcell r])) (hg : w.grownBy w' vo.ownBlock) (hat : vo'.ownBlock = vo.ownBlock ∨ vo'.ownBlock = some w.heap.size) : ∃ F' rs', HW W G f (k + 1) vo' F' rs' w' := by
  obtain ⟨g1, g2⟩ := lsl_grown h.sl hown hg hat (Nat.le_refl _)
  have hF' : ∀ g, g < w.heap.size → ¬ F g → ¬ (F g ∨ vo'.ownBlock = some g) := fun g hlt hn hor => by
    rcases hor with h1 | h1
    · exact hn h1
    · rcases hat with e | e
      · exact hn (h.sl.inF g (by rw [← e]; exact h1))
      · rw [e] at h1; injection h1 with h1; omega
  have keep : ∀ {r : RC} {l : List Nat}, Rd w 1 (rcell r) 128 (l.map u8) → (∀ g, (rcell r).ownBlock = some g → ¬ F g ∧ ¬ G g) → Rd w' 1 (rcell r) 128 (l.map u8) ∧ ∀ g, (rcell r).ownBlock = some g → ¬ (F g ∨ vo'.ownBlock = some g) ∧ ¬ G g := fun {r _} hr hn =>
    ⟨hr.far (fun g hg _ hl => g2.block g hl (hn g hg).1) g2.size, fun g hg => ⟨hF' g (Rd.lt (a := r.1) (q := r.2) hr hg (by decide)) (hn g hg).1, (hn g hg).2⟩⟩
  have hl' := h.len
  refine ⟨_, rs ++ [r], by simp [hl'], by simpa using g1, fun i hi => ?_, h.adv.trans g2⟩
  rw [List.length_append, List.length_singleton] at hi
  by_cases hik : i < rs.length
  · rw [List.getElem_append_left hik]
    obtain ⟨e, hr', hn'⟩ := h.at_ i hik
    obtain ⟨k1, k2⟩ := keep hr' hn'
    exact ⟨e, k1, k2⟩
  · obtain rfl : i = rs.length := by omega
    rw [List.getElem_append_right (Nat.le_refl _)]
    simp only [Nat.sub_self, List.getElem_cons_zero, hl']
    obtain ⟨k1, k2⟩ := keep hr hnF
    exact ⟨hl, k1, k2⟩
theorem HW.rwr {F : Nat → Prop} {rs : List RC} (h : HW W G f k vo F rs w) (hG : Bd G W) : RwR w G vo ((List.range k).map f) := by
  have hl := h.len
  obtain ⟨A, c, rfl, hkc, hcm⟩ := h.sl.form0
  refine ⟨A, c, by simp, by simpa using hkc, hcm, fun hk => ?_⟩
  have hk' : 0 < k := by simpa using hk
  obtain ⟨g, c', e, hFg, _⟩ := h.sl.form hk'
  injection e with e1 _ _
  subst e1
  refine ⟨g, rfl, ⟨h.sl.bd g hFg, fun x => ?_⟩, fun i hi => ?_⟩
  · rcases h.adv.into g hFg with y | y
    · exact y.elim
    · have := hG g x; omega
  have hi' : i < k := by simpa using hi
  obtain ⟨e, hr, hn⟩ := h.at_ i (by omega)
  have e3 : ((List.range k).map f)[i]'hi = f i := by simp
  rw [e3]
  refine ⟨e, rs[i]'(by omega), ?_, hr, fun j hj => (hn j hj).2⟩
  rw [h.sl.own.cellAt i (by omega)]
  simp [hl, hi']
end
theorem hone (r : RC) : ∀ u ∈ [rcell r], u.oneCell' = true := by
  intro u hu
  simp at hu
  subst hu; rfl
theorem hnew_at {T : TypeId} {w : World} {r : RC} (j : Nat) (u : Value) (h : [rcell r][j]? = some u) : (w.alloc (.cells #[rcell r] T)).cell? ((⟨w.heap.size, 0, none⟩ : Addr).add j) = some u := by
  rw [add_none, Nat.zero_add, (Blk.new w T #[rcell r]).cell j, List.getElem?_toArray]
  exact h

def RdRow (w : World) (r : RC) (l : List Nat) : Prop := Rd w 1 (rcell r) 128 (l.map u8)
theorem RdRow.up {w : World} {r : RC} {l : List Nat} (h : RdRow w r l) (o : Obj) : RdRow (w.alloc o) r l := Rd.up h o
def HmR (w : World) (G : Nat → Prop) (hs : List (List Nat)) (e : Ending) (w' : World) : Prop := ∃ A q, e = .returned (.slice A hs.length q) ∧ RwR w' G (.slice A hs.length q) hs ∧ Adv Nul w Nul w'
def HmL (w : World) (G : Nat → Prop) (f : Nat → List Nat) (M : Nat) (t4 t3 : Value) (wr : World) : Prop := ∃ k A q F rs, k ≤ M ∧ t4 = .int .i64 (k : Int) ∧ t3 = .slice A k q ∧ HW w G f k (.slice A k q) F rs wr
theorem homeG_len {s : DS} {n N i : Nat} {g : LS} {F : Nat → Prop} {w : World} {d : Nat} (hd : Dk w F d N s) (hA : AOk (N - 2 - n) g.A) (hi : i < N - 2 - n) : (homeG s n g i).length = 128 := by
  unfold homeG
  cases e : g.A i with
  | some x => exact (hA i x e).2.1
  | none => exact row_at (L := lays s.L s.Q) (lays_row s.Q s.L hd.1.row (fun q hq => (hd.1.at_ q hq).2)) (by rw [lays_length, hd.1.len]; omega)

set_option maxRecDepth 3000 in
set_option maxHeartbeats 6400000 in
theorem homes_any (l b d n N : Nat) (g : LS) (F : Nat → Prop) (s : DS) (G : Nat → Prop) (w : World) (h : Rs w F d l b n N s g) (hn : 2 ≤ n ∧ n + 3 ≤ N ∧ N ≤ 4096) (hA : AOk (N - 2 - n) g.A) (hG : Bd G w) :
    Calls Tryz.prog 32 #[.pointer (some ⟨l, 0, none⟩)] w (HmR w G ((List.range (N - 2 - n)).map (homeG s n g))) := by
  obtain ⟨M, hM⟩ : ∃ M, M = N - 2 - n := ⟨_, rfl⟩
  have HS := Lib.hid h
  have HN := Lib.hid hn
  have HA := Lib.hid hA
  have HG := Lib.hid hG
  have HM := Lib.hid hM
  have HM4 := Lib.hid (show M ≤ 4096 by omega)
  have hMI : (M : Int) ≤ 4096 := by omega
  rw [← hM]
  obtain ⟨f, hf⟩ : ∃ f, f = homeG s n g := ⟨_, rfl⟩
  rw [← hf]
  have HF := Lib.hid hf
  have HFL := Lib.hid (show ∀ i, i < M → (f i).length = 128 from fun i hi => by rw [hf]; exact homeG_len h.dk hA (by omega))
  clear h hn hA hG hM hf
  go_enter Tryz.func32, Tryz.ntmps32
  go_wp2_with fail
  go_loopw [4, 3] (HmL w G f M) (fun t _ _ => M - (intOf t).toNat)
  case atStart => exact ⟨0, none, 0, Nul, [], Nat.zero_le _, rfl, rfl, HW.nil _ _ _⟩
  case round =>
    obtain ⟨k, A, q, Fk, rs, hk, rfl, rfl, hw⟩ := hrel
    have HW_ := Lib.hid hw
    have HH := Lib.hid (show Calls Tryz.prog 23 #[.pointer (some ⟨l, 0, none⟩)] wr fun e w' => e = .returned (.int .i64 (M : Int)) ∧ ∃ k, w' = wr.drewN k by
      rw [HM.out]
      have hs := HS.out.over (hw.adv)
      exact ghomes_lg hs.lg hs.dk HN.out.2.2 (by have := HN.out; omega))
    by_cases hlt : k < M
    · have hki : (k : Int) < (M : Int) := by omega
      have HRD := Lib.hid (show ∀ j, Calls Tryz.prog 29 #[.pointer (some ⟨l, 0, none⟩), .int .i64 (k : Int)] (wr.drewN j) (RdR (wr.drewN j) (f k)) from fun j => by
        rw [HF.out]
        exact gread_lg l b d n N k g F s (wr.drewN j) (HS.out.over ((hw.adv).drewN j)) HN.out HA.out (by rw [← HM.out]; exact hlt))
      have HLT := Lib.hid hlt
      clear hw hk hlt
      go_wp2_with fail
      refine HH.out.mono ?_
      rintro e w1 ⟨rfl, j1, rfl⟩
      go_wp2_with fail
      refine (HRD.out j1).mono ?_
      rintro e w2 ⟨z, rfl, hz, hz2, r2, l2, a2⟩
      have HW2 := Lib.hid ((HW_.out.step ((Adv.refl Nul wr).drewN j1)).step a2)
      have HR2 := Lib.hid (show RdRow w2 (some ⟨z, 0, none⟩, 128) (f k) from r2)
      have HNF := Lib.hid (show ∀ g, (rcell (some ⟨z, 0, none⟩, 128)).ownBlock = some g → ¬ Fk g ∧ ¬ G g from fun g hg => by
        have e : z = g := by injection hg
        subst e
        have h1 : wr.heap.size ≤ z := hz
        have h2 := HW_.out.adv.size
        exact ⟨fun x => by have := HW_.out.sl.bd z x; omega, fun x => by have := HG.out z x; omega⟩)
      have HU := Lib.hid (HW2.out.step ((Adv.refl Nul w2).alloc (.cells #[rcell (some ⟨z, 0, none⟩, 128)] 53)))
      have HRU := Lib.hid (HR2.out.up (.cells #[rcell (some ⟨z, 0, none⟩, 128)] 53))
      have HK1 := Lib.hid (show k + 1 ≤ maxLen by have := HLT.out; have := HM4.out; unfold maxLen; omega)
      have HK2 := Lib.hid (show (k + 1) * 24 ≤ 140737488355328 by have := HLT.out; have := HM4.out; omega)
      clear hz hz2 r2 l2 a2
      go_wp2_with (first
        | (at_builtin; refine lop_append_own rfl (.tmp 19) (.tmp 21) 50 53 rfl Tryz.underlying50 infoByts rfl (by decide) rfl HU.out.sl.own ⟨w2.heap.size, 0, none⟩ 1 1 rfl [rcell (some ⟨z, 0, none⟩, 128)] rfl hnew_at (hone _) HK1.out HK2.out ?_; intro v' w8 hown hg2 hat; obtain ⟨a8, k8, rfl⟩ := (slice_of hown); have HOWN := Lib.hid hown; have HG2 := Lib.hid hg2; have HAT := Lib.hid hat; clear hown hg2 hat)
        | fail)
      obtain ⟨F8, rs8, hpu⟩ := HU.out.push (HFL.out k HLT.out) HRU.out HNF.out HOWN.out HG2.out HAT.out
      have hlt := HLT.out
      exact ⟨⟨k + 1, a8, k8, F8, rs8, by omega, by go_num, rfl, hpu⟩, by simp [intOf] <;> omega⟩
    · obtain rfl : k = M := by omega
      have hki : ¬ (k : Int) < (k : Int) := by omega
      have HFIN := Lib.hid (show ∀ j, HmR w G ((List.range k).map f) (.returned (.slice A k q)) (wr.drewN j) from fun j => by
        refine ⟨A, q, by simp, ?_, (HW_.out.adv.sub (fun _ x => x.elim)).drewN j⟩
        have := (HW_.out.step ((Adv.refl Nul wr).drewN j)).rwr HG.out
        simpa using this)
      clear hw hk hlt
      go_wp2_with fail
      refine HH.out.mono ?_
      rintro e w1 ⟨rfl, j1, rfl⟩
      go_wp2_with fail
      go_ret
      exact HFIN.out j1
end Go.Proofs.YtlpdpbhnfhihjaaGreat
