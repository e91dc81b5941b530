/- Rows of sectors in a slice: homes. Rows of sectors: same, over. The calls that came in; the log's states, in step with its homes. RedoKept's memory: rows of rows (the states), whether two rows are the same. -/
import Derived.Test.YtolcnbiaiolcoaaGreatMgRd
import Derived.Test.YtolcnbiaiolcoaaGreatMgKc
import Derived.Test.YtolcnbiaiolcoaaGreatMgDa
import Derived.Test.YtolcnbiaiolcoaaGreatMgRh
import Derived.ArgAppend
namespace Go.Proofs.YtolcnbiaiolcoaaGreat
open Go.RowKit Go.Maps

theorem infoByts : (Tryz.prog.info? 53).map (fun i => (i.zero, i.size, i.bytes)) = some (some (.slice none 0 0), 1, 24) := by kernel_rfl
abbrev RC := Option Addr × Nat
def rcell (r : RC) : Value := .slice r.1 128 r.2
/-- rows that can be read, and that no step on G turns -/
def RwR (w : World) (G : Nat → Prop) (v : Value) (hs : List (List Nat)) : Prop :=
  ∃ A k, v = .slice A hs.length k ∧ hs.length ≤ k ∧ k ≤ maxLen ∧ (0 < hs.length → ∃ b, A = some ⟨b, 0, none⟩ ∧ (b < w.heap.size ∧ ¬ G b) ∧ ∀ i (h : i < hs.length), hs[i].length = 128 ∧ ∃ r : RC,
    w.cell? ⟨b, i, none⟩ = some (rcell r) ∧ Rd w 1 (rcell r) 128 (hs[i].map u8) ∧ ∀ k, (rcell r).ownBlock = some k → ¬ G k)
theorem RwR.adv {w w' : World} {G G' F F' : Nat → Prop} {v : Value} {hs : List (List Nat)} (h : RwR w G v hs) (ha : Adv F w F' w') (hF : ∀ k, F k → G k) (hG : ∀ k, G' k → G k ∨ w.heap.size ≤ k) : RwR w' G' v hs := by
  obtain ⟨A, k, rfl, h1, h2, h3⟩ := h
  refine ⟨A, k, rfl, h1, h2, fun hn => ?_⟩
  obtain ⟨b, rfl, ⟨hb, hg⟩, hc⟩ := h3 hn
  have hk : w'.heap[b]? = w.heap[b]? := ha.block b hb (fun x => hg (hF b x))
  refine ⟨b, rfl, ⟨Nat.lt_of_lt_of_le hb ha.size, fun x => ?_⟩, fun i hi => ?_⟩
  · rcases hG b x with h | h
    · exact hg h
    · omega
  · obtain ⟨hl, r, c0, hr, hs⟩ := hc i hi
    refine ⟨hl, r, (World.cell?_of_block hk).trans c0, hr.far (fun j hj _ hl => ha.block j hl (fun x => hs j hj (hF j x))) ha.size, fun j hj x => ?_⟩
    rcases hG j x with h | h
    · exact hs j hj h
    · have := Rd.lt (a := r.1) (q := r.2) hr hj (by decide)
      omega
theorem RwR.step {w w' : World} {G F' : Nat → Prop} {v : Value} {hs : List (List Nat)} (h : RwR w G v hs) (ha : Adv Nul w F' w') : RwR w' G v hs := h.adv ha (fun _ x => x.elim) (fun _ x => .inl x)
theorem RwR.len {w : World} {G : Nat → Prop} {A : Option Addr} {n k : Nat} {hs : List (List Nat)} (h : RwR w G (.slice A n k) hs) : n = hs.length ∧ n ≤ k ∧ k ≤ maxLen := by
  obtain ⟨A', k', e, h1, h2, _⟩ := h
  injection e with e1 e2 e3
  omega
theorem RwR.row {w : World} {G : Nat → Prop} {A : Option Addr} {n k : Nat} {hs : List (List Nat)} (h : RwR w G (.slice A n k) hs) {i : Nat} (hi : i < hs.length) : ∃ b, A = some ⟨b, 0, none⟩ ∧ (b < w.heap.size ∧ ¬ G b) ∧ hs[i].length = 128 ∧ ∃ r : RC, w.cell? ⟨b, i, none⟩ = some (rcell r) ∧ Rd w 1 (rcell r) 128 (hs[i].map u8) ∧ ∀ k, (rcell r).ownBlock = some k → ¬ G k := by
  obtain ⟨A', k', e, _, _, h3⟩ := h
  injection e with e1 e2 e3
  subst e1
  obtain ⟨b, e, hb, hc⟩ := h3 (by omega)
  exact ⟨b, e, hb, hc i hi⟩
/-- rows in a slice of one's own -/
structure HW (W : World) (G : Nat → Prop) (f : Nat → List Nat) (k : Nat) (vo : Value) (F : Nat → Prop) (rs : List RC) (w : World) : Prop where
  len : rs.length = k
  sl : Sl w F 53 1 vo k (rs.map rcell)
  at_ : ∀ i (h : i < rs.length), (f i).length = 128 ∧ Rd w 1 (rcell rs[i]) 128 ((f i).map u8) ∧ ∀ g, (rcell rs[i]).ownBlock = some g → ¬ F g ∧ ¬ G g
  adv : Adv Nul W F w
section
variable {W w w' : World} {G : Nat → Prop} {f : Nat → List Nat} {k : Nat} {vo : Value}
theorem HW.nil (W : World) (G : Nat → Prop) (f : Nat → List Nat) : HW W G f 0 (.slice none 0 0) Nul [] W := ⟨rfl, Sl.nil _ _ _, fun i h => absurd h (by simp), Adv.refl _ _⟩
theorem HW.step {F F' : Nat → Prop} {rs : List RC} (h : HW W G f k vo F rs w) (ha : Adv Nul w F' w') : HW W G f k vo F rs w' :=
  ⟨h.len, h.sl.far ha (fun _ h _ => h), fun i hi => by
    obtain ⟨e, hr, hn⟩ := h.at_ i hi
    exact ⟨e, hr.far (fun _ _ _ hl => ha.block _ hl (fun x => x)) ha.size, hn⟩, h.adv.over ha⟩
theorem HW.push {F : Nat → Prop} {rs : List RC} {vo' : Value} {r : RC} (h : HW W G f k vo F rs w) (hl : (f k).length = 128) (hr : Rd w 1 (rcell r) 128 ((f k).map u8)) (hnF : ∀ g, (rcell r).ownBlock = some g → ¬ F g ∧ ¬ G g)
    (hown : w'.ownsRow 0 53 1 vo' (k + 1) (rs.map rcell ++ [rcell r])) (hg : w.grownBy w' vo.ownBlock) (hat : vo'.ownBlock = vo.ownBlock ∨ vo'.ownBlock = some w.heap.size) : ∃ F' rs', HW W G f (k + 1) vo' F' rs' w' := by
  obtain ⟨g1, g2⟩ := lsl_grown h.sl hown hg hat (Nat.le_refl _)
  have hF' : ∀ g, g < w.heap.size → ¬ F g → ¬ (F g ∨ vo'.ownBlock = some g) := fun g hlt hn hor => by
    rcases hor with h1 | h1
    · exact hn h1
    · rcases hat with e | e
      · exact hn (h.sl.inF g (by rw [← e]; exact h1))
      · rw [e] at h1; injection h1 with h1; omega
  have keep : ∀ {r : RC} {l : List Nat}, Rd w 1 (rcell r) 128 (l.map u8) → (∀ g, (rcell r).ownBlock = some g → ¬ F g ∧ ¬ G g) → Rd w' 1 (rcell r) 128 (l.map u8) ∧ ∀ g, (rcell r).ownBlock = some g → ¬ (F g ∨ vo'.ownBlock = some g) ∧ ¬ G g := fun {r _} hr hn =>
    ⟨hr.far (fun g hg _ hl => g2.block g hl (hn g hg).1) g2.size, fun g hg => ⟨hF' g (Rd.lt (a := r.1) (q := r.2) hr hg (by decide)) (hn g hg).1, (hn g hg).2⟩⟩
  have hl' := h.len
  refine ⟨_, rs ++ [r], by simp [hl'], by simpa using g1, fun i hi => ?_, h.adv.trans g2⟩
  rw [List.length_append, List.length_singleton] at hi
  by_cases hik : i < rs.length
  · rw [List.getElem_append_left hik]
    obtain ⟨e, hr', hn'⟩ := h.at_ i hik
    obtain ⟨k1, k2⟩ := keep hr' hn'
    exact ⟨e, k1, k2⟩
  · obtain rfl : i = rs.length := by omega
    rw [List.getElem_append_right (Nat.le_refl _)]
    simp only [Nat.sub_self, List.getElem_cons_zero, hl']
    obtain ⟨k1, k2⟩ := keep hr hnF
    exact ⟨hl, k1, k2⟩
theorem HW.rwr {F : Nat → Prop} {rs : List RC} (h : HW W G f k vo F rs w) (hG : Bd G W) : RwR w G vo ((List.range k).map f) := by
  have hl := h.len
  obtain ⟨A, c, rfl, hkc, hcm⟩ := h.sl.form0
  refine ⟨A, c, by simp, by simpa using hkc, hcm, fun hk => ?_⟩
  have hk' : 0 < k := by simpa using hk
  obtain ⟨g, c', e, hFg, _⟩ := h.sl.form hk'
  injection e with e1 _ _
  subst e1
  refine ⟨g, rfl, ⟨h.sl.bd g hFg, fun x => ?_⟩, fun i hi => ?_⟩
  · rcases h.adv.into g hFg with y | y
    · exact y.elim
    · have := hG g x; omega
  have hi' : i < k := by simpa using hi
  obtain ⟨e, hr, hn⟩ := h.at_ i (by omega)
  have e3 : ((List.range k).map f)[i]'hi = f i := by simp
  rw [e3]
  refine ⟨e, rs[i]'(by omega), ?_, hr, fun j hj => (hn j hj).2⟩
  rw [h.sl.own.cellAt i (by omega)]
  simp [hl, hi']
end
theorem hone (r : RC) : ∀ u ∈ [rcell r], u.oneCell' = true := by
  intro u hu
  simp at hu
  subst hu; rfl
theorem hnew_at {T : TypeId} {w : World} {r : RC} (j : Nat) (u : Value) (h : [rcell r][j]? = some u) : (w.alloc (.cells #[rcell r] T)).cell? ((⟨w.heap.size, 0, none⟩ : Addr).add j) = some u := by
  rw [add_none, Nat.zero_add, (Blk.new w T #[rcell r]).cell j, List.getElem?_toArray]
  exact h

def RdRow (w : World) (r : RC) (l : List Nat) : Prop := Rd w 1 (rcell r) 128 (l.map u8)
theorem RdRow.up {w : World} {r : RC} {l : List Nat} (h : RdRow w r l) (o : Obj) : RdRow (w.alloc o) r l := Rd.up h o
def HmR (w : World) (G : Nat → Prop) (hs : List (List Nat)) (e : Ending) (w' : World) : Prop := ∃ A q, e = .returned (.slice A hs.length q) ∧ RwR w' G (.slice A hs.length q) hs ∧ Adv Nul w Nul w'
def HmL (w : World) (G : Nat → Prop) (f : Nat → List Nat) (M : Nat) (t4 t3 : Value) (wr : World) : Prop := ∃ k A q F rs, k ≤ M ∧ t4 = .int .i64 (k : Int) ∧ t3 = .slice A k q ∧ HW w G f k (.slice A k q) F rs wr
theorem homeG_len {s : DS} {n N i : Nat} {g : LS} {F : Nat → Prop} {w : World} {d : Nat} (hd : Dk w F d N s) (hA : AOk (N - 2 - n) g.A) (hi : i < N - 2 - n) : (homeG s n g i).length = 128 := by
  unfold homeG
  cases e : g.A i with
  | some x => exact (hA i x e).2.1
  | none => exact row_at (L := lays s.L s.Q) (lays_row s.Q s.L hd.1.row (fun q hq => (hd.1.at_ q hq).2)) (by rw [lays_length, hd.1.len]; omega)

set_option maxRecDepth 3000 in
set_option maxHeartbeats 6400000 in
theorem homes_any (l b d n N : Nat) (g : LS) (F : Nat → Prop) (s : DS) (G : Nat → Prop) (w : World) (h : Rs w F d l b n N s g) (hn : 2 ≤ n ∧ n + 3 ≤ N ∧ N ≤ 4096) (hA : AOk (N - 2 - n) g.A) (hG : Bd G w) :
    Calls Tryz.prog 30 #[.pointer (some ⟨l, 0, none⟩)] w (HmR w G ((List.range (N - 2 - n)).map (homeG s n g))) := by
  obtain ⟨M, hM⟩ : ∃ M, M = N - 2 - n := ⟨_, rfl⟩
  have HS := Lib.hid h
  have HN := Lib.hid hn
  have HA := Lib.hid hA
  have HG := Lib.hid hG
  have HM := Lib.hid hM
  have HM4 := Lib.hid (show M ≤ 4096 by omega)
  have hMI : (M : Int) ≤ 4096 := by omega
  rw [← hM]
  obtain ⟨f, hf⟩ : ∃ f, f = homeG s n g := ⟨_, rfl⟩
  rw [← hf]
  have HF := Lib.hid hf
  have HFL := Lib.hid (show ∀ i, i < M → (f i).length = 128 from fun i hi => by rw [hf]; exact homeG_len h.dk hA (by omega))
  clear h hn hA hG hM hf
  go_enter Tryz.func30, Tryz.ntmps30
  go_wp2_with fail
  go_loopw [4, 3] (HmL w G f M) (fun t _ _ => M - (intOf t).toNat)
  case atStart => exact ⟨0, none, 0, Nul, [], Nat.zero_le _, rfl, rfl, HW.nil _ _ _⟩
  case round =>
    obtain ⟨k, A, q, Fk, rs, hk, rfl, rfl, hw⟩ := hrel
    have HW_ := Lib.hid hw
    have HH := Lib.hid (show Calls Tryz.prog 21 #[.pointer (some ⟨l, 0, none⟩)] wr fun e w' => e = .returned (.int .i64 (M : Int)) ∧ ∃ k, w' = wr.drewN k by
      rw [HM.out]
      have hs := HS.out.over (hw.adv)
      exact ghomes_lg hs.lg hs.dk HN.out.2.2 (by have := HN.out; omega))
    by_cases hlt : k < M
    · have hki : (k : Int) < (M : Int) := by omega
      have HRD := Lib.hid (show ∀ j, Calls Tryz.prog 27 #[.pointer (some ⟨l, 0, none⟩), .int .i64 (k : Int)] (wr.drewN j) (RdR (wr.drewN j) (f k)) from fun j => by
        rw [HF.out]
        exact gread_lg l b d n N k g F s (wr.drewN j) (HS.out.over ((hw.adv).drewN j)) HN.out HA.out (by rw [← HM.out]; exact hlt))
      have HLT := Lib.hid hlt
      clear hw hk hlt
      go_wp2_with fail
      refine HH.out.mono ?_
      rintro e w1 ⟨rfl, j1, rfl⟩
      go_wp2_with fail
      refine (HRD.out j1).mono ?_
      rintro e w2 ⟨z, rfl, hz, hz2, r2, l2, a2⟩
      have HW2 := Lib.hid ((HW_.out.step ((Adv.refl Nul wr).drewN j1)).step a2)
      have HR2 := Lib.hid (show RdRow w2 (some ⟨z, 0, none⟩, 128) (f k) from r2)
      have HNF := Lib.hid (show ∀ g, (rcell (some ⟨z, 0, none⟩, 128)).ownBlock = some g → ¬ Fk g ∧ ¬ G g from fun g hg => by
        have e : z = g := by injection hg
        subst e
        have h1 : wr.heap.size ≤ z := hz
        have h2 := HW_.out.adv.size
        exact ⟨fun x => by have := HW_.out.sl.bd z x; omega, fun x => by have := HG.out z x; omega⟩)
      have HU := Lib.hid (HW2.out.step ((Adv.refl Nul w2).alloc (.cells #[rcell (some ⟨z, 0, none⟩, 128)] 53)))
      have HRU := Lib.hid (HR2.out.up (.cells #[rcell (some ⟨z, 0, none⟩, 128)] 53))
      have HK1 := Lib.hid (show k + 1 ≤ maxLen by have := HLT.out; have := HM4.out; unfold maxLen; omega)
      have HK2 := Lib.hid (show (k + 1) * 24 ≤ 140737488355328 by have := HLT.out; have := HM4.out; omega)
      clear hz hz2 r2 l2 a2
      go_wp2_with (first
        | (at_builtin; refine lop_append_own rfl (.tmp 19) (.tmp 21) 50 53 rfl Tryz.underlying50 infoByts rfl (by decide) rfl HU.out.sl.own ⟨w2.heap.size, 0, none⟩ 1 1 rfl [rcell (some ⟨z, 0, none⟩, 128)] rfl hnew_at (hone _) HK1.out HK2.out ?_; intro v' w8 hown hg2 hat; obtain ⟨a8, k8, rfl⟩ := (slice_of hown); have HOWN := Lib.hid hown; have HG2 := Lib.hid hg2; have HAT := Lib.hid hat; clear hown hg2 hat)
        | fail)
      obtain ⟨F8, rs8, hpu⟩ := HU.out.push (HFL.out k HLT.out) HRU.out HNF.out HOWN.out HG2.out HAT.out
      have hlt := HLT.out
      exact ⟨⟨k + 1, a8, k8, F8, rs8, by omega, by go_num, rfl, hpu⟩, by simp [intOf] <;> omega⟩
    · obtain rfl : k = M := by omega
      have hki : ¬ (k : Int) < (k : Int) := by omega
      have HFIN := Lib.hid (show ∀ j, HmR w G ((List.range k).map f) (.returned (.slice A k q)) (wr.drewN j) from fun j => by
        refine ⟨A, q, by simp, ?_, (HW_.out.adv.sub (fun _ x => x.elim)).drewN j⟩
        have := (HW_.out.step ((Adv.refl Nul wr).drewN j)).rwr HG.out
        simpa using this)
      clear hw hk hlt
      go_wp2_with fail
      refine HH.out.mono ?_
      rintro e w1 ⟨rfl, j1, rfl⟩
      go_wp2_with fail
      go_ret
      exact HFIN.out j1
end Go.Proofs.YtolcnbiaiolcoaaGreat
namespace Go.Proofs.YtolcnbiaiolcoaaGreat
open Go.RowKit Go.Maps

def SmL (w : World) (m : Nat) (t : Value) (wr : World) : Prop := ∃ k j : Nat, k ≤ m ∧ t = .int .i64 (k : Int) ∧ wr = w.drewN j
theorem rd_at {w : World} {r : RC} {l : List Nat} (h : Rd w 1 (rcell r) 128 (l.map u8)) (j : Nat) : Rd (w.drewN j) 1 (rcell r) 128 (l.map u8) := h
def TwoC (w : World) (b1 b2 k : Nat) (a1 a2 : Option Addr) (q1 q2 : Nat) : Prop := w.cell? ⟨b1, k, none⟩ = some (.slice a1 128 q1) ∧ w.cell? ⟨b2, k, none⟩ = some (.slice a2 128 q2)

set_option maxRecDepth 3000 in
set_option maxHeartbeats 3200000 in
theorem same_rows (v1 v2 : Value) (G1 G2 : Nat → Prop) (hs : List (List Nat)) (w : World) (h1 : RwR w G1 v1 hs) (h2 : RwR w G2 v2 hs) (hm : hs.length ≤ 4096) :
    Calls Tryz.prog 33 #[v1, v2] w fun e w' => e = .returned (.bool true) ∧ ∃ j, w' = w.drewN j := by
  obtain ⟨A1, c1, rfl, _, _, _⟩ := id h1
  obtain ⟨A2, c2, rfl, _, _, _⟩ := id h2
  obtain ⟨m, hmm⟩ : ∃ m, m = hs.length := ⟨_, rfl⟩
  have H1 := Lib.hid h1
  have H2 := Lib.hid h2
  have HM := Lib.hid hmm
  have hmI : (m : Int) ≤ 4096 := by omega
  rw [← hmm]
  clear h1 h2 hm hmm
  rename_i x1 x2 x3 x4 x5 x6
  clear x1 x2 x3 x4 x5 x6
  go_enter Tryz.func33, Tryz.ntmps33
  go_wp2_with fail
  go_loopw [5] (SmL w m) (fun t _ => m - (intOf t).toNat)
  case atStart => exact ⟨0, 0, Nat.zero_le _, rfl, rfl⟩
  case round =>
    obtain ⟨k, j, hk, rfl, rfl⟩ := hrel
    by_cases hlt : k < m
    · have hki : (k : Int) < (m : Int) := by omega
      have hkl : k < hs.length := by rw [← HM.out]; exact hlt
      obtain ⟨b1, rfl, -, hl1, ⟨a1, q1⟩, e1, r1, -⟩ := H1.out.row hkl
      obtain ⟨b2, rfl, -, hl2, ⟨a2, q2⟩, e2, r2, -⟩ := H2.out.row hkl
      obtain ⟨l, hl⟩ : ∃ l, l = hs[k] := ⟨_, rfl⟩
      rw [← hl] at r1 r2
      have HC := Lib.hid (show ∀ i, TwoC (w.drewN i) b1 b2 k a1 a2 q1 q2 from fun i => ⟨e1, e2⟩)
      have HSAME := Lib.hid (show ∀ i, Calls Tryz.prog 25 #[.slice a1 128 q1, .slice a2 128 q2] (w.drewN i) fun e w' => e = .returned (.bool true) ∧ ∃ k, w' = (w.drewN i).drewN k from fun i => by
        have := same_any (rcell (a1, q1)) (rcell (a2, q2)) 128 128 l l (w.drewN i) (rd_at r1 i) (rd_at r2 i)
        rw [decide_eq_true rfl] at this
        exact this)
      have HLT := Lib.hid hlt
      have e1' : (w.drewN j).cell? ⟨b1, k, none⟩ = some (.slice a1 128 q1) := e1
      have e2' : (w.drewN j).cell? ⟨b2, k, none⟩ = some (.slice a2 128 q2) := e2
      clear hkl hl1 hl2 r1 r2 hl hlt hk e1 e2
      go_wp2_with fail
      refine wp_region_held_drew (S := (fun w' => TwoC w' b1 b2 k a1 a2 q1 q2)) (by kernel_rfl) (by first | exact HC9.out | exact HC.out _ | exact HC.out (j + 1)) (fun hHeld => ?_)
      clear hHeld
      refine wpAnyH_take (i := 0) (oi := ⟨some 17, .move (.tmp 0), 50, "law.go:100", #[], none⟩) (v := ?_) rfl (by kernel_rfl) (by kernel_rfl) (by kernel_rfl) (fun _ _ _ h => h) (Or.inl ⟨by rfl, ?_⟩) (by first | exact HC9.out | exact HC.out _ | exact HC.out (j + 1)) ?_
      rotate_left
      · (intro w hSw; obtain ⟨s0, s1⟩ := hSw; go_simp <;> with_reducible rfl)
      simp only [Act.put, List.setIfInBounds_toArray, List.set_cons_zero, List.set_cons_succ]
      refine wpAnyH_take (i := 1) (oi := ⟨some 18, .move (.tmp 5), 3, "law.go:100", #[], none⟩) (v := ?_) rfl (by kernel_rfl) (by kernel_rfl) (by kernel_rfl) (fun _ _ _ h => h) (Or.inl ⟨by rfl, ?_⟩) (by first | exact HC9.out | exact HC.out _ | exact HC.out (j + 1)) ?_
      rotate_left
      · (intro w hSw; obtain ⟨s0, s1⟩ := hSw; go_simp <;> with_reducible rfl)
      simp only [Act.put, List.setIfInBounds_toArray, List.set_cons_zero, List.set_cons_succ]
      refine wpAnyH_take (i := 2) (oi := ⟨some 19, .indexAddr 50 (.tmp 17) (.tmp 18), 0, "law.go:100", #[⟨0, .data⟩, ⟨1, .data⟩], none⟩) (v := ?_) rfl (by kernel_rfl) (by kernel_rfl) (by kernel_rfl) (fun _ _ _ h => h) (Or.inl ⟨by rfl, ?_⟩) (by first | exact HC9.out | exact HC.out _ | exact HC.out (j + 1)) ?_
      rotate_left
      · (intro w hSw; obtain ⟨s0, s1⟩ := hSw; go_simp <;> with_reducible rfl)
      simp only [Act.put, List.setIfInBounds_toArray, List.set_cons_zero, List.set_cons_succ]
      refine wpAnyH_take (i := 3) (oi := ⟨some 20, .load 53 (.tmp 19), 53, "law.go:100", #[⟨2, .data⟩], none⟩) (v := ?_) rfl (by kernel_rfl) (by kernel_rfl) (by kernel_rfl) (fun _ _ _ h => h) (Or.inl ⟨by rfl, ?_⟩) (by first | exact HC9.out | exact HC.out _ | exact HC.out (j + 1)) ?_
      rotate_left
      · (intro w hSw; obtain ⟨s0, s1⟩ := hSw; go_simp <;> with_reducible rfl)
      simp only [Act.put, List.setIfInBounds_toArray, List.set_cons_zero, List.set_cons_succ]
      refine wpAnyH_take (i := 4) (oi := ⟨some 21, .move (.tmp 1), 50, "law.go:100", #[], none⟩) (v := ?_) rfl (by kernel_rfl) (by kernel_rfl) (by kernel_rfl) (fun _ _ _ h => h) (Or.inl ⟨by rfl, ?_⟩) (by first | exact HC9.out | exact HC.out _ | exact HC.out (j + 1)) ?_
      rotate_left
      · (intro w hSw; obtain ⟨s0, s1⟩ := hSw; go_simp <;> with_reducible rfl)
      simp only [Act.put, List.setIfInBounds_toArray, List.set_cons_zero, List.set_cons_succ]
      refine wpAnyH_take (i := 5) (oi := ⟨some 22, .move (.tmp 5), 3, "law.go:100", #[], none⟩) (v := ?_) rfl (by kernel_rfl) (by kernel_rfl) (by kernel_rfl) (fun _ _ _ h => h) (Or.inl ⟨by rfl, ?_⟩) (by first | exact HC9.out | exact HC.out _ | exact HC.out (j + 1)) ?_
      rotate_left
      · (intro w hSw; obtain ⟨s0, s1⟩ := hSw; go_simp <;> with_reducible rfl)
      simp only [Act.put, List.setIfInBounds_toArray, List.set_cons_zero, List.set_cons_succ]
      refine wpAnyH_take (i := 6) (oi := ⟨some 23, .indexAddr 50 (.tmp 21) (.tmp 22), 0, "law.go:100", #[⟨4, .data⟩, ⟨5, .data⟩], none⟩) (v := ?_) rfl (by kernel_rfl) (by kernel_rfl) (by kernel_rfl) (fun _ _ _ h => h) (Or.inl ⟨by rfl, ?_⟩) (by first | exact HC9.out | exact HC.out _ | exact HC.out (j + 1)) ?_
      rotate_left
      · (intro w hSw; obtain ⟨s0, s1⟩ := hSw; go_simp <;> with_reducible rfl)
      simp only [Act.put, List.setIfInBounds_toArray, List.set_cons_zero, List.set_cons_succ]
      refine wpAnyH_take (i := 7) (oi := ⟨some 24, .load 53 (.tmp 23), 53, "law.go:100", #[⟨6, .data⟩], none⟩) (v := ?_) rfl (by kernel_rfl) (by kernel_rfl) (by kernel_rfl) (fun _ _ _ h => h) (Or.inl ⟨by rfl, ?_⟩) (by first | exact HC9.out | exact HC.out _ | exact HC.out (j + 1)) ?_
      rotate_left
      · (intro w hSw; obtain ⟨s0, s1⟩ := hSw; go_simp <;> with_reducible rfl)
      simp only [Act.put, List.setIfInBounds_toArray, List.set_cons_zero, List.set_cons_succ]
      refine wpAnyH_ready (rs := [8]) (by kernel_rfl) (by simp) ?_
      refine AllReadyH.cons (o := ⟨some 25, .call { callee := Go.Callee.value (.func 25), args := #[Go.Operand.tmp 20, Go.Operand.tmp 24], argTypes := #[53, 53] }, 4, "law.go:100", #[⟨3, .data⟩, ⟨7, .data⟩], none⟩) rfl (fun K hK => ?_) AllReadyH.nil
      go_simp
      refine (HSAME.out (j + 1)).mono ?_
      rintro x w9 ⟨rfl, j9, hw9⟩
      have HW9 := Lib.hid (show w9 = w.drewN (j + 1 + j9) from hw9.trans (by simp [World.drewN, Nat.add_assoc]))
      have HC9 := Lib.hid (show TwoC w9 b1 b2 k a1 a2 q1 q2 by rw [HW9.out]; exact HC.out _)
      clear hw9
      go_wp2_with fail
      refine hK.out _ _ (by first | exact HC9.out | exact HC.out _ | exact HC.out (j + 1)) (fun hHeld => ?_)
      clear hK K hHeld
      try simp only [Act.put, List.setIfInBounds_toArray, List.set_cons_zero, List.set_cons_succ]
      refine wpAnyH_take (i := 9) (oi := ⟨some 26, .unOp Go.UnOp.not 4 (.tmp 25), 4, "law.go:100", #[⟨8, .data⟩], none⟩) (v := ?_) rfl (by kernel_rfl) (by kernel_rfl) (by kernel_rfl) (fun _ _ _ h => h) (Or.inl ⟨by rfl, ?_⟩) (by first | exact HC9.out | exact HC.out _ | exact HC.out (j + 1)) ?_
      rotate_left
      · (intro w hSw; obtain ⟨s0, s1⟩ := hSw; go_simp <;> with_reducible rfl)
      simp only [Act.put, List.setIfInBounds_toArray, List.set_cons_zero, List.set_cons_succ]
      refine wpAnyH_done (by kernel_rfl) ?_ _
      clear e1' e2'
      go_wp2_with fail
      have hlt := HLT.out
      exact ⟨⟨k + 1, j + 1 + j9, by omega, by go_num, HW9.out⟩, by simp [intOf] <;> omega⟩
    · have hki : ¬ (k : Int) < (m : Int) := by omega
      clear hlt hk
      go_wp2_with fail
      go_ret
      exact ⟨rfl, j, rfl⟩

theorem rows_list {w : World} {G : Nat → Prop} {A : Option Addr} {m q : Nat} {hs : List (List Nat)} (h : RwR w G (.slice A m q) hs) (h0 : 0 < m) : ∃ (b : Nat) (rs : List RC), A = some ⟨b, 0, none⟩ ∧ rs.length = m ∧ (∀ j u, (rs.map rcell)[j]? = some u → w.cell? ((⟨b, 0, none⟩ : Addr).add j) = some u) ∧
    ∀ i (hi : i < rs.length), (hs.getD i []).length = 128 ∧ Rd w 1 (rcell rs[i]) 128 ((hs.getD i []).map u8) ∧ ∀ g, (rcell rs[i]).ownBlock = some g → ¬ G g := by
  have hm := h.len.1
  obtain ⟨b, rfl, -⟩ := h.row (i := 0) (by omega)
  have H : ∀ i, ∃ r : RC, i < m → w.cell? ⟨b, i, none⟩ = some (rcell r) ∧ (hs.getD i []).length = 128 ∧ Rd w 1 (rcell r) 128 ((hs.getD i []).map u8) ∧ ∀ g, (rcell r).ownBlock = some g → ¬ G g := fun i => by
    by_cases hi : i < m
    · obtain ⟨b', e, -, hl, r, c, hr, hn⟩ := h.row (i := i) (by omega)
      injection e with e
      injection e with e
      subst e
      have e2 : hs.getD i [] = hs[i]'(by omega) := by rw [List.getD_eq_getElem?_getD, List.getElem?_eq_getElem (by omega)]; rfl
      exact ⟨r, fun _ => ⟨c, by rw [e2]; exact hl, by rw [e2]; exact hr, hn⟩⟩
    · exact ⟨(none, 0), fun x => absurd x hi⟩
  obtain ⟨f, hf⟩ := Classical.axiomOfChoice H
  refine ⟨b, (List.range m).map f, rfl, by simp, fun j u hu => ?_, fun i hi => ?_⟩
  · rw [add_none, Nat.zero_add]
    rw [List.getElem?_map, List.getElem?_map] at hu
    by_cases hj : j < m
    · rw [List.getElem?_range hj] at hu
      simp only [Option.map_some] at hu
      injection hu with hu
      rw [← hu]
      exact (hf j hj).1
    · rw [List.getElem?_eq_none (by simp; omega)] at hu
      simp at hu
  · have hi' : i < m := by simpa using hi
    simp only [List.getElem_map, List.getElem_range]
    exact (hf i hi').2
theorem hall (rs : List RC) : ∀ u ∈ rs.map rcell, u.oneCell' = true := by
  intro u hu
  obtain ⟨r, _, rfl⟩ := List.mem_map.mp hu
  rfl
theorem hw_start {w w' : World} {G : Nat → Prop} {hs : List (List Nat)} {m : Nat} {v' : Value} {rs : List RC} (hl : rs.length = m) (hr : ∀ i (hi : i < rs.length), (hs.getD i []).length = 128 ∧ Rd w 1 (rcell rs[i]) 128 ((hs.getD i []).map u8) ∧ ∀ g, (rcell rs[i]).ownBlock = some g → ¬ G g)
    (hown : w'.ownsRow 0 53 1 v' (0 + m) ([] ++ rs.map rcell)) (hg : w.grownBy w' (Value.slice none 0 0).ownBlock) (hat : v'.ownBlock = (Value.slice none 0 0).ownBlock ∨ v'.ownBlock = some w.heap.size) : ∃ F, HW w G (fun i => hs.getD i []) m v' F rs w' := by
  obtain ⟨g1, g2⟩ := lsl_grown (Sl.nil w 53 1) hown hg hat (Nat.le_refl _)
  rw [Nat.zero_add, List.nil_append] at g1
  refine ⟨_, hl, g1, fun i hi => ?_, g2⟩
  obtain ⟨h1, h2, h3⟩ := hr i hi
  refine ⟨h1, h2.far (fun _ _ _ hk => g2.block _ hk (fun x => x)) g2.size, fun g hg' => ⟨fun x => ?_, h3 g hg'⟩⟩
  have := Rd.lt (a := rs[i].1) (q := rs[i].2) h2 hg' (by decide)
  rcases x with x | x
  · exact x
  · rcases hat with e | e
    · rw [e] at x; simp [Value.ownBlock] at x
    · rw [e] at x; injection x with x; omega
theorem HW.put {W w : World} {G : Nat → Prop} {f : Nat → List Nat} {k g c x : Nat} {F : Nat → Prop} {rs : List RC} {r : RC} {l : List Nat} (h : HW W G f k (.slice (some ⟨g, 0, none⟩) k c) F rs w) (hx : x < k) (hl : l.length = 128) (hr : Rd w 1 (rcell r) 128 (l.map u8)) (hn : ∀ j, (rcell r).ownBlock = some j → ¬ F j ∧ ¬ G j) :
    HW W G (fun i => if i = x then l else f i) k (.slice (some ⟨g, 0, none⟩) k c) F (rs.set x r) (w.setCell ⟨g, x, none⟩ (rcell r)) := by
  have hFg : F g := h.sl.inF g rfl
  have hk : ∀ j, j ≠ g → (w.setCell ⟨g, x, none⟩ (rcell r)).heap[j]? = w.heap[j]? := fun j hj => Below.heap_setCell w ⟨g, x, none⟩ (rcell r) j hj
  have hsz : w.heap.size ≤ (w.setCell ⟨g, x, none⟩ (rcell r)).heap.size := by simp [World.setCell]
  have hlen := h.len
  refine ⟨by simp [hlen], ⟨?_, h.sl.inF, fun j hj => Nat.lt_of_lt_of_le (h.sl.bd j hj) hsz⟩, fun i hi => ?_, h.adv.setCell (p := ⟨g, x, none⟩) (.inr (by
    rcases h.adv.into g hFg with y | y
    · exact y.elim
    · exact y)) _⟩
  · rw [List.map_set]
    exact (h.sl.own.stored x (rcell r)).1
  · have hi' : i < rs.length := by simpa using hi
    have keep : ∀ {r' : RC} {l : List Nat}, Rd w 1 (rcell r') 128 (l.map u8) → (∀ j, (rcell r').ownBlock = some j → ¬ F j ∧ ¬ G j) → Rd (w.setCell ⟨g, x, none⟩ (rcell r)) 1 (rcell r') 128 (l.map u8) := fun hr hn =>
      hr.far (fun j hj _ _ => hk j (fun e => (hn j hj).1 (e ▸ hFg))) hsz
    by_cases hix : i = x
    · subst hix
      simp only [List.getElem_set_self, if_true]
      exact ⟨hl, keep hr hn, hn⟩
    · have e : (rs.set x r)[i]'hi = rs[i] := List.getElem_set_ne (fun e => hix e.symm) _
      rw [e]
      simp only [if_neg hix]
      obtain ⟨k1, k2, k3⟩ := h.at_ i hi'
      exact ⟨k1, keep k2 k3, k3⟩
theorem HW.congr {W w : World} {G : Nat → Prop} {f f' : Nat → List Nat} {k : Nat} {vo : Value} {F : Nat → Prop} {rs : List RC} (h : HW W G f k vo F rs w) (e : ∀ i, i < k → f' i = f i) : HW W G f' k vo F rs w :=
  ⟨h.len, h.sl, fun i hi => by rw [e i (by have := h.len; omega)]; exact h.at_ i hi, h.adv⟩
theorem HW.frozen {W w : World} {G : Nat → Prop} {f : Nat → List Nat} {k g c : Nat} {F : Nat → Prop} {rs : List RC} (h : HW W G f k (.slice (some ⟨g, 0, none⟩) k c) F rs w) (i : Nat) : w.frozen? ⟨g, i, none⟩ = false := by
  rcases h.sl.own.2 with ⟨e, _⟩ | ⟨g', cap, cur, e, _, hb, _⟩
  · cases e
  · injection e with e
    injection e with e
    injection e with e
    subst e
    exact (show Blk w g 53 cur from hb).frozen i
theorem HW.cell {W w : World} {G : Nat → Prop} {f : Nat → List Nat} {k g c : Nat} {F : Nat → Prop} {rs : List RC} (h : HW W G f k (.slice (some ⟨g, 0, none⟩) k c) F rs w) {i : Nat} (hi : i < k) : ∃ r : RC, w.cell? ⟨g, i, none⟩ = some (.slice r.1 128 r.2) := by
  have hl := h.len
  refine ⟨rs[i]'(by omega), ?_⟩
  rw [h.sl.own.cellAt i (by omega)]
  simp [hl, hi, rcell]
theorem over_next (hs : List (List Nat)) (ps : List Pt) {k : Nat} (hk : k < ps.length) : overL hs (ps.take (k + 1)) = (overL hs (ps.take k)).set ps[k].a.toNat ps[k].d := by
  unfold overL
  rw [List.take_succ_eq_append_getElem hk, List.foldl_append]
  rfl
theorem over_len (ps : List Pt) : ∀ (hs : List (List Nat)), (overL hs ps).length = hs.length := by
  induction ps with
  | nil => intro hs; rfl
  | cons p ps ih => intro hs; show (overL (hs.set p.a.toNat p.d) ps).length = _; rw [ih]; simp
theorem getD_set (L : List (List Nat)) (x i : Nat) (l : List Nat) (hi : i < L.length) : (L.set x l).getD i [] = if i = x then l else L.getD i [] := by
  rw [List.getD_eq_getElem?_getD, List.getD_eq_getElem?_getD]
  by_cases c : i = x
  · subst c; simp [hi]
  · rw [if_neg c, List.getElem?_set_ne (fun e => c e.symm)]
def OvL (w : World) (G : Nat → Prop) (hs : List (List Nat)) (ps : List Pt) (g c : Nat) (t : Value) (wr : World) : Prop :=
  ∃ (k : Nat) (F : Nat → Prop) (rs : List RC), k ≤ ps.length ∧ t = .int .i64 (k : Int) ∧ HW w G (fun i => (overL hs (ps.take k)).getD i []) hs.length (.slice (some ⟨g, 0, none⟩) hs.length c) F rs wr
def PtC (w : World) (b i : Nat) (x : Int) (a : Option Addr) (q : Nat) : Prop := w.cell? ⟨b, i, none⟩ = some (.int .i64 x) ∧ w.cell? ⟨b, i + 1, none⟩ = some (.slice a 128 q)

set_option maxRecDepth 3000 in
set_option maxHeartbeats 6400000 in
theorem over_any (v : Value) (pv : Value) (G : Nat → Prop) (hs : List (List Nat)) (ps : List Pt) (w : World) (h : RwR w G v hs) (hp : QRd w G pv ps) (hG : Bd G w) (h0 : 0 < hs.length) (hm : hs.length ≤ 4096) (hps : ∀ p ∈ ps, (0 ≤ p.a ∧ p.a < (hs.length : Int)) ∧ p.d.length = 128) (hpl : ps.length ≤ 1000) :
    Calls Tryz.prog 32 #[v, pv] w (HmR w G (overL hs ps)) := by
  obtain ⟨A1, q1, rfl, _, _, _⟩ := id h
  obtain ⟨A2, q2, rfl, _, _, _⟩ := id hp
  rename_i y1 y2 y3 y4 y5 y6
  clear y1 y2 y3 y4 y5 y6
  obtain ⟨m, hmm⟩ : ∃ m, m = hs.length := ⟨_, rfl⟩
  obtain ⟨M, hMM⟩ : ∃ M, M = ps.length := ⟨_, rfl⟩
  have HG := Lib.hid hG
  have HPS := Lib.hid hps
  have HM := Lib.hid hmm
  have HMM := Lib.hid hMM
  have HP := Lib.hid hp
  rw [← hmm] at h h0 hm ⊢
  rw [← hMM] at hpl ⊢
  have hMI : (M : Int) ≤ 1000 := by omega
  have hmI : (m : Int) ≤ 4096 := by omega
  obtain ⟨b1, rs, rfl, hrl, hnews, hrs⟩ := rows_list h h0
  have HRL := Lib.hid hrl
  have HNEWS := Lib.hid hnews
  have HRS := Lib.hid hrs
  have HK1 := Lib.hid (show 0 + m ≤ maxLen by unfold maxLen; omega)
  have HK2 := Lib.hid (show (0 + m) * 24 ≤ 140737488355328 by omega)
  have H0 := Lib.hid h0
  clear h hp hG h0 hm hps hpl hmm hMM hrl hnews hrs
  go_enter Tryz.func32, Tryz.ntmps32
  go_wp2_with (first
    | (at_builtin; refine lop_append_own rfl (.tmp 7) (.tmp 8) 50 53 rfl Tryz.underlying50 infoByts rfl (by decide) rfl (World.ownsRow_nil _ _ _ _) ⟨b1, 0, none⟩ m q1 rfl (rs.map rcell) (by rw [List.length_map, HRL.out, Nat.mul_one]) HNEWS.out (hall _) HK1.out HK2.out ?_; intro v' w8 hown hg2 hat; obtain ⟨F0, hw0⟩ := hw_start HRL.out HRS.out hown hg2 hat; obtain ⟨g8, c8, rfl, hF8, hcc8⟩ := hw0.sl.form H0.out; have HW0 := Lib.hid hw0; clear hown hg2 hat hw0 hF8 hcc8)
    | fail)
  have HW1 := Lib.hid (show HW w G (fun i => (overL hs (ps.take 0)).getD i []) hs.length (.slice (some ⟨g8, 0, none⟩) hs.length c8) F0 rs w8 by rw [← HM.out]; exact HW0.out)
  go_loopw [6] (OvL w G hs ps g8 c8) (fun t _ => M - (intOf t).toNat)
  case atStart => exact ⟨0, F0, rs, Nat.zero_le _, rfl, HW1.out⟩
  case round =>
    obtain ⟨k, Fk, rk, hk, rfl, hw⟩ := hrel
    rw [← HM.out] at hw
    by_cases hlt : k < M
    · have hki : (k : Int) < (M : Int) := by omega
      have hkl : k < ps.length := by rw [← HMM.out]; exact hlt
      have hqr := HP.out.step hw.adv
      obtain ⟨b, o, a, q, rfl, ⟨hb1, hb2⟩, ⟨c0, c1⟩, hr, hn⟩ := hqr.row hkl
      have hpk := HPS.out _ (List.getElem_mem hkl)
      have hon := over_next hs ps hkl
      obtain ⟨p, hpe⟩ : ∃ p, p = ps[k] := ⟨_, rfl⟩
      rw [← hpe] at c0 c1 hr hn hpk hon
      obtain ⟨x, hx⟩ := Int.eq_ofNat_of_zero_le hpk.1.1
      have hxm : x < m := by rw [HM.out]; have := hpk.1.2; omega
      rw [hx] at c0 hon
      rw [hpk.2] at c1 hr hn
      have hb8 : b < w.heap.size := by
        obtain ⟨A', k', e, _, _, h3⟩ := HP.out
        injection e with e
        obtain ⟨b', o', e2, ⟨hb', _⟩, _⟩ := h3 (by omega)
        rw [← e] at e2
        injection e2 with e2
        injection e2 with e2
        omega
      have hbg : b ≠ g8 := fun e => by
        have hF : Fk g8 := hw.sl.inF g8 rfl
        rcases hw.adv.into g8 hF with y | y
        · exact y
        · omega
      have hnf : ∀ j, (rcell (a, q)).ownBlock = some j → ¬ Fk j ∧ ¬ G j := fun j hj => ⟨fun y => by
        obtain ⟨A', k', e, _, _, h3⟩ := HP.out
        injection e with e
        obtain ⟨b', o', e2, _, hc⟩ := h3 (by omega)
        obtain ⟨a', q', _, d1, dr, _⟩ := hc k hkl
        rw [← hpe, hpk.2] at d1 dr
        rw [← e] at e2
        injection e2 with e2
        injection e2 with e2 e3
        subst e2 e3
        have d2 : wr.cell? ⟨b, o + (k * 2 + 1), none⟩ = some (.slice a' 128 q') := by rw [← d1]; exact World.cell?_of_block (hw.adv.block b hb8 (fun x => x))
        rw [show o + k * 2 + 1 = o + (k * 2 + 1) by omega, d2] at c1
        injection c1 with c1
        injection c1 with c1 _ c2
        subst c1 c2
        have hjl := Rd.lt dr hj (by decide)
        rcases hw.adv.into j y with z | z
        · exact z
        · omega, hn j hj (by decide)⟩
      have HWK := Lib.hid hw
      have HPUT := Lib.hid (hw.put (r := (a, q)) hxm hpk.2 hr hnf)
      have HON := Lib.hid hon
      have HXM := Lib.hid hxm
      have HFZ := Lib.hid (hw.frozen x)
      obtain ⟨r8, hc8⟩ := hw.cell hxm
      obtain ⟨a8, k8⟩ := r8
      have hxI : (x : Int) < (m : Int) := by omega
      have hx0 : (0 : Int) ≤ (x : Int) := by omega
      have HC := Lib.hid (show PtC wr b (o + k * 2) (x : Int) a q from ⟨c0, c1⟩)
      have HCD := Lib.hid (show PtC wr.drew b (o + k * 2) (x : Int) a q from ⟨c0, c1⟩)
      have HLT := Lib.hid hlt
      have HC3 := Lib.hid (show PtC (wr.setCell ⟨g8, x, none⟩ (.slice a 128 q)) b (o + k * 2) (x : Int) a q from by
        have e : (wr.setCell ⟨g8, x, none⟩ (.slice a 128 q)).heap[b]? = wr.heap[b]? := Below.heap_setCell wr ⟨g8, x, none⟩ _ b hbg
        exact ⟨(World.cell?_of_block e).trans c0, (World.cell?_of_block e).trans c1⟩)
      have hfz := HFZ.out
      clear hk hw hlt hkl hqr hb1 hb2 hr hn hpk hon hpe hx hxm hb8 hbg hnf
      go_wp2_with fail
      refine wp_region_held_drew (S := (fun w' => PtC w' b (o + k * 2) (x : Int) a q)) (by kernel_rfl) (by first | exact HC3.out | exact HCD.out | exact HC.out) (fun hHeld => ?_)
      clear hHeld
      refine wpAnyH_take (i := 0) (oi := ⟨some 32, .move (.tmp 5), 50, "law.go:173", #[], none⟩) (v := ?_) rfl (by kernel_rfl) (by kernel_rfl) (by kernel_rfl) (fun _ _ _ h => h) (Or.inl ⟨by rfl, ?_⟩) (by first | exact HC3.out | exact HCD.out | exact HC.out) ?_
      rotate_left
      · (intro w hSw; obtain ⟨s0, s1⟩ := hSw; go_simp <;> with_reducible rfl)
      simp only [Act.put, List.setIfInBounds_toArray, List.set_cons_zero, List.set_cons_succ]
      refine wpAnyH_take (i := 1) (oi := ⟨some 33, .move (.tmp 1), 37, "law.go:173", #[], none⟩) (v := ?_) rfl (by kernel_rfl) (by kernel_rfl) (by kernel_rfl) (fun _ _ _ h => h) (Or.inl ⟨by rfl, ?_⟩) (by first | exact HC3.out | exact HCD.out | exact HC.out) ?_
      rotate_left
      · (intro w hSw; obtain ⟨s0, s1⟩ := hSw; go_simp <;> with_reducible rfl)
      simp only [Act.put, List.setIfInBounds_toArray, List.set_cons_zero, List.set_cons_succ]
      refine wpAnyH_take (i := 2) (oi := ⟨some 34, .move (.tmp 6), 3, "law.go:173", #[], none⟩) (v := ?_) rfl (by kernel_rfl) (by kernel_rfl) (by kernel_rfl) (fun _ _ _ h => h) (Or.inl ⟨by rfl, ?_⟩) (by first | exact HC3.out | exact HCD.out | exact HC.out) ?_
      rotate_left
      · (intro w hSw; obtain ⟨s0, s1⟩ := hSw; go_simp <;> with_reducible rfl)
      simp only [Act.put, List.setIfInBounds_toArray, List.set_cons_zero, List.set_cons_succ]
      refine wpAnyH_take (i := 3) (oi := ⟨some 35, .indexAddr 37 (.tmp 33) (.tmp 34), 0, "law.go:173", #[⟨1, .data⟩, ⟨2, .data⟩], none⟩) (v := ?_) rfl (by kernel_rfl) (by kernel_rfl) (by kernel_rfl) (fun _ _ _ h => h) (Or.inl ⟨by rfl, ?_⟩) (by first | exact HC3.out | exact HCD.out | exact HC.out) ?_
      rotate_left
      · (intro w hSw; obtain ⟨s0, s1⟩ := hSw; go_simp <;> with_reducible rfl)
      simp only [Act.put, List.setIfInBounds_toArray, List.set_cons_zero, List.set_cons_succ]
      refine wpAnyH_take (i := 4) (oi := ⟨some 36, .fieldAddr 94 (.tmp 35) 0, 0, "law.go:173", #[⟨3, .data⟩], none⟩) (v := ?_) rfl (by kernel_rfl) (by kernel_rfl) (by kernel_rfl) (fun _ _ _ h => h) (Or.inl ⟨by rfl, ?_⟩) (by first | exact HC3.out | exact HCD.out | exact HC.out) ?_
      rotate_left
      · (intro w hSw; obtain ⟨s0, s1⟩ := hSw; go_simp <;> with_reducible rfl)
      simp only [Act.put, List.setIfInBounds_toArray, List.set_cons_zero, List.set_cons_succ]
      refine wpAnyH_take (i := 5) (oi := ⟨some 37, .load 3 (.tmp 36), 3, "law.go:173", #[⟨4, .data⟩], none⟩) (v := ?_) rfl (by kernel_rfl) (by kernel_rfl) (by kernel_rfl) (fun _ _ _ h => h) (Or.inl ⟨by rfl, ?_⟩) (by first | exact HC3.out | exact HCD.out | exact HC.out) ?_
      rotate_left
      · (intro w hSw; obtain ⟨s0, s1⟩ := hSw; go_simp <;> with_reducible rfl)
      simp only [Act.put, List.setIfInBounds_toArray, List.set_cons_zero, List.set_cons_succ]
      refine wpAnyH_take (i := 6) (oi := ⟨some 38, .move (.tmp 1), 37, "law.go:173", #[], none⟩) (v := ?_) rfl (by kernel_rfl) (by kernel_rfl) (by kernel_rfl) (fun _ _ _ h => h) (Or.inl ⟨by rfl, ?_⟩) (by first | exact HC3.out | exact HCD.out | exact HC.out) ?_
      rotate_left
      · (intro w hSw; obtain ⟨s0, s1⟩ := hSw; go_simp <;> with_reducible rfl)
      simp only [Act.put, List.setIfInBounds_toArray, List.set_cons_zero, List.set_cons_succ]
      refine wpAnyH_take (i := 7) (oi := ⟨some 39, .move (.tmp 6), 3, "law.go:173", #[], none⟩) (v := ?_) rfl (by kernel_rfl) (by kernel_rfl) (by kernel_rfl) (fun _ _ _ h => h) (Or.inl ⟨by rfl, ?_⟩) (by first | exact HC3.out | exact HCD.out | exact HC.out) ?_
      rotate_left
      · (intro w hSw; obtain ⟨s0, s1⟩ := hSw; go_simp <;> with_reducible rfl)
      simp only [Act.put, List.setIfInBounds_toArray, List.set_cons_zero, List.set_cons_succ]
      refine wpAnyH_take (i := 8) (oi := ⟨some 40, .indexAddr 37 (.tmp 38) (.tmp 39), 0, "law.go:173", #[⟨6, .data⟩, ⟨7, .data⟩], none⟩) (v := ?_) rfl (by kernel_rfl) (by kernel_rfl) (by kernel_rfl) (fun _ _ _ h => h) (Or.inl ⟨by rfl, ?_⟩) (by first | exact HC3.out | exact HCD.out | exact HC.out) ?_
      rotate_left
      · (intro w hSw; obtain ⟨s0, s1⟩ := hSw; go_simp <;> with_reducible rfl)
      simp only [Act.put, List.setIfInBounds_toArray, List.set_cons_zero, List.set_cons_succ]
      refine wpAnyH_take (i := 9) (oi := ⟨some 41, .fieldAddr 94 (.tmp 40) 1, 0, "law.go:173", #[⟨8, .data⟩], none⟩) (v := ?_) rfl (by kernel_rfl) (by kernel_rfl) (by kernel_rfl) (fun _ _ _ h => h) (Or.inl ⟨by rfl, ?_⟩) (by first | exact HC3.out | exact HCD.out | exact HC.out) ?_
      rotate_left
      · (intro w hSw; obtain ⟨s0, s1⟩ := hSw; go_simp <;> with_reducible rfl)
      simp only [Act.put, List.setIfInBounds_toArray, List.set_cons_zero, List.set_cons_succ]
      refine wpAnyH_take (i := 10) (oi := ⟨some 42, .load 53 (.tmp 41), 53, "law.go:173", #[⟨9, .data⟩], none⟩) (v := ?_) rfl (by kernel_rfl) (by kernel_rfl) (by kernel_rfl) (fun _ _ _ h => h) (Or.inl ⟨by rfl, ?_⟩) (by first | exact HC3.out | exact HCD.out | exact HC.out) ?_
      rotate_left
      · (intro w hSw; obtain ⟨s0, s1⟩ := hSw; go_simp <;> with_reducible rfl)
      simp only [Act.put, List.setIfInBounds_toArray, List.set_cons_zero, List.set_cons_succ]
      refine wpAnyH_take (i := 11) (oi := ⟨some 43, .indexAddr 50 (.tmp 32) (.tmp 37), 0, "law.go:173", #[⟨0, .data⟩, ⟨5, .data⟩, ⟨0, .phase⟩, ⟨1, .phase⟩, ⟨2, .phase⟩, ⟨3, .phase⟩, ⟨4, .phase⟩, ⟨5, .phase⟩, ⟨6, .phase⟩, ⟨7, .phase⟩, ⟨8, .phase⟩, ⟨9, .phase⟩, ⟨10, .phase⟩], none⟩) (v := ?_) rfl (by kernel_rfl) (by kernel_rfl) (by kernel_rfl) (fun _ _ _ h => h) (Or.inl ⟨by rfl, ?_⟩) (by first | exact HC3.out | exact HCD.out | exact HC.out) ?_
      rotate_left
      · (intro w hSw; obtain ⟨s0, s1⟩ := hSw; go_simp <;> with_reducible rfl)
      simp only [Act.put, List.setIfInBounds_toArray, List.set_cons_zero, List.set_cons_succ]
      refine wpAnyH_ready (rs := [12]) (by kernel_rfl) (by simp) ?_
      refine AllReadyH.cons (o := ⟨none, .store 53 (.tmp 43) (.tmp 42), 0, "law.go:173", #[⟨11, .data⟩, ⟨10, .data⟩, ⟨0, .phase⟩, ⟨1, .phase⟩, ⟨2, .phase⟩, ⟨3, .phase⟩, ⟨4, .phase⟩, ⟨5, .phase⟩, ⟨6, .phase⟩, ⟨7, .phase⟩, ⟨8, .phase⟩, ⟨9, .phase⟩, ⟨10, .phase⟩], none⟩) rfl (fun K hK => ?_) AllReadyH.nil
      go_simp
      refine hK.out _ _ (by first | exact HC3.out | exact HCD.out | exact HC.out) (fun hHeld => ?_)
      clear hK K hHeld
      try simp only [Act.put]
      refine wpAnyH_done (by kernel_rfl) ?_ _
      have HN := Lib.hid (show HW w G (fun i => (overL hs (ps.take (k + 1))).getD i []) m (.slice (some ⟨g8, 0, none⟩) m c8) Fk (rk.set x (a, q)) (wr.setCell ⟨g8, x, none⟩ (rcell (a, q))) from HPUT.out.congr (fun i hi => by
        rw [HON.out]
        exact getD_set _ x i _ (by rw [over_len, ← HM.out]; exact hi)))
      clear hc8 hfz
      go_wp2_with fail
      have hlt := HLT.out
      exact ⟨⟨k + 1, Fk, rk.set x (a, q), by have := HMM.out; omega, by go_num, by rw [← HM.out]; first | exact HN.out | exact (HN.out.step ((Adv.refl Nul _).drewN 1)) | exact (HN.out.step ((Adv.refl Nul _).drew))⟩, by simp [intOf] <;> omega⟩
    · obtain rfl : k = M := by have := HMM.out; omega
      have hki : ¬ (k : Int) < (k : Int) := by omega
      have HFIN := Lib.hid (show HmR w G (overL hs ps) (.returned (.slice (some ⟨g8, 0, none⟩) m c8)) wr from by
        have hl : (overL hs ps).length = m := by rw [over_len, HM.out]
        have e1 : ps.take k = ps := List.take_of_length_le (by have := HMM.out; omega)
        refine ⟨_, c8, by rw [hl], ?_, hw.adv.sub (fun _ x => x.elim)⟩
        have h2 := hw.rwr HG.out
        rw [e1] at h2
        have e2 : (List.range m).map (fun i => (overL hs ps).getD i []) = overL hs ps := by
          apply List.ext_getElem
          · rw [List.length_map, List.length_range, hl]
          · intro i h1 h2
            simp only [List.getElem_map, List.getElem_range]
            rw [List.getD_eq_getElem?_getD, List.getElem?_eq_getElem h2]
            rfl
        rw [e2] at h2
        rw [hl]
        exact h2)
      clear hw hk hlt
      go_wp2_with fail
      go_ret
      exact HFIN.out
end Go.Proofs.YtolcnbiaiolcoaaGreat
namespace Go.Proofs.YtolcnbiaiolcoaaGreat
open Go.ChangeShapes Go.WideShapes Go.ChangeAt Go.RowKit Go.Deep Go.Maps

structure GDo where
  kind : Int
  n : Int
  pv : Value
  ps : List PD
  odd : Bool
  kv : Value
  ks : List Int
def GDo.cells (d : GDo) : List Value := [.int .i64 d.kind, .int .i64 d.n, d.pv, .bool d.odd, d.kv]
structure GDo.fit (W : World) (d : GDo) : Prop where
  p : PDs W d.pv d.ps
  k : Rd W 1 d.kv d.ks.length (d.ks.map (Value.int .i64))
  kold : ∀ b, d.kv.ownBlock = some b → 0 < d.ks.length → b < W.heap.size
  nn : d.n < 9223372036854775808
def GDos (W : World) (v : Value) (ds : List GDo) : Prop := Rd W 5 v ds.length (ds.flatMap GDo.cells) ∧ ∀ d ∈ ds, d.fit W
set_option maxRecDepth 3000 in
theorem cells6Do : Tryz.prog.cellsOf 41 = 5 := by kernel_rfl
set_option maxRecDepth 3000 in
theorem open_gdo {H : Type} {enc : TypeId × Value → H} {W : World} {n : Nat} {cs : List Value} {x : DataW H × List MemPlace} (h : DataW.trod enc Tryz.prog W 0 (fun _ => true) true n 41 cs = some x) :
    ∃ d : GDo, cs = d.cells ∧ d.fit W := by
  obtain ⟨xs, m, _, _, hlen, hxl, hf⟩ := DataW.trod_struct Tryz.underlying41 h
  rw [cells6Do] at hlen
  match cs, hlen with
  | [c0, c1, c2, c3, c4], _ =>
    match xs, hxl with
    | [y0, y1, y2, y3, y4], _ =>
      have f0 := hf 0 _ rfl
      have f1 := hf 1 _ rfl
      have f2 := hf 2 _ rfl
      have f3 := hf 3 _ rfl
      have f4 := hf 4 _ rfl
      change DataW.trod enc Tryz.prog W 0 (fun _ => true) true m 3 ((([c0, c1, c2, c3, c4] : List Value).drop 0).take (Tryz.prog.cellsOf 3)) = some y0 at f0
      change DataW.trod enc Tryz.prog W 0 (fun _ => true) true m 3 ((([c0, c1, c2, c3, c4] : List Value).drop 1).take (Tryz.prog.cellsOf 3)) = some y1 at f1
      change DataW.trod enc Tryz.prog W 0 (fun _ => true) true m 37 ((([c0, c1, c2, c3, c4] : List Value).drop 2).take (Tryz.prog.cellsOf 37)) = some y2 at f2
      change DataW.trod enc Tryz.prog W 0 (fun _ => true) true m 4 ((([c0, c1, c2, c3, c4] : List Value).drop 3).take (Tryz.prog.cellsOf 4)) = some y3 at f3
      change DataW.trod enc Tryz.prog W 0 (fun _ => true) true m 39 ((([c0, c1, c2, c3, c4] : List Value).drop 4).take (Tryz.prog.cellsOf 39)) = some y4 at f4
      have cp : Tryz.prog.cellsOf 37 = 1 := by kernel_rfl
      rw [cellsInt] at f0 f1
      rw [cp] at f2
      rw [cellsBool] at f3
      rw [cellsInts] at f4
      obtain ⟨a0, e0, _, _⟩ := DataW.trod_int Tryz.underlying3 f0
      obtain ⟨a1, e1, _, w1⟩ := DataW.trod_int Tryz.underlying3 f1
      obtain ⟨ps, hp⟩ := open_cell_puts (v := c2) f2
      obtain ⟨a3, e3, _⟩ := DataW.trod_bool Tryz.underlying4 f3
      obtain ⟨nk, ks, k1, k2, _, k4⟩ := open_cell_ints Tryz.underlying39 Tryz.underlying3 cellsInt (v := c4) f4
      simp at e0 e1 e3
      subst e0 e1 e3 k2
      exact ⟨⟨a0, a1, c2, ps, a3, c4, ks⟩, rfl, hp, k1, k4, i64_wf w1⟩
set_option maxRecDepth 3000 in
theorem open_gdos {H : Type} {enc : TypeId × Value → H} {W : World} {base : Nat} {r : Reach} {v : Value} {d : DataW H} {p : List MemPlace} (hv : Value.okWide Tryz.prog W r base 22 v) (h : DataW.Trod enc Tryz.prog W 0 (fun _ => true) true 22 v d p) : ∃ ds, GDos W v ds := by
  obtain ⟨a, len, cap, rfl⟩ := okWide_slice Tryz.underlying22 hv
  obtain ⟨fuel, hf⟩ := h
  exact open_cell_rows GDo.cells 5 (fun d => d.fit W) Tryz.underlying22 cells6Do (by decide) (fun _ => rfl) (fun h => open_gdo h) (by simpa [Value.cells] using hf)
set_option maxRecDepth 3000 in
theorem GDos.at_ {W w : World} {A : Option Addr} {n c : Nat} {ds : List GDo} (h : GDos W (.slice A n c) ds) (hb : Below W.heap.size W w) {i : Nat} (hi : i < ds.length) : ∃ b o, A = some ⟨b, o, none⟩ ∧ b < W.heap.size ∧ w.cell? ⟨b, o + i * 5, none⟩ = some (.int .i64 ds[i].kind) ∧ w.cell? ⟨b, o + i * 5 + 1, none⟩ = some (.int .i64 ds[i].n) ∧ w.cell? ⟨b, o + i * 5 + 2, none⟩ = some ds[i].pv ∧ w.cell? ⟨b, o + i * 5 + 4, none⟩ = some ds[i].kv ∧ ds[i].fit W := by
  have hn : n = ds.length := by obtain ⟨A', c', e, _⟩ := h.1; injection e
  subst hn
  obtain ⟨b, o, rfl, hlt2, hc2⟩ := h.1.cells (by omega) (by decide)
  have H : ∀ j u, j < 5 → ds[i].cells[j]? = some u → w.cell? ⟨b, o + (i * 5 + j), none⟩ = some u := fun j u hj hu => by
    rw [World.cell?_of_block (hb.block b hlt2)]
    exact hc2 _ _ (by rw [flatM 5 GDo.cells (fun _ => rfl) ds i j hi hj]; exact hu)
  exact ⟨b, o, rfl, hlt2, by have := H 0 _ (by decide) rfl; rwa [Nat.add_zero] at this, by have := H 1 _ (by decide) rfl; rwa [← Nat.add_assoc] at this, by have := H 2 _ (by decide) rfl; rwa [← Nat.add_assoc] at this, by have := H 4 _ (by decide) rfl; rwa [← Nat.add_assoc] at this, h.2 _ (List.getElem_mem hi)⟩
set_option maxRecDepth 3000 in
theorem few_b8 {W : World} {ds : List PD} {n : Nat} {odd : Bool} (h : ∀ d ∈ ds, d.fit W) : ∀ p ∈ fewP ds n odd, ∀ x ∈ p.d, x < 256 := fun p hp x hx => by
  unfold fewP at hp
  obtain ⟨d, hd, rfl⟩ := List.mem_map.mp hp
  have hl := (h d (List.mem_of_mem_take hd)).1.lt
  unfold fewT at hx
  simp only at hx
  split at hx
  · exact hl x (List.mem_of_mem_take hx)
  · unfold sec at hx
    rcases List.mem_append.mp hx with h1 | h1
    · exact hl x (List.mem_of_mem_take h1)
    · rw [List.eq_of_mem_replicate h1]; decide
set_option maxRecDepth 3000 in
theorem few_len (ds : List PD) (n : Nat) (odd : Bool) : (fewP ds n odd).length ≤ n := by
  unfold fewP
  rw [List.length_map, List.length_take]
  omega
set_option maxRecDepth 3000 in
theorem advLow {W w w' : World} {G G' : Nat → Prop} (h : Adv Nul W Nul w) (k : Adv G w G' w') (hG : ∀ j, G j → W.heap.size ≤ j) : Adv Nul W Nul w' :=
  ⟨k.os.trans h.os, k.tape.trans h.tape, k.output.trans h.output, Nat.le_trans h.size k.size, fun j hj _ => (k.block j (Nat.lt_of_lt_of_le hj h.size) (fun x => by have := hG j x; omega)).trans (h.block j hj (fun x => x)), fun _ x => x.elim⟩
set_option maxRecDepth 3000 in
theorem few_lay (n : Nat) : ∀ (P : List Pc) (s : DS), (layAll s n P).1.Q.length ≤ s.Q.length + P.length
  | [], s => Nat.le_refl _
  | p :: P, s => by
    have h1 := few_write s ((2 + p.c % n : Nat) : Int) (sealL p)
    have h2 := few_lay n P (writeS s ((2 + p.c % n : Nat) : Int) (sealL p)).1
    unfold layAll
    split
    · simp only [List.length_cons]; omega
    · simp only [List.length_cons]; omega
set_option maxRecDepth 3000 in
theorem few_writeG (s : DS) (n N : Nat) (g : LS) (ps : List Pt) : (writeG s n N g ps).1.1.Q.length ≤ s.Q.length + needT ps := by
  have h := few_lay n (cutP g.ep g.next (recB ps)) s
  rw [cutP_length] at h
  unfold writeG needT
  split
  · split
    · split
      · split <;> exact h
      · exact Nat.le_add_right _ _
    · exact Nat.le_add_right _ _
  · exact Nat.le_add_right _ _
set_option maxRecDepth 3000 in
theorem few_save (s : DS) (N e : Nat) (x : Hd) : (saveG s N e x).1.Q.length ≤ s.Q.length + 1 := by
  unfold saveG
  split
  · exact Nat.le_succ _
  · unfold saveS
    have h1 := few_write s (0 + ((x.g % 2 : Nat) : Int)) (hSec e x)
    have h2 := few_flush (writeS s (0 + ((x.g % 2 : Nat) : Int)) (hSec e x)).1
    split
    · split <;> omega
    · exact Nat.le_succ _
set_option maxRecDepth 3000 in
theorem few_check (s : DS) (n N : Nat) (g : LS) : (checkG s n N g).1.1.Q.length ≤ s.Q.length + N + 1 := by
  have h1 := few_bring s n (N - 2 - n) g.A
  have h2 := few_save (bringS s n (N - 2 - n) g.A).1 N g.ep (hNew g)
  unfold checkG
  split
  · split
    · split <;> (simp only; omega)
    · simp only; omega
  · simp only; omega
/-- the log, the homes that are wanted -/
structure ArI (W : World) (d l b m N K : Nat) (s : DS) (g : LS) (F : Nat → Prop) (v : Value) (w : World) : Prop where
  rs : Rs w F d l b m N s g
  ar : ∃ V txs, Ar s m N V g txs
  hm : RwR w (UF F l b) v (homesL s m g (N - 2 - m))
  bn : g.next ≤ 30 * K ∧ g.h.g ≤ K ∧ s.Q.length ≤ 100 * K
  adv : Adv Nul W Nul w
  low : ∀ j, UF F l b j → W.heap.size ≤ j
set_option maxRecDepth 3000 in
theorem need8 {ps : List Pt} {H : Int} (ht : isTx ps H) (h6 : ps.length ≤ 6) : needT ps ≤ 8 := by
  refine needN_le (by decide) ?_
  rw [recB_length (fun p hp => (ht.row p hp).2)]
  unfold qn
  omega
section
variable {W w w' : World} {d l b m N K : Nat} {s : DS} {g : LS} {F F' : Nat → Prop} {v v' : Value}
set_option maxRecDepth 3000 in
theorem ArI.gok (h : ArI W d l b m N K s g F v w) (hm : 10 ≤ m ∧ m ≤ 16 ∧ N = m + 10) (hK : K ≤ 100) : GOk m N s g := by
  obtain ⟨V, txs, har⟩ := h.ar
  have h1 := har.le
  have h2 := har.fr
  have h3 := h.bn
  exact ⟨by omega, by omega, by omega, by omega, by omega, by rw [har.ep]; decide⟩
set_option maxRecDepth 3000 in
theorem ArI.step (h : ArI W d l b m N K s g F v w) (ha : Adv Nul w F' w') : ArI W d l b m N K s g F v w' :=
  ⟨h.rs.over ha, h.ar, h.hm.step ha, h.bn, h.adv.over ha, h.low⟩
set_option maxRecDepth 3000 in
theorem ArI.mono (h : ArI W d l b m N K s g F v w) {K' : Nat} (hk : K ≤ K') : ArI W d l b m N K' s g F v w :=
  ⟨h.rs, h.ar, h.hm, by have := h.bn; omega, h.adv, h.low⟩
set_option maxRecDepth 3000 in
theorem ArI.want (h : ArI W d l b m N K s g F v w) (ha : Adv (UF F l b) w (UF F' l b) w') : RwR w' (UF F' l b) v (homesL s m g (N - 2 - m)) := h.hm.adv ha (fun _ x => x) (fun _ x => ha.into _ x)
set_option maxRecDepth 3000 in
theorem ArI.low_ (h : ArI W d l b m N K s g F v w) (ha : Adv (UF F l b) w (UF F' l b) w') : ∀ j, UF F' l b j → W.heap.size ≤ j := fun j hj => by
  rcases ha.into j hj with x | x
  · exact h.low j x
  · exact Nat.le_trans h.adv.size x
set_option maxRecDepth 3000 in
theorem ArI.write (h : ArI W d l b m N K s g F v w) (hm : 10 ≤ m ∧ m ≤ 16 ∧ N = m + 10) (hK : K ≤ 100) {ps : List Pt} (ht : isTx ps 8) (hb : ∀ p ∈ ps, ∀ x ∈ p.d, x < 256) (h6 : ps.length ≤ 6) (hf : needT ps ≤ freeG m g) :
    (writeG s m N g ps).2 = 0 ∧ homesL (writeG s m N g ps).1.1 m (writeG s m N g ps).1.2 (N - 2 - m) = overL (homesL s m g (N - 2 - m)) ps ∧
    ∀ (F' : Nat → Prop) (w' w'' : World) (v' : Value), Rs w' F' d l b m N (writeG s m N g ps).1.1 (writeG s m N g ps).1.2 → Adv (UF F l b) w (UF F' l b) w' → Adv Nul w' Nul w'' → RwR w'' (UF F' l b) v' (homesL (writeG s m N g ps).1.1 m (writeG s m N g ps).1.2 (N - 2 - m)) →
      ArI W d l b m N (K + 1) (writeG s m N g ps).1.1 (writeG s m N g ps).1.2 F' v' w'' := by
  obtain ⟨V, txs, har⟩ := h.ar
  have h3 := h.bn
  have ht' : isTx ps ((N - 2 - m : Nat) : Int) := ht.mono (by omega)
  obtain ⟨k1, k2, k3, k4⟩ := har.write (by omega) ht' hb hf (by omega)
  have h8 := need8 ht h6
  have hq := few_writeG s m N g ps
  refine ⟨k1, k4, fun _ _ _ _ hr ha ha2 hw => ⟨hr.over ha2, ⟨_, _, k2⟩, hw, ?_, (advLow h.adv ha h.low).trans ha2, h.low_ ha⟩⟩
  rw [k3]
  show g.next + needT ps ≤ _ ∧ g.h.g ≤ _ ∧ _
  omega
set_option maxRecDepth 3000 in
theorem ArI.check (h : ArI W d l b m N K s g F v w) (hm : 10 ≤ m ∧ m ≤ 16 ∧ N = m + 10) (hK : K ≤ 100) :
    (checkG s m N g).2 = 0 ∧ freeG m (checkG s m N g).1.2 = m ∧ ∀ (F' : Nat → Prop) (w' : World), Rs w' F' d l b m N (checkG s m N g).1.1 (checkG s m N g).1.2 → Adv (UF F l b) w (UF F' l b) w' → ArI W d l b m N (K + 1) (checkG s m N g).1.1 (checkG s m N g).1.2 F' v w' := by
  obtain ⟨V, txs, har⟩ := h.ar
  have h3 := h.bn
  obtain ⟨k1, ⟨V', k2⟩, k3, k4⟩ := har.check (by omega) (by omega) (by omega)
  have hq := few_check s m N g
  refine ⟨k1, ?_, fun _ _ hr ha => ⟨hr, ⟨_, _, k2⟩, by rw [k4]; exact h.want ha, ?_, advLow h.adv ha h.low, h.low_ ha⟩⟩
  · rw [k3]
    show m - (g.next - g.next) = m
    omega
  · rw [k3]
    show g.next ≤ _ ∧ g.h.g + 1 ≤ _ ∧ _
    omega
set_option maxRecDepth 3000 in
theorem ArI.aok (h : ArI W d l b m N K s g F v w) : AOk (N - 2 - m) g.A := by
  obtain ⟨V, txs, har⟩ := h.ar
  exact har.ok
end
set_option maxRecDepth 3000 in
theorem homesL_len (s : DS) (m : Nat) (g : LS) (M : Nat) : (homesL s m g M).length = M := by unfold homesL; simp
end Go.Proofs.YtolcnbiaiolcoaaGreat
namespace Go.Proofs.YtolcnbiaiolcoaaGreat
open Go.RowKit Go.Maps

set_option maxRecDepth 3000 in
theorem same_dec (v1 v2 : Value) (G1 G2 : Nat → Prop) (hs hs' : List (List Nat)) (w : World) (h1 : RwR w G1 v1 hs) (h2 : RwR w G2 v2 hs') (hll : hs'.length = hs.length) (hm : hs.length ≤ 4096) :
    Calls Tryz.prog 33 #[v1, v2] w fun e w' => e = .returned (.bool (decide (hs = hs'))) ∧ ∃ j, w' = w.drewN j := by
  obtain ⟨A1, c1, rfl, _, _, _⟩ := id h1
  obtain ⟨A2, c2, rfl, _, _, _⟩ := id h2
  obtain ⟨m, hmm⟩ : ∃ m, m = hs.length := ⟨_, rfl⟩
  obtain ⟨b, hb⟩ : ∃ b, b = decide (hs = hs') := ⟨_, rfl⟩
  have H1 := Lib.hid h1
  have H2 := Lib.hid h2
  have HM := Lib.hid hmm
  have HM' := Lib.hid (show m = hs'.length by omega)
  have HB := Lib.hid hb
  have hmI : (m : Int) ≤ 4096 := by omega
  rw [← hb, HM'.out.symm, ← hmm]
  clear h1 h2 hm hmm hb hll
  rename_i x1 x2 x3 x4 x5 x6
  clear x1 x2 x3 x4 x5 x6
  go_enter Tryz.func33, Tryz.ntmps33
  go_wp2_with fail
  go_loopw [5] (fun t wr => ∃ k j : Nat, k ≤ m ∧ t = .int .i64 (k : Int) ∧ Hid (∀ i (hi : i < hs.length) (hj : i < hs'.length), i < k → hs[i] = hs'[i]) ∧ wr = w.drewN j) (fun t _ => m - (intOf t).toNat)
  case atStart => exact ⟨0, 0, Nat.zero_le _, rfl, Lib.hid fun _ _ _ h => absurd h (by omega), rfl⟩
  case round =>
    obtain ⟨k, j, hk, rfl, heq, rfl⟩ := hrel
    by_cases hlt : k < m
    · have hki : (k : Int) < (m : Int) := by omega
      have hkl : k < hs.length := by rw [← HM.out]; exact hlt
      have hkl' : k < hs'.length := by rw [← HM'.out]; exact hlt
      obtain ⟨b1, rfl, -, hl1, ⟨a1, q1⟩, e1, r1, -⟩ := H1.out.row hkl
      obtain ⟨b2, rfl, -, hl2, ⟨a2, q2⟩, e2, r2, -⟩ := H2.out.row hkl'
      obtain ⟨l, hl⟩ : ∃ l, l = hs[k] := ⟨_, rfl⟩
      obtain ⟨l', hl'⟩ : ∃ l', l' = hs'[k] := ⟨_, rfl⟩
      rw [← hl] at r1
      rw [← hl'] at r2
      have HX := Lib.hid hl
      have HY := Lib.hid hl'
      have HC := Lib.hid (show ∀ i, TwoC (w.drewN i) b1 b2 k a1 a2 q1 q2 from fun i => ⟨e1, e2⟩)
      have HLT := Lib.hid hlt
      have e1' : (w.drewN j).cell? ⟨b1, k, none⟩ = some (.slice a1 128 q1) := e1
      have e2' : (w.drewN j).cell? ⟨b2, k, none⟩ = some (.slice a2 128 q2) := e2
      by_cases hll : l = l'
      · have HSAME := Lib.hid (show ∀ i, Calls Tryz.prog 25 #[.slice a1 128 q1, .slice a2 128 q2] (w.drewN i) fun e w' => e = .returned (.bool true) ∧ ∃ k, w' = (w.drewN i).drewN k from fun i => by
          have := same_any (rcell (a1, q1)) (rcell (a2, q2)) 128 128 l l' (w.drewN i) (rd_at r1 i) (rd_at r2 i)
          rw [decide_eq_true hll] at this
          exact this)
        have HLL := Lib.hid hll
        clear hl1 hl2 r1 r2 hl hl' hlt hk e1 e2 hll
        go_wp2_with fail
        refine wp_region_held_drew (S := (fun w' => TwoC w' b1 b2 k a1 a2 q1 q2)) (by kernel_rfl) (by first | exact HC9.out | exact HC.out _ | exact HC.out (j + 1)) (fun hHeld => ?_)
        clear hHeld
        refine wpAnyH_take (i := 0) (oi := ⟨some 17, .move (.tmp 0), 50, "law.go:100", #[], none⟩) (v := ?_) rfl (by kernel_rfl) (by kernel_rfl) (by kernel_rfl) (fun _ _ _ h => h) (Or.inl ⟨by rfl, ?_⟩) (by first | exact HC9.out | exact HC.out _ | exact HC.out (j + 1)) ?_
        rotate_left
        · (intro w hSw; obtain ⟨s0, s1⟩ := hSw; go_simp <;> with_reducible rfl)
        simp only [Act.put, List.setIfInBounds_toArray, List.set_cons_zero, List.set_cons_succ]
        refine wpAnyH_take (i := 1) (oi := ⟨some 18, .move (.tmp 5), 3, "law.go:100", #[], none⟩) (v := ?_) rfl (by kernel_rfl) (by kernel_rfl) (by kernel_rfl) (fun _ _ _ h => h) (Or.inl ⟨by rfl, ?_⟩) (by first | exact HC9.out | exact HC.out _ | exact HC.out (j + 1)) ?_
        rotate_left
        · (intro w hSw; obtain ⟨s0, s1⟩ := hSw; go_simp <;> with_reducible rfl)
        simp only [Act.put, List.setIfInBounds_toArray, List.set_cons_zero, List.set_cons_succ]
        refine wpAnyH_take (i := 2) (oi := ⟨some 19, .indexAddr 50 (.tmp 17) (.tmp 18), 0, "law.go:100", #[⟨0, .data⟩, ⟨1, .data⟩], none⟩) (v := ?_) rfl (by kernel_rfl) (by kernel_rfl) (by kernel_rfl) (fun _ _ _ h => h) (Or.inl ⟨by rfl, ?_⟩) (by first | exact HC9.out | exact HC.out _ | exact HC.out (j + 1)) ?_
        rotate_left
        · (intro w hSw; obtain ⟨s0, s1⟩ := hSw; go_simp <;> with_reducible rfl)
        simp only [Act.put, List.setIfInBounds_toArray, List.set_cons_zero, List.set_cons_succ]
        refine wpAnyH_take (i := 3) (oi := ⟨some 20, .load 53 (.tmp 19), 53, "law.go:100", #[⟨2, .data⟩], none⟩) (v := ?_) rfl (by kernel_rfl) (by kernel_rfl) (by kernel_rfl) (fun _ _ _ h => h) (Or.inl ⟨by rfl, ?_⟩) (by first | exact HC9.out | exact HC.out _ | exact HC.out (j + 1)) ?_
        rotate_left
        · (intro w hSw; obtain ⟨s0, s1⟩ := hSw; go_simp <;> with_reducible rfl)
        simp only [Act.put, List.setIfInBounds_toArray, List.set_cons_zero, List.set_cons_succ]
        refine wpAnyH_take (i := 4) (oi := ⟨some 21, .move (.tmp 1), 50, "law.go:100", #[], none⟩) (v := ?_) rfl (by kernel_rfl) (by kernel_rfl) (by kernel_rfl) (fun _ _ _ h => h) (Or.inl ⟨by rfl, ?_⟩) (by first | exact HC9.out | exact HC.out _ | exact HC.out (j + 1)) ?_
        rotate_left
        · (intro w hSw; obtain ⟨s0, s1⟩ := hSw; go_simp <;> with_reducible rfl)
        simp only [Act.put, List.setIfInBounds_toArray, List.set_cons_zero, List.set_cons_succ]
        refine wpAnyH_take (i := 5) (oi := ⟨some 22, .move (.tmp 5), 3, "law.go:100", #[], none⟩) (v := ?_) rfl (by kernel_rfl) (by kernel_rfl) (by kernel_rfl) (fun _ _ _ h => h) (Or.inl ⟨by rfl, ?_⟩) (by first | exact HC9.out | exact HC.out _ | exact HC.out (j + 1)) ?_
        rotate_left
        · (intro w hSw; obtain ⟨s0, s1⟩ := hSw; go_simp <;> with_reducible rfl)
        simp only [Act.put, List.setIfInBounds_toArray, List.set_cons_zero, List.set_cons_succ]
        refine wpAnyH_take (i := 6) (oi := ⟨some 23, .indexAddr 50 (.tmp 21) (.tmp 22), 0, "law.go:100", #[⟨4, .data⟩, ⟨5, .data⟩], none⟩) (v := ?_) rfl (by kernel_rfl) (by kernel_rfl) (by kernel_rfl) (fun _ _ _ h => h) (Or.inl ⟨by rfl, ?_⟩) (by first | exact HC9.out | exact HC.out _ | exact HC.out (j + 1)) ?_
        rotate_left
        · (intro w hSw; obtain ⟨s0, s1⟩ := hSw; go_simp <;> with_reducible rfl)
        simp only [Act.put, List.setIfInBounds_toArray, List.set_cons_zero, List.set_cons_succ]
        refine wpAnyH_take (i := 7) (oi := ⟨some 24, .load 53 (.tmp 23), 53, "law.go:100", #[⟨6, .data⟩], none⟩) (v := ?_) rfl (by kernel_rfl) (by kernel_rfl) (by kernel_rfl) (fun _ _ _ h => h) (Or.inl ⟨by rfl, ?_⟩) (by first | exact HC9.out | exact HC.out _ | exact HC.out (j + 1)) ?_
        rotate_left
        · (intro w hSw; obtain ⟨s0, s1⟩ := hSw; go_simp <;> with_reducible rfl)
        simp only [Act.put, List.setIfInBounds_toArray, List.set_cons_zero, List.set_cons_succ]
        refine wpAnyH_ready (rs := [8]) (by kernel_rfl) (by simp) ?_
        refine AllReadyH.cons (o := ⟨some 25, .call { callee := Go.Callee.value (.func 25), args := #[Go.Operand.tmp 20, Go.Operand.tmp 24], argTypes := #[53, 53] }, 4, "law.go:100", #[⟨3, .data⟩, ⟨7, .data⟩], none⟩) rfl (fun K hK => ?_) AllReadyH.nil
        go_simp
        refine (HSAME.out (j + 1)).mono ?_
        rintro x w9 ⟨rfl, j9, hw9⟩
        have HW9 := Lib.hid (show w9 = w.drewN (j + 1 + j9) from hw9.trans (by simp [World.drewN, Nat.add_assoc]))
        have HC9 := Lib.hid (show TwoC w9 b1 b2 k a1 a2 q1 q2 by rw [HW9.out]; exact HC.out _)
        clear hw9
        go_wp2_with fail
        refine hK.out _ _ (by first | exact HC9.out | exact HC.out _ | exact HC.out (j + 1)) (fun hHeld => ?_)
        clear hK K hHeld
        try simp only [Act.put, List.setIfInBounds_toArray, List.set_cons_zero, List.set_cons_succ]
        refine wpAnyH_take (i := 9) (oi := ⟨some 26, .unOp Go.UnOp.not 4 (.tmp 25), 4, "law.go:100", #[⟨8, .data⟩], none⟩) (v := ?_) rfl (by kernel_rfl) (by kernel_rfl) (by kernel_rfl) (fun _ _ _ h => h) (Or.inl ⟨by rfl, ?_⟩) (by first | exact HC9.out | exact HC.out _ | exact HC.out (j + 1)) ?_
        rotate_left
        · (intro w hSw; obtain ⟨s0, s1⟩ := hSw; go_simp <;> with_reducible rfl)
        simp only [Act.put, List.setIfInBounds_toArray, List.set_cons_zero, List.set_cons_succ]
        refine wpAnyH_done (by kernel_rfl) ?_ _
        clear e1' e2'
        go_wp2_with fail
        have hlt := HLT.out
        exact ⟨⟨k + 1, j + 1 + j9, by omega, by go_num, Lib.hid fun i hi hj hik => by
          by_cases e : i = k
          · subst e; rw [← HX.out, ← HY.out]; exact HLL.out
          · exact heq.out i hi hj (by omega), HW9.out⟩, by simp [intOf] <;> omega⟩
      · have HSAME := Lib.hid (show ∀ i, Calls Tryz.prog 25 #[.slice a1 128 q1, .slice a2 128 q2] (w.drewN i) fun e w' => e = .returned (.bool false) ∧ ∃ k, w' = (w.drewN i).drewN k from fun i => by
          have := same_any (rcell (a1, q1)) (rcell (a2, q2)) 128 128 l l' (w.drewN i) (rd_at r1 i) (rd_at r2 i)
          rw [decide_eq_false hll] at this
          exact this)
        obtain rfl : b = false := by
          rw [HB.out]
          refine decide_eq_false fun e => hll ?_
          subst e
          rw [HX.out, HY.out]
        clear hl1 hl2 r1 r2 hl hl' hlt hk e1 e2 hll
        go_wp2_with fail
        refine wp_region_held_drew (S := (fun w' => TwoC w' b1 b2 k a1 a2 q1 q2)) (by kernel_rfl) (by first | exact HC9.out | exact HC.out _ | exact HC.out (j + 1)) (fun hHeld => ?_)
        clear hHeld
        refine wpAnyH_take (i := 0) (oi := ⟨some 17, .move (.tmp 0), 50, "law.go:100", #[], none⟩) (v := ?_) rfl (by kernel_rfl) (by kernel_rfl) (by kernel_rfl) (fun _ _ _ h => h) (Or.inl ⟨by rfl, ?_⟩) (by first | exact HC9.out | exact HC.out _ | exact HC.out (j + 1)) ?_
        rotate_left
        · (intro w hSw; obtain ⟨s0, s1⟩ := hSw; go_simp <;> with_reducible rfl)
        simp only [Act.put, List.setIfInBounds_toArray, List.set_cons_zero, List.set_cons_succ]
        refine wpAnyH_take (i := 1) (oi := ⟨some 18, .move (.tmp 5), 3, "law.go:100", #[], none⟩) (v := ?_) rfl (by kernel_rfl) (by kernel_rfl) (by kernel_rfl) (fun _ _ _ h => h) (Or.inl ⟨by rfl, ?_⟩) (by first | exact HC9.out | exact HC.out _ | exact HC.out (j + 1)) ?_
        rotate_left
        · (intro w hSw; obtain ⟨s0, s1⟩ := hSw; go_simp <;> with_reducible rfl)
        simp only [Act.put, List.setIfInBounds_toArray, List.set_cons_zero, List.set_cons_succ]
        refine wpAnyH_take (i := 2) (oi := ⟨some 19, .indexAddr 50 (.tmp 17) (.tmp 18), 0, "law.go:100", #[⟨0, .data⟩, ⟨1, .data⟩], none⟩) (v := ?_) rfl (by kernel_rfl) (by kernel_rfl) (by kernel_rfl) (fun _ _ _ h => h) (Or.inl ⟨by rfl, ?_⟩) (by first | exact HC9.out | exact HC.out _ | exact HC.out (j + 1)) ?_
        rotate_left
        · (intro w hSw; obtain ⟨s0, s1⟩ := hSw; go_simp <;> with_reducible rfl)
        simp only [Act.put, List.setIfInBounds_toArray, List.set_cons_zero, List.set_cons_succ]
        refine wpAnyH_take (i := 3) (oi := ⟨some 20, .load 53 (.tmp 19), 53, "law.go:100", #[⟨2, .data⟩], none⟩) (v := ?_) rfl (by kernel_rfl) (by kernel_rfl) (by kernel_rfl) (fun _ _ _ h => h) (Or.inl ⟨by rfl, ?_⟩) (by first | exact HC9.out | exact HC.out _ | exact HC.out (j + 1)) ?_
        rotate_left
        · (intro w hSw; obtain ⟨s0, s1⟩ := hSw; go_simp <;> with_reducible rfl)
        simp only [Act.put, List.setIfInBounds_toArray, List.set_cons_zero, List.set_cons_succ]
        refine wpAnyH_take (i := 4) (oi := ⟨some 21, .move (.tmp 1), 50, "law.go:100", #[], none⟩) (v := ?_) rfl (by kernel_rfl) (by kernel_rfl) (by kernel_rfl) (fun _ _ _ h => h) (Or.inl ⟨by rfl, ?_⟩) (by first | exact HC9.out | exact HC.out _ | exact HC.out (j + 1)) ?_
        rotate_left
        · (intro w hSw; obtain ⟨s0, s1⟩ := hSw; go_simp <;> with_reducible rfl)
        simp only [Act.put, List.setIfInBounds_toArray, List.set_cons_zero, List.set_cons_succ]
        refine wpAnyH_take (i := 5) (oi := ⟨some 22, .move (.tmp 5), 3, "law.go:100", #[], none⟩) (v := ?_) rfl (by kernel_rfl) (by kernel_rfl) (by kernel_rfl) (fun _ _ _ h => h) (Or.inl ⟨by rfl, ?_⟩) (by first | exact HC9.out | exact HC.out _ | exact HC.out (j + 1)) ?_
        rotate_left
        · (intro w hSw; obtain ⟨s0, s1⟩ := hSw; go_simp <;> with_reducible rfl)
        simp only [Act.put, List.setIfInBounds_toArray, List.set_cons_zero, List.set_cons_succ]
        refine wpAnyH_take (i := 6) (oi := ⟨some 23, .indexAddr 50 (.tmp 21) (.tmp 22), 0, "law.go:100", #[⟨4, .data⟩, ⟨5, .data⟩], none⟩) (v := ?_) rfl (by kernel_rfl) (by kernel_rfl) (by kernel_rfl) (fun _ _ _ h => h) (Or.inl ⟨by rfl, ?_⟩) (by first | exact HC9.out | exact HC.out _ | exact HC.out (j + 1)) ?_
        rotate_left
        · (intro w hSw; obtain ⟨s0, s1⟩ := hSw; go_simp <;> with_reducible rfl)
        simp only [Act.put, List.setIfInBounds_toArray, List.set_cons_zero, List.set_cons_succ]
        refine wpAnyH_take (i := 7) (oi := ⟨some 24, .load 53 (.tmp 23), 53, "law.go:100", #[⟨6, .data⟩], none⟩) (v := ?_) rfl (by kernel_rfl) (by kernel_rfl) (by kernel_rfl) (fun _ _ _ h => h) (Or.inl ⟨by rfl, ?_⟩) (by first | exact HC9.out | exact HC.out _ | exact HC.out (j + 1)) ?_
        rotate_left
        · (intro w hSw; obtain ⟨s0, s1⟩ := hSw; go_simp <;> with_reducible rfl)
        simp only [Act.put, List.setIfInBounds_toArray, List.set_cons_zero, List.set_cons_succ]
        refine wpAnyH_ready (rs := [8]) (by kernel_rfl) (by simp) ?_
        refine AllReadyH.cons (o := ⟨some 25, .call { callee := Go.Callee.value (.func 25), args := #[Go.Operand.tmp 20, Go.Operand.tmp 24], argTypes := #[53, 53] }, 4, "law.go:100", #[⟨3, .data⟩, ⟨7, .data⟩], none⟩) rfl (fun K hK => ?_) AllReadyH.nil
        go_simp
        refine (HSAME.out (j + 1)).mono ?_
        rintro x w9 ⟨rfl, j9, hw9⟩
        have HW9 := Lib.hid (show w9 = w.drewN (j + 1 + j9) from hw9.trans (by simp [World.drewN, Nat.add_assoc]))
        have HC9 := Lib.hid (show TwoC w9 b1 b2 k a1 a2 q1 q2 by rw [HW9.out]; exact HC.out _)
        clear hw9
        go_wp2_with fail
        refine hK.out _ _ (by first | exact HC9.out | exact HC.out _ | exact HC.out (j + 1)) (fun hHeld => ?_)
        clear hK K hHeld
        try simp only [Act.put, List.setIfInBounds_toArray, List.set_cons_zero, List.set_cons_succ]
        refine wpAnyH_take (i := 9) (oi := ⟨some 26, .unOp Go.UnOp.not 4 (.tmp 25), 4, "law.go:100", #[⟨8, .data⟩], none⟩) (v := ?_) rfl (by kernel_rfl) (by kernel_rfl) (by kernel_rfl) (fun _ _ _ h => h) (Or.inl ⟨by rfl, ?_⟩) (by first | exact HC9.out | exact HC.out _ | exact HC.out (j + 1)) ?_
        rotate_left
        · (intro w hSw; obtain ⟨s0, s1⟩ := hSw; go_simp <;> with_reducible rfl)
        simp only [Act.put, List.setIfInBounds_toArray, List.set_cons_zero, List.set_cons_succ]
        refine wpAnyH_done (by kernel_rfl) ?_ _
        clear e1' e2'
        go_wp2_with fail
        go_ret
        exact ⟨rfl, _, HW9.out⟩
    · have hki : ¬ (k : Int) < (m : Int) := by omega
      obtain rfl : b = true := by
        rw [HB.out]
        exact decide_eq_true (List.ext_getElem (by rw [← HM.out, ← HM'.out]) fun i hi hj => heq.out i hi hj (by have := HM.out; omega))
      clear hlt hk
      go_wp2_with fail
      go_ret
      exact ⟨rfl, j, rfl⟩
end Go.Proofs.YtolcnbiaiolcoaaGreat
