/- The document's own answers: Bytes. Rows of bits: parts, what a list of bytes is as a number. The document's own reader: Of, Number, Left, End, Get. The document's Record. -/
import Derived.Test.YtbdjlmdbnoghnaaGreatMh27
import Derived.Test.YtbdjlmdbnoghnaaGreatMh01
import Derived.Laws.IdiomStrings
import Derived.Laws.BytesArg
namespace Go.Proofs.YtbdjlmdbnoghnaaGreat
open Go.RowKit

theorem Bl.take {l : List Nat} {N m : Nat} (h : Bl l N m) (k : Nat) (hk : k < m) : ∃ M b, Bl (l.take k) M k ∧ l[k]? = some b ∧ b < 2 ∧ Bl (l.take (k + 1)) (M * 2 + b) (k + 1) := by
  have hl := h.len
  have hkl : k < l.length := by omega
  have h1 : Bl (l.take k) (nval (l.take k)) k := ⟨by simp; omega, fun b hb => h.bit b (List.mem_of_mem_take hb), rfl⟩
  refine ⟨_, l[k], h1, List.getElem?_eq_getElem hkl, h.bit _ (List.getElem_mem _), ?_⟩
  rw [List.take_succ_eq_append_getElem hkl]
  exact h1.snoc (h.bit _ (List.getElem_mem _))

/-- the last byte stored anew -/
theorem Sl.put_last {w : World} {F : Nat → Prop} {g c a : Nat} {l : List Nat} {x y : Nat} (h : Sl w F 5 1 (.slice (some ⟨g, 0, none⟩) (a + 1) c) (a + 1) ((l ++ [x]).map u8)) (hl : l.length = a) (v : Int) (hv : v = (y : Int)) :
    Sl (w.setCell ⟨g, a, none⟩ (.int .u8 v)) F 5 1 (.slice (some ⟨g, 0, none⟩) (a + 1) c) (a + 1) ((l ++ [y]).map u8) := by
  have h1 := (h.own.stored a (.int .u8 v)).1
  refine ⟨?_, h.inF, fun j hj => by have := h.bd j hj; simpa [World.setCell] using this⟩
  have e : ((l ++ [x]).map u8).set a (.int .u8 v) = (l ++ [y]).map u8 := by
    rw [List.map_append, List.map_append, List.set_append_right _ _ (by simp; omega)]
    simp [hl, hv, u8]
  rwa [e] at h1

theorem cell_last {w : World} {F : Nat → Prop} {g c a : Nat} {l : List Nat} {x : Nat} (h : Sl w F 5 1 (.slice (some ⟨g, 0, none⟩) (a + 1) c) (a + 1) ((l ++ [x]).map u8)) (hl : l.length = a) : w.cell? ⟨g, a, none⟩ = some (.int .u8 (x : Int)) := by
  rw [h.own.cellAt a (by omega), List.getElem?_map, List.getElem?_append_right (by omega), hl]
  simp [u8]

def BytesRel (w : World) (G : Nat → Prop) (l : List Nat) (v0 : Value) (m : Nat) (t3 t4 : Value) (wr : World) : Prop :=
  ∃ k N F, t4 = .int .i64 ((k : Nat) : Int) ∧ k ≤ m ∧ Bl (l.take k) N k ∧ Sl wr F 5 1 t3 (qn k) ((part N k 0).map u8) ∧ Adv Nul w F wr ∧ Sl wr G 5 1 v0 m (l.map u8) ∧ Sep F G

theorem bytes_step {w X : World} {F G : Nat → Prop} {l l1 : List Nat} {v0 : Value} {m g c a x y k N' : Nat} (hS : Sl X F 5 1 (.slice (some ⟨g, 0, none⟩) (a + 1) c) (a + 1) ((l1 ++ [x]).map u8)) (hl1 : l1.length = a) (hA : Adv Nul w F X)
    (hV : Sl X G 5 1 v0 m (l.map u8)) (hsep : Sep F G) (hk : k < m) (hnx : Bl (l.take (k + 1)) N' (k + 1)) (hp : l1 ++ [y] = part N' (k + 1) 0) (v : Int) (hv : v = (y : Int)) :
    BytesRel w G l v0 m (.slice (some ⟨g, 0, none⟩) (a + 1) c) (.int .i64 ((k : Int) + 1)) (X.setCell ⟨g, a, none⟩ (.int .u8 v)).drew := by
  have h1 := hS.put_last hl1 v hv
  have hF : F g := hS.inF g rfl
  have hq : qn (k + 1) = a + 1 := by
    have h := congrArg List.length hp
    rw [part_length] at h
    simp [hl1] at h
    omega
  refine ⟨k + 1, N', F, by simp, by omega, hnx, ?_, (hA.trans ((Adv.refl F X).setCell (p := ⟨g, a, none⟩) (.inl hF) _)).drew, ?_, hsep⟩
  · rw [hq, ← hp]; exact ⟨h1.own, h1.inF, h1.bd⟩
  · have h2 := hV.far ((Adv.refl F X).setCell (p := ⟨g, a, none⟩) (.inl hF) (.int .u8 v)) hsep
    exact ⟨h2.own, h2.inF, h2.bd⟩

theorem vis_grown {wr w1 : World} {F G : Nat → Prop} {v v0 : Value} {n m : Nat} {xs ys : List Value} {o : Obj} (hV : Sl wr G 5 1 v0 m ys) (hS : Sl wr F 5 1 v n xs) (hsep : Sep F G) (hg : (wr.alloc o).grownBy w1 v.ownBlock) : Sl w1 G 5 1 v0 m ys :=
  hV.far (((Adv.refl F wr).alloc o).grown hg (fun j hj => .inl (hS.inF j hj))) hsep
theorem sep_grown {wr : World} {F G : Nat → Prop} {v v' v0 : Value} {n m x : Nat} {xs ys : List Value} (hV : Sl wr G 5 1 v0 m ys) (hS : Sl wr F 5 1 v n xs) (hsep : Sep F G) (hat : v'.ownBlock = v.ownBlock ∨ v'.ownBlock = some x) (hx : wr.heap.size ≤ x) : Sep (fun j => F j ∨ v'.ownBlock = some j) G := by
  rintro j (h | h) hj
  · exact hsep j h hj
  · rcases hat with e | e
    · exact hsep j (hS.inF j (by rw [← e]; exact h)) hj
    · rw [e] at h; injection h with h; have := hV.bd j hj; omega
theorem snoc_zero {w : World} {F : Nat → Prop} {v : Value} {n : Nat} {l : List Nat} (h : Sl w F 5 1 v n (l.map u8 ++ [.int .u8 0])) : Sl w F 5 1 v n ((l ++ [0]).map u8) := by
  rw [List.map_append]; exact h
theorem cell_of_bits {G : Nat → Prop} {g0 c m k b : Nat} {l : List Nat} (hb : l[k]? = some b) (hk : k < m) : ∀ w : World, Sl w G 5 1 (.slice (some ⟨g0, 0, none⟩) m c) m (l.map u8) → w.cell? ⟨g0, k, none⟩ = some (.int .u8 (b : Int)) := fun w hV => by
  rw [hV.own.cellAt k (by omega), List.getElem?_map, hb]; rfl

def BytesRel2 (w : World) (N m q : Nat) (v3 t6 : Value) (wr : World) : Prop :=
  ∃ j F, t6 = .int .i64 ((m : Int) + ((j : Nat) : Int)) ∧ j ≤ pad m ∧ Sl wr F 5 1 v3 q ((part N m j).map u8) ∧ Adv Nul w F wr

set_option maxRecDepth 3000 in
set_option maxHeartbeats 2000000 in
theorem bytes_any (v0 : Value) (N m : Nat) (l : List Nat) (G : Nat → Prop) (w : World) (hv : Sl w G 5 1 v0 m (l.map u8)) (hl : Bl l N m) (hm : m ≤ 1000000000) :
    Calls Tryz.prog 83 #[v0] w fun e w' => ∃ v, e = .returned v ∧ ∃ F, Sl w' F 5 1 v (qn m) ((rowOf N m).map u8) ∧ Adv Nul w F w' := by
  obtain ⟨A, c, rfl, _, hcm⟩ := hv.form0
  unfold maxLen at hcm
  obtain ⟨i0, hi, hz0, hz1, hz2⟩ := info_parts Tryz.infoU8
  have HV := Lib.hid hv
  have HL := Lib.hid hl
  clear hv hl
  go_enter Tryz.func83, Tryz.ntmps83
  go_wp2_with fail
  go_loopw [3, 4] (BytesRel w G l (.slice A m c) m) (fun _ t _ => m - (intOf t).toNat)
  case atStart => exact ⟨0, 0, Nul, rfl, Nat.zero_le _, by simpa using Bl.nil, Sl.nil _ _ _, Adv.refl _ _, HV.out, fun _ h _ => h⟩
  case round =>
    obtain ⟨k, N1, F, rfl, hk, hN1, hS, hA, hV, hsep⟩ := hrel
    have HS := Lib.hid hS
    have HA := Lib.hid hA
    have HVr := Lib.hid hV
    have HSP := Lib.hid hsep
    by_cases hlt : k < m
    · obtain ⟨M, b, hM, hb, hb2, hnx⟩ := HL.out.take k hlt
      obtain rfl : M = N1 := by rw [← hM.val, ← hN1.val]
      obtain ⟨g0, c0, e0, _, _⟩ := hV.form (by omega)
      injection e0 with e1 e2 e3
      subst e1
      subst e3
      have hcb : wr.cell? ⟨g0, k, none⟩ = some (.int .u8 (b : Int)) := by
        rw [hV.own.cellAt k (by omega), List.getElem?_map, hb]; rfl
      have HNX := Lib.hid hnx
      have HCB := Lib.hid (cell_of_bits (G := G) (g0 := g0) (c := c) hb hlt)
      by_cases hk8 : k % 8 = 0
      · obtain ⟨a, hr⟩ : ∃ a, k = 8 * a := ⟨k / 8, by omega⟩
        have hq : qn k = a := by unfold qn; omega
        rw [hq, hr, part_whole] at hS
        obtain ⟨a3, c3, rfl, _, _⟩ := hS.form0
        have HS2 := Lib.hid hS
        have HR := Lib.hid hr
        have hown := hS.own
        have hk8' : (((k : Int) % 8) == 0) = true := by simp; omega
        have ha : a ≤ 1000000000 := by omega
        clear hS hA hV hsep hnx hM hb hN1 hr hk8 hq HS e2
        go_wp2_with (first
          | (at_builtin; refine wpList_append_own_at _ rfl (.tmp 17) (.tmp 18) 53 rfl 0 5 i0 (.int .u8 0) 1 1 Tryz.underlying53 hi hz0 hz1 hz2 rfl (by decide) (.slice a3 a c3) a _ rfl (hown.alloc _) ⟨wr.heap.size, 0, none⟩ 1 1 [.int .u8 0] rfl rfl (cell_one_new _ _ _) ?c2 ?c3 ?c4 (Nat.zero_le _) ?c5)
          | fail)
        case c2 => intro u hu; simp at hu; subst hu; rfl
        case c3 => unfold maxLen; omega
        case c4 => omega
        case c5 =>
          intro v' w1 hown1 hg1 _ hat1
          obtain ⟨h3, a3'⟩ := one_grown HS2.out HA.out hown1 hg1 hat1 (by omega)
          obtain ⟨g, c1, rfl, _, hgl⟩ := hown1.form (by omega)
          have hV1 := vis_grown HVr.out HS2.out HSP.out hg1
          have hsep1 : Sep (fun j => (fun j => F j ∨ (Value.slice (some ⟨g, 0, none⟩) (a + 1) c1).ownBlock = some j) j) G := sep_grown HVr.out HS2.out HSP.out hat1 (by omega)
          have h4 := snoc_zero h3
          have hlast := cell_last h4 (be_length _ _)
          have hfl := h4.own.frozenAt a
          have hgg : g ≠ g0 := fun e => hsep1 g (.inr rfl) (by rw [e]; exact hV1.inF g0 rfl)
          have hcb : w1.cell? ⟨g0, k, none⟩ = some (.int .u8 (b : Int)) := HCB.out w1 hV1
          have H4 := Lib.hid h4
          have HV1 := Lib.hid hV1
          have HA1 := Lib.hid a3'
          have HSP1 := Lib.hid hsep1
          clear h3 h4 hown1 hg1 hat1 hV1 a3' hsep1
          go_wp2_with fail
          go_region
          all_goals go_wp2
          all_goals
            refine ⟨bytes_step (y := 0 * 2 + b) H4.out (be_length _ _) HA1.out HV1.out HSP1.out hlt HNX.out ?_ _ (by simp), by simp [intOf]; omega⟩
            rw [HR.out]
            exact part_first M a b hb2
      · obtain ⟨a, r, hr, hr0, hr8⟩ : ∃ a r, k = 8 * a + r ∧ 0 < r ∧ r < 8 := ⟨k / 8, k % 8, by omega, by omega, by omega⟩
        have hq : qn k = a + 1 := by unfold qn; omega
        rw [hq, hr, part_at _ a r 0 hr0 (by omega), Nat.pow_zero, Nat.mul_one] at hS
        obtain ⟨g, c1, rfl, hFg, hc1⟩ := hS.form (by omega)
        have hlast := cell_last hS (be_length _ _)
        have hfl := hS.own.frozenAt a
        have hgg : g ≠ g0 := fun e => hsep g hFg (by rw [e]; exact hV.inF g0 rfl)
        obtain ⟨t, ht⟩ : ∃ t, t = M % 2 ^ r := ⟨_, rfl⟩
        have ht128 : t < 128 := by
          have h1 : M % 2 ^ r < 2 ^ r := Nat.mod_lt _ (Nat.two_pow_pos _)
          have h2 : (2 : Nat) ^ r ≤ 2 ^ 7 := Nat.pow_le_pow_right (by decide) (by omega)
          omega
        rw [← ht] at hlast
        have HT := Lib.hid ht
        have HS2 := Lib.hid hS
        have HR := Lib.hid hr
        have hk8' : (((k : Int) % 8) == 0) = false := by simp; omega
        have ha : a ≤ 1000000000 := by omega
        clear hS hA hV hsep hnx hM hb hN1 ht hr hk8 hq HS e2
        go_wp2_with fail
        go_region
        all_goals go_wp2
        all_goals
          refine ⟨bytes_step (y := t * 2 + b) HS2.out (be_length _ _) HA.out HVr.out HSP.out hlt HNX.out ?_ _ (by simp), by simp [intOf]; omega⟩
          rw [HT.out, HR.out]
          exact part_next M a r b hb2 hr0 hr8
    · obtain rfl : k = m := by omega
      have hlm := HL.out.len
      have hNN : N1 = N := by
        rw [← hN1.val, ← HL.out.val, List.take_of_length_le (by omega)]
      rw [hNN] at hS
      have hq1000 : qn k ≤ 1000000000 := by unfold qn; omega
      obtain ⟨a3, c3, rfl, _, _⟩ := hS.form0
      have HS3 := Lib.hid hS
      clear hS hA hV hsep hN1 hNN HS hlm HVr HSP
      go_wp2_with fail
      obtain ⟨q, hqq⟩ : ∃ q, q = qn k := ⟨_, rfl⟩
      have HQQ := Lib.hid hqq
      rw [← hqq] at HS3 hq1000 ⊢
      clear hqq
      go_loopw [6] (BytesRel2 w N k q (.slice a3 q c3)) (fun t _ => ((k : Int) + (pad k : Int) - intOf t).toNat)
      case atStart => exact ⟨0, F, by simp, Nat.zero_le _, HS3.out, HA.out⟩
      case round =>
        clear HS3 HA
        obtain ⟨j, F2, rfl, hj, hS, hA⟩ := hrel
        have HA2 := Lib.hid hA
        by_cases hjp : j < pad k
        · obtain ⟨a, r, hm8, hr0, hr8⟩ : ∃ a r, k = 8 * a + r ∧ 0 < r ∧ r < 8 := ⟨k / 8, k % 8, by omega, by unfold pad at hjp; omega, by omega⟩
          have hpr : pad k = 8 - r := by unfold pad; omega
          have hq : qn k = a + 1 := by unfold qn; omega
          have hqa : q = a + 1 := by have := HQQ.out; omega
          subst hqa
          rw [hm8, part_at _ a r j hr0 (by omega)] at hS
          obtain ⟨g, c1, e, hFg, hc1⟩ := hS.form (by omega)
          injection e with e1 e2 e3
          subst e1
          subst e3
          have hlast := cell_last hS (be_length _ _)
          have hfl := hS.own.frozenAt a
          have hx128 : N % 2 ^ r * 2 ^ j < 128 := by
            have h1 : N % 2 ^ r * 2 ^ j < 2 ^ r * 2 ^ j := Nat.mul_lt_mul_of_pos_right (Nat.mod_lt _ (Nat.two_pow_pos _)) (Nat.two_pow_pos _)
            have h2 : (2 : Nat) ^ (r + j) ≤ 2 ^ 7 := Nat.pow_le_pow_right (by decide) (by omega)
            rw [Nat.pow_add] at h2
            omega
          obtain ⟨x, hx⟩ : ∃ x, x = N % 2 ^ r * 2 ^ j := ⟨_, rfl⟩
          rw [← hx] at hlast hx128
          have hne : ((((k : Int) + (j : Int)) % 8) != 0) = true := by rw [bne_iff_ne]; unfold pad at hjp; omega
          have ha : a ≤ 1000000000 := by omega
          have hj8 : j ≤ 8 := by omega
          have hnext : BytesRel2 w N k (a + 1) (.slice (some ⟨g, 0, none⟩) (a + 1) c3) (.int .i64 ((k : Int) + (j : Int) + 1)) (wr.setCell ⟨g, a, none⟩ (.int .u8 ((x : Int) * 2))) := by
            refine ⟨j + 1, F2, by rw [show (k : Int) + (j : Int) + 1 = (k : Int) + ((j + 1 : Nat) : Int) from by omega], by omega, ?_, hA.trans ((Adv.refl F2 wr).setCell (p := ⟨g, a, none⟩) (.inl hFg) _)⟩
            have h := hS.put_last (y := x * 2) (be_length _ _) ((x : Int) * 2) (by simp)
            rw [hm8, part_at _ a r (j + 1) hr0 (by omega), Nat.pow_succ, ← Nat.mul_assoc, ← hx]
            exact h
          have HN := Lib.hid hnext
          have hmeas : ((k : Int) + (pad k : Int) - ((k : Int) + (j : Int) + 1)).toNat < ((k : Int) + (pad k : Int) - ((k : Int) + (j : Int))).toNat := by omega
          have HME := Lib.hid hmeas
          clear hnext hS hA hx hm8 hpr hq e2 hmeas HA2
          go_wp2
          exact ⟨HN.out, by simpa [intOf] using HME.out⟩
        · have hjp2 : j = pad k := by omega
          have hne : ((((k : Int) + (j : Int)) % 8) != 0) = false := by rw [hjp2]; unfold pad; simp; omega
          rw [hjp2, part_end] at hS
          have HS4 := Lib.hid hS
          clear hS hA hjp2 hjp
          go_wp2
          go_ret
          have h := HS4.out
          rw [← HQQ.out]
          exact ⟨_, rfl, F2, h, HA2.out⟩
end Go.Proofs.YtbdjlmdbnoghnaaGreat
namespace Go.Proofs.YtbdjlmdbnoghnaaGreat
open Go.RowKit

theorem nval_append (l m : List Nat) : nval (l ++ m) = nval l * 2 ^ m.length + nval m := by
  have H : ∀ (m : List Nat) (s : Nat), m.foldl (fun a b => a * 2 + b) s = s * 2 ^ m.length + nval m := by
    intro m
    induction m with
    | nil => intro s; simp [nval]
    | cons c m ih =>
      intro s
      have e : nval (c :: m) = c * 2 ^ m.length + nval m := by
        show m.foldl _ (0 * 2 + c) = _
        rw [ih]; simp
      rw [e, List.foldl_cons, ih, List.length_cons, Nat.pow_succ, Nat.add_mul, Nat.mul_assoc, Nat.mul_comm 2, Nat.add_assoc]
  unfold nval
  rw [List.foldl_append, H]
  rfl
theorem nval_lt (l : List Nat) (h : ∀ b ∈ l, b < 2) : nval l < 2 ^ l.length := by
  induction l with
  | nil => simp [nval]
  | cons c l ih =>
    have e : nval (c :: l) = c * 2 ^ l.length + nval l := by
      have := nval_append [c] l
      simpa [nval] using this
    have h1 := ih (fun b hb => h b (by simp [hb]))
    have h2 := h c (by simp)
    rw [e, List.length_cons, Nat.pow_succ]
    have : c = 0 ∨ c = 1 := by omega
    rcases this with rfl | rfl <;> omega
theorem Bl.lt {l : List Nat} {N m : Nat} (h : Bl l N m) : N < 2 ^ m := by
  rw [← h.val, ← h.len]; exact nval_lt l h.bit
/-- a front of it, and what is left -/
theorem Bl.parts {l : List Nat} {N m n : Nat} (h : Bl l N m) (hn : n ≤ m) : Bl (l.take n) (N / 2 ^ (m - n)) n ∧ Bl (l.drop n) (N % 2 ^ (m - n)) (m - n) := by
  have hl := h.len
  have e := nval_append (l.take n) (l.drop n)
  rw [List.take_append_drop, h.val, show (l.drop n).length = m - n from by simp; omega] at e
  have hd := nval_lt (l.drop n) (fun b hb => h.bit b (List.mem_of_mem_drop hb))
  rw [show (l.drop n).length = m - n from by simp; omega] at hd
  refine ⟨⟨by simp; omega, fun b hb => h.bit b (List.mem_of_mem_take hb), ?_⟩, ⟨by simp; omega, fun b hb => h.bit b (List.mem_of_mem_drop hb), ?_⟩⟩
  · rw [e, Nat.mul_comm, Nat.mul_add_div (Nat.two_pow_pos _), Nat.div_eq_of_lt hd, Nat.add_zero]
  · rw [e, Nat.mul_comm, Nat.mul_add_mod, Nat.mod_eq_of_lt hd]
/-- bytes as a number -/
def byN (l : List Nat) : Nat := l.foldl (fun a x => a * 256 + x) 0
theorem byN_snoc (l : List Nat) (x : Nat) : byN (l ++ [x]) = byN l * 256 + x := by simp [byN]
/-- what is left of V's 8 q bits behind the first a -/
def rest (q V a : Nat) : Nat := V % 2 ^ (8 * q - a)
theorem rest_bits (q V a n : Nat) (h : a + n ≤ 8 * q) : rest q V a / 2 ^ (8 * q - a - n) = bitsAt q V a n := by
  unfold rest bitsAt
  rw [show 8 * q - a = n + (8 * q - a - n) from by omega, Nat.pow_add, show n + (8 * q - a - n) - n = 8 * q - a - n from by omega, Nat.mul_comm, Nat.mod_mul_right_div_self]
theorem rest_rest (q V a n : Nat) (h : a + n ≤ 8 * q) : rest q V a % 2 ^ (8 * q - a - n) = rest q V (a + n) := by
  unfold rest
  rw [show 8 * q - (a + n) = 8 * q - a - n from by omega]
  exact Nat.mod_mod_of_dvd _ (Nat.pow_dvd_pow 2 (by omega))
end Go.Proofs.YtbdjlmdbnoghnaaGreat
namespace Go.Proofs.YtbdjlmdbnoghnaaGreat
open Go.RowKit

def NumRelB (l : List Nat) (m : Nat) (t3 t4 : Value) : Prop :=
  ∃ k x : Nat, k ≤ m ∧ t4 = .int .i64 (k : Int) ∧ t3 = .int .u64 (x : Int) ∧ nval (l.take k) = x

set_option maxRecDepth 3000 in
set_option maxHeartbeats 400000 in
theorem numberB_any (v : Value) (l : List Nat) (N m : Nat) (w : World) (hv : Rd w 1 v m (l.map u8)) (hl : Bl l N m) (hm : m ≤ 64) :
    Calls Tryz.prog 100 #[v] w fun e w' => e = .returned (.int .u64 ((N : Nat) : Int)) ∧ w = w' := by
  obtain ⟨A, c, rfl, _, hcm⟩ := hv.form
  unfold maxLen at hcm
  have HV := Lib.hid hv
  have HL := Lib.hid hl
  clear hv hl
  go_enter Tryz.func100, Tryz.ntmps100
  go_wp2_with fail
  go_loop [3, 4] (NumRelB l m) (fun _ t => m - (intOf t).toNat)
  case atStart => exact ⟨0, 0, Nat.zero_le _, rfl, rfl, rfl⟩
  case round =>
    obtain ⟨k, x, hk, rfl, rfl, hx⟩ := hrel
    have HX := Lib.hid hx
    clear hx
    by_cases hlt : k < m
    · obtain ⟨g, o, rfl, _, hc⟩ := HV.out.cells (by omega) (by decide)
      have hll := HL.out.len
      have hkl : k < l.length := by omega
      have hb := HL.out.bit _ (List.getElem_mem hkl)
      have c1 : w.cell? ⟨g, o + k, none⟩ = some (.int .u8 (l[k] : Int)) := hc k _ (by rw [List.getElem?_map, List.getElem?_eq_getElem hkl]; rfl)
      have hxl : x < 2 ^ 63 := by
        have h1 := nval_lt (l.take k) (fun b hb => HL.out.bit b (List.mem_of_mem_take hb))
        rw [HX.out] at h1
        have h2 : 2 ^ (l.take k).length ≤ 2 ^ 63 := Nat.pow_le_pow_right (by decide) (by simp; omega)
        omega
      have ht : nval (l.take (k + 1)) = x * 2 + l[k] := by rw [List.take_succ_eq_append_getElem hkl, nval_snoc, HX.out]
      obtain ⟨b, hbe⟩ : ∃ b, b = l[k] := ⟨_, rfl⟩
      rw [← hbe] at c1 hb ht
      have hxb : x * 2 + b < 18446744073709551616 := by omega
      have HT := Lib.hid ht
      clear hc ht hbe hkl hll
      go_wp2
      exact ⟨⟨k + 1, _, by omega, by go_num, by go_num, HT.out⟩, by simp [intOf]; omega⟩
    · obtain rfl : k = m := by omega
      have e : x = N := by rw [← HX.out, List.take_of_length_le (by have := HL.out.len; omega), HL.out.val]
      have HE := Lib.hid e
      clear e
      go_wp2
      go_ret
      rw [HE.out]
      exact ⟨rfl, rfl⟩

def OfRel (w : World) (l : List Nat) (t3 t4 : Value) (wr : World) : Prop :=
  ∃ k bl F, t4 = .int .i64 ((k : Nat) : Int) ∧ k ≤ l.length ∧ Bl bl (byN (l.take k)) (8 * k) ∧ Sl wr F 5 1 t3 (8 * k) (bl.map u8) ∧ Adv Nul w F wr

set_option maxRecDepth 3000 in
set_option maxHeartbeats 1000000 in
theorem of_big (v : Value) (m : Nat) (l : List Nat) (w : World) (h : InN w v m l) (hm : m ≤ 100000) :
    Calls Tryz.prog 72 #[v] w fun e w' => ∃ v' F bl, e = .returned v' ∧ Sl w' F 5 1 v' (8 * m) (bl.map u8) ∧ Bl bl (byN l) (8 * m) ∧ Adv Nul w F w' := by
  obtain ⟨A, c, rfl, _, hcm⟩ := h.rd.form
  unfold maxLen at hcm
  have HH := Lib.hid h
  clear h
  go_enter Tryz.func72, Tryz.ntmps72
  go_wp2_with fail
  go_loopw [3, 4] (OfRel w l) (fun _ t _ => m - (intOf t).toNat)
  case atStart => exact ⟨0, [], Nul, rfl, Nat.zero_le _, Bl.nil, Sl.nil _ _ _, Adv.refl _ _⟩
  case round =>
    obtain ⟨k, bl, F, rfl, hk, hbl, hS, hA⟩ := hrel
    obtain ⟨a3, c3, rfl, _, _⟩ := hS.form0
    have HS := Lib.hid hS
    have HA := Lib.hid hA
    have HBL := Lib.hid hbl
    clear hS hA hbl
    have hml := HH.out.len
    by_cases hlt : k < m
    · have hkl : k < l.length := by omega
      obtain ⟨g, o, c', e, _, hc⟩ := (HH.out.far HA.out.toBelow).at8 hkl
      injection e with e1 e2 e3
      subst e1
      clear e2 e3
      have c1 := hc k hkl
      obtain ⟨x, hx⟩ : ∃ x, x = l[k] := ⟨_, rfl⟩
      have hx256 : x < 256 := by rw [hx]; exact HH.out.lt _ (List.getElem_mem _)
      have hnx : byN (l.take (k + 1)) = byN (l.take k) * 256 + x := by rw [List.take_succ_eq_append_getElem hkl, byN_snoc, hx]
      rw [← hx] at c1
      have HNX := Lib.hid hnx
      have HKL := Lib.hid hkl
      clear hc hx hnx hk hml hkl
      go_wp2_with (first
        | (go_at_call 82; refine (bits_any x 8 _ hx256 (by decide)).mono ?_; rintro e w2 ⟨v2, rfl, F2, l2, h2, hb2, a2⟩; obtain ⟨g2, c2, rfl, _, _⟩ := h2.form (by decide); have hS2 := HS.out.far a2 (fun _ h _ => h))
        | (at_builtin; refine wpList_append_rd rfl (.tmp 11) (.tmp 17) rfl rfl rfl hS2.own h2.rd (u8_one _) ?c3 ?c5)
        | fail)
      case c3 => omega
      case c5 =>
        intro v' w3 hown1 hg1 hat1
        obtain ⟨h3, _, a3⟩ := own_grown hS2 ((HA.out.trans (a2.same (F := Nul) (fun _ x => x.elim)))) hown1 hg1 hat1 (Nat.le_refl _)
        have H3 := Lib.hid h3
        have A3 := Lib.hid a3
        have HB2 := Lib.hid hb2
        clear h3 a3 hown1 hg1 hat1 hS2 h2 hb2 a2
        go_wp2
        refine ⟨⟨k + 1, bl ++ l2, _, by simp, HKL.out, ?_, ?_, A3.out⟩, by simp [intOf] <;> omega⟩
        · have h := HBL.out.append HB2.out
          rw [HNX.out]
          exact h
        · rw [List.map_append]
          exact H3.out
    · obtain rfl : k = m := by omega
      have HML := Lib.hid hml
      clear hk hml
      go_wp2
      go_ret
      have h := HBL.out
      rw [List.take_of_length_le (by rw [← HML.out]; omega)] at h
      exact ⟨_, F, bl, rfl, HS.out, h, HA.out⟩
theorem of_any (v : Value) (m : Nat) (l : List Nat) (w : World) (h : InN w v m l) (hm : m ≤ 1000) :
    Calls Tryz.prog 72 #[v] w fun e w' => ∃ v' F bl, e = .returned v' ∧ Sl w' F 5 1 v' (8 * m) (bl.map u8) ∧ Bl bl (byN l) (8 * m) ∧ Adv Nul w F w' :=
  of_big v m l w h (by omega)

end Go.Proofs.YtbdjlmdbnoghnaaGreat
namespace Go.Proofs.YtbdjlmdbnoghnaaGreat
open Go.RowKit Go.Maps

theorem byN_val (l : List Nat) : byN l = val l := rfl
def RecR (w : World) (ps : List Pt) (e : Ending) (w' : World) : Prop := ∃ v F, e = .returned v ∧ Sl w' F 5 1 v (recB ps).length ((recB ps).map u8) ∧ Adv Nul w F w'
def RcL (W : World) (N : Nat) (ps : List Pt) (t4 t3 : Value) (wr : World) : Prop :=
  ∃ k A q F l, k ≤ N ∧ t4 = .int .i64 (k : Int) ∧ t3 = .slice A (wL (preW ps k)) q ∧ Sl wr F 5 1 (.slice A (wL (preW ps k)) q) (wL (preW ps k)) (l.map u8) ∧ Bl l (wN (preW ps k)) (wL (preW ps k)) ∧ Adv Nul W F wr
theorem pre_succ {ps : List Pt} {k : Nat} (h : k < ps.length) (hd : ps[k].d.length = 128) : wN (preW ps (k + 1)) = (wN (preW ps k) * 2 ^ 12 + ps[k].a.toNat) * 2 ^ (8 * 128) + val ps[k].d ∧ wL (preW ps (k + 1)) = wL (preW ps k) + 12 + 8 * 128 := by
  have e : preW ps (k + 1) = (preW ps k ++ [(ps[k].a.toNat, 12)]) ++ ps[k].d.map bW := by
    unfold preW
    rw [List.take_succ_eq_append_getElem h, List.flatMap_append]
    simp [pW]
  rw [e, wN_append, wL_append, wN_snoc, wL_snoc, wN_bytes, wL_bytes, hd]
  exact ⟨rfl, rfl⟩

set_option maxRecDepth 3000 in
set_option maxHeartbeats 6400000 in
theorem record_any (A0 : Option Addr) (N k0 : Nat) (ps : List Pt) (G : Nat → Prop) (w : World) (h : QRd w G (.slice A0 N k0) ps) (ht : isTx ps 4096) (h8 : ∀ p ∈ ps, ∀ x ∈ p.d, x < 256) :
    Calls Tryz.prog 50 #[.slice A0 N k0] w (RecR w ps) := by
  have hN := h.len.1
  have hN24 : N ≤ 24 := by have := ht.1.2; omega
  have hNI : (N : Int) ≤ 24 := by omega
  have hwN : IntKind.u64.wrap (N : Int) = (N : Int) := wrapU (by omega)
  have HPW := Lib.hid (show QRd w (fun j => w.heap.size ≤ j) (.slice A0 N k0) ps from h.adv (Adv.refl Nul w) (fun _ x => x.elim) (fun _ x => .inr x))
  have HN := Lib.hid hN
  have HT := Lib.hid ht
  have H8 := Lib.hid h8
  have HD := Lib.hid (fun p hp => (ht.row p hp).2)
  have HN24 := Lib.hid hN24
  have HB8 := Lib.hid (bits_any N 8 w (by omega) (by decide))
  clear h hN ht h8 hN24
  go_enter Tryz.func50, Tryz.ntmps50
  go_wp2_with fail
  refine HB8.out.mono ?_
  rintro e w1 ⟨v1, rfl, F1, l1, s1, bl1, a1⟩
  obtain ⟨A1, q1, rfl, _, _⟩ := s1.form0
  have HI := Lib.hid (show Sl w1 F1 5 1 (.slice A1 8 q1) 8 (l1.map u8) ∧ Bl l1 (wN (preW ps 0)) (wL (preW ps 0)) ∧ Adv Nul w F1 w1 from ⟨s1, by
    have e1 : wN (preW ps 0) = N := by rw [HN.out]; simp [preW, wN]
    have e2 : wL (preW ps 0) = 8 := by simp [preW, wL]
    rw [e1, e2]; exact bl1, a1⟩)
  clear s1 bl1 a1
  go_wp2_with fail
  go_loopw [4, 3] (RcL w N ps) (fun t _ _ => N - (intOf t).toNat)
  case atStart =>
    have e2 : wL (preW ps 0) = 8 := by simp [preW, wL]
    exact ⟨0, A1, q1, F1, l1, Nat.zero_le _, rfl, by rw [e2], by rw [e2]; exact HI.out.1, HI.out.2.1, HI.out.2.2⟩
  case round =>
    obtain ⟨k, A, q, F, l, hk, rfl, rfl, hs, hbl, ha⟩ := hrel
    by_cases hlt : k < N
    · have hki : (k : Int) < (N : Int) := by omega
      have hkp : k < ps.length := by rw [← HN.out]; exact hlt
      have hstep : Adv Nul w Nul wr := ha.sub (fun _ x => x.elim)
      obtain ⟨b, o, a, c, rfl, hb, ⟨c0, c1⟩, hr, hro⟩ := ((HPW.out.step hstep)).row hkp
      have hbo := hb.2
      have hdl := HD.out _ (List.getElem_mem hkp)
      have hrow := (HT.out.row _ (List.getElem_mem hkp)).1
      have hb8 := H8.out _ (List.getElem_mem hkp)
      have hps := pre_succ hkp hdl
      have hml : wL (preW ps k) ≤ 100000 := by rw [wL_preW HD.out (Nat.le_of_lt hkp)]; have := HN24.out; omega
      obtain ⟨p, hp⟩ : ∃ p, p = ps[k] := ⟨_, rfl⟩
      rw [← hp] at c0 c1 hr hro hdl hrow hb8 hps
      clear hp
      obtain ⟨pa, pd⟩ := p
      simp only at c0 c1 hr hro hdl hrow hb8 hps
      obtain ⟨x, rfl⟩ := Int.eq_ofNat_of_zero_le hrow.1
      have hx : x < 2 ^ 12 := by have := hrow.2; omega
      have hwx : IntKind.u64.wrap (x : Int) = (x : Int) := wrapU (by omega)
      rw [hdl] at c1 hr hro
      obtain ⟨m, hm⟩ : ∃ m, m = wL (preW ps k) := ⟨_, rfl⟩
      obtain ⟨Nn, hNn⟩ : ∃ m, m = wN (preW ps k) := ⟨_, rfl⟩
      rw [← hm] at hs hbl hps hml ⊢
      rw [← hNn] at hbl hps
      have HS := Lib.hid hs
      have HBL := Lib.hid hbl
      have HAD := Lib.hid ha
      have HPS := Lib.hid hps
      have HML := Lib.hid hml
      have HR := Lib.hid hr
      have HB12 := Lib.hid (bits_any x 12 wr hx (by decide))
      have HLT := Lib.hid hlt
      have HC1 := Lib.hid c1
      have HBB := Lib.hid hb.1
      have HNF := Lib.hid (show ¬ F b from fun x => hbo (by rcases ha.into b x with h | h; exact h.elim; exact h))
      have HNR := Lib.hid (show ∀ j, (Value.slice a 128 c).ownBlock = some j → 0 < 128 → ¬ F j from fun j hj hn x => hro j hj hn (by rcases ha.into j x with h | h; exact h.elim; exact h))
      have HP8 := Lib.hid hb8
      have HDL := Lib.hid hdl
      clear hbo hro hs hbl ha hps hml hr hlt hkp hstep hb hdl hrow hb8 hx hm hNn hk
      go_wp2_with fail
      refine HB12.out.mono ?_
      rintro e w2 ⟨v2, rfl, F2, l2, s2, bl2, a2⟩
      obtain ⟨A2, q2, rfl, _, _⟩ := s2.form0
      have HS1 := Lib.hid (HS.out.far a2 (fun _ x _ => x))
      have HS2 := Lib.hid s2
      have HBL2 := Lib.hid (HBL.out.append bl2)
      have HA2 := Lib.hid a2
      have HKB1 := Lib.hid (show m + 12 ≤ 1000000000 by have := HML.out; omega)
      clear s2 bl2 a2 c0 c1
      go_upto_region 6 with (first
        | (at_builtin; refine wpList_append_rd rfl (.tmp 15) (.tmp 22) rfl rfl rfl HS1.out.own HS2.out.rd (u8_one _) HKB1.out ?_; intro v' w3 hown hg hat; obtain ⟨a3, k3, rfl⟩ := (slice_of hown); have HOWN := Lib.hid hown; have HG3 := Lib.hid hg; have HAT3 := Lib.hid hat; clear hown hg hat)
        | fail)
      obtain ⟨g1, g2⟩ := lsl_grown HS1.out HOWN.out HG3.out HAT3.out (Nat.le_refl _)
      have HS3 := Lib.hid g1
      have had3 := (HAD.out.over HA2.out).trans g2
      have HA3 := Lib.hid had3
      have hfar : ∀ j, j < wr.heap.size → (∀ i, F i → i ≠ j) → w3.heap[j]? = wr.heap[j]? := fun j hj hn => (g2.block j (Nat.lt_of_lt_of_le hj HA2.out.size) (fun x => hn j x rfl)).trans (HA2.out.block j hj (fun x => x))
      have HFAR := Lib.hid hfar
      have HFS := Lib.hid g2.size
      clear g1 g2 had3 hfar
      have hb3 : w3.heap[b]? = wr.heap[b]? := HFAR.out b HBB.out (fun i hi e => HNF.out (by rw [← e]; exact hi))
      have c1 : w3.cell? ⟨b, o + k * 2 + 1, none⟩ = some (.slice a 128 c) := by rw [← HC1.out]; exact World.cell?_of_block hb3
      have hr3 : Rd w3 1 (.slice a 128 c) 128 (pd.map u8) := HR.out.far (fun j hj hn hl => HFAR.out j hl (fun i hi e => HNR.out j hj hn (by rw [← e]; exact hi))) (Nat.le_trans HA2.out.size (HFS.out))
      have HOF := Lib.hid (of_any (.slice a 128 c) 128 pd w3 ((In.of_rd (by rw [HDL.out]; exact hr3) HP8.out).num HDL.out.symm) (by decide))
      clear hb3 hr3
      go_wp2_with fail
      refine HOF.out.mono ?_
      rintro e w4 ⟨v4, F4, bl4, rfl, s4, bb4, a4⟩
      obtain ⟨A4, q4, rfl, _, _⟩ := s4.form0
      have HS4 := Lib.hid (HS3.out.far a4 (fun _ x _ => x))
      have HS5 := Lib.hid s4
      have HBL4 := Lib.hid (HBL2.out.append bb4)
      have HA4 := Lib.hid a4
      have HKB2 := Lib.hid (show m + 12 + 8 * 128 ≤ 1000000000 by have := HML.out; omega)
      clear s4 bb4 a4 c1
      go_wp2_with (first
        | (at_builtin; refine wpList_append_rd rfl (.tmp 24) (.tmp 30) rfl rfl rfl HS4.out.own HS5.out.rd (u8_one _) HKB2.out ?_; intro v' w5 hown hg hat; obtain ⟨a5, k5, rfl⟩ := (slice_of hown); have HOWN5 := Lib.hid hown; have HG5 := Lib.hid hg; have HAT5 := Lib.hid hat; clear hown hg hat)
        | fail)
      obtain ⟨g3, g4⟩ := lsl_grown HS4.out HOWN5.out HG5.out HAT5.out (Nat.le_refl _)
      have hlt := HLT.out
      have hps := HPS.out
      refine ⟨⟨k + 1, a5, k5, _, (l ++ l2) ++ bl4, by omega, by go_num, ?_, ?_, ?_, (HA3.out.over HA4.out).trans g4⟩, by simp [intOf] <;> omega⟩
      · rw [hps.2]
      · rw [hps.2, List.map_append, List.map_append]; exact g3
      · rw [hps.1, hps.2, ← byN_val]; exact HBL4.out
    · obtain rfl : k = N := by omega
      have hk' : preW ps k = recW ps := by unfold preW recW; rw [HN.out, List.take_length]
      rw [hk'] at hs hbl ⊢
      have hq : (recB ps).length = qn (wL (recW ps)) := by rw [recB, rowOf, be_length]
      have hml : wL (recW ps) ≤ 1000000000 := by rw [wL_rec HD.out]; have := HN.out; have := HN24.out; omega
      have HBY := Lib.hid (bytes_any _ _ _ l F wr hs hbl hml)
      have HQ := Lib.hid hq
      have HAD := Lib.hid ha
      obtain ⟨m, hm⟩ : ∃ m, m = wL (recW ps) := ⟨_, rfl⟩
      rw [← hm] at HBY ⊢
      have HM := Lib.hid hm
      clear hs hbl ha hk hlt hk' hq hml hm
      go_wp2_with fail
      refine HBY.out.mono ?_
      rintro e w9 ⟨v9, rfl, F9, s9, a9⟩
      have HF := Lib.hid (show RecR w ps (.returned v9) w9 from ⟨v9, F9, rfl, by rw [HQ.out, ← HM.out]; rw [HM.out] at s9 ⊢; exact s9, (HAD.out.sub (G := Nul) (fun _ x => x.elim)).trans a9⟩)
      clear s9 a9
      go_wp2_with fail
      go_ret
      exact HF.out
end Go.Proofs.YtbdjlmdbnoghnaaGreat
