/- The document's own answers: Bytes. -/
import Derived.Test.YtbjenpkgcdppaaaRefB
namespace Go.Proofs.Ytbjenpkgcdppaaa
open Go.RowKit

theorem Bl.take {l : List Nat} {N m : Nat} (h : Bl l N m) (k : Nat) (hk : k < m) : ∃ M b, Bl (l.take k) M k ∧ l[k]? = some b ∧ b < 2 ∧ Bl (l.take (k + 1)) (M * 2 + b) (k + 1) := by
  have hl := h.len
  have hkl : k < l.length := by omega
  have h1 : Bl (l.take k) (nval (l.take k)) k := ⟨by simp; omega, fun b hb => h.bit b (List.mem_of_mem_take hb), rfl⟩
  refine ⟨_, l[k], h1, List.getElem?_eq_getElem hkl, h.bit _ (List.getElem_mem _), ?_⟩
  rw [List.take_succ_eq_append_getElem hkl]
  exact h1.snoc (h.bit _ (List.getElem_mem _))

/-- the last byte stored anew -/
theorem Sl.put_last {w : World} {F : Nat → Prop} {g c a : Nat} {l : List Nat} {x y : Nat} (h : Sl w F 5 1 (.slice (some ⟨g, 0, none⟩) (a + 1) c) (a + 1) ((l ++ [x]).map u8)) (hl : l.length = a) (v : Int) (hv : v = (y : Int)) :
    Sl (w.setCell ⟨g, a, none⟩ (.int .u8 v)) F 5 1 (.slice (some ⟨g, 0, none⟩) (a + 1) c) (a + 1) ((l ++ [y]).map u8) := by
  have h1 := (h.own.stored a (.int .u8 v)).1
  refine ⟨?_, h.inF, fun j hj => by have := h.bd j hj; simpa [World.setCell] using this⟩
  have e : ((l ++ [x]).map u8).set a (.int .u8 v) = (l ++ [y]).map u8 := by
    rw [List.map_append, List.map_append, List.set_append_right _ _ (by simp; omega)]
    simp [hl, hv, u8]
  rwa [e] at h1

theorem cell_last {w : World} {F : Nat → Prop} {g c a : Nat} {l : List Nat} {x : Nat} (h : Sl w F 5 1 (.slice (some ⟨g, 0, none⟩) (a + 1) c) (a + 1) ((l ++ [x]).map u8)) (hl : l.length = a) : w.cell? ⟨g, a, none⟩ = some (.int .u8 (x : Int)) := by
  rw [h.own.cellAt a (by omega), List.getElem?_map, List.getElem?_append_right (by omega), hl]
  simp [u8]

def BytesRel (w : World) (G : Nat → Prop) (l : List Nat) (v0 : Value) (m : Nat) (t3 t4 : Value) (wr : World) : Prop :=
  ∃ k N F, t4 = .int .i64 ((k : Nat) : Int) ∧ k ≤ m ∧ Bl (l.take k) N k ∧ Sl wr F 5 1 t3 (qn k) ((part N k 0).map u8) ∧ Adv Nul w F wr ∧ Sl wr G 5 1 v0 m (l.map u8) ∧ Sep F G

theorem bytes_step {w X : World} {F G : Nat → Prop} {l l1 : List Nat} {v0 : Value} {m g c a x y k N' : Nat} (hS : Sl X F 5 1 (.slice (some ⟨g, 0, none⟩) (a + 1) c) (a + 1) ((l1 ++ [x]).map u8)) (hl1 : l1.length = a) (hA : Adv Nul w F X)
    (hV : Sl X G 5 1 v0 m (l.map u8)) (hsep : Sep F G) (hk : k < m) (hnx : Bl (l.take (k + 1)) N' (k + 1)) (hp : l1 ++ [y] = part N' (k + 1) 0) (v : Int) (hv : v = (y : Int)) :
    BytesRel w G l v0 m (.slice (some ⟨g, 0, none⟩) (a + 1) c) (.int .i64 ((k : Int) + 1)) (X.setCell ⟨g, a, none⟩ (.int .u8 v)).drew := by
  have h1 := hS.put_last hl1 v hv
  have hF : F g := hS.inF g rfl
  have hq : qn (k + 1) = a + 1 := by
    have h := congrArg List.length hp
    rw [part_length] at h
    simp [hl1] at h
    omega
  refine ⟨k + 1, N', F, by simp, by omega, hnx, ?_, (hA.trans ((Adv.refl F X).setCell (p := ⟨g, a, none⟩) (.inl hF) _)).drew, ?_, hsep⟩
  · rw [hq, ← hp]; exact ⟨h1.own, h1.inF, h1.bd⟩
  · have h2 := hV.far ((Adv.refl F X).setCell (p := ⟨g, a, none⟩) (.inl hF) (.int .u8 v)) hsep
    exact ⟨h2.own, h2.inF, h2.bd⟩

theorem vis_grown {wr w1 : World} {F G : Nat → Prop} {v v0 : Value} {n m : Nat} {xs ys : List Value} {o : Obj} (hV : Sl wr G 5 1 v0 m ys) (hS : Sl wr F 5 1 v n xs) (hsep : Sep F G) (hg : (wr.alloc o).grownBy w1 v.ownBlock) : Sl w1 G 5 1 v0 m ys :=
  hV.far (((Adv.refl F wr).alloc o).grown hg (fun j hj => .inl (hS.inF j hj))) hsep
theorem sep_grown {wr : World} {F G : Nat → Prop} {v v' v0 : Value} {n m x : Nat} {xs ys : List Value} (hV : Sl wr G 5 1 v0 m ys) (hS : Sl wr F 5 1 v n xs) (hsep : Sep F G) (hat : v'.ownBlock = v.ownBlock ∨ v'.ownBlock = some x) (hx : wr.heap.size ≤ x) : Sep (fun j => F j ∨ v'.ownBlock = some j) G := by
  rintro j (h | h) hj
  · exact hsep j h hj
  · rcases hat with e | e
    · exact hsep j (hS.inF j (by rw [← e]; exact h)) hj
    · rw [e] at h; injection h with h; have := hV.bd j hj; omega
theorem snoc_zero {w : World} {F : Nat → Prop} {v : Value} {n : Nat} {l : List Nat} (h : Sl w F 5 1 v n (l.map u8 ++ [.int .u8 0])) : Sl w F 5 1 v n ((l ++ [0]).map u8) := by
  rw [List.map_append]; exact h
theorem cell_of_bits {G : Nat → Prop} {g0 c m k b : Nat} {l : List Nat} (hb : l[k]? = some b) (hk : k < m) : ∀ w : World, Sl w G 5 1 (.slice (some ⟨g0, 0, none⟩) m c) m (l.map u8) → w.cell? ⟨g0, k, none⟩ = some (.int .u8 (b : Int)) := fun w hV => by
  rw [hV.own.cellAt k (by omega), List.getElem?_map, hb]; rfl

def BytesRel2 (w : World) (N m q : Nat) (v3 t6 : Value) (wr : World) : Prop :=
  ∃ j F, t6 = .int .i64 ((m : Int) + ((j : Nat) : Int)) ∧ j ≤ pad m ∧ Sl wr F 5 1 v3 q ((part N m j).map u8) ∧ Adv Nul w F wr

set_option maxRecDepth 3000 in
set_option maxHeartbeats 2000000 in
theorem bytes_any (v0 : Value) (N m : Nat) (l : List Nat) (G : Nat → Prop) (w : World) (hv : Sl w G 5 1 v0 m (l.map u8)) (hl : Bl l N m) (hm : m ≤ 1000000000) :
    Calls Try.prog 28 #[v0] w fun e w' => ∃ v, e = .returned v ∧ ∃ F, Sl w' F 5 1 v (qn m) ((rowOf N m).map u8) ∧ Adv Nul w F w' := by
  obtain ⟨A, c, rfl, _, hcm⟩ := hv.form0
  unfold maxLen at hcm
  obtain ⟨i0, hi, hz0, hz1, hz2⟩ := info_parts Try.infoU8
  have HV := Lib.hid hv
  have HL := Lib.hid hl
  clear hv hl
  go_enter Try.func28, Try.ntmps28
  go_wp2_with fail
  go_loopw [3, 4] (BytesRel w G l (.slice A m c) m) (fun _ t _ => m - (intOf t).toNat)
  case atStart => exact ⟨0, 0, Nul, rfl, Nat.zero_le _, by simpa using Bl.nil, Sl.nil _ _ _, Adv.refl _ _, HV.out, fun _ h _ => h⟩
  case round =>
    obtain ⟨k, N1, F, rfl, hk, hN1, hS, hA, hV, hsep⟩ := hrel
    have HS := Lib.hid hS
    have HA := Lib.hid hA
    have HVr := Lib.hid hV
    have HSP := Lib.hid hsep
    by_cases hlt : k < m
    · obtain ⟨M, b, hM, hb, hb2, hnx⟩ := HL.out.take k hlt
      obtain rfl : M = N1 := by rw [← hM.val, ← hN1.val]
      obtain ⟨g0, c0, e0, _, _⟩ := hV.form (by omega)
      injection e0 with e1 e2 e3
      subst e1
      subst e3
      have hcb : wr.cell? ⟨g0, k, none⟩ = some (.int .u8 (b : Int)) := by
        rw [hV.own.cellAt k (by omega), List.getElem?_map, hb]; rfl
      have HNX := Lib.hid hnx
      have HCB := Lib.hid (cell_of_bits (G := G) (g0 := g0) (c := c) hb hlt)
      by_cases hk8 : k % 8 = 0
      · obtain ⟨a, hr⟩ : ∃ a, k = 8 * a := ⟨k / 8, by omega⟩
        have hq : qn k = a := by unfold qn; omega
        rw [hq, hr, part_whole] at hS
        obtain ⟨a3, c3, rfl, _, _⟩ := hS.form0
        have HS2 := Lib.hid hS
        have HR := Lib.hid hr
        have hown := hS.own
        have hk8' : (((k : Int) % 8) == 0) = true := by simp; omega
        have ha : a ≤ 1000000000 := by omega
        clear hS hA hV hsep hnx hM hb hN1 hr hk8 hq HS e2
        go_wp2_with (first
          | (at_builtin; refine wpList_append_own_at _ rfl (.tmp 17) (.tmp 18) 30 rfl 0 5 i0 (.int .u8 0) 1 1 Try.underlying30 hi hz0 hz1 hz2 rfl (by decide) (.slice a3 a c3) a _ rfl (hown.alloc _) ⟨wr.heap.size, 0, none⟩ 1 1 [.int .u8 0] rfl rfl (cell_one_new _ _ _) ?c2 ?c3 ?c4 (Nat.zero_le _) ?c5)
          | fail)
        case c2 => intro u hu; simp at hu; subst hu; rfl
        case c3 => unfold maxLen; omega
        case c4 => omega
        case c5 =>
          intro v' w1 hown1 hg1 _ hat1
          obtain ⟨h3, a3'⟩ := one_grown HS2.out HA.out hown1 hg1 hat1 (by omega)
          obtain ⟨g, c1, rfl, _, hgl⟩ := hown1.form (by omega)
          have hV1 := vis_grown HVr.out HS2.out HSP.out hg1
          have hsep1 : Sep (fun j => (fun j => F j ∨ (Value.slice (some ⟨g, 0, none⟩) (a + 1) c1).ownBlock = some j) j) G := sep_grown HVr.out HS2.out HSP.out hat1 (by omega)
          have h4 := snoc_zero h3
          have hlast := cell_last h4 (be_length _ _)
          have hfl := h4.own.frozenAt a
          have hgg : g ≠ g0 := fun e => hsep1 g (.inr rfl) (by rw [e]; exact hV1.inF g0 rfl)
          have hcb : w1.cell? ⟨g0, k, none⟩ = some (.int .u8 (b : Int)) := HCB.out w1 hV1
          have H4 := Lib.hid h4
          have HV1 := Lib.hid hV1
          have HA1 := Lib.hid a3'
          have HSP1 := Lib.hid hsep1
          clear h3 h4 hown1 hg1 hat1 hV1 a3' hsep1
          go_wp2_with fail
          go_region
          all_goals go_wp2
          all_goals
            refine ⟨bytes_step (y := 0 * 2 + b) H4.out (be_length _ _) HA1.out HV1.out HSP1.out hlt HNX.out ?_ _ (by simp), by simp [intOf]; omega⟩
            rw [HR.out]
            exact part_first M a b hb2
      · obtain ⟨a, r, hr, hr0, hr8⟩ : ∃ a r, k = 8 * a + r ∧ 0 < r ∧ r < 8 := ⟨k / 8, k % 8, by omega, by omega, by omega⟩
        have hq : qn k = a + 1 := by unfold qn; omega
        rw [hq, hr, part_at _ a r 0 hr0 (by omega), Nat.pow_zero, Nat.mul_one] at hS
        obtain ⟨g, c1, rfl, hFg, hc1⟩ := hS.form (by omega)
        have hlast := cell_last hS (be_length _ _)
        have hfl := hS.own.frozenAt a
        have hgg : g ≠ g0 := fun e => hsep g hFg (by rw [e]; exact hV.inF g0 rfl)
        obtain ⟨t, ht⟩ : ∃ t, t = M % 2 ^ r := ⟨_, rfl⟩
        have ht128 : t < 128 := by
          have h1 : M % 2 ^ r < 2 ^ r := Nat.mod_lt _ (Nat.two_pow_pos _)
          have h2 : (2 : Nat) ^ r ≤ 2 ^ 7 := Nat.pow_le_pow_right (by decide) (by omega)
          omega
        rw [← ht] at hlast
        have HT := Lib.hid ht
        have HS2 := Lib.hid hS
        have HR := Lib.hid hr
        have hk8' : (((k : Int) % 8) == 0) = false := by simp; omega
        have ha : a ≤ 1000000000 := by omega
        clear hS hA hV hsep hnx hM hb hN1 ht hr hk8 hq HS e2
        go_wp2_with fail
        go_region
        all_goals go_wp2
        all_goals
          refine ⟨bytes_step (y := t * 2 + b) HS2.out (be_length _ _) HA.out HVr.out HSP.out hlt HNX.out ?_ _ (by simp), by simp [intOf]; omega⟩
          rw [HT.out, HR.out]
          exact part_next M a r b hb2 hr0 hr8
    · obtain rfl : k = m := by omega
      have hlm := HL.out.len
      have hNN : N1 = N := by
        rw [← hN1.val, ← HL.out.val, List.take_of_length_le (by omega)]
      rw [hNN] at hS
      have hq1000 : qn k ≤ 1000000000 := by unfold qn; omega
      obtain ⟨a3, c3, rfl, _, _⟩ := hS.form0
      have HS3 := Lib.hid hS
      clear hS hA hV hsep hN1 hNN HS hlm HVr HSP
      go_wp2_with fail
      obtain ⟨q, hqq⟩ : ∃ q, q = qn k := ⟨_, rfl⟩
      have HQQ := Lib.hid hqq
      rw [← hqq] at HS3 hq1000 ⊢
      clear hqq
      go_loopw [6] (BytesRel2 w N k q (.slice a3 q c3)) (fun t _ => ((k : Int) + (pad k : Int) - intOf t).toNat)
      case atStart => exact ⟨0, F, by simp, Nat.zero_le _, HS3.out, HA.out⟩
      case round =>
        clear HS3 HA
        obtain ⟨j, F2, rfl, hj, hS, hA⟩ := hrel
        have HA2 := Lib.hid hA
        by_cases hjp : j < pad k
        · obtain ⟨a, r, hm8, hr0, hr8⟩ : ∃ a r, k = 8 * a + r ∧ 0 < r ∧ r < 8 := ⟨k / 8, k % 8, by omega, by unfold pad at hjp; omega, by omega⟩
          have hpr : pad k = 8 - r := by unfold pad; omega
          have hq : qn k = a + 1 := by unfold qn; omega
          have hqa : q = a + 1 := by have := HQQ.out; omega
          subst hqa
          rw [hm8, part_at _ a r j hr0 (by omega)] at hS
          obtain ⟨g, c1, e, hFg, hc1⟩ := hS.form (by omega)
          injection e with e1 e2 e3
          subst e1
          subst e3
          have hlast := cell_last hS (be_length _ _)
          have hfl := hS.own.frozenAt a
          have hx128 : N % 2 ^ r * 2 ^ j < 128 := by
            have h1 : N % 2 ^ r * 2 ^ j < 2 ^ r * 2 ^ j := Nat.mul_lt_mul_of_pos_right (Nat.mod_lt _ (Nat.two_pow_pos _)) (Nat.two_pow_pos _)
            have h2 : (2 : Nat) ^ (r + j) ≤ 2 ^ 7 := Nat.pow_le_pow_right (by decide) (by omega)
            rw [Nat.pow_add] at h2
            omega
          obtain ⟨x, hx⟩ : ∃ x, x = N % 2 ^ r * 2 ^ j := ⟨_, rfl⟩
          rw [← hx] at hlast hx128
          have hne : ((((k : Int) + (j : Int)) % 8) != 0) = true := by rw [bne_iff_ne]; unfold pad at hjp; omega
          have ha : a ≤ 1000000000 := by omega
          have hj8 : j ≤ 8 := by omega
          have hnext : BytesRel2 w N k (a + 1) (.slice (some ⟨g, 0, none⟩) (a + 1) c3) (.int .i64 ((k : Int) + (j : Int) + 1)) (wr.setCell ⟨g, a, none⟩ (.int .u8 ((x : Int) * 2))) := by
            refine ⟨j + 1, F2, by rw [show (k : Int) + (j : Int) + 1 = (k : Int) + ((j + 1 : Nat) : Int) from by omega], by omega, ?_, hA.trans ((Adv.refl F2 wr).setCell (p := ⟨g, a, none⟩) (.inl hFg) _)⟩
            have h := hS.put_last (y := x * 2) (be_length _ _) ((x : Int) * 2) (by simp)
            rw [hm8, part_at _ a r (j + 1) hr0 (by omega), Nat.pow_succ, ← Nat.mul_assoc, ← hx]
            exact h
          have HN := Lib.hid hnext
          have hmeas : ((k : Int) + (pad k : Int) - ((k : Int) + (j : Int) + 1)).toNat < ((k : Int) + (pad k : Int) - ((k : Int) + (j : Int))).toNat := by omega
          have HME := Lib.hid hmeas
          clear hnext hS hA hx hm8 hpr hq e2 hmeas HA2
          go_wp2
          exact ⟨HN.out, by simpa [intOf] using HME.out⟩
        · have hjp2 : j = pad k := by omega
          have hne : ((((k : Int) + (j : Int)) % 8) != 0) = false := by rw [hjp2]; unfold pad; simp; omega
          rw [hjp2, part_end] at hS
          have HS4 := Lib.hid hS
          clear hS hA hjp2 hjp
          go_wp2
          go_ret
          have h := HS4.out
          rw [← HQQ.out]
          exact ⟨_, rfl, F2, h, HA2.out⟩
end Go.Proofs.Ytbjenpkgcdppaaa
