/- The document's has and fields of layer 17. The document's own answers: Same, Bytes. The document's own answers: Bytes. So many bits in a slice of their own. The document's own answers: Fits. The document's own answers: Text, Same. Rows of bits that are items: the document's pieces of a message. A message's bytes: what both sides say of them; lengths of its parts. -/
import Derived.Test.YtpgeebhepegpaaaMsD
import Derived.Test.YtpgeebhepegpaaaMwB
import Derived.Test.YtpgeebhepegpaaaRef
import Derived.Test.YtpgeebhepegpaaaR01
import Derived.Test.YtpgeebhepegpaaaMwA
namespace Go.Proofs.Ytpgeebhepegpaaa
open Go.ChangeShapes Go.WideShapes Go.ChangeAt Go.RowKit

set_option maxRecDepth 3000 in
set_option maxHeartbeats 800000 in
theorem has17_any (s : ByteArray) (hs : s.size ≤ 1000) (c : Nat) (w : World) : Calls Try.prog 44 #[.string s, .int .u8 (c : Int)] w fun e w' => e = .returned (.bool (hasB s c)) ∧ w = w' := by
  obtain ⟨B, hB⟩ : ∃ B, B = hasB s c := ⟨_, rfl⟩
  rw [← hB]
  have HYES := Lib.hid (show hasT s c → B = true from fun h => by rw [hB]; exact hasB_yes h)
  have HNO := Lib.hid (show ¬ hasT s c → B = false from fun h => by rw [hB]; exact hasB_no h)
  clear hB
  go_enter Try.func44, Try.ntmps44
  go_wp2_with fail
  go_loopw [5] (fun t wr => ∃ k : Nat, t = .int .i64 (k : Int) ∧ k ≤ s.size ∧ (∀ i (hi : i < s.size), i < k → (s[i]'hi).toNat ≠ c) ∧ wr = w) (fun t _ => s.size - (intOf t).toNat)
  case atStart => exact ⟨0, rfl, Nat.zero_le _, fun _ _ h => absurd h (by omega), rfl⟩
  case round =>
    obtain ⟨k, rfl, hk, hall, rfl⟩ := hrel
    have HALL := Lib.hid hall
    clear hall
    by_cases hlt : k < s.size
    · by_cases he : (s[k]'hlt).toNat = c
      · obtain rfl := HYES.out ⟨k, hlt, he⟩
        have hb : (((s[k]'hlt).toNat : Int) == (c : Int)) = true := by rw [beq_iff_eq]; omega
        clear he HYES HNO HALL
        go_wp2_with fail
        go_ret
        exact ⟨rfl, rfl⟩
      · have hb : (((s[k]'hlt).toNat : Int) == (c : Int)) = false := by rw [beq_eq_false_iff_ne]; omega
        have HN := Lib.hid (show ∀ i (hi : i < s.size), i < k + 1 → (s[i]'hi).toNat ≠ c from fun i hi hik => by
          by_cases e : i = k
          · subst e; exact he
          · exact HALL.out i hi (by omega))
        have HLT := Lib.hid hlt
        clear he HYES HNO
        go_wp2_with fail
        exact ⟨⟨k + 1, by go_num, by have := HLT.out; omega, by first | exact ⟨HN.out, rfl⟩ | exact ⟨HN.out, trivial⟩ | exact HN.out⟩, by have := HLT.out; simp [intOf] <;> omega⟩
    · obtain rfl : k = s.size := by omega
      obtain rfl := HNO.out (fun ⟨i, hi, e⟩ => HALL.out i hi hi e)
      clear hlt hk HYES HNO
      go_wp2_with fail
      go_ret
      exact ⟨rfl, rfl⟩
set_option maxRecDepth 3000 in
set_option maxHeartbeats 1600000 in
theorem fields17_any (m : Ms) (v : Value) (hk : m.ty = 3 ∨ m.er ≠ 0 ∨ (1 ≤ m.kd ∧ m.kd ≤ 14)) (w : World) : Calls Try.prog 43 #[.agg (mc m v)] w fun e w' => e = .returned (.string (txt (letM m.ty m.kd m.er))) ∧ Adv Nul w Nul w' := by
  obtain ⟨C, hC⟩ : ∃ C, C = mc m v := ⟨_, rfl⟩
  have HC := Lib.hid (fun (z : Nat) (w' : World) (h : Blk w' z 28 C) => (show Blk w' z 28 (mc m v) by rw [← hC]; exact h).c18.a)
  rw [← hC]
  clear hC
  have HF := Lib.hid (fun (r : Bool) (h : 1 ≤ m.kd ∧ m.kd ≤ 14) (w : World) => show Calls Try.prog 35 #[.bool r, .int .i64 m.kd] w fun e w' => e = .returned (.string (txt (if r then tolT m.kd else askT m.kd))) ∧ Adv Nul w Nul w' by
    have := fields_any r m.kd.toNat (by omega) w
    rw [show ((m.kd.toNat : Nat) : Int) = m.kd from by omega] at this
    exact this)
  by_cases t3 : m.ty = 3
  · have b3 : (m.ty == 3) = true := by rw [t3]; rfl
    have HL := Lib.hid (show letM m.ty m.kd m.er = [102] by unfold letM; rw [if_pos t3])
    clear t3 hk
    go_enter Try.func43, Try.ntmps43
    go_wp2_with (first
      | (refine kop_box rfl _ rfl rfl ?_; intro z w1 hz hb ha; have HA := Lib.hid ha; obtain ⟨s0, s1, s2, s3, s4, s5, s6⟩ := HC.out _ _ hb; clear hz hb ha)
      | fail)
    go_ret
    exact ⟨by rw [HL.out]; rfl, HA.out⟩
  · have b3 : (m.ty == 3) = false := by rw [beq_eq_false_iff_ne]; exact t3
    by_cases e0 : m.er = 0
    · have be : (m.er != 0) = false := by rw [e0]; rfl
      have hkd : 1 ≤ m.kd ∧ m.kd ≤ 14 := by
        rcases hk with h | h | h
        · exact absurd h t3
        · exact absurd e0 h
        · exact h
      by_cases t2 : m.ty = 2
      · have b2 : (m.ty == 2) = true := by rw [t2]; rfl
        have HL := Lib.hid (show letM m.ty m.kd m.er = tolT m.kd by unfold letM; rw [if_neg t3, if_neg (fun x => x e0), if_pos t2])
        have HX := Lib.hid (fun w => HF.out true hkd w)
        clear t3 hk e0 t2 hkd HF
        go_enter Try.func43, Try.ntmps43
        go_wp2_with (first
          | (refine kop_box rfl _ rfl rfl ?_; intro z w1 hz hb ha; have HA := Lib.hid ha; obtain ⟨s0, s1, s2, s3, s4, s5, s6⟩ := HC.out _ _ hb; clear hz hb ha)
          | (go_at_call 35; refine (HX.out _).mono ?_; rintro x w2 ⟨rfl, a2⟩; have HA2 := Lib.hid (HA.out.trans a2); clear a2)
          | fail)
        go_ret
        exact ⟨by rw [HL.out]; rfl, HA2.out⟩
      · have b2 : (m.ty == 2) = false := by rw [beq_eq_false_iff_ne]; exact t2
        have HL := Lib.hid (show letM m.ty m.kd m.er = askT m.kd by unfold letM; rw [if_neg t3, if_neg (fun x => x e0), if_neg t2])
        have HX := Lib.hid (fun w => HF.out false hkd w)
        clear t3 hk e0 t2 hkd HF
        go_enter Try.func43, Try.ntmps43
        go_wp2_with (first
          | (refine kop_box rfl _ rfl rfl ?_; intro z w1 hz hb ha; have HA := Lib.hid ha; obtain ⟨s0, s1, s2, s3, s4, s5, s6⟩ := HC.out _ _ hb; clear hz hb ha)
          | (go_at_call 35; refine (HX.out _).mono ?_; rintro x w2 ⟨rfl, a2⟩; have HA2 := Lib.hid (HA.out.trans a2); clear a2)
          | fail)
        go_ret
        exact ⟨by rw [HL.out]; rfl, HA2.out⟩
    · have be : (m.er != 0) = true := by rw [bne_iff_ne]; exact e0
      have HL := Lib.hid (show letM m.ty m.kd m.er = [] by unfold letM; rw [if_neg t3, if_pos e0])
      clear t3 hk e0
      go_enter Try.func43, Try.ntmps43
      go_wp2_with (first
        | (refine kop_box rfl _ rfl rfl ?_; intro z w1 hz hb ha; have HA := Lib.hid ha; obtain ⟨s0, s1, s2, s3, s4, s5, s6⟩ := HC.out _ _ hb; clear hz hb ha)
        | fail)
      go_ret
      exact ⟨by rw [HL.out]; rfl, HA.out⟩
end Go.Proofs.Ytpgeebhepegpaaa
namespace Go.Proofs.Ytpgeebhepegpaaa
open Go.RowKit

/-- the bytes behind k bits, the last one's bits moved up by j -/
def part (N k j : Nat) : List Nat := if k = 0 then [] else be ((k - 1) / 8) (N / 2 ^ (k - 8 * ((k - 1) / 8))) ++ [(N % 2 ^ (k - 8 * ((k - 1) / 8))) * 2 ^ j]
theorem part_at (N a r j : Nat) (hr : 0 < r) (hr8 : r ≤ 8) : part N (8 * a + r) j = be a (N / 2 ^ r) ++ [(N % 2 ^ r) * 2 ^ j] := by
  unfold part
  rw [if_neg (by omega), show (8 * a + r - 1) / 8 = a from by omega, show 8 * a + r - 8 * a = r from by omega]
theorem part_whole (N a : Nat) : part N (8 * a) 0 = be a N := by
  cases a with
  | zero => rfl
  | succ a =>
    rw [show 8 * (a + 1) = 8 * a + 8 from by omega, part_at N a 8 0 (by omega) (by omega)]
    simp [be]
theorem part_first (N a b : Nat) (hb : b < 2) : be a N ++ [0 * 2 + b] = part (N * 2 + b) (8 * a + 1) 0 := by
  rw [part_at _ a 1 0 (by omega) (by omega)]
  rw [show (N * 2 + b) / 2 ^ 1 = N from by omega, show (N * 2 + b) % 2 ^ 1 = b from by omega]
  simp
theorem part_next (N a r b : Nat) (hb : b < 2) (hr : 0 < r) (hr8 : r < 8) : be a (N / 2 ^ r) ++ [N % 2 ^ r * 2 + b] = part (N * 2 + b) (8 * a + r + 1) 0 := by
  rw [show 8 * a + r + 1 = 8 * a + (r + 1) from by omega, part_at _ a (r + 1) 0 (by omega) (by omega)]
  have h1 : (N * 2 + b) / 2 ^ (r + 1) = N / 2 ^ r := by
    rw [Nat.pow_succ, Nat.mul_comm (2 ^ r) 2, ← Nat.div_div_eq_div_mul, show (N * 2 + b) / 2 = N from by omega]
  have h2 : (N * 2 + b) % 2 ^ (r + 1) = N % 2 ^ r * 2 + b := by
    rw [Nat.pow_succ, Nat.mul_comm (2 ^ r) 2, Nat.mod_mul, show (N * 2 + b) % 2 = b from by omega, show (N * 2 + b) / 2 = N from by omega]
    omega
  rw [h1, h2]
  simp
theorem part_end (N m : Nat) : part N m (pad m) = rowOf N m := by
  unfold rowOf
  by_cases h0 : m = 0
  · subst h0; rfl
  · obtain ⟨a, r, hm, hr, hr8⟩ : ∃ a r, m = 8 * a + r ∧ 0 < r ∧ r ≤ 8 := ⟨(m - 1) / 8, m - 8 * ((m - 1) / 8), by omega, by omega, by omega⟩
    have hp : r + pad m = 8 := by unfold pad; omega
    have hq : qn m = a + 1 := by unfold qn; omega
    rw [hq, hm, part_at N a r _ hr hr8, ← hm]
    have h256 : (256 : Nat) = 2 ^ r * 2 ^ pad m := by rw [← Nat.pow_add, hp]
    simp only [be]
    rw [h256, Nat.mul_div_mul_right _ _ (Nat.two_pow_pos _), Nat.mul_mod_mul_right]
theorem part_length (N k j : Nat) : (part N k j).length = qn k := by
  unfold part qn
  split
  · subst_vars; rfl
  · simp [be_length]; omega
end Go.Proofs.Ytpgeebhepegpaaa
namespace Go.Proofs.Ytpgeebhepegpaaa
open Go.RowKit

theorem Bl.take {l : List Nat} {N m : Nat} (h : Bl l N m) (k : Nat) (hk : k < m) : ∃ M b, Bl (l.take k) M k ∧ l[k]? = some b ∧ b < 2 ∧ Bl (l.take (k + 1)) (M * 2 + b) (k + 1) := by
  have hl := h.len
  have hkl : k < l.length := by omega
  have h1 : Bl (l.take k) (nval (l.take k)) k := ⟨by simp; omega, fun b hb => h.bit b (List.mem_of_mem_take hb), rfl⟩
  refine ⟨_, l[k], h1, List.getElem?_eq_getElem hkl, h.bit _ (List.getElem_mem _), ?_⟩
  rw [List.take_succ_eq_append_getElem hkl]
  exact h1.snoc (h.bit _ (List.getElem_mem _))

/-- the last byte stored anew -/
theorem Sl.put_last {w : World} {F : Nat → Prop} {g c a : Nat} {l : List Nat} {x y : Nat} (h : Sl w F 5 1 (.slice (some ⟨g, 0, none⟩) (a + 1) c) (a + 1) ((l ++ [x]).map u8)) (hl : l.length = a) (v : Int) (hv : v = (y : Int)) :
    Sl (w.setCell ⟨g, a, none⟩ (.int .u8 v)) F 5 1 (.slice (some ⟨g, 0, none⟩) (a + 1) c) (a + 1) ((l ++ [y]).map u8) := by
  have h1 := (h.own.stored a (.int .u8 v)).1
  refine ⟨?_, h.inF, fun j hj => by have := h.bd j hj; simpa [World.setCell] using this⟩
  have e : ((l ++ [x]).map u8).set a (.int .u8 v) = (l ++ [y]).map u8 := by
    rw [List.map_append, List.map_append, List.set_append_right _ _ (by simp; omega)]
    simp [hl, hv, u8]
  rwa [e] at h1

theorem cell_last {w : World} {F : Nat → Prop} {g c a : Nat} {l : List Nat} {x : Nat} (h : Sl w F 5 1 (.slice (some ⟨g, 0, none⟩) (a + 1) c) (a + 1) ((l ++ [x]).map u8)) (hl : l.length = a) : w.cell? ⟨g, a, none⟩ = some (.int .u8 (x : Int)) := by
  rw [h.own.cellAt a (by omega), List.getElem?_map, List.getElem?_append_right (by omega), hl]
  simp [u8]

def BytesRel (w : World) (G : Nat → Prop) (l : List Nat) (v0 : Value) (m : Nat) (t3 t4 : Value) (wr : World) : Prop :=
  ∃ k N F, t4 = .int .i64 ((k : Nat) : Int) ∧ k ≤ m ∧ Bl (l.take k) N k ∧ Sl wr F 5 1 t3 (qn k) ((part N k 0).map u8) ∧ Adv Nul w F wr ∧ Sl wr G 5 1 v0 m (l.map u8) ∧ Sep F G

theorem bytes_step {w X : World} {F G : Nat → Prop} {l l1 : List Nat} {v0 : Value} {m g c a x y k N' : Nat} (hS : Sl X F 5 1 (.slice (some ⟨g, 0, none⟩) (a + 1) c) (a + 1) ((l1 ++ [x]).map u8)) (hl1 : l1.length = a) (hA : Adv Nul w F X)
    (hV : Sl X G 5 1 v0 m (l.map u8)) (hsep : Sep F G) (hk : k < m) (hnx : Bl (l.take (k + 1)) N' (k + 1)) (hp : l1 ++ [y] = part N' (k + 1) 0) (v : Int) (hv : v = (y : Int)) :
    BytesRel w G l v0 m (.slice (some ⟨g, 0, none⟩) (a + 1) c) (.int .i64 ((k : Int) + 1)) (X.setCell ⟨g, a, none⟩ (.int .u8 v)).drew := by
  have h1 := hS.put_last hl1 v hv
  have hF : F g := hS.inF g rfl
  have hq : qn (k + 1) = a + 1 := by
    have h := congrArg List.length hp
    rw [part_length] at h
    simp [hl1] at h
    omega
  refine ⟨k + 1, N', F, by simp, by omega, hnx, ?_, (hA.trans ((Adv.refl F X).setCell (p := ⟨g, a, none⟩) (.inl hF) _)).drew, ?_, hsep⟩
  · rw [hq, ← hp]; exact ⟨h1.own, h1.inF, h1.bd⟩
  · have h2 := hV.far ((Adv.refl F X).setCell (p := ⟨g, a, none⟩) (.inl hF) (.int .u8 v)) hsep
    exact ⟨h2.own, h2.inF, h2.bd⟩

theorem vis_grown {wr w1 : World} {F G : Nat → Prop} {v v0 : Value} {n m : Nat} {xs ys : List Value} {o : Obj} (hV : Sl wr G 5 1 v0 m ys) (hS : Sl wr F 5 1 v n xs) (hsep : Sep F G) (hg : (wr.alloc o).grownBy w1 v.ownBlock) : Sl w1 G 5 1 v0 m ys :=
  hV.far (((Adv.refl F wr).alloc o).grown hg (fun j hj => .inl (hS.inF j hj))) hsep
theorem sep_grown {wr : World} {F G : Nat → Prop} {v v' v0 : Value} {n m x : Nat} {xs ys : List Value} (hV : Sl wr G 5 1 v0 m ys) (hS : Sl wr F 5 1 v n xs) (hsep : Sep F G) (hat : v'.ownBlock = v.ownBlock ∨ v'.ownBlock = some x) (hx : wr.heap.size ≤ x) : Sep (fun j => F j ∨ v'.ownBlock = some j) G := by
  rintro j (h | h) hj
  · exact hsep j h hj
  · rcases hat with e | e
    · exact hsep j (hS.inF j (by rw [← e]; exact h)) hj
    · rw [e] at h; injection h with h; have := hV.bd j hj; omega
theorem snoc_zero {w : World} {F : Nat → Prop} {v : Value} {n : Nat} {l : List Nat} (h : Sl w F 5 1 v n (l.map u8 ++ [.int .u8 0])) : Sl w F 5 1 v n ((l ++ [0]).map u8) := by
  rw [List.map_append]; exact h
theorem cell_of_bits {G : Nat → Prop} {g0 c m k b : Nat} {l : List Nat} (hb : l[k]? = some b) (hk : k < m) : ∀ w : World, Sl w G 5 1 (.slice (some ⟨g0, 0, none⟩) m c) m (l.map u8) → w.cell? ⟨g0, k, none⟩ = some (.int .u8 (b : Int)) := fun w hV => by
  rw [hV.own.cellAt k (by omega), List.getElem?_map, hb]; rfl

def BytesRel2 (w : World) (N m q : Nat) (v3 t6 : Value) (wr : World) : Prop :=
  ∃ j F, t6 = .int .i64 ((m : Int) + ((j : Nat) : Int)) ∧ j ≤ pad m ∧ Sl wr F 5 1 v3 q ((part N m j).map u8) ∧ Adv Nul w F wr

set_option maxRecDepth 3000 in
set_option maxHeartbeats 2000000 in
theorem bytes_any (v0 : Value) (N m : Nat) (l : List Nat) (G : Nat → Prop) (w : World) (hv : Sl w G 5 1 v0 m (l.map u8)) (hl : Bl l N m) (hm : m ≤ 1000000000) :
    Calls Try.prog 47 #[v0] w fun e w' => ∃ v, e = .returned v ∧ ∃ F, Sl w' F 5 1 v (qn m) ((rowOf N m).map u8) ∧ Adv Nul w F w' := by
  obtain ⟨A, c, rfl, _, hcm⟩ := hv.form0
  unfold maxLen at hcm
  obtain ⟨i0, hi, hz0, hz1, hz2⟩ := info_parts Try.infoU8
  have HV := Lib.hid hv
  have HL := Lib.hid hl
  clear hv hl
  go_enter Try.func47, Try.ntmps47
  go_wp2_with fail
  go_loopw [3, 4] (BytesRel w G l (.slice A m c) m) (fun _ t _ => m - (intOf t).toNat)
  case atStart => exact ⟨0, 0, Nul, rfl, Nat.zero_le _, by simpa using Bl.nil, Sl.nil _ _ _, Adv.refl _ _, HV.out, fun _ h _ => h⟩
  case round =>
    obtain ⟨k, N1, F, rfl, hk, hN1, hS, hA, hV, hsep⟩ := hrel
    have HS := Lib.hid hS
    have HA := Lib.hid hA
    have HVr := Lib.hid hV
    have HSP := Lib.hid hsep
    by_cases hlt : k < m
    · obtain ⟨M, b, hM, hb, hb2, hnx⟩ := HL.out.take k hlt
      obtain rfl : M = N1 := by rw [← hM.val, ← hN1.val]
      obtain ⟨g0, c0, e0, _, _⟩ := hV.form (by omega)
      injection e0 with e1 e2 e3
      subst e1
      subst e3
      have hcb : wr.cell? ⟨g0, k, none⟩ = some (.int .u8 (b : Int)) := by
        rw [hV.own.cellAt k (by omega), List.getElem?_map, hb]; rfl
      have HNX := Lib.hid hnx
      have HCB := Lib.hid (cell_of_bits (G := G) (g0 := g0) (c := c) hb hlt)
      by_cases hk8 : k % 8 = 0
      · obtain ⟨a, hr⟩ : ∃ a, k = 8 * a := ⟨k / 8, by omega⟩
        have hq : qn k = a := by unfold qn; omega
        rw [hq, hr, part_whole] at hS
        obtain ⟨a3, c3, rfl, _, _⟩ := hS.form0
        have HS2 := Lib.hid hS
        have HR := Lib.hid hr
        have hown := hS.own
        have hk8' : (((k : Int) % 8) == 0) = true := by simp; omega
        have ha : a ≤ 1000000000 := by omega
        clear hS hA hV hsep hnx hM hb hN1 hr hk8 hq HS e2
        go_wp2_with (first
          | (at_builtin; refine wpList_append_own_at _ rfl (.tmp 17) (.tmp 18) 38 rfl 0 5 i0 (.int .u8 0) 1 1 Try.underlying38 hi hz0 hz1 hz2 rfl (by decide) (.slice a3 a c3) a _ rfl (hown.alloc _) ⟨wr.heap.size, 0, none⟩ 1 1 [.int .u8 0] rfl rfl (cell_one_new _ _ _) ?c2 ?c3 ?c4 (Nat.zero_le _) ?c5)
          | fail)
        case c2 => intro u hu; simp at hu; subst hu; rfl
        case c3 => unfold maxLen; omega
        case c4 => omega
        case c5 =>
          intro v' w1 hown1 hg1 _ hat1
          obtain ⟨h3, a3'⟩ := one_grown HS2.out HA.out hown1 hg1 hat1 (by omega)
          obtain ⟨g, c1, rfl, _, hgl⟩ := hown1.form (by omega)
          have hV1 := vis_grown HVr.out HS2.out HSP.out hg1
          have hsep1 : Sep (fun j => (fun j => F j ∨ (Value.slice (some ⟨g, 0, none⟩) (a + 1) c1).ownBlock = some j) j) G := sep_grown HVr.out HS2.out HSP.out hat1 (by omega)
          have h4 := snoc_zero h3
          have hlast := cell_last h4 (be_length _ _)
          have hfl := h4.own.frozenAt a
          have hgg : g ≠ g0 := fun e => hsep1 g (.inr rfl) (by rw [e]; exact hV1.inF g0 rfl)
          have hcb : w1.cell? ⟨g0, k, none⟩ = some (.int .u8 (b : Int)) := HCB.out w1 hV1
          have H4 := Lib.hid h4
          have HV1 := Lib.hid hV1
          have HA1 := Lib.hid a3'
          have HSP1 := Lib.hid hsep1
          clear h3 h4 hown1 hg1 hat1 hV1 a3' hsep1
          go_wp2_with fail
          go_region
          all_goals go_wp2
          all_goals
            refine ⟨bytes_step (y := 0 * 2 + b) H4.out (be_length _ _) HA1.out HV1.out HSP1.out hlt HNX.out ?_ _ (by simp), by simp [intOf]; omega⟩
            rw [HR.out]
            exact part_first M a b hb2
      · obtain ⟨a, r, hr, hr0, hr8⟩ : ∃ a r, k = 8 * a + r ∧ 0 < r ∧ r < 8 := ⟨k / 8, k % 8, by omega, by omega, by omega⟩
        have hq : qn k = a + 1 := by unfold qn; omega
        rw [hq, hr, part_at _ a r 0 hr0 (by omega), Nat.pow_zero, Nat.mul_one] at hS
        obtain ⟨g, c1, rfl, hFg, hc1⟩ := hS.form (by omega)
        have hlast := cell_last hS (be_length _ _)
        have hfl := hS.own.frozenAt a
        have hgg : g ≠ g0 := fun e => hsep g hFg (by rw [e]; exact hV.inF g0 rfl)
        obtain ⟨t, ht⟩ : ∃ t, t = M % 2 ^ r := ⟨_, rfl⟩
        have ht128 : t < 128 := by
          have h1 : M % 2 ^ r < 2 ^ r := Nat.mod_lt _ (Nat.two_pow_pos _)
          have h2 : (2 : Nat) ^ r ≤ 2 ^ 7 := Nat.pow_le_pow_right (by decide) (by omega)
          omega
        rw [← ht] at hlast
        have HT := Lib.hid ht
        have HS2 := Lib.hid hS
        have HR := Lib.hid hr
        have hk8' : (((k : Int) % 8) == 0) = false := by simp; omega
        have ha : a ≤ 1000000000 := by omega
        clear hS hA hV hsep hnx hM hb hN1 ht hr hk8 hq HS e2
        go_wp2_with fail
        go_region
        all_goals go_wp2
        all_goals
          refine ⟨bytes_step (y := t * 2 + b) HS2.out (be_length _ _) HA.out HVr.out HSP.out hlt HNX.out ?_ _ (by simp), by simp [intOf]; omega⟩
          rw [HT.out, HR.out]
          exact part_next M a r b hb2 hr0 hr8
    · obtain rfl : k = m := by omega
      have hlm := HL.out.len
      have hNN : N1 = N := by
        rw [← hN1.val, ← HL.out.val, List.take_of_length_le (by omega)]
      rw [hNN] at hS
      have hq1000 : qn k ≤ 1000000000 := by unfold qn; omega
      obtain ⟨a3, c3, rfl, _, _⟩ := hS.form0
      have HS3 := Lib.hid hS
      clear hS hA hV hsep hN1 hNN HS hlm HVr HSP
      go_wp2_with fail
      obtain ⟨q, hqq⟩ : ∃ q, q = qn k := ⟨_, rfl⟩
      have HQQ := Lib.hid hqq
      rw [← hqq] at HS3 hq1000 ⊢
      clear hqq
      go_loopw [6] (BytesRel2 w N k q (.slice a3 q c3)) (fun t _ => ((k : Int) + (pad k : Int) - intOf t).toNat)
      case atStart => exact ⟨0, F, by simp, Nat.zero_le _, HS3.out, HA.out⟩
      case round =>
        clear HS3 HA
        obtain ⟨j, F2, rfl, hj, hS, hA⟩ := hrel
        have HA2 := Lib.hid hA
        by_cases hjp : j < pad k
        · obtain ⟨a, r, hm8, hr0, hr8⟩ : ∃ a r, k = 8 * a + r ∧ 0 < r ∧ r < 8 := ⟨k / 8, k % 8, by omega, by unfold pad at hjp; omega, by omega⟩
          have hpr : pad k = 8 - r := by unfold pad; omega
          have hq : qn k = a + 1 := by unfold qn; omega
          have hqa : q = a + 1 := by have := HQQ.out; omega
          subst hqa
          rw [hm8, part_at _ a r j hr0 (by omega)] at hS
          obtain ⟨g, c1, e, hFg, hc1⟩ := hS.form (by omega)
          injection e with e1 e2 e3
          subst e1
          subst e3
          have hlast := cell_last hS (be_length _ _)
          have hfl := hS.own.frozenAt a
          have hx128 : N % 2 ^ r * 2 ^ j < 128 := by
            have h1 : N % 2 ^ r * 2 ^ j < 2 ^ r * 2 ^ j := Nat.mul_lt_mul_of_pos_right (Nat.mod_lt _ (Nat.two_pow_pos _)) (Nat.two_pow_pos _)
            have h2 : (2 : Nat) ^ (r + j) ≤ 2 ^ 7 := Nat.pow_le_pow_right (by decide) (by omega)
            rw [Nat.pow_add] at h2
            omega
          obtain ⟨x, hx⟩ : ∃ x, x = N % 2 ^ r * 2 ^ j := ⟨_, rfl⟩
          rw [← hx] at hlast hx128
          have hne : ((((k : Int) + (j : Int)) % 8) != 0) = true := by rw [bne_iff_ne]; unfold pad at hjp; omega
          have ha : a ≤ 1000000000 := by omega
          have hj8 : j ≤ 8 := by omega
          have hnext : BytesRel2 w N k (a + 1) (.slice (some ⟨g, 0, none⟩) (a + 1) c3) (.int .i64 ((k : Int) + (j : Int) + 1)) (wr.setCell ⟨g, a, none⟩ (.int .u8 ((x : Int) * 2))) := by
            refine ⟨j + 1, F2, by rw [show (k : Int) + (j : Int) + 1 = (k : Int) + ((j + 1 : Nat) : Int) from by omega], by omega, ?_, hA.trans ((Adv.refl F2 wr).setCell (p := ⟨g, a, none⟩) (.inl hFg) _)⟩
            have h := hS.put_last (y := x * 2) (be_length _ _) ((x : Int) * 2) (by simp)
            rw [hm8, part_at _ a r (j + 1) hr0 (by omega), Nat.pow_succ, ← Nat.mul_assoc, ← hx]
            exact h
          have HN := Lib.hid hnext
          have hmeas : ((k : Int) + (pad k : Int) - ((k : Int) + (j : Int) + 1)).toNat < ((k : Int) + (pad k : Int) - ((k : Int) + (j : Int))).toNat := by omega
          have HME := Lib.hid hmeas
          clear hnext hS hA hx hm8 hpr hq e2 hmeas HA2
          go_wp2
          exact ⟨HN.out, by simpa [intOf] using HME.out⟩
        · have hjp2 : j = pad k := by omega
          have hne : ((((k : Int) + (j : Int)) % 8) != 0) = false := by rw [hjp2]; unfold pad; simp; omega
          rw [hjp2, part_end] at hS
          have HS4 := Lib.hid hS
          clear hS hA hjp2 hjp
          go_wp2
          go_ret
          have h := HS4.out
          rw [← HQQ.out]
          exact ⟨_, rfl, F2, h, HA2.out⟩
end Go.Proofs.Ytpgeebhepegpaaa
namespace Go.Proofs.Ytpgeebhepegpaaa
open Go.ChangeShapes Go.WideShapes Go.ChangeAt Go.RowKit

/-- so many bits in a slice of its own -/
def RowS (V : World) (N m : Nat) (v : Value) (w : World) : Prop := ∃ F l, Sl w F 5 1 v m (l.map u8) ∧ Bl l N m ∧ Adv Nul V F w
theorem RowS.form {V w : World} {N m : Nat} {v : Value} (h : RowS V N m v w) : ∃ A c, v = .slice A m c := by
  obtain ⟨F, l, h1, _, _⟩ := h
  obtain ⟨A, c, e, _⟩ := h1.form0
  exact ⟨A, c, e⟩
theorem RowS.adv {V w : World} {N m : Nat} {v : Value} (h : RowS V N m v w) : Adv Nul V Nul w := by
  obtain ⟨F, l, _, _, h3⟩ := h
  exact h3.sub (fun _ h => h.elim)
/-- behind such bits come others -/
theorem RowS.more {V w w2 : World} {N m x n : Nat} {v v2 : Value} {F2 : Nat → Prop} {l2 : List Nat} (h : RowS V N m v w) (_s2 : Sl w2 F2 5 1 v2 n (l2.map u8)) (b2 : Bl l2 x n) (a2 : Adv Nul w F2 w2) :
    ∃ F l, Sl w2 F 5 1 v m (l.map u8) ∧ Bl l N m ∧ Adv Nul V F w2 ∧ ∀ v' w3, w3.ownsRow 0 5 1 v' (m + n) (l.map u8 ++ l2.map u8) → w2.grownBy w3 v.ownBlock → (v'.ownBlock = v.ownBlock ∨ v'.ownBlock = some w2.heap.size) → RowS V (N * 2 ^ n + x) (m + n) v' w3 := by
  obtain ⟨F, l, h1, h2, h3⟩ := h
  have h1' := h1.far a2 (fun _ h _ => h)
  have h3' := h3.over a2
  refine ⟨F, l, h1', h2, h3', fun v' w3 hown hg hat => ?_⟩
  obtain ⟨s3, _, a3⟩ := own_grown h1' h3' hown hg hat (Nat.le_refl _)
  rw [← List.map_append] at s3
  exact ⟨_, l ++ l2, s3, h2.append b2, a3⟩
theorem RowS.over {V w w' : World} {F' : Nat → Prop} {N m : Nat} {v : Value} (h : RowS V N m v w) (ha : Adv Nul w F' w') : RowS V N m v w' := by
  obtain ⟨F, l, h1, h2, h3⟩ := h
  exact ⟨F, l, h1.far ha (fun _ h _ => h), h2, h3.over ha⟩
theorem RowS.nil (V : World) : RowS V 0 0 (.slice none 0 0) V := ⟨Nul, [], Sl.nil _ _ _, Bl.nil, Adv.refl _ _⟩
end Go.Proofs.Ytpgeebhepegpaaa
namespace Go.Proofs.Ytpgeebhepegpaaa
open Go.RowKit
end Go.Proofs.Ytpgeebhepegpaaa
namespace Go.Proofs.Ytpgeebhepegpaaa
open Go.RowKit

theorem bits_int (x : Nat) (y n : Int) (w : World) (hy : y = (x : Int)) (hn0 : 0 ≤ n) (hx : x < 2 ^ n.toNat) (hn : n ≤ 64) :
    Calls Try.prog 42 #[.int .u64 y, .int .i64 n] w fun e w' => ∃ v, e = .returned v ∧ ∃ F l, Sl w' F 5 1 v n.toNat (l.map u8) ∧ Bl l x n.toNat ∧ Adv Nul w F w' := by
  obtain ⟨k, rfl⟩ := Int.eq_ofNat_of_zero_le hn0
  subst hy
  exact bits_any x k w hx (by omega)

def RTextRel (w : World) (s : ByteArray) (t3 t4 : Value) (wr : World) : Prop :=
  ∃ k l F, t4 = .int .i64 ((k : Nat) : Int) ∧ k ≤ s.size ∧ Bl l (tx s.size (s.data.toList.take k)) (16 + 8 * k) ∧ Sl wr F 5 1 t3 (16 + 8 * k) (l.map u8) ∧ Adv Nul w F wr

theorem sl_news {w : World} {F : Nat → Prop} {g c n : Nat} {xs : List Value} (h : Sl w F 5 1 (.slice (some ⟨g, 0, none⟩) n c) n xs) : ∀ j u, xs[j]? = some u → w.cell? ((⟨g, 0, none⟩ : Addr).add j) = some u := h.own.cells (g := g) rfl

set_option maxRecDepth 3000 in
set_option maxHeartbeats 1000000 in
theorem reftext_any (s : ByteArray) (w : World) (hs : s.size ≤ 65535) :
    Calls Try.prog 46 #[.string s] w fun e w' => ∃ v, e = .returned v ∧ ∃ F l, Sl w' F 5 1 v (16 + 8 * s.size) (l.map u8) ∧ Bl l (tx s.size s.data.toList) (16 + 8 * s.size) ∧ Adv Nul w F w' := by
  obtain ⟨i0, hi, hz0, hz1, hz2⟩ := info_parts Try.infoU8
  go_enter Try.func46, Try.ntmps46
  go_wp2_with (first
    | (go_at_call 42; refine (bits_int s.size _ _ _ rfl (by decide) (by simp; omega) (by decide)).mono ?_; rintro e w1 ⟨v1, rfl, F1, l1, h1, hb1, a1⟩; obtain ⟨p1, c1, rfl, _, _⟩ := h1.form0))
  have H0 : RTextRel w s (.slice p1 (16 : Int).toNat c1) (.int .i64 0) w1 := ⟨0, l1, F1, rfl, Nat.zero_le _, by simpa [tx] using hb1, h1, a1⟩
  have HH := Lib.hid H0
  clear H0 h1 hb1 a1
  go_loopw [3, 4] (RTextRel w s) (fun _ t _ => s.size - (intOf t).toNat)
  case atStart => exact HH.out
  case round =>
    clear HH
    obtain ⟨k, l, F, rfl, hk, hl, hS, hA⟩ := hrel
    obtain ⟨a5, c5, rfl, _, _⟩ := hS.form0
    have HS := Lib.hid hS
    have HA := Lib.hid hA
    have HL := Lib.hid hl
    clear hS hA hl
    by_cases hlt : k < s.size
    · have hu : s[k].toNat < 256 := s[k].toNat_lt
      go_wp2_with (first
        | (go_at_call 42; refine (bits_int s[k].toNat _ _ _ rfl (by decide) (by simp; omega) (by decide)).mono ?_; rintro e w2 ⟨v2, rfl, F2, l2, h2, hb2, a2⟩; obtain ⟨g2, c2, rfl, _, _⟩ := h2.form (by decide); have hS2 := HS.out.far a2 (fun _ h _ => h))
        | (at_builtin; refine wpList_append_own_at _ rfl (.tmp 15) (.tmp 20) 38 rfl 0 5 i0 (.int .u8 0) 1 1 Try.underlying38 hi hz0 hz1 hz2 rfl (by decide) (.slice a5 (16 + 8 * k) c5) (16 + 8 * k) _ rfl hS2.own ⟨g2, 0, none⟩ (8 : Int).toNat c2 (l2.map u8) rfl h2.own.1 (sl_news h2) (u8_one _) ?c3 ?c4 (Nat.zero_le _) ?c5)
        | fail)
      case c3 => unfold maxLen; simp; omega
      case c4 => simp; omega
      case c5 =>
        intro v' w3 hown1 hg1 _ hat1
        obtain ⟨h3, _, a3⟩ := own_grown hS2 (HA.out.over a2) hown1 hg1 hat1 (Nat.le_refl _)
        have H3 := Lib.hid h3
        have A3 := Lib.hid a3
        have HB2 := Lib.hid hb2
        clear h3 a3 hown1 hg1 hat1 hS2 h2 hb2 a2
        go_wp2
        refine ⟨⟨k + 1, l ++ l2, _, by simp, by omega, ?_, ?_, A3.out⟩, by simp [intOf] <;> omega⟩
        · have h := HL.out.append HB2.out
          rw [take_snoc s k hlt, tx_snoc]
          exact h
        · rw [List.map_append]
          exact H3.out
    · obtain rfl : k = s.size := by omega
      go_wp2
      go_ret
      have h := HL.out
      rw [List.take_of_length_le (by simp)] at h
      exact ⟨_, rfl, F, l, HS.out, h, HA.out⟩
end Go.Proofs.Ytpgeebhepegpaaa
namespace Go.Proofs.Ytpgeebhepegpaaa
open Go.ChangeShapes Go.WideShapes Go.ChangeAt Go.RowKit

set_option maxRecDepth 3000 in
theorem numOf_app (A B : List Do) : numOf (A ++ B) = numOf A * 2 ^ lenOf B + numOf B := by
  induction B using snocInd with
  | nil => simp [numOf, lenOf]
  | append_singleton B d ih => rw [← List.append_assoc, numOf_snoc, ih, lenOf_snoc, numOf_snoc, Nat.add_mul, Nat.pow_add, Nat.mul_assoc, Nat.add_assoc]
/-- the bits of these items in a slice of its own -/
def RI (V : World) (A : List Do) (v : Value) (w : World) : Prop := RowS V (numOf A) (lenOf A) v w
section
variable {V w w' w2 : World} {A B : List Do} {v v2 : Value}
set_option maxRecDepth 3000 in
theorem RI.nil (V : World) : RI V [] (.slice none 0 0) V := RowS.nil V
set_option maxRecDepth 3000 in
theorem RI.form (h : RI V A v w) : ∃ a c, v = .slice a (lenOf A) c := RowS.form h
set_option maxRecDepth 3000 in
theorem RI.adv (h : RI V A v w) : Adv Nul V Nul w := RowS.adv h
set_option maxRecDepth 3000 in
theorem RI.over {F : Nat → Prop} (h : RI V A v w) (ha : Adv Nul w F w') : RI V A v w' := RowS.over h ha
set_option maxRecDepth 3000 in
theorem RI.from_ {U : World} (h : RI V A v w) (ha : Adv Nul U Nul V) : RI U A v w := by
  obtain ⟨F, l, h1, h2, h3⟩ := h
  exact ⟨F, l, h1, h2, (ha.sub (fun _ x => x.elim)).trans (show Adv Nul V F w from h3)⟩
end
section
variable {ops : Array Oper} {rest : List Oper} {o : Oper} {a : Act} {w : World} {Q : Exit → Act → World → Prop}
set_option maxRecDepth 3000 in
/-- one row of items behind another -/
theorem op_app {V w1 : World} {A B : List Do} {v v2 : Value} (hgd : o.guard = none) (s x : Operand) (ho : o.op = .call { callee := .builtin .append, args := #[s, x], argTypes := #[38, 38] })
    (hs : a.eval s = v) (hx : a.eval x = v2) (hA : RI V A v w1) (hB : RI w1 B v2 w) (hn : lenOf A + lenOf B ≤ 1000000000)
    (h : ∀ v' w', RI V (A ++ B) v' w' → wpList Try.prog ops Q rest (a.put o.dst v') w') : wpList Try.prog ops Q (o :: rest) a w := by
  obtain ⟨F2, l2, s2, b2, a2⟩ := hB
  obtain ⟨F, l, s1, b1, a1, hm⟩ := RowS.more hA s2 b2 a2
  refine wpList_append_rd hgd s x ho hs hx s1.own s2.rd (u8_one _) hn fun v' w' hown hg hat => h v' w' ?_
  have := hm v' w' hown hg hat
  unfold RI
  rw [numOf_app, lenOf_app]
  exact this
set_option maxRecDepth 3000 in
theorem step_app {V w w1 : World} {ops : Array Oper} {o : Oper} {a : Act} {K : Act → World → Prop} {Q : Exit → Act → World → Prop} {E : Prop} {A B : List Do} {v v2 : Value} (hgd : o.guard = none) (s x : Operand)
    (ho : o.op = .call { callee := .builtin .append, args := #[s, x], argTypes := #[38, 38] }) (hs : a.eval s = v) (hx : a.eval x = v2) (hA : RI V A v w1) (hB : RI w1 B v2 w) (hn : lenOf A + lenOf B ≤ 1000000000)
    (h : ∀ v' w', RI V (A ++ B) v' w' → K (a.put o.dst v') w') :
    if Region.wanted o (yielded ops a.tmps) = true then Oper.wp Try.prog o a w K Q else E := by
  obtain ⟨F2, l2, s2, b2, a2⟩ := hB
  obtain ⟨F, l, s1, b1, a1, hm⟩ := RowS.more hA s2 b2 a2
  refine step_append_rd hgd s x ho hs hx s1.own s2.rd (u8_one _) hn fun v' w' hown hg hat => h v' w' ?_
  have := hm v' w' hown hg hat
  unfold RI
  rw [numOf_app, lenOf_app]
  exact this
end
set_option maxRecDepth 3000 in
theorem ri_bits (x n : Nat) (w : World) (hx : x < 2 ^ n) (hn : n ≤ 64) : Calls Try.prog 42 #[.int .u64 (x : Int), .int .i64 (n : Int)] w fun e w' => ∃ v, e = .returned v ∧ RI w [itD n x] v w' := by
  refine (bits_any x n w hx hn).mono ?_
  rintro e w' ⟨v, rfl, F, l, h1, h2, h3⟩
  refine ⟨v, rfl, F, l, ?_, ?_, h3⟩
  · rw [lenOf_one, itD_bits]; exact h1
  · rw [lenOf_one, itD_bits, show numOf [itD n x] = x from by simp [numOf, itD_bits, itD_num]]; exact h2
set_option maxRecDepth 3000 in
theorem ri_text (s : ByteArray) (w : World) (hs : s.size ≤ 65535) : Calls Try.prog 46 #[.string s] w fun e w' => ∃ v, e = .returned v ∧ RI w [txD s] v w' := by
  refine (reftext_any s w hs).mono ?_
  rintro e w' ⟨v, rfl, F, l, h1, h2, h3⟩
  refine ⟨v, rfl, F, l, ?_, ?_, h3⟩
  · rw [lenOf_one, txD_bits]; exact h1
  · rw [lenOf_one, txD_bits, show numOf [txD s] = tx s.size s.data.toList from by simp [numOf, txD_bits, txD_num]]; exact h2
set_option maxRecDepth 3000 in
theorem ri_bytes {V w : World} {A : List Do} {v : Value} (h : RI V A v w) (hm : lenOf A ≤ 1000000) :
    Calls Try.prog 47 #[v] w fun e w' => ∃ v' F', e = .returned v' ∧ Sl w' F' 5 1 v' (qn (lenOf A)) ((rowOf (numOf A) (lenOf A)).map u8) ∧ Adv Nul V F' w' := by
  obtain ⟨F, l, h1, h2, h3⟩ := h
  refine (bytes_any v _ _ l F w h1 h2 (by omega)).mono ?_
  rintro e w' ⟨v', rfl, F', s9, a9⟩
  exact ⟨v', F', rfl, s9, (h3.sub (G := Nul) (fun _ h => h.elim)).trans a9⟩
/-- the document's bits of a file -/
def wiF (i g : Int) : List Do := [itD 6 (u64n i), itD 31 (u64n g)]
set_option maxRecDepth 3000 in
set_option maxHeartbeats 1600000 in
theorem file17_any (i g : Int) (h : flP i g) (w : World) : Calls Try.prog 45 #[.agg #[.int .i64 i, .int .i64 g]] w fun e w' => ∃ v, e = .returned v ∧ RI w (wiF i g) v w' := by
  unfold flP at h
  obtain ⟨x, hx⟩ : ∃ x, x = u64n i := ⟨_, rfl⟩
  obtain ⟨y, hy⟩ : ∃ y, y = u64n g := ⟨_, rfl⟩
  have hci : IntKind.u64.wrap i = (x : Int) := by rw [hx, wrap_u64n]
  have hcg : IntKind.u64.wrap g = (y : Int) := by rw [hy, wrap_u64n]
  have HX := Lib.hid (show x < 2 ^ 6 by rw [hx]; exact u64n_lt_of (n := 64) (by omega) (by omega) (by decide))
  have HY := Lib.hid (show y < 2 ^ 31 by rw [hy]; exact u64n_lt_of (n := 2147483648) (by omega) (by omega) (by decide))
  have HW := Lib.hid (show wiF i g = [itD 6 x] ++ [itD 31 y] by unfold wiF; rw [hx, hy]; rfl)
  have HA := Lib.hid ((Adv.refl Nul w).alloc (.cells #[.int .i64 i, .int .i64 g] 25))
  clear hx hy h
  go_enter Try.func45, Try.ntmps45
  obtain ⟨z, hz⟩ : ∃ z, z = w.heap.size := ⟨_, rfl⟩
  obtain ⟨U, hU⟩ : ∃ U, U = w.alloc (.cells #[.int .i64 i, .int .i64 g] 25) := ⟨_, rfl⟩
  have HU := Lib.hid hU
  have HZ := Lib.hid hz
  have HB := Lib.hid (show Blk U z 25 #[.int .i64 i, .int .i64 g] by rw [hU, hz]; exact Blk.new _ _ _)
  have HAU := Lib.hid (show Adv Nul w Nul U by rw [hU]; exact HA.out)
  have HK := Lib.hid (fun (w' : World) (h : Adv Nul U Nul w') => show w'.cell? ⟨z, 0, none⟩ = some (.int .i64 i) ∧ w'.cell? ⟨z, 1, none⟩ = some (.int .i64 g) from
    have e := HB.out.over h
    ⟨e.cell 0, e.cell 1⟩)
  clear hU hz
  go_upto_region 1 with (fail)
  rw [← HU.out, ← HZ.out]
  have K0 := Lib.hid (HK.out _ (Adv.refl Nul U).drew)
  refine rstart (S := (fun w' => w'.cell? ⟨z, 0, none⟩ = some (.int .i64 i) ∧ w'.cell? ⟨z, 1, none⟩ = some (.int .i64 g))) (by first | with_reducible exact K3.out | with_reducible exact K2.out | with_reducible exact K1.out | with_reducible exact K0.out) (fun hH => ?_)
  refine tk (i := 0) (oi := ⟨some 3, .fieldAddr 25 (.tmp 1) 0, 0, "ref.go:18", #[], none⟩) hH.out (by rintro w ⟨s0, s1⟩; go_simp <;> with_reducible rfl) ?_
  simp only [Act.put, sA, sB, sC]
  refine tk (i := 1) (oi := ⟨some 4, .load 3 (.tmp 3), 3, "ref.go:18", #[⟨0, .data⟩], none⟩) hH.out (by rintro w ⟨s0, s1⟩; go_simp <;> with_reducible rfl) ?_
  simp only [Act.put, sA, sB, sC]
  refine tk (i := 2) (oi := ⟨some 5, .convert 3 22 (.tmp 4), 22, "ref.go:18", #[⟨1, .data⟩], none⟩) hH.out (by rintro w ⟨s0, s1⟩; go_simp <;> with_reducible rfl) ?_
  simp only [Act.put, sA, sB, sC]
  refine tk (i := 4) (oi := ⟨some 7, .fieldAddr 25 (.tmp 1) 1, 0, "ref.go:18", #[], none⟩) hH.out (by rintro w ⟨s0, s1⟩; go_simp <;> with_reducible rfl) ?_
  simp only [Act.put, sA, sB, sC]
  refine tk (i := 5) (oi := ⟨some 8, .load 3 (.tmp 7), 3, "ref.go:18", #[⟨4, .data⟩], none⟩) hH.out (by rintro w ⟨s0, s1⟩; go_simp <;> with_reducible rfl) ?_
  simp only [Act.put, sA, sB, sC]
  refine tk (i := 6) (oi := ⟨some 9, .convert 3 22 (.tmp 8), 22, "ref.go:18", #[⟨5, .data⟩], none⟩) hH.out (by rintro w ⟨s0, s1⟩; go_simp <;> with_reducible rfl) ?_
  simp only [Act.put, sA, sB, sC]
  refine rdy (i := 3) (oi := ⟨some 6, .call ⟨.value (.func 42), #[.tmp 5, .const (Go.Value.int Go.IntKind.i64 6)], #[22, 3]⟩, 38, "ref.go:18", #[⟨2, .data⟩], none⟩) (fun K hK => ?_)
  go_simp
  refine (ri_bits x 6 _ HX.out (by decide)).mono ?_
  rintro e w1 ⟨v1, rfl, r1⟩
  have R1 := Lib.hid r1
  have K1 := Lib.hid (HK.out _ ((Adv.refl Nul U).drew.trans r1.adv))
  have A1 := Lib.hid ((Adv.refl Nul U).drew.trans r1.adv)
  clear r1
  go_wp2_with fail
  refine hK.out _ _ (by first | with_reducible exact K3.out | with_reducible exact K2.out | with_reducible exact K1.out | with_reducible exact K0.out) (fun hHeld => ?_)
  replace hH := Lib.hid hHeld
  clear hK K hHeld
  try simp only [Act.put, sA, sB, sC]
  refine rdy (i := 7) (oi := ⟨some 10, .call ⟨.value (.func 42), #[.tmp 9, .const (Go.Value.int Go.IntKind.i64 31)], #[22, 3]⟩, 38, "ref.go:18", #[⟨6, .data⟩, ⟨3, .chain⟩], none⟩) (fun K hK => ?_)
  go_simp
  refine (ri_bits y 31 _ HY.out (by decide)).mono ?_
  rintro e w2 ⟨v2, rfl, r2⟩
  have R2 := Lib.hid r2
  have K2 := Lib.hid (HK.out _ (A1.out.trans r2.adv))
  clear r2
  go_wp2_with fail
  refine hK.out _ _ (by first | with_reducible exact K3.out | with_reducible exact K2.out | with_reducible exact K1.out | with_reducible exact K0.out) (fun hHeld => ?_)
  replace hH := Lib.hid hHeld
  clear hK K hHeld
  try simp only [Act.put, sA, sB, sC]
  refine rdy (i := 8) (oi := ⟨some 11, .call ⟨.builtin .append, #[.tmp 6, .tmp 10], #[38, 38]⟩, 38, "ref.go:18", #[⟨3, .data⟩, ⟨7, .data⟩, ⟨7, .chain⟩], none⟩) (fun K hK => ?_)
  refine step_app rfl (.tmp 6) (.tmp 10) rfl rfl rfl R1.out R2.out (by simp [lenOf, itD_bits]) ?_
  intro v3 w3 r3
  have R3 := Lib.hid r3
  have K3 := Lib.hid (HK.out _ ((Adv.refl Nul U).drew.trans r3.adv))
  clear r3
  refine hK.out _ _ (by first | with_reducible exact K3.out | with_reducible exact K2.out | with_reducible exact K1.out | with_reducible exact K0.out) (fun hHeld => ?_)
  replace hH := Lib.hid hHeld
  clear hK K hHeld
  try simp only [Act.put, sA, sB, sC]
  refine tk (i := 9) (oi := ⟨some 2, .assign (.tmp 11), 38, "ref.go:18", #[⟨8, .data⟩, ⟨8, .chain⟩, ⟨0, .phase⟩, ⟨1, .phase⟩, ⟨2, .phase⟩, ⟨3, .phase⟩, ⟨4, .phase⟩, ⟨5, .phase⟩, ⟨6, .phase⟩, ⟨7, .phase⟩, ⟨8, .phase⟩], none⟩) hH.out (by rintro w ⟨s0, s1⟩; go_simp <;> with_reducible rfl) ?_
  simp only [Act.put, sA, sB, sC]
  refine wpAnyH_done (by kernel_rfl) ?_ _
  go_wp2_with fail
  go_ret
  rw [HW.out]
  exact ⟨v3, rfl, R3.out.from_ HAU.out.drew⟩
end Go.Proofs.Ytpgeebhepegpaaa
namespace Go.Proofs.Ytpgeebhepegpaaa
open Go.ChangeShapes Go.WideShapes Go.ChangeAt Go.RowKit

theorem len_it (n x : Nat) : lenOf [itD n x] = n := by rw [lenOf_one, itD_bits]
theorem len_tx (s : ByteArray) : lenOf [txD s] = 16 + 8 * s.size := by rw [lenOf_one, txD_bits]
theorem len_wiF (i g : Int) : lenOf (wiF i g) = 37 := by simp [wiF, lenOf, itD_bits]
/-- a message's bytes in new memory, or none -/
def EncM (w : World) (m : Ms) (e : Ending) (w' : World) : Prop :=
  ∃ A n c F, e = .returned (.tuple #[.slice A n c, .int .i64 (if isM m = true then 0 else 4)]) ∧ Adv Nul w F w' ∧ (isM m = true → n = (wiB m).length ∧ Sl w' F 5 1 (.slice A n c) n ((wiB m).map u8)) ∧ (¬ isM m = true → A = none ∧ n = 0 ∧ c = 0)
theorem EncM.no {w w' : World} {m : Ms} (h : isM m = false) (ha : Adv Nul w Nul w') : EncM w m (.returned (.tuple #[.slice none 0 0, .int .i64 4])) w' :=
  ⟨none, 0, 0, Nul, by rw [h]; rfl, ha, fun o => (by rw [h] at o; cases o), fun _ => ⟨rfl, rfl, rfl⟩⟩
theorem EncM.yes {w w' : World} {m : Ms} {F : Nat → Prop} {A : Option Addr} {n c : Nat} (h : isM m = true) (hn : n = (wiB m).length) (hs : Sl w' F 5 1 (.slice A n c) n ((wiB m).map u8)) (ha : Adv Nul w F w') : EncM w m (.returned (.tuple #[.slice A n c, .int .i64 0])) w' :=
  ⟨A, n, c, F, by rw [if_pos h], ha, fun _ => ⟨hn, hs⟩, fun o => absurd h o⟩
theorem wq_les {m : Ms} {s : List Nat} (h : lenOf (wi8 m s) ≤ 5600) : lenOf (wiH m) ≤ 5600 ∧ lenOf (wq1 m s) ≤ 5600 ∧ lenOf (wq2 m s) ≤ 5600 ∧ lenOf (wq3 m s) ≤ 5600 ∧ lenOf (wq4 m s) ≤ 5600 ∧ lenOf (wq5 m s) ≤ 5600 ∧ lenOf (wq6 m s) ≤ 5600 ∧ lenOf (wq7 m s) ≤ 5600 ∧ lenOf (wq8 m s) ≤ 5600 := by
  rw [wq_all] at h
  have e8 := lenOf_app (wq7 m s) (wf8 m s)
  have e7 := lenOf_app (wq6 m s) (wf7 m s)
  have e6 := lenOf_app (wq5 m s) (wf6 m s)
  have e5 := lenOf_app (wq4 m s) (wf5 m s)
  have e4 := lenOf_app (wq3 m s) (wf4 m s)
  have e3 := lenOf_app (wq2 m s) (wf3 m s)
  have e2 := lenOf_app (wq1 m s) (wf2 m s)
  have e1 := lenOf_app (wiH m) (wf1 m s)
  have k8 : lenOf (wq8 m s) = lenOf (wq7 m s) + lenOf (wf8 m s) := e8
  have k7 : lenOf (wq7 m s) = lenOf (wq6 m s) + lenOf (wf7 m s) := e7
  have k6 : lenOf (wq6 m s) = lenOf (wq5 m s) + lenOf (wf6 m s) := e6
  have k5 : lenOf (wq5 m s) = lenOf (wq4 m s) + lenOf (wf5 m s) := e5
  have k4 : lenOf (wq4 m s) = lenOf (wq3 m s) + lenOf (wf4 m s) := e4
  have k3 : lenOf (wq3 m s) = lenOf (wq2 m s) + lenOf (wf3 m s) := e3
  have k2 : lenOf (wq2 m s) = lenOf (wq1 m s) + lenOf (wf2 m s) := e2
  have k1 : lenOf (wq1 m s) = lenOf (wiH m) + lenOf (wf1 m s) := e1
  omega
theorem wq_len8 {m : Ms} (h : isM m = true) : lenOf (wi8 m (letM m.ty m.kd m.er)) ≤ 5600 := by
  have h1 := wiL_len h
  unfold wiL at h1
  rw [lenOf_app] at h1
  omega
theorem wf9_len {m : Ms} {s : List Nat} (h : lenOf (wq8 m s ++ wf9 m s) ≤ 5600) (hs : 101 ∈ s) (k : Nat) : lenOf (wq8 m s ++ [itD 5 m.en.length] ++ (m.en.take k).flatMap wiE) ≤ 5600 := by
  have e : m.en.flatMap wiE = (m.en.take k).flatMap wiE ++ (m.en.drop k).flatMap wiE := by rw [← List.flatMap_append, List.take_append_drop]
  have e2 : wf9 m s = [itD 5 m.en.length] ++ (m.en.take k).flatMap wiE ++ (m.en.drop k).flatMap wiE := by
    unfold wf9
    rw [if_pos hs, e]
    simp
  rw [e2, ← List.append_assoc, lenOf_app, ← List.append_assoc] at h
  omega
theorem wiE_next {l : List En} {k : Nat} (hk : k < l.length) : (l.take (k + 1)).flatMap wiE = (l.take k).flatMap wiE ++ wiE l[k] := by
  rw [List.take_succ_eq_append_getElem hk, List.flatMap_append, List.flatMap_singleton]
end Go.Proofs.Ytpgeebhepegpaaa
