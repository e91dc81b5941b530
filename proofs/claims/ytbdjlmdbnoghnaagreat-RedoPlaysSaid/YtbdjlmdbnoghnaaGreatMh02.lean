/- Memory in pieces: bytes copied into a row, bytes compared. The sum in two halves: what its calls answer. A piece's sector: the program's Seal. -/
import Derived.Test.YtbdjlmdbnoghnaaGreatMh01
import Derived.Test.YtbdjlmdbnoghnaaGreatMh00
namespace Go.Proofs.YtbdjlmdbnoghnaaGreat
open Go.RowKit

set_option maxRecDepth 3000 in
theorem step_copy_rd {P : Program} {w : World} {ops : Array Oper} {o : Oper} {a : Act} {K : Act → World → Prop} {Q : Exit → Act → World → Prop} {E : Prop} (hgd : o.guard = none) (d s : Operand) (dT sT : TypeId)
    (ho : o.op = .call { callee := .builtin .copy, args := #[d, s], argTypes := #[dT, sT] }) (elem : TypeId) (hu : P.underlying dT = some (.slice elem)) (hsz : (P.info? elem).map (·.size) = some 1)
    (b off dLen dCap m : Nat) (src : Value) (hd : a.eval d = .slice (some ⟨b, off, none⟩) dLen dCap) (hs : a.eval s = src)
    (cs : List Value) (hr : Rd w 1 src m cs) (hn : m ≤ dLen) (ht : w.there b off m) (h1 : ∀ v ∈ cs, v.oneCell' = true)
    (h : K (a.put o.dst (goInt cs.length)) (w.setCells b off cs)) :
    if Region.wanted o (yielded ops a.tmps) = true then Oper.wp P o a w K Q else E := by
  obtain ⟨A, c, rfl, hmc, _, hl, _, hc⟩ := hr
  have hl' : cs.length = m := by simpa using hl
  by_cases h0 : 0 < m
  · obtain ⟨ad, rfl, _, hcell⟩ := hc h0
    exact lstep_copy_cells hgd d s dT sT ho elem hu hsz b off dLen dCap m c ad hd hs cs (by rw [hl']; exact (Nat.min_eq_left hn).symm) hcell (by rw [hl']; exact ht) h1 h
  · obtain rfl : m = 0 := by omega
    obtain rfl : cs = [] := List.eq_nil_of_length_eq_zero hl'
    have hw : Region.wanted o (yielded ops a.tmps) = true := by simp [Region.wanted, hgd]
    rw [if_pos hw]
    have hrun := run_copy_none (P := P) w dT sT o.type elem (some ⟨b, off, none⟩) A dLen dCap 0 c hu hsz (Nat.zero_min _)
    unfold Oper.wp
    simp [execOp, ho, resolve, invoke, builtin, hd, hs, hrun, Result.andThen]
    exact h

set_option maxRecDepth 3000 in
theorem putAt_cons {L : List Nat} {o x : Nat} {l : List Nat} (h : o + (l.length + 1) ≤ L.length) : putAt (L.set o x) (o + 1) l = putAt L o (x :: l) := by
  have ho : o < L.length := by omega
  unfold putAt
  rw [List.set_eq_take_append_cons_drop, if_pos ho]
  have e1 : (L.take o ++ x :: L.drop (o + 1)).take (o + 1) = L.take o ++ [x] := by
    rw [List.take_append, List.length_take, Nat.min_eq_left (by omega), List.take_of_length_le (by rw [List.length_take]; omega), show o + 1 - o = 1 by omega]
    simp
  have e2 : (L.take o ++ x :: L.drop (o + 1)).drop (o + 1 + l.length) = L.drop (o + (l.length + 1)) := by
    rw [List.drop_append, List.length_take, Nat.min_eq_left (by omega), List.drop_of_length_le (by rw [List.length_take]; omega), show o + 1 + l.length - o = l.length + 1 by omega]
    simp only [List.nil_append, List.drop_succ_cons, List.drop_drop]
    congr 1; omega
  rw [e1, e2, List.append_assoc, List.append_assoc, List.append_assoc]
  simp
set_option maxRecDepth 3000 in
theorem Sl.setCells8 {F : Nat → Prop} {g N c : Nat} : ∀ (l : List Nat) (o : Nat) (L : List Nat) (w : World), Sl w F 5 1 (.slice (some ⟨g, 0, none⟩) N c) N (L.map u8) → o + l.length ≤ N →
    Sl (w.setCells g o (l.map u8)) F 5 1 (.slice (some ⟨g, 0, none⟩) N c) N ((putAt L o l).map u8)
  | [], o, L, w, h, _ => by simpa [World.setCells, putAt] using h
  | x :: l, o, L, w, h, hl => by
    have hL : L.length = N := by have := h.own.1; simpa using this
    rw [List.length_cons] at hl
    have h1 := h.set8 o x (x : Int) rfl
    have h2 := Sl.setCells8 l (o + 1) (L.set o x) _ h1 (by omega)
    rw [putAt_cons (by omega)] at h2
    exact h2
set_option maxRecDepth 3000 in
theorem Sl.there8 {w : World} {F : Nat → Prop} {g N c o m : Nat} {L : List Nat} (h : Sl w F 5 1 (.slice (some ⟨g, 0, none⟩) N c) N (L.map u8)) (hm : o + m ≤ N) : w.there g o m := fun j hj => by
  have hL : L.length = N := by have := h.own.1; simpa using this
  exact ⟨by rw [h.at8 (k := o + j) (by omega) (by omega)]; rfl, h.own.frozenAt (o + j)⟩

/-- bytes as a text -/
def txt (l : List Nat) : ByteArray := strOfNums (l.map Int.ofNat)
set_option maxRecDepth 3000 in
theorem txt_inj {a b : List Nat} (ha : ∀ x ∈ a, x < 256) (hb : ∀ x ∈ b, x < 256) (h : txt a = txt b) : a = b := by
  have h1 := congrArg (fun s => s.data.toList) h
  simp only [txt, strOfNums_data, List.map_map] at h1
  have e : ∀ l : List Nat, (∀ x ∈ l, x < 256) → l = ((l.map ((fun n : Int => UInt8.ofNat n.toNat) ∘ Int.ofNat)).map UInt8.toNat) := fun l hl => by
    rw [List.map_map]
    conv => lhs; rw [← List.map_id l]
    refine List.map_congr_left fun x hx => ?_
    have := hl x hx
    simp [Function.comp]
    omega
  rw [e a ha, e b hb, h1]
set_option maxRecDepth 3000 in
theorem convert_rd {w : World} {A : Option Addr} {n c : Nat} {l : List Nat} (h : Rd w 1 (.slice A n c) n (l.map u8)) : (convert 53 9 (.slice A n c)).run Tryz.prog w = .ok (.string (txt l)) w := by
  have hl : l.length = n := by obtain ⟨_, _, _, _, _, h, _⟩ := h; simpa using h
  obtain ⟨A', c', e, _, _, _, hA, hc⟩ := h
  injection e with e1 e2 e3
  subst e1 e3
  by_cases h0 : 0 < n
  · obtain ⟨ad, rfl, hb, hcell⟩ := hc h0
    obtain ⟨b, o, spot⟩ := ad
    have h00 := hcell 0 _ (List.getElem?_eq_getElem (by simp; omega))
    have hspot : spot = none := by simpa [Addr.add] using World.cell?_spot h00
    subst hspot
    refine run_convert_bytes_arg (P := Tryz.prog) w 53 5 Tryz.underlying53 Tryz.underlying5 b o n c (l.map Int.ofNat) (by simp [hl]) (fun i hi => ?_) 9 Tryz.underlying9
    have h := hcell i (u8 l[i]) (by rw [List.getElem?_map, List.getElem?_eq_getElem (by omega)]; rfl)
    rw [add_none] at h
    rw [h, List.getD_eq_getElem?_getD, List.getElem?_map, List.getElem?_eq_getElem (by omega)]
    rfl
  · obtain rfl : n = 0 := by omega
    obtain rfl : l = [] := List.eq_nil_of_length_eq_zero hl
    have := run_convert_bytes_string (P := Tryz.prog) w 53 9 5 A 0 c Tryz.underlying53 Tryz.underlying5 Tryz.underlying9
    rw [this]
    cases A with
    | none => simp [Conv.bytesToString]; rfl
    | some ad =>
      rw [run_bytesToString w ad 0 c [] (by simpa using run_loadCells_list (P := Tryz.prog) w ad [] (by simp))]
      rfl

set_option maxRecDepth 3000 in
theorem equal_any (v1 v2 : Value) (n1 n2 : Nat) (l1 l2 : List Nat) (w : World) (h1 : Rd w 1 v1 n1 (l1.map u8)) (h2 : Rd w 1 v2 n2 (l2.map u8)) (hl1 : ∀ x ∈ l1, x < 256) (hl2 : ∀ x ∈ l2, x < 256) :
    Calls Tryz.prog 117 #[v1, v2] w fun e w' => e = .returned (.bool (decide (l1 = l2))) ∧ w = w' := by
  obtain ⟨A1, c1, rfl, _, _⟩ := h1.form
  obtain ⟨A2, c2, rfl, _, _⟩ := h2.form
  have e1 := convert_rd h1
  have e2 := convert_rd h2
  have e : ((txt l1).toList == (txt l2).toList) = decide (l1 = l2) := by
    by_cases h : l1 = l2
    · subst h; simp
    · rw [decide_eq_false h, beq_eq_false_iff_ne]
      refine fun h' => h (txt_inj hl1 hl2 ?_)
      rw [ByteArray.toList_eq, ByteArray.toList_eq] at h'
      exact ByteArray.ext (Array.ext' h')
  obtain ⟨s1, hs1⟩ : ∃ s, s = txt l1 := ⟨_, rfl⟩
  obtain ⟨s2, hs2⟩ : ∃ s, s = txt l2 := ⟨_, rfl⟩
  rw [← hs1] at e1 e
  rw [← hs2] at e2 e
  rw [← e]
  clear h1 h2 hl1 hl2 hs1 hs2 e
  go_enter Tryz.func117, Tryz.ntmps117
  go_wp2
  go_ret
  exact ⟨rfl, rfl⟩
end Go.Proofs.YtbdjlmdbnoghnaaGreat
namespace Go.Proofs.YtbdjlmdbnoghnaaGreat
open Go.RowKit

set_option maxRecDepth 3000 in
theorem low_any (s : Nat) (w : World) (h : s < 4294967296) : Calls Tryz.prog 130 #[.int .u32 s] w fun e w' => e = .returned (.int .u32 ((s % 65536 : Nat) : Int)) ∧ w = w' := by
  have e : bits .and .u32 (s : Int) 65535 = ((s % 65536 : Nat) : Int) := by
    have h1 := u32_and_nat s 65535 h (by decide)
    rw [Nat.and_two_pow_sub_one_eq_mod s 16] at h1
    exact h1
  go_enter Tryz.func130, Tryz.ntmps130
  go_wp2
  go_ret
  exact ⟨rfl, rfl⟩

set_option maxRecDepth 3000 in
theorem high_any (s : Nat) (w : World) : Calls Tryz.prog 131 #[.int .u32 s] w fun e w' => e = .returned (.int .u32 ((s / 65536 : Nat) : Int)) ∧ w = w' := by
  go_enter Tryz.func131, Tryz.ntmps131
  go_wp2
  go_ret
  exact ⟨rfl, rfl⟩

def AddRel (p : Nat × Nat) (l : List Nat) (kind : IntKind) (t5 t6 t17 : Value) : Prop :=
  ∃ k a b : Nat, k ≤ l.length ∧ t17 = .int .i64 (k : Int) ∧ t5 = .int kind (a : Int) ∧ t6 = .int kind (b : Int) ∧ fsum p (l.take k) = (a, b) ∧ a < 65535 ∧ b < 65535

theorem take_next {l : List Nat} {k a b : Nat} {p : Nat × Nat} (h : k < l.length) (e : fsum p (l.take k) = (a, b)) : fsum p (l.take (k + 1)) = ((a + l[k]) % 65535, (b + (a + l[k]) % 65535) % 65535) := by
  rw [List.take_succ_eq_append_getElem h, fsum_snoc, e]; rfl

theorem u32_join (a b : Nat) (ha : a < 65535) (hb : b < 65535) : bits .or .u32 ((b : Int) * 65536) (a : Int) = ((fnum (b, a).swap : Nat) : Int) := by
  have h1 := u32_or_nat (b * 65536) a (by omega) (by omega)
  rw [Go.nat_join 16 _ _ (by omega) (by omega)] at h1
  exact h1

set_option maxRecDepth 3000 in
set_option maxHeartbeats 400000 in
theorem fadd_any (s : Nat) (v : Value) (l : List Nat) (w : World) (h : s < 4294967296) (hv : Rd w 1 v l.length (l.map u8)) (hl : ∀ x ∈ l, x < 256) :
    Calls Tryz.prog 126 #[.int .u32 s, v] w fun e w' => e = .returned (.int .u32 ((fnum (fsum (fof s) l) : Nat) : Int)) ∧ w = w' := by
  obtain ⟨A, c, rfl, hlc, hcm⟩ := hv.form
  unfold maxLen at hcm
  have HV := Lib.hid hv
  have HL := Lib.hid hl
  obtain ⟨n, hn⟩ : ∃ n, n = l.length := ⟨_, rfl⟩
  rw [← hn] at hlc HV ⊢
  have HN := Lib.hid hn
  clear hv hl hn
  go_enter Tryz.func126, Tryz.ntmps126
  go_wp2_with (first
    | (go_at_call 130; refine (low_any _ _ h).mono ?_; rintro e w1 ⟨rfl, rfl⟩)
    | (go_at_call 131; refine (high_any _ _).mono ?_; rintro e w1 ⟨rfl, rfl⟩))
  go_loop [5, 6, 17] (AddRel (fof s) l .u32) (fun _ _ t => n - (intOf t).toNat)
  case atStart => exact ⟨0, s % 65536 % 65535, s / 65536 % 65535, Nat.zero_le _, rfl, rfl, rfl, rfl, Nat.mod_lt _ (by decide), Nat.mod_lt _ (by decide)⟩
  case round =>
    obtain ⟨k, a, b, hk, rfl, rfl, rfl, he, ha, hb⟩ := hrel
    rw [← HN.out] at hk
    have HE := Lib.hid he
    clear he
    by_cases hlt : k < n
    · obtain ⟨g, o, rfl, _, hc⟩ := HV.out.cells (by omega) (by decide)
      have hkl : k < l.length := by have := HN.out; omega
      have c1 : w.cell? ⟨g, o + k, none⟩ = some (.int .u8 (l[k] : Int)) := hc k _ (by rw [List.getElem?_map, List.getElem?_eq_getElem hkl]; rfl)
      obtain ⟨x, hx⟩ : ∃ x, x = l[k] := ⟨_, rfl⟩
      have hx256 : x < 256 := by rw [hx]; exact HL.out _ (List.getElem_mem _)
      have HT := Lib.hid (take_next hkl HE.out)
      rw [← hx] at c1 HT
      have HKL := Lib.hid hkl
      clear hc hx hkl
      go_wp2
      go_round
      case rel => exact ⟨k + 1, _, _, HKL.out, by go_num, by go_num, by go_num, HT.out, Nat.mod_lt _ (by decide), Nat.mod_lt _ (by decide)⟩
      case measure => simp [intOf]; omega
    · obtain rfl : k = n := by omega
      have hj := u32_join a b ha hb
      have e : fsum (fof s) l = (a, b) := by
        rw [← HE.out, List.take_of_length_le (by have := HN.out; omega)]
      have HEE := Lib.hid e
      clear e
      go_wp2
      go_ret
      rw [HEE.out]
      exact ⟨rfl, rfl⟩

set_option maxRecDepth 3000 in
theorem fsum_any (v : Value) (l : List Nat) (w : World) (hv : Rd w 1 v l.length (l.map u8)) (hl : ∀ x ∈ l, x < 256) :
    Calls Tryz.prog 110 #[v] w fun e w' => e = .returned (.int .u32 ((fnum (fsum (0, 0) l) : Nat) : Int)) ∧ w = w' := by
  have HV := Lib.hid hv
  have HL := Lib.hid hl
  clear hv hl
  go_enter Tryz.func110, Tryz.ntmps110
  go_wp2_with (first
    | (go_at_call 126; refine (fadd_any 0 _ l _ (by decide) HV.out HL.out).mono ?_; rintro e w1 ⟨rfl, rfl⟩))
  go_ret
  exact ⟨rfl, rfl⟩

theorem add_mod2 (a b x : Nat) : (b + (a + x) % 65535) % 65535 = (b + (a + x)) % 65535 := by omega

set_option maxRecDepth 3000 in
set_option maxHeartbeats 400000 in
theorem radd_any (s : Nat) (v : Value) (l : List Nat) (w : World) (h : s < 4294967296) (hv : Rd w 1 v l.length (l.map u8)) (hl : ∀ x ∈ l, x < 256) :
    Calls Tryz.prog 85 #[.int .u32 s, v] w fun e w' => e = .returned (.int .u32 ((fnum (fsum (fof s) l) : Nat) : Int)) ∧ w = w' := by
  obtain ⟨A, c, rfl, hlc, hcm⟩ := hv.form
  unfold maxLen at hcm
  have HV := Lib.hid hv
  have HL := Lib.hid hl
  obtain ⟨n, hn⟩ : ∃ n, n = l.length := ⟨_, rfl⟩
  rw [← hn] at hlc HV ⊢
  have HN := Lib.hid hn
  clear hv hl hn
  go_enter Tryz.func85, Tryz.ntmps85
  go_wp2_with fail
  go_loop [5, 6, 7] (AddRel (fof s) l .u64) (fun _ _ t => n - (intOf t).toNat)
  case atStart => exact ⟨0, s % 65536 % 65535, s / 65536 % 65535, Nat.zero_le _, rfl, rfl, rfl, rfl, Nat.mod_lt _ (by decide), Nat.mod_lt _ (by decide)⟩
  case round =>
    obtain ⟨k, a, b, hk, rfl, rfl, rfl, he, ha, hb⟩ := hrel
    rw [← HN.out] at hk
    have HE := Lib.hid he
    clear he
    by_cases hlt : k < n
    · obtain ⟨g, o, rfl, _, hc⟩ := HV.out.cells (by omega) (by decide)
      have hkl : k < l.length := by have := HN.out; omega
      have c1 : w.cell? ⟨g, o + k, none⟩ = some (.int .u8 (l[k] : Int)) := hc k _ (by rw [List.getElem?_map, List.getElem?_eq_getElem hkl]; rfl)
      obtain ⟨x, hx⟩ : ∃ x, x = l[k] := ⟨_, rfl⟩
      have hx256 : x < 256 := by rw [hx]; exact HL.out _ (List.getElem_mem _)
      have ht := take_next hkl HE.out
      rw [← hx] at c1 ht
      rw [add_mod2] at ht
      have HT := Lib.hid ht
      have HKL := Lib.hid hkl
      clear hc hx hkl ht
      go_wp2
      exact ⟨⟨k + 1, _, _, HKL.out, by go_num, by go_num, by go_num, HT.out, Nat.mod_lt _ (by decide), Nat.mod_lt _ (by decide)⟩, by simp [intOf]; omega⟩
    · obtain rfl : k = n := by omega
      have e : fsum (fof s) l = (a, b) := by
        rw [← HE.out, List.take_of_length_le (by have := HN.out; omega)]
      have HEE := Lib.hid e
      clear e
      go_wp2
      go_ret
      rw [HEE.out]
      exact ⟨rfl, rfl⟩
end Go.Proofs.YtbdjlmdbnoghnaaGreat
namespace Go.Proofs.YtbdjlmdbnoghnaaGreat
open Go.RowKit

theorem putAt_mid {a x b y : List Nat} {n : Nat} (hn : a.length = n) (h : y.length = x.length) : putAt (a ++ (x ++ b)) n y = a ++ (y ++ b) := by
  subst hn
  unfold putAt
  rw [List.take_left' rfl, h, ← List.append_assoc, ← List.length_append, List.drop_left' rfl, List.append_assoc]
/-- what is laid by and by -/
def lay1 (p : Pc) : List Nat := putAt (List.replicate 128 0) 0 (be 8 (stamp p.e p.c))
def lay2 (p : Pc) : List Nat := ((lay1 p).set 8 (flg p.f p.g)).set 9 p.d.length
def lay3 (p : Pc) : List Nat := putAt (lay2 p) 10 p.d
def lay4 (p : Pc) : List Nat := putAt (lay3 p) 116 (be 4 (fnum (fsum (0, 0) ((lay3 p).take 116))))
def lay5 (p : Pc) : List Nat := putAt (lay4 p) 120 (be 8 (stamp p.e p.c))
theorem lay2_eq (p : Pc) : lay2 p = (be 8 (stamp p.e p.c) ++ [flg p.f p.g, p.d.length]) ++ List.replicate 118 0 := by
  have e : List.replicate 128 0 = [] ++ (List.replicate 8 0 ++ List.replicate 120 0) := by simp
  unfold lay2 lay1
  rw [e, putAt_mid (n := 0) rfl (by simp [be_length]), List.nil_append, List.set_append_right _ _ (by simp [be_length]), List.set_append_right _ _ (by simp [be_length]), be_length, List.append_assoc]
  rfl
theorem lay3_eq {p : Pc} (h : p.d.length ≤ 106) : lay3 p = front p ++ List.replicate 12 0 := by
  have e : List.replicate 118 0 = List.replicate p.d.length 0 ++ (List.replicate (106 - p.d.length) 0 ++ List.replicate 12 0) := by
    rw [List.replicate_append_replicate, List.replicate_append_replicate]; congr 1; omega
  unfold lay3
  rw [lay2_eq, e, putAt_mid (by simp [be_length]) (by simp)]
  simp [front]
theorem lay3_front {p : Pc} (h : p.d.length ≤ 106) : (lay3 p).take 116 = front p := by
  rw [lay3_eq h, List.take_left' (front_length h)]
theorem lay4_eq {p : Pc} (h : p.d.length ≤ 106) : lay4 p = (front p ++ be 4 (fnum (fsum (0, 0) (front p)))) ++ List.replicate 8 0 := by
  have e : List.replicate 12 0 = List.replicate 4 0 ++ List.replicate 8 0 := by decide
  unfold lay4
  rw [lay3_front h, lay3_eq h, e, putAt_mid (front_length h) (by simp [be_length]), List.append_assoc]
theorem lay5_eq {p : Pc} (h : p.d.length ≤ 106) : lay5 p = sealL p := by
  have e : List.replicate 8 0 = List.replicate 8 0 ++ ([] : List Nat) := by simp
  unfold lay5
  rw [lay4_eq h, e, putAt_mid (by rw [List.length_append, front_length h, be_length]) (by simp [be_length]), List.append_nil, sealL, List.append_assoc]
theorem lzrow_own {w : World} {z : Nat} (h : w.ownsRow 0 5 1 (.slice (some ⟨z, 0, none⟩) 128 128) 128 (List.replicate 128 (.int .u8 0))) : Sl w (fun j => j = z) 5 1 (.slice (some ⟨z, 0, none⟩) 128 128) 128 ((List.replicate 128 0).map u8) := by
  have e : (List.replicate 128 0).map u8 = List.replicate 128 (.int .u8 0) := by rw [List.map_replicate]; rfl
  rw [e]
  exact ⟨h, fun k hk => by simp [Value.ownBlock] at hk; exact hk.symm, fun k hk => by rw [hk]; exact (h.lt z rfl).2⟩

/-- the state while a sector is laid: the box, the row, the piece's data -/
structure Seal (w0 : World) (p : Pc) (v : Value) (b z : Nat) (L : List Nat) (w : World) : Prop where
  blk : Blk w b 96 #[.int .u64 (p.e : Int), .int .u64 (p.c : Int), .bool p.f, .bool p.g, v]
  rd : Rd w 1 v p.d.length (p.d.map u8)
  sl : Sl w (fun j => j = z) 5 1 (.slice (some ⟨z, 0, none⟩) 128 128) 128 (L.map u8)
  adv : Adv Nul w0 (fun j => j = z) w
  ne : b ≠ z
  vne : ∀ k, v.ownBlock = some k → 0 < p.d.length → k ≠ z
section
variable {w0 w w' : World} {p : Pc} {v : Value} {b z : Nat} {L L' : List Nat}
theorem Seal.step (h : Seal w0 p v b z L w) (hs : Sl w' (fun j => j = z) 5 1 (.slice (some ⟨z, 0, none⟩) 128 128) 128 (L'.map u8)) (ha : Adv (fun j => j = z) w (fun j => j = z) w') : Seal w0 p v b z L' w' :=
  ⟨h.blk.keep (ha.block b h.blk.lt h.ne), h.rd.far (fun k hk hn hl => ha.block k hl (h.vne k hk hn)) ha.size, hs, h.adv.trans ha, h.ne, h.vne⟩
theorem Seal.same (h : Seal w0 p v b z L w) (ha : Adv Nul w Nul w') : Seal w0 p v b z L w' :=
  h.step (h.sl.far ha (fun _ h _ => h)) (ha.same (fun _ h => h.elim))
theorem Seal.drew (h : Seal w0 p v b z L w) : Seal w0 p v b z L w.drew := h.same (Adv.refl _ _).drew
theorem Seal.set8 (h : Seal w0 p v b z L w) (k y : Nat) : Seal w0 p v b z (L.set k y) (w.setCell ⟨z, k, none⟩ (.int .u8 (y : Int))) :=
  h.step (h.sl.set8 k y _ rfl) ((Adv.refl (fun j => j = z) w).setCell (p := ⟨z, k, none⟩) (.inl rfl) _)
theorem Seal.copy (h : Seal w0 p v b z L w) (o : Nat) (l : List Nat) (hl : o + l.length ≤ 128) : Seal w0 p v b z (putAt L o l) (w.setCells z o (l.map u8)) :=
  h.step (h.sl.setCells8 l o L w hl) (Adv.lsetCells _ _ _ (Adv.refl (fun j => j = z) w) (.inl rfl))
theorem Seal.cell (h : Seal w0 p v b z L w) {k : Nat} (hk : k < 128) : ∃ u, w.cell? ⟨z, k, none⟩ = some u := by
  have hL : L.length = 128 := by have := h.sl.own.1; simpa using this
  exact ⟨_, h.sl.at8 hk (by omega)⟩
theorem Seal.first (h : Seal w0 p v b z L w) {t : Nat} (ht : t ≤ 128) : Rd w 1 (.slice (some ⟨z, 0, none⟩) t 128) t ((L.take t).map u8) := h.sl.rd.front ht
end

set_option maxRecDepth 3000 in
set_option maxHeartbeats 1600000 in
theorem seal_ok (p : Pc) (v : Value) (w : World) (hok : p.ok) (hv : Rd w 1 v p.d.length (p.d.map u8)) (hd : ∀ x ∈ p.d, x < 256) :
    Calls Tryz.prog 79 #[.agg #[.int .u64 (p.e : Int), .int .u64 (p.c : Int), .bool p.f, .bool p.g, v]] w fun e w' =>
      ∃ v' F, e = .returned (.tuple #[v', .int .i64 0]) ∧ Sl w' F 5 1 v' 128 ((sealL p).map u8) ∧ Adv Nul w F w' := by
  obtain ⟨i0, hi, hz0, hz1, hz2⟩ := info_parts Tryz.infoU8
  obtain ⟨he, hc, hm⟩ := hok
  obtain ⟨A, c, rfl, hmc, hcm⟩ := hv.form
  obtain ⟨b, hb⟩ : ∃ b, b = w.heap.size := ⟨_, rfl⟩
  obtain ⟨W, hW⟩ : ∃ W, W = w.alloc (.cells #[.int .u64 (p.e : Int), .int .u64 (p.c : Int), .bool p.f, .bool p.g, .slice A p.d.length c] 96) := ⟨_, rfl⟩
  have hB : Blk W b 96 #[.int .u64 (p.e : Int), .int .u64 (p.c : Int), .bool p.f, .bool p.g, .slice A p.d.length c] := by rw [hW, hb]; exact Blk.new _ _ _
  have hV : Rd W 1 (.slice A p.d.length c) p.d.length (p.d.map u8) := by rw [hW]; exact hv.up _
  have hA : Adv Nul w Nul W := by rw [hW]; exact (Adv.refl _ _).alloc _
  have hWb : W.heap.size = b + 1 := by rw [hW, hb]; simp
  have hold : ∀ k, (Value.slice A p.d.length c).ownBlock = some k → 0 < p.d.length → k ≠ W.heap.size := by
    intro k hk hn e
    obtain ⟨A', c', e', _, _, _, _, hc'⟩ := hV
    obtain ⟨ad, e2, hbb, _⟩ := hc' hn
    injection e' with e1 _ _
    subst e1 e2
    simp [Value.ownBlock] at hk
    omega
  have c0 := hB.cell 0
  have c1 := hB.cell 1
  have c2 := hB.cell 2
  have c3 := hB.cell 3
  have c4 := hB.cell 4
  have HW := Lib.hid hW
  have HB := Lib.hid hB
  have HV := Lib.hid hV
  have HA := Lib.hid hA
  have HE := Lib.hid he
  have HC := Lib.hid hc
  have HM := Lib.hid hm
  have HD := Lib.hid hd
  have HI := Lib.hid hi
  have HZ0 := Lib.hid hz0
  have HZ1 := Lib.hid hz1
  have HZ2 := Lib.hid hz2
  have HWB := Lib.hid hWb
  have HOLD := Lib.hid hold
  obtain ⟨m, hmm⟩ : ∃ m, m = p.d.length := ⟨_, rfl⟩
  have HMM := Lib.hid hmm
  have hmI : (m : Int) ≤ 106 := by omega
  obtain ⟨e, hee⟩ : ∃ e, e = p.e := ⟨_, rfl⟩
  obtain ⟨n, hnn⟩ : ∃ n, n = p.c := ⟨_, rfl⟩
  obtain ⟨f, hff⟩ : ∃ f, f = p.f := ⟨_, rfl⟩
  obtain ⟨g, hgg⟩ : ∃ g, g = p.g := ⟨_, rfl⟩
  rw [← hmm, ← hee, ← hnn, ← hff, ← hgg] at HW ⊢
  rw [← hmm] at c4
  rw [← hee] at c0
  rw [← hnn] at c1
  rw [← hff] at c2
  rw [← hgg] at c3
  have HEE := Lib.hid hee
  have HNN := Lib.hid hnn
  have HFF := Lib.hid hff
  have HGG := Lib.hid hgg
  have HBB := Lib.hid hb
  clear hW hB hV hA he hc hm hd hi hz0 hz1 hz2 hWb hold hmm hee hnn hff hgg hv hb hmc hcm
  go_enter Tryz.func79, Tryz.ntmps79
  go_wp2_with fail
  rw [← HW.out, ← HBB.out]
  refine (stampok e n (by rw [HEE.out]; exact HE.out) (by rw [HNN.out]; exact HC.out) _).mono ?_
  rintro x w1 ⟨rfl, rfl⟩
  go_wp2_with (first
    | (at_make; refine wpList_make_full _ rfl _ _ 53 rfl 0 5 i0 (.int .u8 0) 1 Tryz.underlying53 HI.out HZ0.out HZ1.out .i64 .i64 _ _ 128 rfl rfl rfl rfl (by rw [HZ2.out]; decide) (by decide) (Nat.zero_le _) ?_; intro w1 hown hg; have hown2 := own_base hown; rw [lmade_one _ rfl] at hown2; have hadv : Adv Nul W (fun j => j = W.heap.size) w1 := ⟨hg.os, hg.tape, hg.output, hg.size, fun j hj _ => hg.block j hj (by simp), fun j hj => .inr (by rw [hj]; exact Nat.le_refl _)⟩; have hsl := lzrow_own hown2)
    | fail)
  have hS : Seal w p (.slice A m c) b W.heap.size (List.replicate 128 0) w1 :=
    ⟨by rw [HMM.out]; exact HB.out.keep (hg.block b HB.out.lt (by simp)), (by rw [HMM.out]; exact HV.out.far (fun k hk hn hl => hg.block k hl (by simp)) hadv.size), hsl, HA.out.trans hadv, by have := HWB.out; omega, by rw [HMM.out]; exact HOLD.out⟩
  obtain ⟨z, hz⟩ : ∃ z, z = W.heap.size := ⟨_, rfl⟩
  rw [← hz] at hS ⊢
  have HS1 := Lib.hid hS
  have HNE := Lib.hid hS.ne
  clear hown hg hown2 hadv hsl hS hz
  refine (play_any _ z 0 128 8 128 128 _ (stamp e n) _ HS1.out.sl (by decide) (by decide) (stamp_lt (by rw [HEE.out]; exact HE.out) (by rw [HNN.out]; exact HC.out)) (by decide)).mono ?_
  rintro x w2 ⟨rfl, h2, a2⟩
  have hs2 := HS1.out.step h2 a2
  have e1 : putAt (List.replicate 128 0) 0 (be 8 (stamp e n)) = lay1 p := by rw [HEE.out, HNN.out]; rfl
  rw [e1] at hs2
  have c0 := hs2.blk.cell 0
  have c1 := hs2.blk.cell 1
  have c2 := hs2.blk.cell 2
  have c3 := hs2.blk.cell 3
  have c4 := hs2.blk.cell 4
  rw [← HEE.out] at c0
  rw [← HNN.out] at c1
  rw [← HFF.out] at c2
  rw [← HGG.out] at c3
  have HS2 := Lib.hid hs2
  clear h2 a2 hs2 e1
  go_wp2_with fail
  refine (flags_any _ _ _ _ _ _).mono ?_
  rintro x w3 ⟨rfl, hw3⟩
  have hs3 : Seal w p (.slice A m c) b z (lay1 p) w3 := HS2.out.same (by rw [hw3]; exact (Adv.refl _ _).alloc _)
  clear c0 c1 c2 c3 c4 hw3
  obtain ⟨y8, hy8⟩ := hs3.cell (k := 8) (by decide)
  have f8 := hs3.sl.own.frozenAt 8
  have hs4 := hs3.set8 8 (flg p.f p.g)
  rw [← HFF.out, ← HGG.out] at hs4
  have c4 := hs4.blk.cell 4
  obtain ⟨y9, hy9⟩ := hs4.cell (k := 9) (by decide)
  have f9 := hs4.sl.own.frozenAt 9
  have hs5 := hs4.set8 9 p.d.length
  have e5 : ((lay1 p).set 8 (flg f g)).set 9 p.d.length = lay2 p := by rw [HFF.out, HGG.out]; rfl
  rw [e5, ← HMM.out] at hs5
  have k4 := hs5.drew.blk.cell 4
  have ht5 := hs5.drew.sl.there8 (o := 10) (m := m) (by have := HMM.out; have := HM.out; omega)
  have hs6 := hs5.drew.copy 10 p.d (by have := HM.out; omega)
  have hr5 := hs5.drew.rd
  rw [← HMM.out] at hr5
  obtain ⟨w6, hw6⟩ : ∃ w6, w6 = (((w3.setCell ⟨z, 8, none⟩ (.int .u8 (flg f g : Int))).setCell ⟨z, 9, none⟩ (.int .u8 (m : Int))).drew.setCells z 10 (p.d.map u8)) := ⟨_, rfl⟩
  rw [← hw6] at hs6
  have k6 := hs6.blk.cell 4
  have HR5 := Lib.hid hr5
  have HT5 := Lib.hid ht5
  have HS6 := Lib.hid hs6
  have HW6 := Lib.hid hw6
  have K6 := Lib.hid k6
  have hX : ((lay3 p).take 116).length = 116 := by rw [lay3_front HM.out, front_length HM.out]
  have hX2 : ∀ x ∈ (lay3 p).take 116, x < 256 := by rw [lay3_front HM.out]; exact front_lt HM.out HD.out
  have hr6 := hs6.drew.first (t := 116) (by decide)
  have e6 : putAt (lay2 p) 10 p.d = lay3 p := rfl
  rw [e6] at hr6
  obtain ⟨X, hXe⟩ : ∃ X, X = (lay3 p).take 116 := ⟨_, rfl⟩
  obtain ⟨y, hy⟩ : ∃ y, y = fnum (fsum (0, 0) X) := ⟨_, rfl⟩
  have hyl : y < 4294967296 := by rw [hy]; exact fnum_lt _ (fsum_ok _ _ ⟨by decide, by decide⟩)
  have hyI : (y : Int) < 4294967296 := by omega
  rw [← hXe] at hX hX2 hr6
  have hr7 : Rd w6.drew 1 (.slice (some ⟨z, 0, none⟩) 116 128) X.length (X.map u8) := by rw [hX]; exact hr6
  have HR7 := Lib.hid hr7
  have HX2 := Lib.hid hX2
  have HXE := Lib.hid hXe
  have HY := Lib.hid hy
  have HWR := Lib.hid (show IntKind.u64.wrap (y : Int) = (y : Int) by simp only [IntKind.wrap_u64]; omega)
  have HYL := Lib.hid (show y < 18446744073709551616 by omega)
  clear hs3 hs4 hs5 e5 hs6 ht5 hr5 hw6 k6 hX hX2 hr6 e6 hXe hy hyl hr7
  go_wp2_with fail
  refine rstart (S := (fun w' => w'.cell? ⟨b, 4, none⟩ = some (.slice A m c))) (by first | exact k4 | exact K6.out) (fun hH => ?_)
  refine tk (i := 0) (oi := ⟨some 37, .move (.tmp 6), 53, "lap.go:73", #[], none⟩) hH.out (by rintro w s0; go_simp <;> with_reducible rfl) ?_
  simp only [Act.put, sA, sB, sC]
  refine tk (i := 1) (oi := ⟨some 38, .slice 53 (.tmp 37) (some (.const (Go.Value.int Go.IntKind.i64 10))) (some (.const (Go.Value.int Go.IntKind.i64 116))) none, 53, "lap.go:73", #[⟨0, .data⟩], none⟩) hH.out (by rintro w s0; go_simp <;> with_reducible rfl) ?_
  simp only [Act.put, sA, sB, sC]
  refine tk (i := 2) (oi := ⟨some 39, .fieldAddr 96 (.tmp 1) 4, 0, "lap.go:73", #[], none⟩) hH.out (by rintro w s0; go_simp <;> with_reducible rfl) ?_
  simp only [Act.put, sA, sB, sC]
  refine tk (i := 3) (oi := ⟨some 40, .load 53 (.tmp 39), 53, "lap.go:73", #[⟨2, .data⟩], none⟩) hH.out (by rintro w s0; go_simp <;> with_reducible rfl) ?_
  simp only [Act.put, sA, sB, sC]
  refine rdy (i := 4) (oi := ⟨some 41, .call ⟨.builtin .copy, #[.tmp 38, .tmp 40], #[53, 53]⟩, 3, "lap.go:73", #[⟨1, .data⟩, ⟨3, .data⟩], none⟩) (fun K hK => ?_)
  refine step_copy_rd rfl (.tmp 38) (.tmp 40) 53 53 rfl 5 Tryz.underlying53 linfoU8s z 10 106 118 m (.slice A m c) rfl rfl (p.d.map u8) HR5.out (by have := HMM.out; have := HM.out; omega) HT5.out (u8_one _) ?_
  rw [← HW6.out]
  refine hK.out _ _ (by first | exact k4 | exact K6.out) (fun hHeld => ?_)
  replace hH := Lib.hid hHeld
  clear hK K hHeld
  try simp only [Act.put, sA, sB, sC]
  refine wpAnyH_done (by kernel_rfl) ?_ _
  go_wp2_with fail
  refine rstart (S := (fun _ => True)) (by first | trivial) (fun hH => ?_)
  refine tk (i := 0) (oi := ⟨some 42, .move (.tmp 6), 53, "lap.go:74", #[], none⟩) hH.out (by rintro w _; go_simp <;> with_reducible rfl) ?_
  simp only [Act.put, sA, sB, sC]
  refine tk (i := 1) (oi := ⟨some 43, .slice 53 (.tmp 42) (some (.const (Go.Value.int Go.IntKind.i64 116))) (some (.const (Go.Value.int Go.IntKind.i64 120))) none, 53, "lap.go:74", #[⟨0, .data⟩], none⟩) hH.out (by rintro w _; go_simp <;> with_reducible rfl) ?_
  simp only [Act.put, sA, sB, sC]
  refine tk (i := 2) (oi := ⟨some 44, .move (.tmp 6), 53, "lap.go:74", #[], none⟩) hH.out (by rintro w _; go_simp <;> with_reducible rfl) ?_
  simp only [Act.put, sA, sB, sC]
  refine tk (i := 3) (oi := ⟨some 45, .slice 53 (.tmp 44) none (some (.const (Go.Value.int Go.IntKind.i64 116))) none, 53, "lap.go:74", #[⟨2, .data⟩], none⟩) hH.out (by rintro w _; go_simp <;> with_reducible rfl) ?_
  simp only [Act.put, sA, sB, sC]
  refine rdy (i := 4) (oi := ⟨some 46, .call ⟨.value (.func 110), #[.tmp 45], #[53]⟩, 140, "lap.go:74", #[⟨3, .data⟩], none⟩) (fun K hK => ?_)
  go_simp
  refine (fsum_any _ X _ HR7.out HX2.out).mono ?_
  rintro x w7 ⟨rfl, rfl⟩
  rw [← HY.out]
  go_wp2_with fail
  refine hK.out _ _ (by first | trivial) (fun hHeld => ?_)
  replace hH := Lib.hid hHeld
  clear hK K hHeld
  try simp only [Act.put, sA, sB, sC]
  refine tk (i := 5) (oi := ⟨some 47, .convert 140 49 (.tmp 46), 49, "lap.go:74", #[⟨4, .data⟩], none⟩) hH.out (by rintro w _; go_simp <;> with_reducible rfl) ?_
  simp only [Act.put, sA, sB, sC]
  refine rdy (i := 6) (oi := ⟨some 48, .call ⟨.value (.func 108), #[.tmp 43, .tmp 47], #[53, 49]⟩, 0, "lap.go:74", #[⟨1, .data⟩, ⟨5, .data⟩, ⟨4, .chain⟩], none⟩) (fun K hK => ?_)
  go_simp
  rw [HWR.out]
  refine (play_any _ z 116 128 4 128 12 _ y _ HS6.out.drew.sl (by decide) (by decide) HYL.out (by decide)).mono ?_
  rintro x w8 ⟨rfl, h8, a8⟩
  have HS8 := Lib.hid (HS6.out.drew.step h8 a8)
  clear h8 a8
  go_wp2_with fail
  refine hK.out _ _ (by first | trivial) (fun hHeld => ?_)
  replace hH := Lib.hid hHeld
  clear hK K hHeld
  try simp only [Act.put, sA, sB, sC]
  refine wpAnyH_done (by kernel_rfl) ?_ _
  go_wp2_with fail
  have hs8 := HS8.out
  have e8 : putAt (putAt (lay2 p) 10 p.d) 116 (be 4 y) = lay4 p := by rw [HY.out, HXE.out]; rfl
  rw [e8] at hs8
  have HS9 := Lib.hid hs8
  clear hs8 e8
  refine (play_any _ z 120 128 8 128 8 _ (stamp e n) _ HS9.out.sl (by decide) (by decide) (stamp_lt (by rw [HEE.out]; exact HE.out) (by rw [HNN.out]; exact HC.out)) (by decide)).mono ?_
  rintro x w9 ⟨rfl, h9, a9⟩
  have hs9 := HS9.out.step h9 a9
  have e9 : putAt (lay4 p) 120 (be 8 (stamp e n)) = sealL p := by rw [HEE.out, HNN.out, ← lay5_eq HM.out]; rfl
  rw [e9] at hs9
  have HS10 := Lib.hid hs9
  clear h9 a9 hs9 e9
  go_wp2_with fail
  go_ret2
  first
    | exact ⟨_, _, rfl, HS10.out.sl, HS10.out.adv⟩
    | exact ⟨_, rfl, _, HS10.out.sl, HS10.out.adv⟩
    | exact ⟨rfl, _, HS10.out.sl, HS10.out.adv⟩
end Go.Proofs.YtbdjlmdbnoghnaaGreat
