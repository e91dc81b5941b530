/- Memory in pieces: bytes copied into a row, bytes compared. -/
import Derived.Test.YtolcnbiaiolcoaaGreatMgLp
namespace Go.Proofs.YtolcnbiaiolcoaaGreat
open Go.RowKit

set_option maxRecDepth 3000 in
theorem step_copy_rd {P : Program} {w : World} {ops : Array Oper} {o : Oper} {a : Act} {K : Act → World → Prop} {Q : Exit → Act → World → Prop} {E : Prop} (hgd : o.guard = none) (d s : Operand) (dT sT : TypeId)
    (ho : o.op = .call { callee := .builtin .copy, args := #[d, s], argTypes := #[dT, sT] }) (elem : TypeId) (hu : P.underlying dT = some (.slice elem)) (hsz : (P.info? elem).map (·.size) = some 1)
    (b off dLen dCap m : Nat) (src : Value) (hd : a.eval d = .slice (some ⟨b, off, none⟩) dLen dCap) (hs : a.eval s = src)
    (cs : List Value) (hr : Rd w 1 src m cs) (hn : m ≤ dLen) (ht : w.there b off m) (h1 : ∀ v ∈ cs, v.oneCell' = true)
    (h : K (a.put o.dst (goInt cs.length)) (w.setCells b off cs)) :
    if Region.wanted o (yielded ops a.tmps) = true then Oper.wp P o a w K Q else E := by
  obtain ⟨A, c, rfl, hmc, _, hl, _, hc⟩ := hr
  have hl' : cs.length = m := by simpa using hl
  by_cases h0 : 0 < m
  · obtain ⟨ad, rfl, _, hcell⟩ := hc h0
    exact lstep_copy_cells hgd d s dT sT ho elem hu hsz b off dLen dCap m c ad hd hs cs (by rw [hl']; exact (Nat.min_eq_left hn).symm) hcell (by rw [hl']; exact ht) h1 h
  · obtain rfl : m = 0 := by omega
    obtain rfl : cs = [] := List.eq_nil_of_length_eq_zero hl'
    have hw : Region.wanted o (yielded ops a.tmps) = true := by simp [Region.wanted, hgd]
    rw [if_pos hw]
    have hrun := run_copy_none (P := P) w dT sT o.type elem (some ⟨b, off, none⟩) A dLen dCap 0 c hu hsz (Nat.zero_min _)
    unfold Oper.wp
    simp [execOp, ho, resolve, invoke, builtin, hd, hs, hrun, Result.andThen]
    exact h

set_option maxRecDepth 3000 in
theorem putAt_cons {L : List Nat} {o x : Nat} {l : List Nat} (h : o + (l.length + 1) ≤ L.length) : putAt (L.set o x) (o + 1) l = putAt L o (x :: l) := by
  have ho : o < L.length := by omega
  unfold putAt
  rw [List.set_eq_take_append_cons_drop, if_pos ho]
  have e1 : (L.take o ++ x :: L.drop (o + 1)).take (o + 1) = L.take o ++ [x] := by
    rw [List.take_append, List.length_take, Nat.min_eq_left (by omega), List.take_of_length_le (by rw [List.length_take]; omega), show o + 1 - o = 1 by omega]
    simp
  have e2 : (L.take o ++ x :: L.drop (o + 1)).drop (o + 1 + l.length) = L.drop (o + (l.length + 1)) := by
    rw [List.drop_append, List.length_take, Nat.min_eq_left (by omega), List.drop_of_length_le (by rw [List.length_take]; omega), show o + 1 + l.length - o = l.length + 1 by omega]
    simp only [List.nil_append, List.drop_succ_cons, List.drop_drop]
    congr 1; omega
  rw [e1, e2, List.append_assoc, List.append_assoc, List.append_assoc]
  simp
set_option maxRecDepth 3000 in
theorem Sl.setCells8 {F : Nat → Prop} {g N c : Nat} : ∀ (l : List Nat) (o : Nat) (L : List Nat) (w : World), Sl w F 5 1 (.slice (some ⟨g, 0, none⟩) N c) N (L.map u8) → o + l.length ≤ N →
    Sl (w.setCells g o (l.map u8)) F 5 1 (.slice (some ⟨g, 0, none⟩) N c) N ((putAt L o l).map u8)
  | [], o, L, w, h, _ => by simpa [World.setCells, putAt] using h
  | x :: l, o, L, w, h, hl => by
    have hL : L.length = N := by have := h.own.1; simpa using this
    rw [List.length_cons] at hl
    have h1 := h.set8 o x (x : Int) rfl
    have h2 := Sl.setCells8 l (o + 1) (L.set o x) _ h1 (by omega)
    rw [putAt_cons (by omega)] at h2
    exact h2
set_option maxRecDepth 3000 in
theorem Sl.there8 {w : World} {F : Nat → Prop} {g N c o m : Nat} {L : List Nat} (h : Sl w F 5 1 (.slice (some ⟨g, 0, none⟩) N c) N (L.map u8)) (hm : o + m ≤ N) : w.there g o m := fun j hj => by
  have hL : L.length = N := by have := h.own.1; simpa using this
  exact ⟨by rw [h.at8 (k := o + j) (by omega) (by omega)]; rfl, h.own.frozenAt (o + j)⟩

/-- bytes as a text -/
def txt (l : List Nat) : ByteArray := strOfNums (l.map Int.ofNat)
set_option maxRecDepth 3000 in
theorem txt_inj {a b : List Nat} (ha : ∀ x ∈ a, x < 256) (hb : ∀ x ∈ b, x < 256) (h : txt a = txt b) : a = b := by
  have h1 := congrArg (fun s => s.data.toList) h
  simp only [txt, strOfNums_data, List.map_map] at h1
  have e : ∀ l : List Nat, (∀ x ∈ l, x < 256) → l = ((l.map ((fun n : Int => UInt8.ofNat n.toNat) ∘ Int.ofNat)).map UInt8.toNat) := fun l hl => by
    rw [List.map_map]
    conv => lhs; rw [← List.map_id l]
    refine List.map_congr_left fun x hx => ?_
    have := hl x hx
    simp [Function.comp]
    omega
  rw [e a ha, e b hb, h1]
set_option maxRecDepth 3000 in
theorem convert_rd {w : World} {A : Option Addr} {n c : Nat} {l : List Nat} (h : Rd w 1 (.slice A n c) n (l.map u8)) : (convert 53 9 (.slice A n c)).run Tryz.prog w = .ok (.string (txt l)) w := by
  have hl : l.length = n := by obtain ⟨_, _, _, _, _, h, _⟩ := h; simpa using h
  obtain ⟨A', c', e, _, _, _, hA, hc⟩ := h
  injection e with e1 e2 e3
  subst e1 e3
  by_cases h0 : 0 < n
  · obtain ⟨ad, rfl, hb, hcell⟩ := hc h0
    obtain ⟨b, o, spot⟩ := ad
    have h00 := hcell 0 _ (List.getElem?_eq_getElem (by simp; omega))
    have hspot : spot = none := by simpa [Addr.add] using World.cell?_spot h00
    subst hspot
    refine run_convert_bytes_arg (P := Tryz.prog) w 53 5 Tryz.underlying53 Tryz.underlying5 b o n c (l.map Int.ofNat) (by simp [hl]) (fun i hi => ?_) 9 Tryz.underlying9
    have h := hcell i (u8 l[i]) (by rw [List.getElem?_map, List.getElem?_eq_getElem (by omega)]; rfl)
    rw [add_none] at h
    rw [h, List.getD_eq_getElem?_getD, List.getElem?_map, List.getElem?_eq_getElem (by omega)]
    rfl
  · obtain rfl : n = 0 := by omega
    obtain rfl : l = [] := List.eq_nil_of_length_eq_zero hl
    have := run_convert_bytes_string (P := Tryz.prog) w 53 9 5 A 0 c Tryz.underlying53 Tryz.underlying5 Tryz.underlying9
    rw [this]
    cases A with
    | none => simp [Conv.bytesToString]; rfl
    | some ad =>
      rw [run_bytesToString w ad 0 c [] (by simpa using run_loadCells_list (P := Tryz.prog) w ad [] (by simp))]
      rfl

set_option maxRecDepth 3000 in
theorem equal_any (v1 v2 : Value) (n1 n2 : Nat) (l1 l2 : List Nat) (w : World) (h1 : Rd w 1 v1 n1 (l1.map u8)) (h2 : Rd w 1 v2 n2 (l2.map u8)) (hl1 : ∀ x ∈ l1, x < 256) (hl2 : ∀ x ∈ l2, x < 256) :
    Calls Tryz.prog 122 #[v1, v2] w fun e w' => e = .returned (.bool (decide (l1 = l2))) ∧ w = w' := by
  obtain ⟨A1, c1, rfl, _, _⟩ := h1.form
  obtain ⟨A2, c2, rfl, _, _⟩ := h2.form
  have e1 := convert_rd h1
  have e2 := convert_rd h2
  have e : ((txt l1).toList == (txt l2).toList) = decide (l1 = l2) := by
    by_cases h : l1 = l2
    · subst h; simp
    · rw [decide_eq_false h, beq_eq_false_iff_ne]
      refine fun h' => h (txt_inj hl1 hl2 ?_)
      rw [ByteArray.toList_eq, ByteArray.toList_eq] at h'
      exact ByteArray.ext (Array.ext' h')
  obtain ⟨s1, hs1⟩ : ∃ s, s = txt l1 := ⟨_, rfl⟩
  obtain ⟨s2, hs2⟩ : ∃ s, s = txt l2 := ⟨_, rfl⟩
  rw [← hs1] at e1 e
  rw [← hs2] at e2 e
  rw [← e]
  clear h1 h2 hl1 hl2 hs1 hs2 e
  go_enter Tryz.func122, Tryz.ntmps122
  go_wp2
  go_ret
  exact ⟨rfl, rfl⟩
end Go.Proofs.YtolcnbiaiolcoaaGreat
