/- A path's names: the program's Split; whether a path is below another one. -/
import Derived.Test.YtolcnbiaiolcoaaDoorNmS
namespace Go.Proofs.YtolcnbiaiolcoaaDoor
open Go.ChangeShapes Go.WideShapes Go.ChangeAt Go.RowKit

/-- The new row of pieces, of which the first is left out. -/
theorem RdT.rest {w : World} {g N : Nat} {a : ByteArray} {l : List ByteArray} (h : Blk w g 9 (Lib.cellsOf (a :: l) N)) (hN : l.length + 1 ≤ N) (hN9 : N ≤ 9) : RdT w (.slice (some ⟨g, 1, none⟩) l.length (N - 1)) l := by
  refine ⟨⟨some ⟨g, 1, none⟩, N - 1, rfl, by omega, by unfold maxLen; omega, by simp, fun e => by (cases e), fun _ => ⟨_, rfl, h.lt, fun j u hu => ?_⟩⟩⟩
  rw [add_none, h.cell, Nat.add_comm]
  have hj : j < l.length := by have := (List.getElem?_eq_some_iff.1 hu).1; simpa using this
  unfold Lib.cellsOf
  rw [List.getElem?_toArray, List.getElem?_append_left (by simp; omega), List.map_cons, List.getElem?_cons_succ]
  exact hu
/-- what the program cuts a text into -/
def Cutter (p : ByteArray) (w : World) (e : Ending) (w' : World) : Prop := ∃ (N k : Nat) (a : ByteArray) (l : List ByteArray),
  e = .returned (.slice (some ⟨w.heap.size, 0, none⟩) ((k + 1 : Nat)) N) ∧ k = l.length ∧ k + 1 ≤ N ∧ N ≤ 9 ∧ (N = 1 ↔ p.size = 0) ∧ Blk w' w.heap.size 9 (Lib.cellsOf (a :: l) N) ∧ Below w.heap.size w w' ∧
  (jnB l = p → PathB p l) ∧ (∀ m, PathB p m → jnB l = p) ∧ ∀ s ∈ l, s.size ≤ 1000000
theorem splitB_size (sep : ByteArray) : ∀ (k : Nat) (s : ByteArray), ∀ x ∈ Lib.splitB sep 0 k s, x.size ≤ s.size
  | 0, s, x, hx => by rw [Lib.splitB_zero] at hx; simp at hx; rw [hx]; exact Nat.le_refl _
  | k + 1, s, x, hx => by
    unfold Lib.splitB at hx
    split at hx
    · simp at hx; rw [hx]; exact Nat.le_refl _
    · rcases List.mem_cons.1 hx with rfl | h
      · rw [ByteArray.size_extract]; omega
      · have := splitB_size sep k _ x h
        rw [ByteArray.size_extract] at this; omega
theorem cutter_any (p : ByteArray) (w : World) (hp : p.size ≤ 1000000) (hne : p.data.toList ≠ [47]) : Calls Tryd.prog 17 #[.string p, .string ⟨#[47]⟩, .int .i64 9] w (Cutter p w) := by
  refine (splitN_call p 9 w (by omega) (by decide) (by decide)).mono ?_
  rintro e w' ⟨rfl, hw⟩
  have hd := Lib.splitB_data slash 0 (min 9 (p.size + 1) - 1) p
  have hlen := Lib.splitB_length_le slash 0 (min 9 (p.size + 1) - 1) p
  obtain ⟨a', l', hk, hl'⟩ := splitK_ne (min 9 (p.size + 1) - 1) p.data.toList
  have hz := splitB_size slash (min 9 (p.size + 1) - 1) p
  generalize hL : Lib.splitB slash 0 (min 9 (p.size + 1) - 1) p = L at hd hlen hw hz
  have hsl : slash.data.toList = [47] := rfl
  rw [hsl] at hd
  rw [hk] at hd
  cases L with
  | nil => cases hd
  | cons a l =>
    simp only [List.map_cons, List.cons.injEq] at hd
    obtain ⟨_, hd2⟩ := hd
    have hs := split_says p.data.toList hne (a := a') (l := l') (by rw [size_list]; exact hk)
    rw [← hd2] at hs
    refine ⟨min 9 (p.size + 1), l.length, a, l, rfl, rfl, by simp at hlen; omega, by omega, by omega, ?_, ?_, fun e => hs.1 (by rw [← jnB_data, e]), fun m hm => data_eq (by rw [jnB_data]; exact hs.2 _ hm), fun s h => by have := hz s (by simp [h]); omega⟩
    · rw [hw]; exact Blk.new _ _ _
    · rw [hw]; exact (Below.refl _ w).alloc (Nat.le_refl _) _

/-- what the program's Split leaves -/
def NSplit (p : ByteArray) (w : World) (e : Ending) (w' : World) : Prop := ∃ v l ok, e = .returned (.tuple #[v, .int .i64 (if ok = true then 0 else 9)]) ∧ SplitAns p w' v l ok ∧ Below w.heap.size w w'
theorem NSplit.none_ {p : ByteArray} {w w' : World} (h : ∀ m, ¬ PathB p m) (hb : Below w.heap.size w w') : NSplit p w (.returned (.tuple #[.slice none 0 0, .int .i64 9])) w' := ⟨_, [], false, rfl, .bad w' h, hb⟩
theorem NSplit.some_ {p : ByteArray} {w w' : World} {v : Value} {l : List ByteArray} (h : RdT w' v l) (hp : PathB p l) (hb : Below w.heap.size w w') : NSplit p w (.returned (.tuple #[v, .int .i64 0])) w' := ⟨_, l, true, rfl, .good h hp, hb⟩

theorem cells_same {N k : Nat} {a x : ByteArray} {l : List ByteArray} (hk : k < l.length) (hx : l[k] = x) : (Lib.cellsOf (a :: l) N).setIfInBounds (1 + k) (.string x) = Lib.cellsOf (a :: l) N := by
  apply Array.ext_getElem?
  intro j
  rw [Array.getElem?_setIfInBounds]
  split
  · next e =>
    subst e
    have h1 : (Lib.cellsOf (a :: l) N)[1 + k]? = some (.string x) := by
      unfold Lib.cellsOf
      rw [List.getElem?_toArray, List.getElem?_append_left (by simp; omega), List.map_cons, Nat.add_comm, List.getElem?_cons_succ, List.getElem?_map, List.getElem?_eq_getElem hk, hx]; rfl
    rw [h1, if_pos (by have := (Array.getElem?_eq_some_iff.1 h1).1; exact this)]
  · rfl

set_option maxRecDepth 3000 in
theorem nsplit_any (p : ByteArray) (w : World) (hp : p.size ≤ 1000000) : Calls Tryd.prog 7 #[.string p] w (NSplit p w) := by
  by_cases hs : p.toList = [47]
  · have hpath : PathB p [] := .inl ⟨by rw [← Lib.toList_data]; exact hs, rfl⟩
    have HP := Lib.hid hpath
    have hs' : (p.toList == [47]) = true := beq_iff_eq.2 hs
    clear hpath
    go_enter Tryd.func7, Tryd.ntmps7
    go_wp2
    go_ret2
    exact .some_ (.nil w) HP.out (.refl _ _)
  · have hs' : (p.toList == [47]) = false := beq_eq_false_iff_ne.2 hs
    have c := cutter_any p w hp (by rw [← Lib.toList_data]; exact hs)
    clear hs
    by_cases hp0 : p.size = 0
    · have hne : (([47] : List UInt8) == p.toList) = false := by
        refine beq_eq_false_iff_ne.2 fun e => ?_
        rw [← e] at hs'; cases hs'
      have hNP : Hid (∀ m, ¬ PathB p m) := Lib.hid (path_bad fun h => absurd h (by omega))
      have HP0 := Lib.hid hp0
      clear hp0
      go_enter Tryd.func7, Tryd.ntmps7
      go_wp2_with (first
        | (go_at_call 17; refine c.mono ?_; rintro e w1 ⟨N, k, a, l, rfl, hk, hkN, hN9, hN1, _, hb1, _, _, _⟩; obtain rfl := hN1.2 HP0.out; obtain rfl : k = 0 := by omega
           obtain rfl : l = [] := List.eq_nil_of_length_eq_zero hk.symm
           have HB1 := Lib.hid hb1; clear hb1 hk hkN hN9 hN1)
        | (go_at_call 14; refine (join_any _ [] _ ⟨⟨_, 0, rfl, Nat.le_refl _, Nat.zero_le _, rfl, fun e => by (cases e), fun e => absurd e (by simp)⟩⟩ (fun s hs => by (cases hs))).mono ?_; rintro e w2 ⟨rfl, hb2⟩; rw [jnB_nil])
        | fail)
      go_ret2
      exact .none_ hNP.out (HB1.out.trans (hb2.mono HB1.out.size))
    · by_cases hex : ∃ m, PathB p m
      · obtain ⟨m, hm⟩ := hex
        have HM := Lib.hid hm
        clear hm
        go_enter Tryd.func7, Tryd.ntmps7
        go_wp2_with (first
          | (go_at_call 17; refine c.mono ?_; rintro e w1 ⟨N, k, a, l, rfl, hk, hkN, hN9, hN1, hblk, hb1, hy, hn, hz⟩; have hN1' : ¬ N = 1 := fun e => hp0 (hN1.1 e)
             have hrd := RdT.rest hblk (by rw [← hk]; exact hkN) hN9
             rw [← hk] at hrd
             have hpl := hy (hn m HM.out)
             have hj := join_any _ l w1 hrd hpl.size
             rw [hn m HM.out] at hj
             have HPL := Lib.hid hpl; have HK := Lib.hid hk; have HBL := Lib.hid hblk; have HB1 := Lib.hid hb1; clear hblk hb1 hy hn hz hk hN1 hrd hpl)
          | (go_at_call 14; refine hj.mono ?_; rintro e w2 ⟨rfl, hb2⟩
             have HB2 := Lib.hid (HB1.out.trans (hb2.mono HB1.out.size))
             have HBL2 := Lib.hid (HBL.out.keep (hb2.block _ HBL.out.lt)); clear hb2 hj)
          | fail)
        go_loopw [18] (fun t wr => ∃ i : Nat, t = .int .i64 ((i : Nat) : Int) ∧ i ≤ k ∧ Hid (Below w.heap.size w wr) ∧ Hid (Blk wr w.heap.size 9 (Lib.cellsOf (a :: l) N))) (fun t _ => k - (intOf t).toNat)
        case atStart => exact ⟨0, rfl, Nat.zero_le _, HB2, HBL2⟩
        case round =>
          obtain ⟨i, rfl, hi, hbw, hblk⟩ := hrel
          by_cases hlt : i < k
          · have hil : i < l.length := by have := HK.out; omega
            obtain ⟨x, hx⟩ : ∃ x, x = l[i] := ⟨_, rfl⟩
            have HX := Lib.hid hx.symm
            have hcell0 : (Lib.cellsOf (a :: l) N)[1 + i]? = some (.string x) := by
              unfold Lib.cellsOf
              rw [List.getElem?_toArray, List.getElem?_append_left (by simp; omega), List.map_cons, Nat.add_comm, List.getElem?_cons_succ, List.getElem?_map, List.getElem?_eq_getElem hil, ← hx]; rfl
            have hcell : wr.cell? ⟨w.heap.size, 1 + i, none⟩ = some (.string x) := (hblk.out.cell _).trans hcell0
            have hxs : x.size ≤ 281474976710656 := by
              have h := ((GoodB.iff l).1 HPL.out.jn.1).2 _ (List.getElem_mem hil)
              rw [← hx] at h
              have := h.size; omega
            have hcl := clone_call x wr hxs
            have HC0 := Lib.hid hcell0
            clear hx hxs hcell0
            go_wp2_with (first
              | (go_at_call 18; refine hcl.mono ?_; rintro e w3 ⟨rfl, hb3⟩
                 have hblk3 := hblk.out.keep (hb3.block _ hblk.out.lt)
                 have hcell3 : w3.cell? ⟨w.heap.size, 1 + i, none⟩ = some (.string x) := (hblk3.cell _).trans HC0.out
                 have hfr3 : w3.frozen? ⟨w.heap.size, 1 + i, none⟩ = false := hblk3.frozen _
                 have HBL3 := Lib.hid hblk3; have HB3 := Lib.hid (hbw.out.trans (hb3.mono hbw.out.size)); clear hblk3 hb3 hcl hcell)
              | fail)
            have h := HBL3.out.set_ (1 + i) (.string x)
            rw [cells_same hil HX.out] at h
            exact ⟨⟨i + 1, by simp, by omega, Lib.hid (HB3.out.setCell (Nat.le_refl _) _), Lib.hid h⟩, by simp [intOf]; omega⟩
          · obtain rfl : i = k := by omega
            go_wp2
            go_ret2
            refine .some_ ?_ HPL.out hbw.out
            have := RdT.rest hblk.out (by rw [← HK.out]; exact hkN) hN9
            rw [← HK.out] at this
            exact this
      · have HNP : Hid (∀ m, ¬ PathB p m) := Lib.hid fun m hm => hex ⟨m, hm⟩
        clear hex
        go_enter Tryd.func7, Tryd.ntmps7
        go_wp2_with (first
          | (go_at_call 17; refine c.mono ?_; rintro e w1 ⟨N, k, a, l, rfl, hk, hkN, hN9, hN1, hblk, hb1, hy, hn, hz⟩; have hN1' : ¬ N = 1 := fun e => hp0 (hN1.1 e)
             have hrd := RdT.rest hblk (by rw [← hk]; exact hkN) hN9
             rw [← hk] at hrd
             have hj := join_any _ l w1 hrd (fun s hs => by have := hz s hs; unfold maxLen; omega)
             have hne := text_ne (s := jnB l) (t := p) fun e => HNP.out _ (hy e)
             obtain ⟨q, hq⟩ : ∃ q, q = jnB l := ⟨_, rfl⟩
             rw [← hq] at hj hne
             have HB1 := Lib.hid hb1; clear hblk hb1 hy hn hz hk hN1 hrd hq)
          | (go_at_call 14; refine hj.mono ?_; rintro e w2 ⟨rfl, hb2⟩)
          | fail)
        go_ret2
        exact .none_ HNP.out (HB1.out.trans (hb2.mono HB1.out.size))
end Go.Proofs.YtolcnbiaiolcoaaDoor
