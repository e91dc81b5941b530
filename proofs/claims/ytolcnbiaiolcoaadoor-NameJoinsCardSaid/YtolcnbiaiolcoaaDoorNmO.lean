/- Texts that came in; each cut short. -/
import Derived.Test.YtolcnbiaiolcoaaDoorNmU
import Derived.SliceStrings
namespace Go.Proofs.YtolcnbiaiolcoaaDoor
open Go.ChangeShapes Go.WideShapes Go.ChangeAt Go.RowKit

/-- Texts that came in. -/
structure TextsIn (W : World) (v : Value) (l : List ByteArray) : Prop where
  rd : RdT W v l
  size : ∀ s ∈ l, s.size ≤ maxLen
theorem open_texts {H : Type} {enc : TypeId × Value → H} {W : World} {base : Nat} {r : Reach} {v : Value} {d : DataW H} {p : List MemPlace} (hv : Value.okWide Tryd.prog W r base 23 v) (h : DataW.Trod enc Tryd.prog W 0 (fun _ => true) true 23 v d p) : ∃ l, TextsIn W v l := by
  obtain ⟨a, len, cap, rfl⟩ := okWide_slice Tryd.underlying23 hv
  obtain ⟨fuel, hf⟩ := h
  rcases open_strings Tryd.underlying23 Tryd.underlying9 (by kernel_rfl) hf with ⟨hcs, _⟩ | ⟨x, n, c, ss, hcs, _, hl, hm, hz, _, hcell, hsz⟩
  · simp [Value.cells] at hcs
    obtain ⟨rfl, rfl, rfl⟩ := hcs
    exact ⟨[], .nil W, fun s hs => by (cases hs)⟩
  · simp [Value.cells] at hcs
    obtain ⟨rfl, rfl, rfl⟩ := hcs
    have hz' : ss.length = cap := by simpa using hz
    have hlen : (ss.take len).length = len := by simp; omega
    have hlt : 0 < len → x.block < W.heap.size := fun hn => by
      have h := World.block_lt_of_cell? _ _ (hcell 0 (by omega))
      rwa [add_block] at h
    refine ⟨ss.take len, ⟨⟨some x, cap, by rw [hlen], by omega, hm, by simp, fun e => by (cases e), fun hn => ⟨x, rfl, hlt (by omega), fun j u hu => ?_⟩⟩⟩, fun s hs => hsz s (List.mem_of_mem_take hs)⟩
    rw [List.map_take, List.getElem?_take] at hu
    split at hu
    · next hj =>
      have hj' : j < ss.length := by omega
      rw [List.getElem?_map, List.getElem?_eq_getElem hj'] at hu
      have h := hcell j hj'
      rw [List.getD_eq_getElem?_getD, List.getElem?_eq_getElem hj'] at h
      rw [h]; exact hu
    · cases hu

/-- a text cut short -/
def sh20 (s : ByteArray) : ByteArray := if 20 < s.size then s.extract 0 20 else s
theorem sh20_size (s : ByteArray) : (sh20 s).size ≤ 20 := by
  unfold sh20; split
  · rw [ByteArray.size_extract]; omega
  · omega
def sh20s (l : List ByteArray) : List ByteArray := (l.take 10).map sh20
theorem sh20s_size (l : List ByteArray) : ∀ s ∈ sh20s l, s.size ≤ 20 := by
  intro s hs
  obtain ⟨x, _, rfl⟩ := List.mem_map.1 hs
  exact sh20_size x
def shCells (l : List ByteArray) (k : Nat) : List Value := ((l.take k).map sh20).map Value.string
theorem shCells_succ {l : List ByteArray} {k : Nat} {x : ByteArray} (hk : k < l.length) (hx : x = l[k]) : shCells l (k + 1) = shCells l k ++ [Value.string (sh20 x)] := by
  unfold shCells
  rw [List.take_succ_eq_append_getElem hk, List.map_append, List.map_append, ← hx]; rfl
set_option maxRecDepth 3000 in
theorem texts_any (v : Value) (l : List ByteArray) (w : World) (h : RdT w v l) (hz : ∀ s ∈ l, s.size ≤ maxLen) :
    Calls Tryd.prog 13 #[v, .int .i64 10] w fun e w' => ∃ v', e = .returned v' ∧ RdT w' v' (sh20s l) ∧ Below w.heap.size w w' := by
  obtain ⟨i0, hi, hz0, hz1, hz2⟩ := info_parts infoStr
  obtain ⟨A, c, rfl, h1, h2⟩ := h.form
  unfold maxLen at h2
  obtain ⟨n, hn⟩ : ∃ n, n = l.length := ⟨_, rfl⟩
  rw [← hn]
  rw [← hn] at h h1
  have H := Lib.hid h
  have HN := Lib.hid hn
  have HZ := Lib.hid hz
  have hnz : (n : Int) ≤ 2 ^ 63 - 1 := by omega
  clear h hn hz h1 h2
  go_enter Tryd.func13, Tryd.ntmps13
  go_wp2_with fail
  go_loopw [6, 5] (fun t u wr => ∃ (k : Nat) (F : Nat → Prop), t = .int .i64 ((k : Nat) : Int) ∧ k ≤ n ∧ k ≤ 10 ∧ Hid (Sl wr F 9 1 u k (shCells l k)) ∧ Hid (Adv Nul w F wr)) (fun t _ _ => n - (intOf t).toNat)
  case atStart => exact ⟨0, Nul, rfl, by omega, by omega, Lib.hid (Sl.nil _ _ _), Lib.hid (Adv.refl _ _)⟩
  case round =>
    obtain ⟨k, F, rfl, hk, hk10, hS, hA⟩ := hrel
    obtain ⟨a5, c5, rfl, _, _⟩ := hS.out.form0
    by_cases hlt : k < n
    · by_cases h10 : k = 10
      · have HK : Hid (k = 10) := Lib.hid h10
        have h10' : ¬ ((k : Int) < 10) := by omega
        clear h10
        go_wp2_with fail
        go_ret
        exact ⟨_, rfl, ⟨by have := hS.out.rd; rw [HK.out] at this; unfold shCells at this; unfold sh20s; have hl : (List.map sh20 (List.take 10 l)).length = 10 := by (have := HN.out; have := HK.out; simp; omega)
                           rw [hl]; rw [HK.out]; exact this⟩, hA.out.toBelow⟩
      · have h10' : (k : Int) < 10 := by omega
        have hkl : k < l.length := by have := HN.out; omega
        obtain ⟨b1, o1, rfl, hb1, g1⟩ := (H.out.below hA.out.toBelow).at_ HN.out hkl
        have c1' := g1 k hkl
        have hsz : l[k].size ≤ maxLen := HZ.out _ (List.getElem_mem hkl)
        obtain ⟨x, hx⟩ : ∃ x, x = l[k] := ⟨_, rfl⟩
        rw [← hx] at c1' hsz
        have HX := Lib.hid hx
        have hc : Calls Tryd.prog 6 #[.string x, .int .i64 20] wr fun e w' => e = .returned (.string (sh20 x)) ∧ wr = w' := short_any x 20 wr (by decide) hsz
        have hown := hS.out.own
        clear g1 hx hsz hb1 h10
        go_wp2_with (first
          | (go_at_call 6; refine hc.mono ?_; rintro e w1 ⟨rfl, rfl⟩)
          | (at_builtin; refine wpList_append_own_at _ rfl (.tmp 18) (.tmp 24) 23 rfl 0 9 i0 (.string ByteArray.empty) 1 16 Tryd.underlying23 hi hz0 hz1 hz2 rfl (by decide) (.slice a5 k c5) k _ rfl (hown.alloc _) ⟨wr.heap.size, 0, none⟩ 1 1 [_] rfl rfl (cell_one_new _ _ _) ?c2 ?c3 ?c4 (Nat.zero_le _) ?c5)
          | fail)
        case c2 => intro u hu; simp at hu; subst hu; rfl
        case c3 => unfold maxLen; omega
        case c4 => omega
        case c5 =>
          intro v' w1 hown1 hg1 _ hat1
          obtain ⟨h1, h2⟩ := one_grownT hS.out hA.out hown1 hg1 hat1 (by omega)
          have H1 := Lib.hid h1
          have H2 := Lib.hid h2
          clear h1 h2 hown1 hg1 hat1 hown
          go_wp2
          refine ⟨⟨k + 1, _, by simp, by omega, by omega, Lib.hid ?_, H2⟩, by simp [intOf]; omega⟩
          rw [shCells_succ hkl HX.out]
          exact H1.out
    · obtain rfl : k = n := by omega
      go_wp2
      go_ret
      refine ⟨_, rfl, ⟨?_⟩, hA.out.toBelow⟩
      have := hS.out.rd
      unfold shCells at this
      rw [HN.out, List.take_length] at this
      unfold sh20s
      rw [List.take_of_length_le (by rw [← HN.out]; exact hk10), List.length_map, HN.out]
      exact this
end Go.Proofs.YtolcnbiaiolcoaaDoor
