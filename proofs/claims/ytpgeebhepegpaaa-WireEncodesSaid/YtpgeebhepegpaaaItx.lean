/- Bytes as a text; whether bytes are the same. -/
import Derived.Test.YtpgeebhepegpaaaR01
import Derived.Laws.BytesArg
namespace Go.Proofs.Ytpgeebhepegpaaa
open Go.ChangeShapes Go.WideShapes Go.ChangeAt Go.RowKit

/-- bytes as a text -/
def itxt (l : List Nat) : ByteArray := strOfNums (l.map Int.ofNat)
set_option maxRecDepth 3000 in
theorem itxt_inj {a b : List Nat} (ha : ∀ x ∈ a, x < 256) (hb : ∀ x ∈ b, x < 256) (h : itxt a = itxt b) : a = b := by
  have h1 := congrArg (fun s => s.data.toList) h
  simp only [itxt, strOfNums_data, List.map_map] at h1
  have e : ∀ l : List Nat, (∀ x ∈ l, x < 256) → l = ((l.map ((fun n : Int => UInt8.ofNat n.toNat) ∘ Int.ofNat)).map UInt8.toNat) := fun l hl => by
    rw [List.map_map]
    conv => lhs; rw [← List.map_id l]
    refine List.map_congr_left fun x hx => ?_
    have := hl x hx
    simp [Function.comp]
    omega
  rw [e a ha, e b hb, h1]
set_option maxRecDepth 3000 in
theorem iconvert_rd {w : World} {A : Option Addr} {n c : Nat} {l : List Nat} (h : Rd w 1 (.slice A n c) n (l.map u8)) : (convert 38 9 (.slice A n c)).run Try.prog w = .ok (.string (itxt l)) w := by
  have hl : l.length = n := by obtain ⟨_, _, _, _, _, h, _⟩ := h; simpa using h
  obtain ⟨A', c', e, _, _, _, hA, hc⟩ := h
  injection e with e1 e2 e3
  subst e1 e3
  by_cases h0 : 0 < n
  · obtain ⟨ad, rfl, hb, hcell⟩ := hc h0
    obtain ⟨b, o, spot⟩ := ad
    have h00 := hcell 0 _ (List.getElem?_eq_getElem (by simp; omega))
    have hspot : spot = none := by simpa [Addr.add] using World.cell?_spot h00
    subst hspot
    refine run_convert_bytes_arg (P := Try.prog) w 38 5 Try.underlying38 Try.underlying5 b o n c (l.map Int.ofNat) (by simp [hl]) (fun i hi => ?_) 9 Try.underlying9
    have h := hcell i (u8 l[i]) (by rw [List.getElem?_map, List.getElem?_eq_getElem (by omega)]; rfl)
    rw [add_none] at h
    rw [h, List.getD_eq_getElem?_getD, List.getElem?_map, List.getElem?_eq_getElem (by omega)]
    rfl
  · obtain rfl : n = 0 := by omega
    obtain rfl : l = [] := List.eq_nil_of_length_eq_zero hl
    have := run_convert_bytes_string (P := Try.prog) w 38 9 5 A 0 c Try.underlying38 Try.underlying5 Try.underlying9
    rw [this]
    cases A with
    | none => simp [Conv.bytesToString]; rfl
    | some ad =>
      rw [run_bytesToString w ad 0 c [] (by simpa using run_loadCells_list (P := Try.prog) w ad [] (by simp))]
      rfl

set_option maxRecDepth 3000 in
theorem isame_any (v1 v2 : Value) (n1 n2 : Nat) (l1 l2 : List Nat) (w : World) (h1 : Rd w 1 v1 n1 (l1.map u8)) (h2 : Rd w 1 v2 n2 (l2.map u8)) :
    Calls Try.prog 23 #[v1, v2] w fun e w' => e = .returned (.bool (decide (l1 = l2))) ∧ (∃ k, w' = w.drewN k) := by
  have hl1 : l1.length = n1 := by obtain ⟨_, _, _, _, _, h, _⟩ := h1; simpa using h
  have hl2 : l2.length = n2 := by obtain ⟨_, _, _, _, _, h, _⟩ := h2; simpa using h
  by_cases hn : n1 = n2
  · subst hn
    obtain ⟨A1, c1, rfl, _, _⟩ := h1.form
    obtain ⟨A2, c2, rfl, _, hc2⟩ := h2.form
    unfold maxLen at hc2
    have H1 := Lib.hid h1
    have H2 := Lib.hid h2
    have HL1 := Lib.hid hl1
    have HL2 := Lib.hid hl2
    clear h1 h2 hl1 hl2
    go_enter Try.func23, Try.ntmps23
    go_wp2_with fail
    go_loopw [5] (fun t wr => ∃ k : Nat, t = .int .i64 ((k : Nat) : Int) ∧ k ≤ n1 ∧ l1.take k = l2.take k ∧ ∃ j, wr = w.drewN j) (fun t _ => n1 - (intOf t).toNat)
    case atStart => exact ⟨0, rfl, Nat.zero_le _, rfl, 0, rfl⟩
    case round =>
      obtain ⟨k, rfl, hk, htk, j, rfl⟩ := hrel
      have HT := Lib.hid htk
      clear htk
      by_cases hlt : k < n1
      · obtain ⟨b1, o1, rfl, _, g1⟩ := H1.out.cells (by omega) (by decide)
        obtain ⟨b2, o2, rfl, _, g2⟩ := H2.out.cells (by omega) (by decide)
        have hk1 : k < l1.length := by have := HL1.out; omega
        have hk2 : k < l2.length := by have := HL2.out; omega
        have c1' : w.cell? ⟨b1, o1 + k, none⟩ = some (.int .u8 (l1[k] : Int)) := g1 k _ (by rw [List.getElem?_map, List.getElem?_eq_getElem hk1]; rfl)
        have c2' : w.cell? ⟨b2, o2 + k, none⟩ = some (.int .u8 (l2[k] : Int)) := g2 k _ (by rw [List.getElem?_map, List.getElem?_eq_getElem hk2]; rfl)
        have hnext : l1[k] = l2[k] → l1.take (k + 1) = l2.take (k + 1) := fun e => by
          rw [List.take_succ_eq_append_getElem hk1, List.take_succ_eq_append_getElem hk2, HT.out, e]
        have hdiff : l1[k] ≠ l2[k] → l1 ≠ l2 := fun e h => by subst h; exact e rfl
        obtain ⟨x, hx⟩ : ∃ x, x = l1[k] := ⟨_, rfl⟩
        obtain ⟨y, hy⟩ : ∃ y, y = l2[k] := ⟨_, rfl⟩
        rw [← hx] at c1' hnext hdiff
        rw [← hy] at c2' hnext hdiff
        have HN := Lib.hid hnext
        have HD := Lib.hid hdiff
        clear g1 g2 hx hy hk1 hk2 hnext hdiff
        by_cases hxy : x = y
        · have HX := Lib.hid (HN.out hxy)
          subst hxy
          go_wp2_with fail
          go_quiet (fail)
          go_wp2
          exact ⟨⟨k + 1, by simp, by omega, HX.out, _, rfl⟩, by simp [intOf]; omega⟩
        · have HX := Lib.hid (HD.out hxy)
          have hne : ((x : Int) != (y : Int)) = true := by rw [bne_iff_ne]; omega
          clear hxy
          go_wp2_with fail
          go_quiet (fail)
          go_wp2
          go_ret
          rw [decide_eq_false HX.out]
          exact ⟨rfl, j + nq, World.drewN_drewN _ _ _⟩
      · obtain rfl : k = n1 := by omega
        have e : l1 = l2 := by
          have h := HT.out
          rwa [List.take_of_length_le (by have := HL1.out; omega), List.take_of_length_le (by have := HL2.out; omega)] at h
        have HE := Lib.hid e
        clear e
        go_wp2
        go_ret
        rw [decide_eq_true HE.out]
        exact ⟨rfl, _, rfl⟩
  · obtain ⟨A1, c1, rfl, _, _⟩ := h1.form
    obtain ⟨A2, c2, rfl, _, hc2⟩ := h2.form
    have hne : ((n1 : Int) != (n2 : Int)) = true := by rw [bne_iff_ne]; omega
    have HD : Hid (l1 ≠ l2) := by intro h; subst h; omega
    clear h1 h2 hl1 hl2
    go_enter Try.func23, Try.ntmps23
    go_wp2_with fail
    go_ret
    rw [decide_eq_false HD.out]
    exact ⟨rfl, 0, rfl⟩


end Go.Proofs.Ytpgeebhepegpaaa
