/- Bytes as a text; whether bytes are the same. -/
import Derived.Test.YteogkanakkbcaaaR01
import Derived.Laws.BytesArg
namespace Go.Proofs.Yteogkanakkbcaaa
open Go.ChangeShapes Go.WideShapes Go.ChangeAt Go.RowKit

/-- bytes as a text -/
def itxt (l : List Nat) : ByteArray := strOfNums (l.map Int.ofNat)
set_option maxRecDepth 3000 in
theorem itxt_inj {a b : List Nat} (ha : ∀ x ∈ a, x < 256) (hb : ∀ x ∈ b, x < 256) (h : itxt a = itxt b) : a = b := by
  have h1 := congrArg (fun s => s.data.toList) h
  simp only [itxt, strOfNums_data, List.map_map] at h1
  have e : ∀ l : List Nat, (∀ x ∈ l, x < 256) → l = ((l.map ((fun n : Int => UInt8.ofNat n.toNat) ∘ Int.ofNat)).map UInt8.toNat) := fun l hl => by
    rw [List.map_map]
    conv => lhs; rw [← List.map_id l]
    refine List.map_congr_left fun x hx => ?_
    have := hl x hx
    simp [Function.comp]
    omega
  rw [e a ha, e b hb, h1]
set_option maxRecDepth 3000 in
theorem iconvert_rd {w : World} {A : Option Addr} {n c : Nat} {l : List Nat} (h : Rd w 1 (.slice A n c) n (l.map u8)) : (convert 66 9 (.slice A n c)).run Try.prog w = .ok (.string (itxt l)) w := by
  have hl : l.length = n := by obtain ⟨_, _, _, _, _, h, _⟩ := h; simpa using h
  obtain ⟨A', c', e, _, _, _, hA, hc⟩ := h
  injection e with e1 e2 e3
  subst e1 e3
  by_cases h0 : 0 < n
  · obtain ⟨ad, rfl, hb, hcell⟩ := hc h0
    obtain ⟨b, o, spot⟩ := ad
    have h00 := hcell 0 _ (List.getElem?_eq_getElem (by simp; omega))
    have hspot : spot = none := by simpa [Addr.add] using World.cell?_spot h00
    subst hspot
    refine run_convert_bytes_arg (P := Try.prog) w 66 5 Try.underlying66 Try.underlying5 b o n c (l.map Int.ofNat) (by simp [hl]) (fun i hi => ?_) 9 Try.underlying9
    have h := hcell i (u8 l[i]) (by rw [List.getElem?_map, List.getElem?_eq_getElem (by omega)]; rfl)
    rw [add_none] at h
    rw [h, List.getD_eq_getElem?_getD, List.getElem?_map, List.getElem?_eq_getElem (by omega)]
    rfl
  · obtain rfl : n = 0 := by omega
    obtain rfl : l = [] := List.eq_nil_of_length_eq_zero hl
    have := run_convert_bytes_string (P := Try.prog) w 66 9 5 A 0 c Try.underlying66 Try.underlying5 Try.underlying9
    rw [this]
    cases A with
    | none => simp [Conv.bytesToString]; rfl
    | some ad =>
      rw [run_bytesToString w ad 0 c [] (by simpa using run_loadCells_list (P := Try.prog) w ad [] (by simp))]
      rfl
end Go.Proofs.Yteogkanakkbcaaa
