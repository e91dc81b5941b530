/- The first document answer's plain words: Within, Same, Cut, Copy. -/
import Derived.Test.YteogkanakkbcaaaBase
import Derived.Deep.QuietTactic
import Derived.BigQuiet
namespace Go.Proofs.Yteogkanakkbcaaa
open Go.ChangeShapes Go.WideShapes Go.ChangeAt Go.RowKit

set_option maxRecDepth 3000 in
theorem within_any (x a b : Int) (w : World) (hab : a ≤ b) :
    Calls Try.prog 15 #[.int .i64 x, .int .i64 a, .int .i64 b] w fun e w' => ∃ y : Int, e = .returned (.int .i64 y) ∧ a ≤ y ∧ y ≤ b ∧ (a ≤ x → x ≤ b → y = x) ∧ w = w' := by
  by_cases h1 : x < a
  · go_enter Try.func15, Try.ntmps15
    go_wp2
    go_ret
    exact ⟨a, rfl, by omega, hab, by omega, rfl⟩
  · by_cases h2 : b < x
    · go_enter Try.func15, Try.ntmps15
      go_wp2
      go_ret
      exact ⟨b, rfl, hab, by omega, by omega, rfl⟩
    · go_enter Try.func15, Try.ntmps15
      go_wp2
      go_ret
      exact ⟨x, rfl, by omega, by omega, by simp, rfl⟩

/-- What is known of bytes that came in. -/
structure In (W : World) (v : Value) (l : List Nat) : Prop where
  rd : Rd W 1 v l.length (l.map u8)
  old : ∀ b, v.ownBlock = some b → 0 < l.length → b < W.heap.size
  lt : ∀ x ∈ l, x < 256
theorem In.below {W w : World} {v : Value} {l : List Nat} (h : In W v l) (hb : Below W.heap.size W w) : Rd w 1 v l.length (l.map u8) := h.rd.below hb (fun k hk hn _ => h.old k hk hn)
theorem In.far {W w : World} {v : Value} {l : List Nat} (h : In W v l) (hb : Below W.heap.size W w) : In w v l := ⟨h.below hb, fun b hb' hn => Nat.lt_of_lt_of_le (h.old b hb' hn) hb.size, h.lt⟩

theorem In.of_rd_ints {W : World} {v : Value} (h : ∃ (n : Nat) (zs : List Int), Rd W 1 v n (zs.map (Value.int .u8)) ∧ zs.length = n ∧ (∀ z ∈ zs, (Lit.int .u8 z).wf = true) ∧ (∀ b, v.ownBlock = some b → 0 < n → b < W.heap.size)) : ∃ l, In W v l := by
  obtain ⟨n, zs, h1, h2, h3, h4⟩ := h
  have hb : ∀ z ∈ zs, 0 ≤ z ∧ z < 256 := fun z hz => by have := bounds_u8 (h3 z hz); omega
  have e : (zs.map Int.toNat).map u8 = zs.map (Value.int .u8) := by
    rw [List.map_map]
    refine List.map_congr_left fun z hz => ?_
    have := hb z hz
    simp only [Function.comp, u8]
    rw [Int.toNat_of_nonneg this.1]
  refine ⟨zs.map Int.toNat, ⟨by rw [e, List.length_map, h2]; exact h1, fun b hb hn => h4 b hb (by rw [List.length_map, h2] at hn; exact hn), fun x hx => ?_⟩⟩
  obtain ⟨z, hz, rfl⟩ := List.mem_map.1 hx
  have := hb z hz
  omega

/-- Bytes that came in, with their number. -/
structure InN (W : World) (v : Value) (m : Nat) (l : List Nat) : Prop where
  len : m = l.length
  rd : Rd W 1 v m (l.map u8)
  old : ∀ b, v.ownBlock = some b → 0 < m → b < W.heap.size
  lt : ∀ x ∈ l, x < 256
theorem In.num {W : World} {v : Value} {m : Nat} {l : List Nat} (h : In W v l) (hm : m = l.length) : InN W v m l := by subst hm; exact ⟨rfl, h.rd, h.old, h.lt⟩
theorem InN.far {W w : World} {v : Value} {m : Nat} {l : List Nat} (h : InN W v m l) (hb : Below W.heap.size W w) : InN w v m l :=
  ⟨h.len, h.rd.below hb (fun k hk hn _ => h.old k hk hn), fun b hb' hn => Nat.lt_of_lt_of_le (h.old b hb' hn) hb.size, h.lt⟩
theorem InN.rdl {W : World} {v : Value} {m : Nat} {l : List Nat} (h : InN W v m l) : Rd W 1 v l.length (l.map u8) := by rw [← h.len]; exact h.rd
theorem Sl.rdl {w : World} {F : Nat → Prop} {v : Value} {m : Nat} {l : List Nat} (h : Sl w F 5 1 v m (l.map u8)) (hm : m = l.length) : Rd w 1 v l.length (l.map u8) := by rw [← hm]; exact h.rd

/-- an own row of bytes, one of them stored anew -/
theorem Sl.set8 {w : World} {F : Nat → Prop} {g c n : Nat} {l : List Nat} (h : Sl w F 5 1 (.slice (some ⟨g, 0, none⟩) n c) n (l.map u8)) (k y : Nat) (v : Int) (hv : v = (y : Int)) :
    Sl (w.setCell ⟨g, k, none⟩ (.int .u8 v)) F 5 1 (.slice (some ⟨g, 0, none⟩) n c) n ((l.set k y).map u8) := by
  have h1 := (h.own.stored k (.int .u8 v)).1
  refine ⟨?_, h.inF, fun j hj => by have := h.bd j hj; simpa [World.setCell] using this⟩
  rw [List.map_set, show u8 y = .int .u8 v from by rw [hv]; rfl]
  exact h1
theorem Sl.at8 {w : World} {F : Nat → Prop} {g c n k : Nat} {l : List Nat} (h : Sl w F 5 1 (.slice (some ⟨g, 0, none⟩) n c) n (l.map u8)) (hk : k < n) (hl : k < l.length) : w.cell? ⟨g, k, none⟩ = some (.int .u8 (l[k] : Int)) := by
  rw [h.own.cellAt k (by omega), List.getElem?_map, List.getElem?_eq_getElem hl]; rfl
theorem InN.at8 {w : World} {v : Value} {m k : Nat} {l : List Nat} (h : InN w v m l) (hk : k < l.length) : ∃ b o c, v = .slice (some ⟨b, o, none⟩) m c ∧ b < w.heap.size ∧ ∀ j (hj : j < l.length), w.cell? ⟨b, o + j, none⟩ = some (.int .u8 (l[j] : Int)) := by
  obtain ⟨A, c, rfl, _, _⟩ := h.rd.form
  obtain ⟨b, o, rfl, hb, hc⟩ := h.rd.cells (by have := h.len; omega) (by decide)
  exact ⟨b, o, c, rfl, hb, fun j hj => hc j _ (by rw [List.getElem?_map, List.getElem?_eq_getElem hj]; rfl)⟩

set_option maxRecDepth 10000 in
theorem open_in {H : Type} {enc : TypeId × Value → H} {W : World} {base : Nat} {r : Reach} {v : Value} {d : DataW H} {p : List MemPlace} (hv : Value.okWide Try.prog W r base 66 v) (h : DataW.Trod enc Try.prog W 0 (fun _ => true) true 66 v d p) : ∃ l, In W v l :=
  In.of_rd_ints (open_rd_ints Try.underlying66 Try.underlying5 (by kernel_rfl) hv h)
end Go.Proofs.Yteogkanakkbcaaa
