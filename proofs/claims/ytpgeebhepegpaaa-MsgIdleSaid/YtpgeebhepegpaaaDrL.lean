/- Rows of bytes held against each other; the program's Entries. -/
import Derived.Test.YtpgeebhepegpaaaDrK
import Derived.Test.YtpgeebhepegpaaaDrG
namespace Go.Proofs.Ytpgeebhepegpaaa
open Go.ChangeShapes Go.WideShapes Go.ChangeAt Go.RowKit

section
variable {w w' : World} {v : Value} {rs : List (List Nat)}
set_option maxRecDepth 3000 in
theorem RwD.form (h : RwD w v rs) : ∃ A c, v = .slice A rs.length c ∧ rs.length ≤ c ∧ c ≤ maxLen := by
  obtain ⟨cs, h1, _⟩ := h.ex
  exact h1.form
set_option maxRecDepth 3000 in
theorem RwD.len {A : Option Addr} {n c : Nat} (h : RwD w (.slice A n c) rs) : n = rs.length := by
  obtain ⟨A', c', e, _⟩ := h.form
  injection e with _ e _
set_option maxRecDepth 3000 in
theorem RwD.at_ {A : Option Addr} {n c i : Nat} (h : RwD w (.slice A n c) rs) (hi : i < rs.length) : ∃ b o A' q, A = some ⟨b, o, none⟩ ∧ b < w.heap.size ∧ w.cell? ⟨b, o + i, none⟩ = some (.slice A' (rs[i]).length q) ∧ Rd w 1 (.slice A' (rs[i]).length q) (rs[i]).length ((rs[i]).map u8) := by
  obtain ⟨cs, h1, h2, h3⟩ := h.ex
  obtain ⟨A0, c0, e, _⟩ := h1.form
  injection e with e1 e2 e3
  subst e2
  obtain ⟨b, o, rfl, hb, hc⟩ := h1.cells (by omega) (by decide)
  have hci := List.getElem?_eq_getElem (l := cs) (i := i) (by omega)
  have hr := h3 i _ _ hci (List.getElem?_eq_getElem hi)
  obtain ⟨A', q, e, _⟩ := hr.form
  rw [e] at hr hci
  exact ⟨b, o, A', q, rfl, hb, hc i _ hci, hr⟩
end
/-- bytes that are bytes -/
def All8 (rs : List (List Nat)) : Prop := ∀ r ∈ rs, ∀ x ∈ r, x < 256
set_option maxRecDepth 3000 in
theorem bL_8 (l : List En) : All8 (bL l) := fun r hr => (bL_all l r hr).2
def ErL (w : World) (rs qs : List (List Nat)) (t : Value) (wr : World) : Prop := ∃ k : Nat, k ≤ rs.length ∧ t = .int .i64 (k : Int) ∧ (∀ i, i < k → rs[i]? = qs[i]?) ∧ wr = w
end Go.Proofs.Ytpgeebhepegpaaa
