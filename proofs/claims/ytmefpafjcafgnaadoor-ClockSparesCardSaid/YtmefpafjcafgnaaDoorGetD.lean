/- An answer of a row by its index. -/
namespace Go.Proofs.YtmefpafjcafgnaaDoor
theorem getD_at7 {T : List Bool} {i : Nat} (h : i < T.length) : T.getD i false = T[i] := by
  rw [List.getD_eq_getElem?_getD, List.getElem?_eq_getElem h]; rfl
end Go.Proofs.YtmefpafjcafgnaaDoor
