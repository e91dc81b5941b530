/- The statements' few, the document's Same. -/
import Derived.Test.YtpgeebhepegpaaaDrJ
import Derived.Test.YtpgeebhepegpaaaShort
import Derived.BigQuiet
import Derived.Deep.QuietTactic
namespace Go.Proofs.Ytpgeebhepegpaaa
open Go.ChangeShapes Go.WideShapes Go.ChangeAt Go.RowKit

def cut20 (s : ByteArray) : ByteArray := if 20 < s.size then s.extract 0 20 else s
set_option maxRecDepth 3000 in
theorem cut20_size (s : ByteArray) : (cut20 s).size ≤ 20 := by
  unfold cut20
  split
  · simp only [ByteArray.size_extract]; omega
  · omega
set_option maxRecDepth 3000 in
theorem short20 (s : ByteArray) (w : World) (hs : s.size ≤ maxLen) : Calls Try.prog 29 #[.string s, .int .i64 20] w fun e w' => e = .returned (.string (cut20 s)) ∧ w = w' := short_any s 20 w (by decide) hs
def cutE7 (e : En) : En := { e with s := cut20 e.s }
def fewL (n : Nat) (l : List En) : List En := (l.take n).map cutE7
set_option maxRecDepth 3000 in
theorem fewL_size (n : Nat) (l : List En) : ∀ e ∈ fewL n l, e.s.size ≤ 20 := by
  intro e he
  obtain ⟨d, _, rfl⟩ := List.mem_map.1 he
  exact cut20_size _
set_option maxRecDepth 3000 in
theorem fewL_length (n : Nat) (l : List En) : (fewL n l).length = min n l.length := by simp [fewL]
def FwL7 (w : World) (l : List En) (n : Nat) (t5 t6 : Value) (wr : World) : Prop := ∃ j : Nat, t6 = .int .i64 (j : Int) ∧ j ≤ l.length ∧ j ≤ n ∧ EnO w (fewL j l) t5 wr
end Go.Proofs.Ytpgeebhepegpaaa
