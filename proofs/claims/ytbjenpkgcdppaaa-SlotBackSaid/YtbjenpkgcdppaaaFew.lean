/- The statements' lists of calls, and few. -/
import Derived.Test.YtbjenpkgcdppaaaR01
import Derived.Test.YtbjenpkgcdppaaaShort
namespace Go.Proofs.Ytbjenpkgcdppaaa
open Go.RowKit

structure Do where
  kind : Int
  x : Nat
  n : Int
  s : ByteArray

def Do.cells (d : Do) : List Value := [.int .i64 d.kind, .int .u64 (d.x : Int), .int .i64 d.n, .string d.s]
def cellsOf (l : List Do) : List Value := l.flatMap Do.cells

theorem cellsOf_length (l : List Do) : (cellsOf l).length = l.length * 4 := by
  induction l with
  | nil => rfl
  | cons d l ih => simp [cellsOf, List.flatMap_cons, Do.cells] at ih ⊢; omega
theorem cellsOf_append (l m : List Do) : cellsOf (l ++ m) = cellsOf l ++ cellsOf m := by simp [cellsOf]
theorem cellsOf_at (l : List Do) (k j : Nat) (hj : j < 4) (hk : k < l.length) : (cellsOf l)[k * 4 + j]? = (l[k].cells)[j]? := by
  induction l generalizing k with
  | nil => simp at hk
  | cons d l ih =>
    cases k with
    | zero =>
      simp only [cellsOf, List.flatMap_cons, Nat.zero_mul, Nat.zero_add, List.getElem_cons_zero]
      rw [List.getElem?_append_left (by simpa [Do.cells] using hj)]
    | succ k =>
      have h := ih k (by simpa using hk)
      simp only [cellsOf, List.flatMap_cons, List.getElem_cons_succ] at h ⊢
      rw [List.getElem?_append_right (by simp [Do.cells]; omega), ← h]
      congr 1
      simp [Do.cells]; omega

def shortS (s : ByteArray) : ByteArray := if 40 < s.size then s.extract 0 40 else s
theorem shortS_size (s : ByteArray) : (shortS s).size ≤ 40 := by
  unfold shortS
  split
  · simp only [ByteArray.size_extract]; omega
  · omega
def Do.short (d : Do) : Do := { d with s := shortS d.s }
def fewOf (ds : List Do) : List Do := (ds.map Do.short).take 40

theorem short_few (s : ByteArray) (w : World) (hs : s.size ≤ maxLen) :
    Calls Try.prog 7 #[.string s, .int .i64 40] w fun e w' => e = .returned (.string (shortS s)) ∧ w = w' := short_any s 40 w (by decide) hs

theorem do_one (d : Do) : ∀ u ∈ d.cells, u.oneCell' = true := by
  intro u hu
  simp only [Do.cells, List.mem_cons, List.not_mem_nil, or_false] at hu
  rcases hu with rfl | rfl | rfl | rfl <;> rfl

/-- What is known of a list of calls that came in. -/
def DosIn (w : World) (v : Value) (ds : List Do) : Prop := Rd w 4 v ds.length (cellsOf ds) ∧ (∀ d ∈ ds, d.s.size ≤ maxLen)
end Go.Proofs.Ytbjenpkgcdppaaa
