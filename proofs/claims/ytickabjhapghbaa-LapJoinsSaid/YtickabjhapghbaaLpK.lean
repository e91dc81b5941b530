/- Cut: how many pieces, which; the program's Cut. -/
import Derived.Test.YtickabjhapghbaaLpZ
import Derived.Great.FillDense
namespace Go.Proofs.Ytickabjhapghbaa
open Go.RowKit

/-- how many pieces a record of m bytes has -/
def needN (m : Nat) : Nat := max 1 ((m + 105) / 106)
theorem needN_pos (m : Nat) : 1 ≤ needN m := Nat.le_max_left _ _
theorem needN_ge (m : Nat) : m ≤ needN m * 106 := by
  have := Nat.le_max_right 1 ((m + 105) / 106)
  unfold needN; omega
theorem needN_le {m k : Nat} (hk : 1 ≤ k) (h : m ≤ k * 106) : needN m ≤ k := by
  unfold needN; omega
/-- the pieces of a record -/
def pieceAt (e c : Nat) (l : List Nat) (i : Nat) : Pc := ⟨e, c + i, i == 0, i == needN l.length - 1, (l.drop (i * 106)).take 106⟩
def cutP (e c : Nat) (l : List Nat) : List Pc := (List.range (needN l.length)).map (pieceAt e c l)
theorem cutP_length (e c : Nat) (l : List Nat) : (cutP e c l).length = needN l.length := by simp [cutP]
theorem cutP_at (e c : Nat) (l : List Nat) {i : Nat} (h : i < needN l.length) : (cutP e c l)[i]'(by rw [cutP_length]; exact h) = pieceAt e c l i := by simp [cutP]
/-- which error -/
def cutE (e c m : Nat) : Int := if e ≤ 16777215 ∧ c ≤ 1099511627775 ∧ needN m - 1 ≤ 1099511627775 - c then (if m ≤ 8192 then 0 else 5) else 2
def cutV (e c : Nat) (l : List Nat) : List Pc := if cutE e c l.length = 0 then cutP e c l else []

theorem ret_int {k : IntKind} {a b : Int} (h : a = b) : Ending.returned (.int k a) = .returned (.int k b) := by rw [h]
set_option maxRecDepth 3000 in
theorem need_any (m : Nat) (w : World) (hm : m ≤ 1000000000) : Calls Try.prog 52 #[.int .i64 (m : Int)] w fun x w' => x = .returned (.int .i64 (needN m : Int)) ∧ w = w' := by
  have hmI : (m : Int) ≤ 1000000000 := by omega
  have e : ((needN m : Nat) : Int) = max 1 (((m : Int) + 105) / 106) := by unfold needN; omega
  have HE := Lib.hid e
  clear hm e
  go_enter Try.func52, Try.ntmps52
  go_wp2_with fail
  all_goals
    go_ret
    exact ⟨ret_int (by rw [HE.out]; omega), rfl⟩

/-- Pieces that can be read. -/
def PRd (w : World) (v : Value) (ps : List Pc) : Prop :=
  ∃ A k, v = .slice A ps.length k ∧ ps.length ≤ k ∧ k ≤ maxLen ∧ (0 < ps.length → ∃ b o, A = some ⟨b, o, none⟩ ∧ b < w.heap.size ∧ ∀ i (h : i < ps.length), ∃ a q,
    w.cell? ⟨b, o + (i * 5 + 0), none⟩ = some (.int .u64 (ps[i].e : Int)) ∧ w.cell? ⟨b, o + (i * 5 + 1), none⟩ = some (.int .u64 (ps[i].c : Int)) ∧ w.cell? ⟨b, o + (i * 5 + 2), none⟩ = some (.bool ps[i].f) ∧ w.cell? ⟨b, o + (i * 5 + 3), none⟩ = some (.bool ps[i].g) ∧
    w.cell? ⟨b, o + (i * 5 + 4), none⟩ = some (.slice a ps[i].d.length q) ∧ Rd w 1 (.slice a ps[i].d.length q) ps[i].d.length (ps[i].d.map u8))
theorem PRd.nil (w : World) : PRd w (.slice none 0 0) [] := ⟨none, 0, rfl, Nat.le_refl _, Nat.zero_le _, fun h => absurd h (by decide)⟩
theorem PRd.step {w w' : World} {v : Value} {ps : List Pc} {F' : Nat → Prop} (h : PRd w v ps) (ha : Adv Nul w F' w') : PRd w' v ps := by
  obtain ⟨A, k, rfl, h1, h2, h3⟩ := h
  refine ⟨A, k, rfl, h1, h2, fun hn => ?_⟩
  obtain ⟨b, o, rfl, hb, hc⟩ := h3 hn
  have hk : w'.heap[b]? = w.heap[b]? := ha.block b hb (fun h => h)
  refine ⟨b, o, rfl, Nat.lt_of_lt_of_le hb ha.size, fun i hi => ?_⟩
  obtain ⟨a, q, c0, c1, c2, c3, c4, hr⟩ := hc i hi
  have e : ∀ j, w'.cell? ⟨b, j, none⟩ = w.cell? ⟨b, j, none⟩ := fun j => World.cell?_of_block hk
  exact ⟨a, q, by rw [e]; exact c0, by rw [e]; exact c1, by rw [e]; exact c2, by rw [e]; exact c3, by rw [e]; exact c4, hr.far (fun _ _ _ h => ha.block _ h (fun h => h)) ha.size⟩
end Go.Proofs.Ytickabjhapghbaa
