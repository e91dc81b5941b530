/- Which pieces any record has. -/
import Derived.Test.YtlpdpbhnfhihjaaGreatLpKc
import Derived.Test.YtlpdpbhnfhihjaaGreatMgX
import Derived.Deep.DeepCutAuto
namespace Go.Proofs.YtlpdpbhnfhihjaaGreat
open Go.RowKit

theorem pcut_any (e c : Nat) (v : Value) (l : List Nat) (w : World) (hv : Rd w 1 v l.length (l.map u8)) (hl : l.length ≤ 100000) :
    Calls Tryz.prog 85 #[.int .u64 (e : Int), .int .u64 (c : Int), v] w (CutR w e c l) := by
  by_cases h : cutE e c l.length = 0
  · exact (pcut_ok e c v l w hv h).mono (fun _ _ h => h.cut)
  · exact (pcut_no e c v l w hv hl h).mono (fun _ _ h => h.cut)
theorem pcutn_any (e c : Nat) (v : Value) (l : List Nat) (w : World) (hv : Rd w 1 v l.length (l.map u8)) (hl : l.length ≤ 100000) :
    Calls Tryz.prog 85 #[.int .u64 (e : Int), .int .u64 (c : Int), v] w (CutN w e c l) := by
  by_cases h : cutE e c l.length = 0
  · exact pcut_ok e c v l w hv h
  · exact pcut_no e c v l w hv hl h
theorem CutR.opened {w w' : World} {e c : Nat} {l : List Nat} {x : Ending} (h : CutR w e c l x w') : ∃ A k, x = .returned (.tuple #[.slice A (cutV e c l).length k, .int .i64 (cutE e c l.length)]) ∧ PRd w' (.slice A (cutV e c l).length k) (cutV e c l) ∧ Adv Nul w Nul w' := by
  obtain ⟨A, n, k, rfl, hp, ha⟩ := h
  have hh := hp
  obtain ⟨A', k', e', _⟩ := hh
  injection e' with _ e2 _
  subst e2
  exact ⟨A, k, rfl, hp, ha⟩
/-- the cells of two pieces -/
def Cells5 (w : World) (b o : Nat) (p : Pc) (v : Value) : Prop :=
  w.cell? ⟨b, o, none⟩ = some (.int .u64 (p.e : Int)) ∧ w.cell? ⟨b, o + 1, none⟩ = some (.int .u64 (p.c : Int)) ∧ w.cell? ⟨b, o + 2, none⟩ = some (.bool p.f) ∧ w.cell? ⟨b, o + 3, none⟩ = some (.bool p.g) ∧ w.cell? ⟨b, o + 4, none⟩ = some v
theorem PRd.row {w : World} {A : Option Addr} {n k : Nat} {ps : List Pc} (h : PRd w (.slice A n k) ps) {i : Nat} (hi : i < ps.length) : ∃ b o a q, A = some ⟨b, o, none⟩ ∧ b < w.heap.size ∧ Cells5 w b (o + i * 5) ps[i] (.slice a ps[i].d.length q) ∧ Rd w 1 (.slice a ps[i].d.length q) ps[i].d.length (ps[i].d.map u8) := by
  obtain ⟨A', k', e, _, _, hc⟩ := h
  injection e with e1 _ _
  subst e1
  obtain ⟨b, o, rfl, hb, hr⟩ := hc (by omega)
  obtain ⟨a, q, c0, c1, c2, c3, c4, hd⟩ := hr i hi
  refine ⟨b, o, a, q, rfl, hb, ⟨by simpa using c0, ?_, ?_, ?_, ?_⟩, hd⟩
  · rw [Nat.add_assoc]; exact c1
  · rw [Nat.add_assoc]; exact c2
  · rw [Nat.add_assoc]; exact c3
  · rw [Nat.add_assoc]; exact c4
theorem Cells5.step {w w' : World} {b o : Nat} {p : Pc} {v : Value} {F : Nat → Prop} (h : Cells5 w b o p v) (hb : b < w.heap.size) (ha : Adv Nul w F w') : Cells5 w' b o p v := by
  have hk := ha.block b hb (fun h => h)
  have e : ∀ j, w'.cell? ⟨b, j, none⟩ = w.cell? ⟨b, j, none⟩ := fun j => World.cell?_of_block hk
  obtain ⟨c0, c1, c2, c3, c4⟩ := h
  exact ⟨by rw [e]; exact c0, by rw [e]; exact c1, by rw [e]; exact c2, by rw [e]; exact c3, by rw [e]; exact c4⟩
structure Two (w : World) (b1 o1 b2 o2 : Nat) (p : Pc) (v1 v2 : Value) : Prop where
  c1 : Cells5 w b1 o1 p v1
  c2 : Cells5 w b2 o2 p v2
  l1 : b1 < w.heap.size
  l2 : b2 < w.heap.size
theorem Two.ten {w w' : World} {b1 o1 b2 o2 pe pn : Nat} {pf pg : Bool} {p : Pc} {v1 v2 : Value} {F : Nat → Prop} (h : Two w b1 o1 b2 o2 p v1 v2) (ha : Adv Nul w F w') (e1 : pe = p.e) (e2 : pn = p.c) (e3 : pf = p.f) (e4 : pg = p.g) :
    w'.cell? ⟨b1, o1, none⟩ = some (.int .u64 (pe : Int)) ∧ w'.cell? ⟨b1, o1 + 1, none⟩ = some (.int .u64 (pn : Int)) ∧ w'.cell? ⟨b1, o1 + 2, none⟩ = some (.bool pf) ∧ w'.cell? ⟨b1, o1 + 3, none⟩ = some (.bool pg) ∧ w'.cell? ⟨b1, o1 + 4, none⟩ = some v1 ∧
    w'.cell? ⟨b2, o2, none⟩ = some (.int .u64 (pe : Int)) ∧ w'.cell? ⟨b2, o2 + 1, none⟩ = some (.int .u64 (pn : Int)) ∧ w'.cell? ⟨b2, o2 + 2, none⟩ = some (.bool pf) ∧ w'.cell? ⟨b2, o2 + 3, none⟩ = some (.bool pg) ∧ w'.cell? ⟨b2, o2 + 4, none⟩ = some v2 := by
  subst e1 e2 e3 e4
  obtain ⟨a0, a1, a2, a3, a4⟩ := h.c1.step h.l1 ha
  obtain ⟨d0, d1, d2, d3, d4⟩ := h.c2.step h.l2 ha
  exact ⟨a0, a1, a2, a3, a4, d0, d1, d2, d3, d4⟩
def BytesR (W : World) (t2 : Value) (wr : World) : Prop := ∃ (A : Option Addr) (q : Nat) (l : List Nat), t2 = .slice A l.length q ∧ Rd wr 1 (.slice A l.length q) l.length (l.map u8) ∧ (∀ x ∈ l, x < 256) ∧ l.length ≤ 8400 ∧ Adv Nul W Nul wr
def CutsL (w : World) (N : Nat) (t : Value) (wr : World) : Prop := ∃ k : Nat, k ≤ N ∧ t = .int .i64 (k : Int) ∧ Adv Nul w Nul wr

theorem bytes_made {W w1 : World} {N : Nat} {v : Value} (hown : w1.ownsRow 0 5 1 v N (List.replicate N (.int .u8 0))) (ha : Adv Nul W Nul w1) (hN : N ≤ 8400) : BytesR W v w1 := by
  have e : (List.replicate N 0).map u8 = List.replicate N (.int .u8 0) := by rw [List.map_replicate]; rfl
  have hl : (List.replicate N 0).length = N := List.length_replicate
  have hs : Sl w1 (fun j => v.ownBlock = some j) 5 1 v N ((List.replicate N 0).map u8) := ⟨by rw [e]; exact hown, fun _ h => h, fun k hk => (hown.lt k hk).2⟩
  obtain ⟨A, q, rfl, _, _⟩ := hs.form0
  refine ⟨A, q, List.replicate N 0, by rw [hl], by rw [hl]; exact hs.rd, fun x hx => by rw [List.eq_of_mem_replicate hx]; decide, by rw [hl]; exact hN, ha⟩
end Go.Proofs.YtlpdpbhnfhihjaaGreat
