/- Pieces handed over: mine, plain; structs stored whole. -/
import Derived.Test.YtlpdpbhnfhihjaaGreatLpR
namespace Go.Proofs.YtlpdpbhnfhihjaaGreat
open Go.RowKit

theorem Blk.lsetCells {g : Nat} {t : TypeId} : ∀ (vs : List Value) (o : Nat) (w : World) (cs : Array Value), Blk w g t cs → ∃ cs', Blk (w.setCells g o vs) g t cs' ∧ cs'.size = cs.size
  | [], _, _, cs, h => ⟨cs, h, rfl⟩
  | v :: r, o, w, cs, h => by
    rw [World.setCells]
    obtain ⟨cs', h1, h2⟩ := Blk.lsetCells r (o + 1) _ _ (h.set_ o v)
    exact ⟨cs', h1, by rw [h2]; simp⟩


theorem Blk.putAll {w : World} {g : Nat} {t : TypeId} {C D : Array Value} (h : Blk w g t C) (hs : D.size = C.size) : Blk (w.setCells g 0 D.toList) g t D := by
  obtain ⟨C', h1, h2⟩ := Blk.lsetCells D.toList 0 w C h
  have e : C' = D := by
    apply Array.ext (by omega)
    intro k hk1 hk2
    have hin := World.cell?_setCells_in g D.toList 0 w (fun j hj => by
      rw [h.cell (0 + j), Nat.zero_add, Array.getElem?_eq_getElem (by simp at hj; omega)]; rfl) k (by simpa using hk2)
    rw [Nat.zero_add, h1.cell k, Array.getElem?_eq_getElem hk1] at hin
    simpa using hin
  rw [← e]; rw [e] at h1 ⊢; exact h1
theorem Blk.five {w : World} {b : Nat} {t : TypeId} {a0 a1 a2 a3 a4 : Value} (h : Blk w b t #[a0, a1, a2, a3, a4]) : w.cell? ⟨b, 0, none⟩ = some a0 ∧ w.cell? ⟨b, 1, none⟩ = some a1 ∧ w.cell? ⟨b, 2, none⟩ = some a2 ∧ w.cell? ⟨b, 3, none⟩ = some a3 ∧ w.cell? ⟨b, 4, none⟩ = some a4 :=
  ⟨h.cell 0, h.cell 1, h.cell 2, h.cell 3, h.cell 4⟩
theorem Blk.there {w : World} {g : Nat} {t : TypeId} {C : Array Value} (h : Blk w g t C) : w.there g 0 C.size := fun j hj =>
  ⟨by rw [h.cell (0 + j), Nat.zero_add, Array.getElem?_eq_getElem hj]; rfl, h.frozen (0 + j)⟩
theorem sizePiece : (Tryz.prog.info? 102).map (·.size) = some 5 := by kernel_rfl
theorem sizeRPiece : (Tryz.prog.info? 94).map (·.size) = some 5 := by kernel_rfl
def pc5 (e c : Int) (f g : Bool) (v : Value) : Array Value := #[.int .u64 e, .int .u64 c, .bool f, .bool g, v]
theorem pc5_one (e c : Int) (f g : Bool) (A : Option Addr) (m k : Nat) : (pc5 e c f g (.slice A m k)).all (·.oneCell') = true := by simp [pc5, Value.oneCell']
theorem st_store5 {ops : Array Oper} {o : Oper} {a : Act} {w : World} {Q : Exit → Act → World → Prop} {K : Act → World → Prop} {E : Prop} {t t' : TypeId} (hsz : (Tryz.prog.info? t).map (·.size) = some 5) (hgd : o.guard = none) (x y : Operand) (ho : o.op = .store t x y)
    (z : Nat) (C D : Array Value) (hB : Blk w z t' C) (hC : C.size = 5) (hD : D.size = 5) (h1 : D.all (·.oneCell') = true) (hx : a.eval x = .pointer (some ⟨z, 0, none⟩)) (hy : a.eval y = .agg D)
    (h : K (a.put o.dst undef) (w.setCells z 0 D.toList)) : if Region.wanted o (yielded ops a.tmps) = true then Oper.wp Tryz.prog o a w K Q else E := by
  rw [if_pos (by simp [Region.wanted, hgd])]
  refine wp_store_mid t x y ho z 0 D hx hy ?_ (by rw [hsz, hD]) h1 h
  have := hB.there
  rw [hC] at this
  rw [hD]; exact this

/-- a piece that came back: its data in new memory -/
def MineR (w : World) (e c : Int) (f g : Bool) (l : List Nat) (x : Ending) (w' : World) : Prop :=
  ∃ a k F, x = .returned (.agg #[.int .u64 e, .int .u64 c, .bool f, .bool g, .slice a l.length k]) ∧ Sl w' F 5 1 (.slice a l.length k) l.length (l.map u8) ∧ Adv Nul w F w'
end Go.Proofs.YtlpdpbhnfhihjaaGreat
