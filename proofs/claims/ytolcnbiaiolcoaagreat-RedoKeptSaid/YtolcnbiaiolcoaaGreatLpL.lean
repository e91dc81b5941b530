/- Which sector any piece is. -/
import Derived.Test.YtolcnbiaiolcoaaGreatMgT
import Derived.Test.YtolcnbiaiolcoaaGreatMgX
namespace Go.Proofs.YtolcnbiaiolcoaaGreat
open Go.RowKit

theorem Blk.drewN' {w : World} {g : Nat} {t : TypeId} {cs : Array Value} (h : Blk w g t cs) (n : Nat) : Blk (w.drewN n) g t cs := h
/-- the sector, or nothing -/
def sealV (p : Pc) : List Nat := if p.ok then sealL p else []
theorem SealO.rd {w w' : World} {p : Pc} {x : Ending} (h : SealO w p x w') : ∃ A m k F, x = .returned (.tuple #[.slice A m k, .int .i64 (sealE p)]) ∧ Adv Nul w F w' ∧ Rd w' 1 (.slice A m k) m ((sealV p).map u8) ∧ (p.ok → m = 128) ∧ (¬ p.ok → m = 0) := by
  obtain ⟨A, m, k, F, rfl, a1, h1, h2⟩ := h
  refine ⟨A, m, k, F, rfl, a1, ?_, fun h => (h1 h).1, fun h => (h2 h).2.1⟩
  by_cases hp : p.ok
  · obtain ⟨rfl, hs⟩ := h1 hp
    rw [sealV, if_pos hp]; exact hs.rd
  · obtain ⟨rfl, rfl, rfl⟩ := h2 hp
    rw [sealV, if_neg hp]
    exact ⟨none, 0, rfl, Nat.le_refl _, Nat.zero_le _, rfl, fun _ => rfl, fun h => absurd h (by decide)⟩
theorem seal_ends {p : Pc} (h : p.ok) : val ((sealL p).take 8) / 1099511627776 = p.e ∧ val ((sealL p).drop 120) / 1099511627776 = p.e := by
  rw [sealL_take8, sealL_drop120 h.2.2, stamp_val h.1 h.2.1]
  exact ⟨stamp_div h.2.1, stamp_div h.2.1⟩
def endPc (p : Pc) : Nat := if p.ok then p.e else 0
theorem pends_any (p : Pc) (v : Value) (m : Nat) (w : World) (hv : Rd w 1 v m ((sealV p).map u8)) (h1 : p.ok → m = 128) (h2 : ¬ p.ok → m = 0) (hd : ∀ x ∈ p.d, x < 256) :
    Calls Tryz.prog 69 #[v] w fun x w' => x = .returned (.tuple #[.int .u64 (endPc p : Int), .int .u64 (endPc p : Int)]) ∧ ∃ k, w' = w.drewN k := by
  by_cases hp : p.ok
  · obtain rfl := h1 hp
    rw [sealV, if_pos hp] at hv
    refine (ends_any v (sealL p) w hv (sealL_lt hp.2.2 hd)).mono ?_
    rintro x w' ⟨rfl, hk⟩
    obtain ⟨e1, e2⟩ := seal_ends hp
    rw [e1, e2, endPc, if_pos hp]
    exact ⟨rfl, hk⟩
  · obtain rfl := h2 hp
    refine (ends_none v 0 _ w hv (by decide)).mono ?_
    rintro x w' ⟨rfl, rfl⟩
    rw [endPc, if_neg hp]
    exact ⟨rfl, 0, rfl⟩
theorem five2 {w : World} {b q : Nat} {t t' : TypeId} {a0 a1 a2 a3 a4 d0 d1 d2 d3 d4 : Value} (h : Blk w b t #[a0, a1, a2, a3, a4]) (h' : Blk w q t' #[d0, d1, d2, d3, d4]) :
    w.cell? ⟨b, 0, none⟩ = some a0 ∧ w.cell? ⟨b, 1, none⟩ = some a1 ∧ w.cell? ⟨b, 2, none⟩ = some a2 ∧ w.cell? ⟨b, 3, none⟩ = some a3 ∧ w.cell? ⟨b, 4, none⟩ = some a4 ∧ w.cell? ⟨q, 0, none⟩ = some d0 ∧ w.cell? ⟨q, 1, none⟩ = some d1 ∧ w.cell? ⟨q, 2, none⟩ = some d2 ∧ w.cell? ⟨q, 3, none⟩ = some d3 ∧ w.cell? ⟨q, 4, none⟩ = some d4 :=
  ⟨h.cell 0, h.cell 1, h.cell 2, h.cell 3, h.cell 4, h'.cell 0, h'.cell 1, h'.cell 2, h'.cell 3, h'.cell 4⟩

/-- what stays while pieces are compared -/
structure SEnv (V : World) (b q e c : Nat) (f g : Bool) (vb vq : Value) (m : Nat) (l : List Nat) (w : World) : Prop where
  b : Blk w b 91 #[.int .u64 (e : Int), .int .u64 (c : Int), .bool f, .bool g, vb]
  q : Blk w q 100 #[.int .u64 (e : Int), .int .u64 (c : Int), .bool f, .bool g, vq]
  r : Rd w 1 vq m (l.map u8)
  a : Adv Nul V Nul w
theorem SEnv.step {V w w' : World} {b q e c m : Nat} {f g : Bool} {vb vq : Value} {l : List Nat} {F : Nat → Prop} (h : SEnv V b q e c f g vb vq m l w) (ha : Adv Nul w F w') : SEnv V b q e c f g vb vq m l w' :=
  ⟨h.b.keep (ha.block b h.b.lt (fun x => x)), h.q.keep (ha.block q h.q.lt (fun x => x)), h.r.far (fun _ _ _ hl => ha.block _ hl (fun x => x)) ha.size, h.a.trans (ha.sub (fun _ x => x.elim))⟩
end Go.Proofs.YtolcnbiaiolcoaaGreat
