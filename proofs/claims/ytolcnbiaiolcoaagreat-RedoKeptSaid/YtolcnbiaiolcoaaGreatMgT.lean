/- Pieces that came in; whether any piece is sealed at all; which stamps there are. ATOMIC SECTORS: a sector torn between two pieces. -/
import Derived.Test.YtolcnbiaiolcoaaGreatLpU
import Derived.Deep.Slices
import Derived.Deep.Fields
import Derived.ChangeArms
namespace Go.Proofs.YtolcnbiaiolcoaaGreat
open Go.ChangeShapes Go.WideShapes Go.ChangeAt Go.RowKit Go.Deep

set_option maxRecDepth 3000 in
theorem lopen_cell_ints {H : Type} {enc : TypeId × Value → H} {P : Program} {W : World} {t e : TypeId} {k : IntKind} {fuel : Nat} {v : Value} {x : DataW H × List MemPlace} (ht : P.underlying t = some (.slice e)) (he : P.underlying e = some (.int k)) (hc : P.cellsOf e = 1)
    (hf : DataW.trod enc P W 0 (fun _ => true) true fuel t [v] = some x) :
    ∃ (n : Nat) (zs : List Int), Rd W 1 v n (zs.map (Value.int k)) ∧ zs.length = n ∧ (∀ z ∈ zs, (Lit.int k z).wf = true) ∧ (∀ b, v.ownBlock = some b → 0 < n → b < W.heap.size) := by
  rcases open_ints ht he hc hf with ⟨hcs, _⟩ | ⟨x, l, c, zs, hcs, _, hl, hm, hz, _, hcell, hwz⟩
  · simp at hcs
    subst hcs
    exact ⟨0, [], ⟨none, 0, rfl, Nat.le_refl _, Nat.zero_le _, rfl, fun _ => rfl, fun hn => absurd hn (by omega)⟩, rfl, fun _ hz => by simp at hz, fun b hb => by simp [Value.ownBlock] at hb⟩
  · simp at hcs
    subst hcs
    have hz' : zs.length = c := by simpa using hz
    have hlt : 0 < l → x.block < W.heap.size := fun hn => by
      have h := World.block_lt_of_cell? _ _ (hcell 0 (by omega))
      rwa [add_block] at h
    refine ⟨l, zs.take l, ⟨some x, c, rfl, hl, hm, by simp; omega, fun hn => (by cases hn), fun hn => ⟨x, rfl, hlt hn, fun j u hu => ?_⟩⟩, by simp; omega, fun z hzz => hwz z (List.mem_of_mem_take hzz), fun b hb hn => ?_⟩
    · obtain ⟨h1, h2, rfl⟩ := getD_map_int k zs l j u hu
      exact hcell j (by omega)
    · have : x.block = b := by simpa [Value.ownBlock] using hb
      rw [← this]; exact hlt hn

set_option maxRecDepth 3000 in
theorem Rd.lrest8 {w : World} {g c t : Nat} {l : List Nat} (h : Rd w 1 (.slice (some ⟨g, 0, none⟩) 128 c) 128 (l.map u8)) (ht : t ≤ 128) (A : Option Addr) (hA : A = if c = t then some ⟨g, 0, none⟩ else some ⟨g, t, none⟩) : Rd w 1 (.slice A (128 - t) (c - t)) (128 - t) ((l.drop t).map u8) := by
  have hl := h.len8
  have hh := h
  obtain ⟨_, c', e, h1, h2, _⟩ := hh
  injection e with e1 e2 e3
  subst e3
  by_cases h0 : t < 128
  · have hr := h.sub t (128 - t) (c - t) (by omega) (by omega) (by omega)
    rw [Nat.zero_add, List.take_of_length_le (by rw [List.length_drop]; omega)] at hr
    rw [hA, if_neg (by omega)]
    exact hr
  · obtain rfl : t = 128 := by omega
    rw [List.drop_of_length_le (by omega)]
    refine ⟨A, c - 128, rfl, by omega, by omega, rfl, fun e => ?_, fun h => absurd h (by decide)⟩
    rw [hA] at e
    split at e <;> cases e

set_option maxRecDepth 3000 in
theorem cellsRPiece : Tryz.prog.cellsOf 91 = 5 := by kernel_rfl
set_option maxRecDepth 3000 in
theorem cellsU64 : Tryz.prog.cellsOf 49 = 1 := by kernel_rfl
set_option maxRecDepth 3000 in
theorem lcellsBytes : Tryz.prog.cellsOf 53 = 1 := by kernel_rfl
set_option maxRecDepth 3000 in
theorem lcellsBool : Tryz.prog.cellsOf 4 = 1 := by kernel_rfl
set_option maxRecDepth 3000 in
theorem u64_nat {x : Int} (h : (Lit.int .u64 x).wf = true) : ∃ n : Nat, x = (n : Int) ∧ n < 18446744073709551616 := by
  have hb := bounds_u64 h
  exact ⟨x.toNat, by omega, by omega⟩

/-- A piece that came in. -/
structure PIn (W : World) (cs : List Value) (e c : Nat) (f g : Bool) (v : Value) (l : List Nat) : Prop where
  cs : cs = [.int .u64 (e : Int), .int .u64 (c : Int), .bool f, .bool g, v]
  d : In W v l
  e : e < 18446744073709551616
  c : c < 18446744073709551616
set_option maxRecDepth 3000 in
theorem open_rpiece {H : Type} {enc : TypeId × Value → H} {W : World} {n : Nat} {cs : List Value} {x : DataW H × List MemPlace} (h : DataW.trod enc Tryz.prog W 0 (fun _ => true) true n 91 cs = some x) :
    ∃ e c f g v l, PIn W cs e c f g v l := by
  obtain ⟨xs, m, _, _, hlen, hxl, hf⟩ := DataW.trod_struct Tryz.underlying91 h
  rw [cellsRPiece] at hlen
  match cs, hlen with
  | [c0, c1, c2, c3, c4], _ =>
    match xs, hxl with
    | [y0, y1, y2, y3, y4], _ =>
      have f0 := hf 0 _ rfl
      have f1 := hf 1 _ rfl
      have f2 := hf 2 _ rfl
      have f3 := hf 3 _ rfl
      have f4 := hf 4 _ rfl
      change DataW.trod enc Tryz.prog W 0 (fun _ => true) true m 49 ((([c0, c1, c2, c3, c4] : List Value).drop 0).take (Tryz.prog.cellsOf 49)) = some y0 at f0
      change DataW.trod enc Tryz.prog W 0 (fun _ => true) true m 49 ((([c0, c1, c2, c3, c4] : List Value).drop 1).take (Tryz.prog.cellsOf 49)) = some y1 at f1
      change DataW.trod enc Tryz.prog W 0 (fun _ => true) true m 4 ((([c0, c1, c2, c3, c4] : List Value).drop 2).take (Tryz.prog.cellsOf 4)) = some y2 at f2
      change DataW.trod enc Tryz.prog W 0 (fun _ => true) true m 4 ((([c0, c1, c2, c3, c4] : List Value).drop 3).take (Tryz.prog.cellsOf 4)) = some y3 at f3
      change DataW.trod enc Tryz.prog W 0 (fun _ => true) true m 53 ((([c0, c1, c2, c3, c4] : List Value).drop 4).take (Tryz.prog.cellsOf 53)) = some y4 at f4
      rw [cellsU64] at f0 f1
      rw [lcellsBool] at f2 f3
      rw [lcellsBytes] at f4
      obtain ⟨a0, e0, _, w0⟩ := DataW.trod_int Tryz.underlying49 f0
      obtain ⟨a1, e1, _, w1⟩ := DataW.trod_int Tryz.underlying49 f1
      obtain ⟨a2, e2, _⟩ := DataW.trod_bool Tryz.underlying4 f2
      obtain ⟨a3, e3, _⟩ := DataW.trod_bool Tryz.underlying4 f3
      obtain ⟨l, hl⟩ := In.of_rd_ints (lopen_cell_ints Tryz.underlying53 Tryz.underlying5 (by kernel_rfl) (v := c4) f4)
      simp at e0 e1 e2 e3
      obtain ⟨n0, rfl, h0⟩ := u64_nat w0
      obtain ⟨n1, rfl, h1⟩ := u64_nat w1
      subst e0 e1 e2 e3
      exact ⟨n0, n1, a2, a3, c4, l, rfl, hl, h0, h1⟩
def PArg (W : World) (x : Value) : Prop := ∃ e c f g v l, x = .agg #[.int .u64 ((e : Nat) : Int), .int .u64 ((c : Nat) : Int), .bool f, .bool g, v] ∧ In W v l ∧ e < 18446744073709551616 ∧ c < 18446744073709551616
set_option maxRecDepth 3000 in
theorem open_parg {H : Type} {enc : TypeId × Value → H} {W : World} {base : Nat} {r : Reach} {v : Value} {d : DataW H} {p : List MemPlace} (hv : Value.okWide Tryz.prog W r base 91 v) (h : DataW.Trod enc Tryz.prog W 0 (fun _ => true) true 91 v d p) : PArg W v := by
  obtain ⟨cs, rfl, _⟩ := okWide_struct Tryz.underlying91 hv
  obtain ⟨fuel, hf⟩ := h
  obtain ⟨e, c, f, g, v, l, h1, h2, h3, h4⟩ := open_rpiece hf
  refine ⟨e, c, f, g, v, l, ?_, h2, h3, h4⟩
  rw [← h1]; simp [Value.cells]

set_option maxRecDepth 3000 in
theorem unseal_any (v : Value) (n : Nat) (l : List Nat) (w : World) (h : Rd w 1 v n (l.map u8)) (hl : ∀ x ∈ l, x < 256) : Calls Tryz.prog 99 #[v] w (UnR w l) := by
  by_cases hn : n = 128
  · subst hn
    by_cases h9 : l.getD 9 0 ≤ 106
    · exact unseal_len v l w h hl h9
    · exact unseal_bad v _ l w h (.inr (by omega))
  · exact unseal_bad v n l w h (.inl hn)
set_option maxRecDepth 3000 in
theorem UnR.sealed {w w' : World} {p : Pc} {x : Ending} (hp : p.ok) (h : UnR w (sealL p) x w') : ∃ a k F, x = .returned (.tuple #[.agg #[.int .u64 (p.e : Int), .int .u64 (p.c : Int), .bool p.f, .bool p.g, .slice a p.d.length k], .int .i64 0]) ∧
    Sl w' F 5 1 (.slice a p.d.length k) p.d.length (p.d.map u8) ∧ Adv Nul w F w' := by
  have e : unsealP (sealL p) = p := by rw [unsealP, if_pos (seal_whole hp), dec_seal hp]
  have e2 : unsealE (sealL p) = 0 := if_pos (seal_whole hp)
  unfold UnR at h
  rw [e, e2] at h
  exact h

def P0 : Pc := ⟨1, 5, true, false, [7]⟩
set_option maxRecDepth 3000 in
theorem P0_ok : P0.ok := by decide
set_option maxRecDepth 3000 in
theorem one_new (w : World) (x : Nat) : Rd (w.alloc (.cells #[.int .u8 (x : Int)] 5)) 1 (.slice (some ⟨w.heap.size, 0, none⟩) 1 1) 1 ([x].map u8) := by
  refine ⟨_, _, rfl, by decide, by unfold maxLen; decide, rfl, fun h => (by cases h), fun _ => ⟨_, rfl, by simp, fun j u hu => ?_⟩⟩
  rw [add_none, Nat.zero_add, (Blk.new w 5 #[.int .u8 (x : Int)]).cell j, List.getElem?_toArray]
  exact hu
set_option maxRecDepth 3000 in
theorem u64_quo (s : Nat) : (s : Int) / 1099511627776 = ((s / 1099511627776 : Nat) : Int) := by simp
set_option maxRecDepth 3000 in
theorem u64_rem (s : Nat) : (s : Int) % 1099511627776 = ((s % 1099511627776 : Nat) : Int) := by simp
end Go.Proofs.YtolcnbiaiolcoaaGreat
namespace Go.Proofs.YtolcnbiaiolcoaaGreat
open Go.RowKit

theorem lapp_le {m : Nat} (h : m ≤ 128) : m + (128 - m) ≤ 1000000000 := by omega
theorem rest_end {w : World} {v : Value} {a : Addr} {t k : Nat} {l : List Nat} (h : Rd w 1 v 128 (l.map u8)) (ht : t = 128) (hk : k = 0) : Rd w 1 (.slice (some a) (128 - t) k) (128 - t) ((l.drop t).map u8) := by
  have hl := h.len8
  subst ht hk
  rw [List.drop_of_length_le (by omega)]
  exact ⟨_, _, rfl, by decide, Nat.zero_le _, rfl, fun e => (by cases e), fun h => absurd h (by decide)⟩
theorem Rd.drewN {w : World} {v : Value} {n : Nat} {xs : List Value} (h : Rd w 1 v n xs) (k : Nat) : Rd (w.drewN k) 1 v n xs := h
def sealE (p : Pc) : Int := if p.ok then 0 else 2
def SealO (w : World) (p : Pc) (x : Ending) (w' : World) : Prop :=
  ∃ A m k F, x = .returned (.tuple #[.slice A m k, .int .i64 (sealE p)]) ∧ Adv Nul w F w' ∧ (p.ok → m = 128 ∧ Sl w' F 5 1 (.slice A 128 k) 128 ((sealL p).map u8)) ∧ (¬ p.ok → A = none ∧ m = 0 ∧ k = 0)
theorem seal_any (p : Pc) (v : Value) (w : World) (hv : Rd w 1 v p.d.length (p.d.map u8)) (hd : ∀ x ∈ p.d, x < 256) :
    Calls Tryz.prog 84 #[.agg #[.int .u64 (p.e : Int), .int .u64 (p.c : Int), .bool p.f, .bool p.g, v]] w (SealO w p) := by
  by_cases h : p.ok
  · refine (seal_ok p v w h hv hd).mono ?_
    rintro x w' ⟨v', F, rfl, h1, a1⟩
    obtain ⟨A, k, rfl, _, _⟩ := h1.form0
    exact ⟨A, 128, k, F, by rw [sealE, if_pos h], a1, fun _ => ⟨rfl, h1⟩, fun h' => absurd h h'⟩
  · refine (seal_no p v w h hv).mono ?_
    rintro x w' ⟨rfl, a1⟩
    exact ⟨none, 0, 0, Nul, by rw [sealE, if_neg h], a1, fun h' => absurd h' h, fun _ => ⟨rfl, rfl, rfl⟩⟩
theorem rseal_any (p : Pc) (v : Value) (w : World) (hv : Rd w 1 v p.d.length (p.d.map u8)) (hd : ∀ x ∈ p.d, x < 256) :
    Calls Tryz.prog 56 #[.agg #[.int .u64 (p.e : Int), .int .u64 (p.c : Int), .bool p.f, .bool p.g, v]] w (SealO w p) := by
  by_cases h : p.ok
  · refine (rseal_ok p v w h hv hd).mono ?_
    rintro x w' ⟨v', F, rfl, h1, a1⟩
    obtain ⟨A, k, rfl, _, _⟩ := h1.form0
    exact ⟨A, 128, k, F, by rw [sealE, if_pos h], a1, fun _ => ⟨rfl, h1⟩, fun h' => absurd h h'⟩
  · refine (rseal_no p v w h hv).mono ?_
    rintro x w' ⟨rfl, a1⟩
    exact ⟨none, 0, 0, Nul, by rw [sealE, if_neg h], a1, fun h' => absurd h' h, fun _ => ⟨rfl, rfl, rfl⟩⟩
end Go.Proofs.YtolcnbiaiolcoaaGreat
