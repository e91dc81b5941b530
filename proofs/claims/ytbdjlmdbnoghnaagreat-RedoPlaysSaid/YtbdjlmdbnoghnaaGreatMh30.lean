/- slices.Sorted(maps.Keys(m)) at a map of ints: the library's contracts. What is not home is brought home: words, keys in their order. What is not home is brought home: the walk. Save, the program's. -/
import Derived.Test.YtbdjlmdbnoghnaaGreatMh17
import Derived.Shelf.SlIterI.Nil
import Derived.Shelf.SortM.Plain
import Derived.Shelf.SortM.SortNone
import Derived.Test.YtbdjlmdbnoghnaaGreatMh18
import Derived.Maps.Range
import Derived.Test.YtbdjlmdbnoghnaaGreatMh12
import Derived.Test.YtbdjlmdbnoghnaaGreatMh16
namespace Go.Proofs.YtbdjlmdbnoghnaaGreat
open Go.RowKit Go.Maps Go.Sort Go.Shelf

def keysA_ren : Go.Shelf.Ren := ⟨fun | 7 => 89 | 10 => 113 | n => n, fun | 23 => 72 | 26 => 3 | 3 => 114 | 28 => 144 | 0 => 0 | 27 => 143 | 33 => 113 | 4 => 4 | n => n, fun | n => n⟩
theorem keysA : SlLaysZI.n7 Tryz.prog keysA_ren := {
  mixed := by kernel_rfl,
  f7 := ⟨Tryz.f89.name, by decide, Tryz.func89.trans (congrArg some (by kernel_rfl))⟩,
  f10 := ⟨Tryz.f113.name, by decide, Tryz.func113.trans (congrArg some (by kernel_rfl))⟩,
  t0 := Tryz.underlying0,
  a0 := Tryz.isAgg0,
  z0 := Tryz.sizeOf0,
  v0 := Tryz.zeroValue0,
  t4 := Tryz.underlying4,
  a4 := Tryz.isAgg4,
  z4 := Tryz.sizeOf4,
  v4 := Tryz.zeroValue4,
  t23 := Tryz.underlying72,
  a23 := Tryz.isAgg72,
  z23 := Tryz.sizeOf72,
  v23 := Tryz.zeroValue72,
  t26 := Tryz.underlying3,
  a26 := Tryz.isAgg3,
  z26 := Tryz.sizeOf3,
  v26 := Tryz.zeroValue3,
  t27 := Tryz.underlying143,
  a27 := Tryz.isAgg143,
  z27 := Tryz.sizeOf143,
  v27 := Tryz.zeroValue143,
  t28 := Tryz.underlying144,
  a28 := Tryz.isAgg144,
  z28 := Tryz.sizeOf144,
  v28 := Tryz.zeroValue144,
  t33 := Tryz.underlying113,
  a33 := Tryz.isAgg113,
  z33 := Tryz.sizeOf113,
  v33 := Tryz.zeroValue113 }
def sortedA_ren : Go.Shelf.Ren := ⟨fun | 6 => 88 | 8 => 111 | 9 => 112 | 11 => 127 | 13 => 129 | 12 => 128 | 23 => 141 | 24 => 142 | 14 => 132 | 15 => 133 | 16 => 134 | 17 => 135 | 18 => 136 | 19 => 137 | 20 => 138 | 21 => 139 | 22 => 140 | 25 => 143 | 26 => 144 | 27 => 145 | 28 => 146 | 29 => 147 | 30 => 148 | 31 => 149 | n => n, fun | 26 => 3 | 28 => 144 | 24 => 39 | 0 => 0 | 3 => 3 | 37 => 166 | 48 => 140 | 50 => 49 | 4 => 4 | 40 => 182 | 39 => 181 | 45 => 187 | 5 => 5 | 9 => 9 | 51 => 190 | 55 => 194 | 57 => 196 | 58 => 197 | 33 => 113 | n => n, fun | n => n⟩
theorem sortedA : SlLaysZI.n6 Tryz.prog sortedA_ren := {
  mixed := by kernel_rfl,
  f6 := ⟨Tryz.f88.name, by decide, Tryz.func88.trans (congrArg some (by kernel_rfl))⟩,
  f8 := ⟨Tryz.f111.name, by decide, Tryz.func111.trans (congrArg some (by kernel_rfl))⟩,
  f11 := ⟨Tryz.f127.name, by decide, Tryz.func127.trans (congrArg some (by kernel_rfl))⟩,
  t0 := Tryz.underlying0,
  a0 := Tryz.isAgg0,
  z0 := Tryz.sizeOf0,
  v0 := Tryz.zeroValue0,
  t24 := Tryz.underlying39,
  a24 := Tryz.isAgg39,
  z24 := Tryz.sizeOf39,
  v24 := Tryz.zeroValue39,
  t26 := Tryz.underlying3,
  a26 := Tryz.isAgg3,
  z26 := Tryz.sizeOf3,
  v26 := Tryz.zeroValue3,
  t28 := Tryz.underlying144,
  a28 := Tryz.isAgg144,
  z28 := Tryz.sizeOf144,
  v28 := Tryz.zeroValue144,
  i26 := by kernel_rfl }
def sortA_ren : Go.Shelf.Ren := ⟨fun | 5 => 112 | 8 => 129 | 7 => 128 | 19 => 141 | 20 => 142 | 10 => 132 | 11 => 133 | 12 => 134 | 13 => 135 | 14 => 136 | 15 => 137 | 16 => 138 | 17 => 139 | 18 => 140 | 30 => 143 | 31 => 144 | 32 => 145 | 33 => 146 | 34 => 147 | 35 => 148 | 40 => 149 | n => n, fun | 23 => 39 | 25 => 3 | 3 => 3 | 32 => 166 | 22 => 39 | 0 => 0 | 44 => 140 | 46 => 49 | 4 => 4 | 36 => 182 | 35 => 181 | 41 => 187 | 5 => 5 | 9 => 9 | 53 => 190 | 57 => 194 | 63 => 196 | 64 => 197 | n => n, fun | n => n⟩
theorem sortA : SlLaysM.n5 Tryz.prog sortA_ren := {
  mixed := by kernel_rfl,
  f5 := ⟨Tryz.f112.name, by decide, Tryz.func112.trans (congrArg some (by kernel_rfl))⟩,
  f7 := ⟨Tryz.f128.name, by decide, Tryz.func128.trans (congrArg some (by kernel_rfl))⟩,
  f8 := Tryz.func129.trans (congrArg some (by kernel_rfl)),
  f10 := ⟨Tryz.f132.name, by decide, Tryz.func132.trans (congrArg some (by kernel_rfl))⟩,
  f11 := ⟨Tryz.f133.name, by decide, Tryz.func133.trans (congrArg some (by kernel_rfl))⟩,
  f12 := ⟨Tryz.f134.name, by decide, Tryz.func134.trans (congrArg some (by kernel_rfl))⟩,
  f13 := ⟨Tryz.f135.name, by decide, Tryz.func135.trans (congrArg some (by kernel_rfl))⟩,
  f14 := ⟨Tryz.f136.name, by decide, Tryz.func136.trans (congrArg some (by kernel_rfl))⟩,
  f15 := ⟨Tryz.f137.name, by decide, Tryz.func137.trans (congrArg some (by kernel_rfl))⟩,
  f16 := ⟨Tryz.f138.name, by decide, Tryz.func138.trans (congrArg some (by kernel_rfl))⟩,
  f17 := ⟨Tryz.f139.name, by decide, Tryz.func139.trans (congrArg some (by kernel_rfl))⟩,
  f18 := ⟨Tryz.f140.name, by decide, Tryz.func140.trans (congrArg some (by kernel_rfl))⟩,
  f19 := Tryz.func141.trans (congrArg some (by kernel_rfl)),
  f20 := Tryz.func142.trans (congrArg some (by kernel_rfl)),
  f30 := ⟨Tryz.f143.name, by decide, Tryz.func143.trans (congrArg some (by kernel_rfl))⟩,
  f31 := Tryz.func144.trans (congrArg some (by kernel_rfl)),
  f32 := Tryz.func145.trans (congrArg some (by kernel_rfl)),
  f33 := ⟨Tryz.f146.name, by decide, Tryz.func146.trans (congrArg some (by kernel_rfl))⟩,
  f34 := ⟨Tryz.f147.name, by decide, Tryz.func147.trans (congrArg some (by kernel_rfl))⟩,
  f35 := ⟨Tryz.f148.name, by decide, Tryz.func148.trans (congrArg some (by kernel_rfl))⟩,
  f40 := ⟨Tryz.f149.name, by decide, Tryz.func149.trans (congrArg some (by kernel_rfl))⟩,
  t0 := Tryz.underlying0,
  a0 := Tryz.isAgg0,
  z0 := Tryz.sizeOf0,
  v0 := Tryz.zeroValue0,
  t3 := Tryz.underlying3,
  a3 := Tryz.isAgg3,
  z3 := Tryz.sizeOf3,
  v3 := Tryz.zeroValue3,
  t4 := Tryz.underlying4,
  a4 := Tryz.isAgg4,
  z4 := Tryz.sizeOf4,
  v4 := Tryz.zeroValue4,
  t5 := Tryz.underlying5,
  a5 := Tryz.isAgg5,
  z5 := Tryz.sizeOf5,
  v5 := Tryz.zeroValue5,
  t9 := Tryz.underlying9,
  a9 := Tryz.isAgg9,
  z9 := Tryz.sizeOf9,
  v9 := Tryz.zeroValue9,
  t22 := Tryz.underlying39,
  a22 := Tryz.isAgg39,
  z22 := Tryz.sizeOf39,
  v22 := Tryz.zeroValue39,
  t23 := Tryz.underlying39,
  a23 := Tryz.isAgg39,
  z23 := Tryz.sizeOf39,
  v23 := Tryz.zeroValue39,
  t25 := Tryz.underlying3,
  a25 := Tryz.isAgg3,
  z25 := Tryz.sizeOf3,
  v25 := Tryz.zeroValue3,
  t32 := Tryz.underlying166,
  a32 := Tryz.isAgg166,
  z32 := Tryz.sizeOf166,
  v32 := Tryz.zeroValue166,
  t35 := Tryz.underlying181,
  a35 := Tryz.isAgg181,
  z35 := Tryz.sizeOf181,
  v35 := Tryz.zeroValue181,
  t36 := Tryz.underlying182,
  a36 := Tryz.isAgg182,
  z36 := Tryz.sizeOf182,
  v36 := Tryz.zeroValue182,
  t41 := Tryz.underlying187,
  a41 := Tryz.isAgg187,
  z41 := Tryz.sizeOf187,
  v41 := Tryz.zeroValue187,
  t44 := Tryz.underlying140,
  a44 := Tryz.isAgg140,
  z44 := Tryz.sizeOf140,
  v44 := Tryz.zeroValue140,
  t46 := Tryz.underlying49,
  a46 := Tryz.isAgg49,
  z46 := Tryz.sizeOf49,
  v46 := Tryz.zeroValue49,
  t53 := Tryz.underlying190,
  a53 := Tryz.isAgg190,
  z53 := Tryz.sizeOf190,
  v53 := Tryz.zeroValue190,
  t57 := Tryz.underlying194,
  a57 := Tryz.isAgg194,
  z57 := Tryz.sizeOf194,
  v57 := Tryz.zeroValue194,
  t63 := Tryz.underlying196,
  a63 := Tryz.isAgg196,
  z63 := Tryz.sizeOf196,
  v63 := Tryz.zeroValue196,
  t64 := Tryz.underlying197,
  a64 := Tryz.isAgg197,
  z64 := Tryz.sizeOf197,
  v64 := Tryz.zeroValue197 }
theorem sortsA (m : Nat) : AnyZI.SortsIn Tryz.prog sortedA_ren Fence.wide m :=
  ⟨fun blk off cap ss W hH hblk hsz => callsIn_wide.2 (AnyM.slices_Sort_int sortA blk off cap ss W hH hblk hsz),
   fun p cap W => callsIn_wide.2 (AnyM.slices_Sort_int_none sortA p cap W)⟩
theorem keys_call (mb : Option Nat) (w : World) : Calls Tryz.prog 89 #[.map mb] w fun e w' => e = .returned (.func (.func 113) #[] #[.pointer (some ⟨w.heap.size, 0, none⟩)]) ∧ w' = w.alloc (.cells #[.map mb] 72) :=
  (callsIn_wide (n := 5)).1 (AnyZI.keys_in keysA Fence.wide 5 trivial rfl mb w)
theorem sorted_call {H : Type} (b nn : Nat) (D0 : DataW H) (R : Value → Option (DataW H × List MemPlace)) (w : World) (hown : w.ownsMap Tryz.prog 3 R b nn D0) (hmax : Maps.size D0 ≤ maxLen) (hbytes : Maps.size D0 * 8 ≤ 140737488355328) :
    Calls Tryz.prog 88 #[.func (.func 113) #[] #[.pointer (some ⟨w.heap.size, 0, none⟩)]] (w.alloc (.cells #[.map (some b)] 72)) fun e w' => ∃ (v : Value) (ss : List Int), e = .returned v ∧ ss.Perm (intKeys D0) ∧
      w'.ownsRow w.heap.size 3 1 v ss.length ((ss.mergeSort (fun x y => decide (x ≤ y))).map encZ) ∧ Below w.heap.size w w' := by
  refine (callsIn_wide (n := 5)).1 ?_
  have hbl := hown.lt
  have hseq : SeqGives Fence.wide 2 Tryz.prog 113 #[.pointer (some ⟨w.heap.size, 0, none⟩)] encZ (fun ss => ss.Perm (intKeys D0)) (Maps.size D0) (w.alloc (.cells #[.map (some b)] 72)) :=
    AnyZI.keys_gives (ρ := keysA_ren) { keysA with } Fence.wide _ trivial rfl (by omega) w.heap.size b nn D0 _ (by simp) (by simp) (by
      obtain ⟨es, clock, hb, Ft, hs, hD⟩ := hown
      exact ⟨es, clock, (RowKit.Below.heap_alloc _ _ b hbl).trans hb, Ft, hs, hD⟩)
  have cS := AnyZI.sorted_in sortedA Fence.wide 5 trivial trivial trivial trivial rfl (by omega) (sortsA _) (enters_of Tryz.func112 (by kernel_rfl) rfl) 113 #[.pointer (some ⟨w.heap.size, 0, none⟩)] trivial (enters_of Tryz.func113 (by kernel_rfl) rfl) _ _ hmax hbytes _ hseq
  refine CallsIn.mono cS ?_
  rintro e w' ⟨v, ss, rfl, hS, hrow, hnil, hb⟩
  exact ⟨v, ss, rfl, hS, ownsRow_base_a hrow (by simp), ((Below.refl _ w).alloc (Nat.le_refl _) _).trans (hb.mono (by simp))⟩
end Go.Proofs.YtbdjlmdbnoghnaaGreat
namespace Go.Proofs.YtbdjlmdbnoghnaaGreat
open Go.RowKit Go.Maps Go.Sort

def keysL (A : Nat → Option (List Nat)) (M : Nat) : List Nat := (List.range M).filter (fun i => (A i).isSome)
def awayL (A : Nat → Option (List Nat)) (M : Nat) : List (Nat × List Nat) := (keysL A M).map (fun i => (i, (A i).getD (List.replicate 128 0)))
def putHomes (s : DS) (n : Nat) : List (Nat × List Nat) → DS × Int
  | [] => (s, 0)
  | q :: qs => if (writeS s ((2 + n + q.1 : Nat) : Int) q.2).2 = 0 then putHomes (writeS s ((2 + n + q.1 : Nat) : Int) q.2).1 n qs else writeS s ((2 + n + q.1 : Nat) : Int) q.2
def bringS (s : DS) (n M : Nat) (A : Nat → Option (List Nat)) : DS × Int :=
  if (flushS s).2 = 0 then (if (putHomes (flushS s).1 n (awayL A M)).2 = 0 then flushS (putHomes (flushS s).1 n (awayL A M)).1 else putHomes (flushS s).1 n (awayL A M)) else flushS s
theorem strict_eq : ∀ {l1 l2 : List Int}, l1.Pairwise (· < ·) → l2.Pairwise (· < ·) → (∀ x, x ∈ l1 ↔ x ∈ l2) → l1 = l2
  | [], [], _, _, _ => rfl
  | [], y :: _, _, _, h => absurd ((h y).mpr (by simp)) (by simp)
  | x :: _, [], _, _, h => absurd ((h x).mp (by simp)) (by simp)
  | x :: l1, y :: l2, h1, h2, h => by
    obtain ⟨a1, b1⟩ := List.pairwise_cons.mp h1
    obtain ⟨a2, b2⟩ := List.pairwise_cons.mp h2
    have hxy : x = y := by
      rcases List.mem_cons.mp ((h x).mp (by simp)) with e | e
      · exact e
      · rcases List.mem_cons.mp ((h y).mpr (by simp)) with e' | e'
        · exact e'.symm
        · have := a2 x e; have := a1 y e'; omega
    subst hxy
    congr 1
    refine strict_eq b1 b2 (fun z => ⟨fun hz => ?_, fun hz => ?_⟩)
    · rcases List.mem_cons.mp ((h z).mp (by simp [hz])) with e | e
      · have := a1 z hz; omega
      · exact e
    · rcases List.mem_cons.mp ((h z).mpr (by simp [hz])) with e | e
      · have := a2 z hz; omega
      · exact e
theorem keysL_strict (A : Nat → Option (List Nat)) (M : Nat) : ((keysL A M).map (fun i : Nat => (i : Int))).Pairwise (· < ·) := by
  rw [List.pairwise_map]
  have h : (List.range M).Pairwise (· < ·) := List.pairwise_lt_range
  exact (h.sublist List.filter_sublist).imp (fun {a b} (h : a < b) => by omega)
/-- the keys, sorted -/
theorem keys_sorted {M : Nat} {A : Nat → Option (List Nat)} {D : DU} {ss : List Int} (h : MpD M A D) (ho : ∃ es, D = .map es ∧ es.Pairwise (fun p q => p.1 ≠ q.1) ∧ ∀ p ∈ es, WideAt.IsKeyLit p.1) (hp : ss.Perm (intKeys D)) : ss.mergeSort (fun x y => decide (x ≤ y)) = (keysL A M).map (fun i : Nat => (i : Int)) := by
  obtain ⟨es, rfl, hd, hkl⟩ := ho
  have hk : ∀ p ∈ es, ∃ i, i < M ∧ p.1 = ik i := fun p hpm => by
    exact h.keys p.1 (hkl p hpm) (by rw [has_eq, List.any_eq_true]; exact ⟨p, hpm, WideAt.sameKey_self (hkl p hpm)⟩)
  have hnd : (intKeys (DataW.map es)).Nodup := by
    unfold intKeys
    rw [List.Nodup, List.pairwise_map]
    refine hd.imp_of_mem (fun {p q} hp hq hne e => ?_)
    obtain ⟨i, _, hi⟩ := hk p hp
    obtain ⟨j, _, hj⟩ := hk q hq
    rw [hi, hj] at e hne
    apply hne
    have : (i : Int) = (j : Int) := e
    have : i = j := by omega
    rw [this]
  have hmem : ∀ x : Int, x ∈ intKeys (DataW.map es) ↔ ∃ i : Nat, i < M ∧ (A i).isSome = true ∧ x = (i : Int) := fun x => by
    unfold intKeys
    rw [List.mem_map]
    constructor
    · rintro ⟨p, hp, rfl⟩
      obtain ⟨i, hi, e⟩ := hk p hp
      refine ⟨i, hi, ?_, by rw [e]; rfl⟩
      rw [← h.has i hi, has_eq, List.any_eq_true]
      exact ⟨p, hp, by rw [e]; exact WideAt.sameKey_self (ik_key i)⟩
    · rintro ⟨i, hi, hs, rfl⟩
      rw [← h.has i hi, has_eq, List.any_eq_true] at hs
      obtain ⟨p, hp, hk'⟩ := hs
      have := WideAt.sameKey_eq hk'
      exact ⟨p, hp, by rw [this]; rfl⟩
  refine strict_eq ?_ (keysL_strict A M) (fun x => ?_)
  · have h1 : (ss.mergeSort (fun x y => decide (x ≤ y))).Pairwise (fun x y => decide (x ≤ y) = true) := List.pairwise_mergeSort (fun a b c => by simp; omega) (fun a b => by simp; omega) ss
    have h2 : (ss.mergeSort (fun x y => decide (x ≤ y))).Nodup := ((List.mergeSort_perm ss _).trans hp).nodup_iff.mpr hnd
    exact (h1.and h2).imp (fun {a b} hab => by have := of_decide_eq_true hab.1; have := hab.2; omega)
  · rw [((List.mergeSort_perm ss _).trans hp).mem_iff, hmem]
    unfold keysL
    simp only [List.mem_map, List.mem_filter, List.mem_range]
    constructor
    · rintro ⟨i, hi, hs, rfl⟩; exact ⟨i, ⟨hi, hs⟩, rfl⟩
    · rintro ⟨i, ⟨hi, hs⟩, rfl⟩; exact ⟨i, hi, hs, rfl⟩
theorem op_look1 {ops : Array Oper} {rest : List Oper} {o : Oper} {a : Act} {w : World} {Q : Exit → Act → World → Prop} (hgd : o.guard = none) (m x : Operand) (ho : o.op = Op.lookup 72 m x false) (b N i : Nat) (A : Nat → Option (List Nat)) (hM : Mp w b N A) (hm : a.eval m = .map (some b)) (hx : a.eval x = .int .i64 (i : Int)) (hi : i < N) (hN : N ≤ 4096)
    {X : List Nat} (hX : X = (A i).getD (List.replicate 128 0))
    (hK : wpList Tryz.prog ops Q rest (a.put o.dst (.agg ((X.map u8).toArray))) w) : wpList Tryz.prog ops Q (o :: rest) a w := by
  subst hX
  obtain ⟨D, h, d⟩ := hM
  refine wpList_plain hgd fun K' hK' => ?_
  obtain ⟨v, ps, hrun, hv⟩ := h.lookup keyed_int Tryz.underlying72 (zero_run infoSec) (zd := secD (List.replicate 128 0)) (zp := []) (by rw [zS, ← List.map_replicate]; exact secR_mk _) (key_ik (i := i) (by omega))
  rw [d.at_ i hi] at hv
  have e : ((A i).map secD).getD (secD (List.replicate 128 0)) = secD ((A i).getD (List.replicate 128 0)) := by cases A i <;> rfl
  rw [e] at hv
  rw [secR_inv hv] at hrun
  unfold Oper.wp
  simp [execOp, ho, hm, hx, hrun, Result.andThen]
  exact hK' _ _ hK
end Go.Proofs.YtbdjlmdbnoghnaaGreat
namespace Go.Proofs.YtbdjlmdbnoghnaaGreat
open Go.RowKit Go.Maps Go.Sort

/-- the keys' row -/
def KRow (w : World) (G : Nat → Prop) (A : Option Addr) (ks : List Nat) : Prop := 0 < ks.length → ∃ g, A = some ⟨g, 0, none⟩ ∧ g < w.heap.size ∧ ¬ G g ∧ ∀ i (hi : i < ks.length), w.cell? ⟨g, i, none⟩ = some (.int .i64 (ks[i] : Int))
theorem KRow.at_ {w w' : World} {G G' : Nat → Prop} {A : Option Addr} {ks : List Nat} {k : Nat} (h : KRow w G A ks) (ha : Adv G w G' w') (hk : k < ks.length) : ∃ g, A = some ⟨g, 0, none⟩ ∧ w'.cell? ⟨g, k, none⟩ = some (.int .i64 (ks[k] : Int)) := by
  obtain ⟨g, rfl, hl, hg, hc⟩ := h (by omega)
  exact ⟨g, rfl, (World.cell?_of_block (ha.block g hl hg)).trans (hc k hk)⟩
theorem keysL_len (A : Nat → Option (List Nat)) (M : Nat) : (keysL A M).length ≤ M := by
  unfold keysL
  exact Nat.le_trans (List.length_filter_le _ _) (by simp)
theorem keysL_lt {A : Nat → Option (List Nat)} {M k : Nat} (hk : k < (keysL A M).length) : (keysL A M)[k] < M := by
  have := List.getElem_mem hk
  unfold keysL at this
  exact List.mem_range.1 (List.mem_filter.1 this).1
theorem srt_lg {w : World} {l b d n N : Nat} {g : LS} (h : Lg w l b d n N g) (hN : N - 2 - n ≤ 4096) (G : Nat → Prop) (hG : Bd G w) :
    Calls Tryz.prog 88 #[.func (.func 113) #[] #[.pointer (some ⟨w.heap.size, 0, none⟩)]] (w.alloc (.cells #[.map (some b)] 72)) fun e w' => ∃ (A : Option Addr) (c : Nat), e = .returned (.slice A (keysL g.A (N - 2 - n)).length c) ∧ KRow w' G A (keysL g.A (N - 2 - n)) ∧ Adv Nul w Nul w' := by
  obtain ⟨D, ho, hd⟩ := h.mp
  have hsz : Maps.size D ≤ 4096 := by rw [hd.size]; exact Nat.le_trans (cnt_le _ _) hN
  refine (sorted_call b _ D secR w ho (by unfold maxLen; omega) (by omega)).mono ?_
  rintro e w' ⟨v, ss, rfl, hp, hrow, hb⟩
  have hk := keys_sorted hd (ho.entries keyed_int) hp
  have hl : ss.length = (keysL g.A (N - 2 - n)).length := by
    have := congrArg List.length hk
    simpa using this
  rw [hk, hl] at hrow
  obtain ⟨hlen, hr⟩ := hrow
  rcases hr with ⟨rfl, h0⟩ | ⟨q, cap, cur, rfl, hq, hblk, hcap, hmax, hcs, htake⟩
  · rw [h0]
    exact ⟨none, 0, rfl, fun hp => by omega, Adv.of_below hb⟩
  · refine ⟨_, cap, rfl, fun hp => ⟨q, rfl, ?_, fun hg => ?_, fun i hi => ?_⟩, Adv.of_below hb⟩
    · exact (Array.getElem?_eq_some_iff.1 hblk).1
    · have := hG q hg; omega
    · have hc : cur.toList[i]? = some (.int .i64 ((keysL g.A (N - 2 - n))[i] : Int)) := by
        have h1 : (cur.toList.take ((keysL g.A (N - 2 - n)).length * 1))[i]? = some (.int .i64 ((keysL g.A (N - 2 - n))[i] : Int)) := by
          rw [htake]
          simp [encZ, hi]
        rw [List.getElem?_take] at h1
        split at h1
        · exact h1
        · cases h1
      rw [show w'.cell? ⟨q, i, none⟩ = cur[i]? by simp [World.cell?, hblk]]
      simpa using hc

def BrR (w : World) (F : Nat → Prop) (d l b n N : Nat) (g : LS) (r : DS × Int) (e : Ending) (w' : World) : Prop := e = .returned (.int .i64 r.2) ∧ ∃ F', Rs w' F' d l b n N r.1 g ∧ Adv (UF F l b) w (UF F' l b) w'
def BgL (W : World) (F0 : Nat → Prop) (d l b n N : Nat) (s0 : DS) (g : LS) (T : List (Nat × List Nat)) (t : Value) (wr : World) : Prop :=
  ∃ (k : Nat) (sk : DS) (Fk : Nat → Prop), k ≤ T.length ∧ t = .int .i64 (k : Int) ∧ putHomes s0 n T = putHomes sk n (T.drop k) ∧ sk.Q.length ≤ s0.Q.length + k ∧ Rs wr Fk d l b n N sk g ∧ Adv (UF F0 l b) W (UF Fk l b) wr

set_option maxRecDepth 3000 in
set_option maxHeartbeats 6400000 in
theorem gbring_lg (l b d n N : Nat) (g : LS) (F : Nat → Prop) (s : DS) (w : World) (h : Rs w F d l b n N s g) (hn : 2 ≤ n ∧ n + 3 ≤ N ∧ N ≤ 4096) (hA : AOk (N - 2 - n) g.A) (hq : s.Q.length ≤ 900000) :
    Calls Tryz.prog 55 #[.pointer (some ⟨l, 0, none⟩)] w (BrR w F d l b n N g (bringS s n (N - 2 - n) g.A)) := by
  obtain ⟨R, hR⟩ : ∃ R, R = bringS s n (N - 2 - n) g.A := ⟨_, rfl⟩
  rw [← hR]
  have HR := Lib.hid hR
  have HS := Lib.hid h
  have HN := Lib.hid hn
  have HAA := Lib.hid hA
  have HQ := Lib.hid hq
  obtain ⟨X, hX⟩ : ∃ x, x = flushS s := ⟨_, rfl⟩
  have HFL := Lib.hid (flush_dk d N F s w h.dk)
  rw [← hX] at HFL
  have HX := Lib.hid hX
  obtain ⟨XE, hXE⟩ : ∃ x, x = X.2 := ⟨_, rfl⟩
  rw [← hXE] at HFL
  have HXE := Lib.hid hXE
  have HXQ := Lib.hid (show X.1.Q.length ≤ 900000 by rw [hX]; exact Nat.le_trans (few_flush s) hq)
  have c0 := h.lg.cells.1
  clear h hn hA hq hR hX hXE
  go_enter Tryz.func55, Tryz.ntmps55
  go_wp2_with fail
  refine HFL.out.mono ?_
  rintro x w1 ⟨rfl, k1, a1⟩
  have HS1 := Lib.hid (HS.out.disk a1 k1)
  have HA1 := Lib.hid (adv_disk (l := l) (b := b) a1)
  clear a1 k1 c0
  by_cases hz : XE = 0
  · subst hz
    have HKY := Lib.hid (keys_call (some b) w1)
    have HSR := Lib.hid (srt_lg HS1.out.lg (by have := HN.out; omega) (UF F l b) HS1.out.bd)
    have c7 := HS1.out.lg.cells.2.2.2.2.2.2.2.1
    obtain ⟨ks, hks⟩ : ∃ ks, ks = keysL g.A (N - 2 - n) := ⟨_, rfl⟩
    rw [← hks] at HSR
    have HKS := Lib.hid hks
    obtain ⟨m, hm⟩ : ∃ m, m = ks.length := ⟨_, rfl⟩
    rw [← hm] at HSR
    have HM := Lib.hid hm
    have HM4 := Lib.hid (show m ≤ 4096 by rw [hm, hks]; exact Nat.le_trans (keysL_len _ _) (by have := HN.out; omega))
    obtain ⟨T, hT⟩ : ∃ T, T = awayL g.A (N - 2 - n) := ⟨_, rfl⟩
    have HT := Lib.hid hT
    have HTL := Lib.hid (show T.length = m by rw [hT, hm, hks]; simp [awayL])
    have HTK := Lib.hid (show ∀ k (hk : k < ks.length) (hk' : k < T.length), T[k] = (ks[k], (g.A ks[k]).getD (List.replicate 128 0)) from fun k hk hk' => by subst hT hks; simp [awayL])
    have HKL := Lib.hid (show ∀ k (hk : k < ks.length), ks[k] < N - 2 - n from fun k hk => by subst hks; exact keysL_lt hk)
    clear hks hm hT
    go_wp2_with fail
    refine HKY.out.mono ?_
    rintro x w2 ⟨rfl, rfl⟩
    go_wp2_with fail
    refine HSR.out.mono ?_
    rintro x w3 ⟨A, c, rfl, hk3, a3⟩
    have HK3 := Lib.hid hk3
    have HS3 := Lib.hid (HS1.out.over a3)
    have HA3 := Lib.hid (HA1.out.trans (adv_nul (F := F) (l := l) (b := b) a3))
    have hmI : (m : Int) ≤ 4096 := by have := HM4.out; omega
    clear hk3 a3 c7
    go_wp2_with fail
    go_loopw [23] (BgL w3 F d l b n N X.1 g T) (fun t _ => m - (intOf t).toNat)
    case atStart => exact ⟨0, X.1, F, Nat.zero_le _, rfl, by rw [List.drop_zero], Nat.le_refl _, HS3.out, Adv.refl _ _⟩
    case round =>
      obtain ⟨k, sk, Fk, hk, rfl, hput, hqk, hrs, had⟩ := hrel
      by_cases hlt : k < m
      · have hki : (k : Int) < (m : Int) := by omega
        have hkl : k < ks.length := by rw [← HM.out]; exact hlt
        have hkt : k < T.length := by rw [HTL.out]; exact hlt
        obtain ⟨g0, rfl, hcell⟩ := HK3.out.at_ had hkl
        have hdr : T.drop k = T[k] :: T.drop (k + 1) := (List.getElem_cons_drop hkt).symm
        rw [HTK.out k hkl hkt] at hdr
        have hlt2 := HKL.out k hkl
        obtain ⟨i, hi⟩ : ∃ i, i = ks[k] := ⟨_, rfl⟩
        rw [← hi] at hcell hdr hlt2
        clear hi
        obtain ⟨X0, hX0⟩ : ∃ X0, X0 = (g.A i).getD (List.replicate 128 0) := ⟨_, rfl⟩
        rw [← hX0] at hdr
        have hXl : X0.length = 128 := by
          rw [hX0]
          cases e : g.A i with
          | none => simp
          | some x => exact (HAA.out i x e).2.1
        obtain ⟨Wr, hWr⟩ : ∃ x, x = writeS sk ((2 + n + i : Nat) : Int) X0 := ⟨_, rfl⟩
        have hput2 : putHomes X.1 n T = if Wr.2 = 0 then putHomes Wr.1 n (T.drop (k + 1)) else Wr := by rw [hput, hdr, hWr]; rfl
        have hqw : Wr.1.Q.length ≤ X.1.Q.length + (k + 1) := by rw [hWr]; exact Nat.le_trans (few_write sk _ _) (by omega)
        have HPUT2 := Lib.hid hput2
        have HQW := Lib.hid hqw
        have HQK := Lib.hid hqk
        have HXL := Lib.hid hXl
        have HX0 := Lib.hid hX0
        have HRS := Lib.hid hrs
        have HAD := Lib.hid had
        have HI := Lib.hid hlt2
        have HLT := Lib.hid hlt
        have HMP := Lib.hid hrs.lg.mp
        have HN4 := Lib.hid (show N - 2 - n ≤ 4096 by have := HN.out; omega)
        have HWR0 := Lib.hid hWr
        have c7 := hrs.lg.cells.2.2.2.2.2.2.2.1
        clear hk hput hqk hrs had hlt hkl hkt hdr hX0 hXl hput2 hqw hlt2 hWr
        go_upto_region 8 with (first
          | (refine op_look1 rfl _ _ rfl b (N - 2 - n) i g.A HMP.out rfl rfl HI.out HN4.out HX0.out ?_)
          | (refine op_alloc_sec rfl rfl ?_)
          | (refine op_store_sec rfl _ _ rfl _ rfl X0 HXL.out rfl rfl ?_)
          | fail)
        obtain ⟨z, hz⟩ : ∃ z, z = wr.heap.size := ⟨_, rfl⟩
        obtain ⟨V, hV⟩ : ∃ V, V = wr.alloc (.cells (X0.map u8).toArray 114) := ⟨_, rfl⟩
        rw [← hV, ← hz]
        have hav : Adv Nul wr Nul V := by rw [hV]; exact (Adv.refl _ _).alloc _
        have HZB := Lib.hid (show Blk V z 114 (X0.map u8).toArray by rw [hV, hz]; exact Blk.new _ _ _)
        have HSV := Lib.hid (HRS.out.over hav)
        have HAV := Lib.hid (HAD.out.trans (adv_nul (F := Fk) (l := l) (b := b) hav))
        have hzf : ¬ Fk z := fun x => by have := HRS.out.dk.bd z x; omega
        have HZF := Lib.hid hzf
        have c0 := HSV.out.lg.cells.1
        have HC := Lib.hid c0
        have HCD := Lib.hid (show V.drew.cell? ⟨l, 0, none⟩ = some (.pointer (some ⟨d, 0, none⟩)) from c0)
        have HHO := Lib.hid (ghome_lg (w := V.drew) i (show Lg V.drew l b d n N g from ⟨HSV.out.lg.blk, HSV.out.lg.mp⟩) (by have := HI.out; have := HN4.out; omega) (by have := HN.out; omega))
        have HWR := Lib.hid (show Calls Tryz.prog 80 #[.pointer (some ⟨d, 0, none⟩), .int .i64 ((2 + n + i : Nat) : Int), .slice (some ⟨z, 0, none⟩) 128 128] V.drew fun e w' => e = .returned (.int .i64 Wr.2) ∧ ∃ F', Dk w' F' d N Wr.1 ∧ Adv Fk V.drew F' w' by
          rw [HWR0.out]
          exact write_dk d N 128 _ _ Fk sk X0 V.drew (HSV.out.dk.far ((Adv.refl Nul V).drew) (fun _ x _ => x)) (show Rd V.drew 1 (.slice (some ⟨z, 0, none⟩) 128 128) 128 (X0.map u8) from (show Blk V.drew z 114 (X0.map u8).toArray from HZB.out).rdS8 HXL.out) (fun j hj hf => by
            have : z = j := by injection hj
            exact HZF.out (this ▸ hf)) (by have := HQK.out; have := HXQ.out; have := HM4.out; have := HLT.out; omega))
        have HFR := Lib.hid (show ∀ (F' : Nat → Prop) (w' : World), Adv Fk V.drew F' w' → w'.cell? ⟨l, 0, none⟩ = some (.pointer (some ⟨d, 0, none⟩)) from fun F' w' a => (HSV.out.lg.blk.keep (a.block l HSV.out.lg.blk.lt (fun x => HSV.out.sep l x (.inl rfl)))).cell 0)
        obtain ⟨hm', hhm⟩ : ∃ x, x = 2 + n + i := ⟨_, rfl⟩
        rw [← hhm] at HHO HWR
        obtain ⟨WE, hWE⟩ : ∃ x, x = Wr.2 := ⟨_, rfl⟩
        rw [← hWE] at HWR
        have HWE := Lib.hid hWE
        clear hV hz hav hzf c7 hcell hhm hWE
        go_wp2_with fail
        refine rstart (S := (fun w' => w'.cell? ⟨l, 0, none⟩ = some (.pointer (some ⟨d, 0, none⟩)))) (by first | with_reducible exact HC9.out | with_reducible exact HCD.out | with_reducible exact HC.out) (fun hH => ?_)
        refine tk (i := 0) (oi := ⟨some 33, .move (.tmp 0), 31, "redo.go:174", #[], none⟩) hH.out (by rintro w s0; go_simp <;> with_reducible rfl) ?_
        simp only [Act.put, sA, sB, sC]
        refine tk (i := 1) (oi := ⟨some 34, .nilCheck (.tmp 33), 0, "redo.go:174", #[⟨0, .data⟩], none⟩) hH.out (by rintro w s0; go_simp <;> with_reducible rfl) ?_
        simp only [Act.put, sA, sB, sC]
        refine tk (i := 2) (oi := ⟨some 35, .fieldAddr 74 (.tmp 34) 0, 0, "redo.go:174", #[⟨1, .data⟩], none⟩) hH.out (by rintro w s0; go_simp <;> with_reducible rfl) ?_
        simp only [Act.put, sA, sB, sC]
        refine tk (i := 3) (oi := ⟨some 36, .load 24 (.tmp 35), 24, "redo.go:174", #[⟨2, .data⟩], none⟩) hH.out (by rintro w s0; go_simp <;> with_reducible rfl) ?_
        simp only [Act.put, sA, sB, sC]
        refine tk (i := 4) (oi := ⟨some 37, .move (.tmp 0), 31, "redo.go:174", #[], none⟩) hH.out (by rintro w s0; go_simp <;> with_reducible rfl) ?_
        simp only [Act.put, sA, sB, sC]
        refine tk (i := 5) (oi := ⟨some 38, .move (.tmp 5), 3, "redo.go:174", #[], none⟩) hH.out (by rintro w s0; go_simp <;> with_reducible rfl) ?_
        simp only [Act.put, sA, sB, sC]
        refine tk (i := 7) (oi := ⟨some 40, .slice 114 (.tmp 6) none none none, 53, "redo.go:174", #[], none⟩) hH.out (by rintro w s0; go_simp <;> with_reducible rfl) ?_
        simp only [Act.put, sA, sB, sC]
        refine rdy (i := 6) (oi := ⟨some 39, .call ⟨.value (.func 63), #[.tmp 37, .tmp 38], #[31, 3]⟩, 3, "redo.go:174", #[⟨4, .data⟩, ⟨5, .data⟩], none⟩) (fun K hK => ?_)
        go_simp
        refine HHO.out.mono ?_
        rintro x w6 ⟨rfl, rfl⟩
        go_wp2_with fail
        refine hK.out _ _ (by first | with_reducible exact HC9.out | with_reducible exact HCD.out | with_reducible exact HC.out) (fun hHeld => ?_)
        replace hH := Lib.hid hHeld
        clear hK K hHeld
        try simp only [Act.put, sA, sB, sC]
        refine rdy (i := 8) (oi := ⟨some 41, .call ⟨.value (.func 80), #[.tmp 36, .tmp 39, .tmp 40], #[24, 3, 53]⟩, 25, "redo.go:174", #[⟨3, .data⟩, ⟨6, .data⟩, ⟨7, .data⟩, ⟨6, .chain⟩], none⟩) (fun K hK => ?_)
        go_simp
        refine HWR.out.mono ?_
        rintro x w9 ⟨rfl, F9, k9, a9⟩
        have HC9 := Lib.hid (HFR.out F9 w9 a9)
        have HK9 := Lib.hid k9
        have HA9 := Lib.hid (Adv.of_drew a9)
        clear k9 a9
        go_wp2_with fail
        refine hK.out _ _ (by first | with_reducible exact HC9.out | with_reducible exact HCD.out | with_reducible exact HC.out) (fun hHeld => ?_)
        replace hH := Lib.hid hHeld
        clear hK K hHeld
        try simp only [Act.put, sA, sB, sC]
        refine tk (i := 9) (oi := ⟨some 7, .assign (.tmp 41), 25, "redo.go:174", #[⟨8, .data⟩, ⟨8, .chain⟩, ⟨0, .phase⟩, ⟨1, .phase⟩, ⟨2, .phase⟩, ⟨3, .phase⟩, ⟨4, .phase⟩, ⟨5, .phase⟩, ⟨6, .phase⟩, ⟨7, .phase⟩, ⟨8, .phase⟩], none⟩) hH.out (by rintro w s0; go_simp <;> with_reducible rfl) ?_
        simp only [Act.put, sA, sB, sC]
        refine wpAnyH_done (by kernel_rfl) ?_ _
        have HS9 := Lib.hid (HSV.out.disk HA9.out HK9.out)
        have HAD9 := Lib.hid (HAV.out.trans (adv_disk (l := l) (b := b) HA9.out))
        clear c0
        by_cases hwe : WE = 0
        · subst hwe
          go_wp2_with fail
          have hlt := HLT.out
          refine ⟨⟨k + 1, Wr.1, F9, by have := HTL.out; omega, by go_num, ?_, HQW.out, HS9.out, HAD9.out⟩, by simp [intOf] <;> omega⟩
          rw [HPUT2.out, if_pos HWE.out.symm]
        · have hb : ((WE : Int) != 0) = true := by rw [bne_iff_ne]; exact hwe
          have hb2 : ((WE : Int) == 0) = false := by rw [beq_eq_false_iff_ne]; exact hwe
          have HNE := Lib.hid hwe
          have HF := Lib.hid (show BrR w F d l b n N g R (.returned (.int .i64 WE)) w9 by
            have e1 : putHomes X.1 n T = Wr := by rw [HPUT2.out, if_neg (by rw [← HWE.out]; exact hwe)]
            rw [HR.out]
            unfold bringS
            rw [← HX.out, if_pos HXE.out.symm, ← HT.out, e1, if_neg (by rw [← HWE.out]; exact hwe)]
            exact ⟨by rw [HWE.out], F9, HS9.out, HA3.out.trans HAD9.out⟩)
          clear hwe
          go_wp2_with fail
          go_ret
          exact HF.out
      · obtain rfl : k = m := by have := HTL.out; omega
        have e0 : T.drop k = [] := List.drop_eq_nil_of_le (by have := HTL.out; omega)
        rw [e0] at hput
        have hput2 : putHomes X.1 n T = (sk, 0) := hput
        obtain ⟨Y, hY⟩ : ∃ x, x = flushS sk := ⟨_, rfl⟩
        have HF2 := Lib.hid (flush_dk d N Fk sk wr hrs.dk)
        rw [← hY] at HF2
        have HRES := Lib.hid (show R = Y by
          rw [HR.out]
          unfold bringS
          rw [← HX.out, if_pos HXE.out.symm, ← HT.out, hput2, if_pos rfl, hY])
        obtain ⟨YE, hYE⟩ : ∃ x, x = Y.2 := ⟨_, rfl⟩
        rw [← hYE] at HF2
        have HYE := Lib.hid hYE
        have HRS := Lib.hid hrs
        have HAD := Lib.hid had
        have c0 := hrs.lg.cells.1
        clear hk hput hput2 e0 hqk hrs had hlt hY hYE
        go_wp2_with fail
        refine HF2.out.mono ?_
        rintro x w9 ⟨rfl, k9, a9⟩
        have HF := Lib.hid (show BrR w F d l b n N g R (.returned (.int .i64 YE)) w9 by
          rw [HRES.out]
          exact ⟨by rw [HYE.out], Fk, HRS.out.disk a9 k9, HA3.out.trans (HAD.out.trans (adv_disk (l := l) (b := b) a9))⟩)
        clear k9 a9 c0
        go_wp2_with fail
        go_ret
        exact HF.out
  · have hb : ((XE : Int) != 0) = true := by rw [bne_iff_ne]; exact hz
    have hb2 : ((XE : Int) == 0) = false := by rw [beq_eq_false_iff_ne]; exact hz
    have HF := Lib.hid (show BrR w F d l b n N g R (.returned (.int .i64 XE)) w1 by
      rw [HR.out]
      unfold bringS
      rw [← HX.out, if_neg (by rw [← HXE.out]; exact hz)]
      exact ⟨by rw [HXE.out], F, HS1.out, HA1.out⟩)
    clear hz
    go_wp2_with fail
    go_ret
    exact HF.out
end Go.Proofs.YtbdjlmdbnoghnaaGreat
namespace Go.Proofs.YtbdjlmdbnoghnaaGreat
open Go.RowKit

def saveS (s : DS) (n : Nat) (at_ : Int) (e : Nat) (h : Hd) : DS × Int :=
  if (0 ≤ at_ ∧ at_ + 1 < (n : Int)) ∧ hOk e h then (if (writeS s (at_ + ((h.g % 2 : Nat) : Int)) (hSec e h)).2 = 0 then flushS (writeS s (at_ + ((h.g % 2 : Nat) : Int)) (hSec e h)).1 else writeS s (at_ + ((h.g % 2 : Nat) : Int)) (hSec e h)) else (s, 2)
theorem saveS_no {s : DS} {n : Nat} {at_ : Int} {e : Nat} {h : Hd} (k : ¬ ((0 ≤ at_ ∧ at_ + 1 < (n : Int)) ∧ hOk e h)) : saveS s n at_ e h = (s, 2) := if_neg k
def PSaved (w : World) (F : Nat → Prop) (d n : Nat) (r : DS × Int) (x : Ending) (w' : World) : Prop := x = .returned (.int .i64 r.2) ∧ ∃ F', Dk w' F' d n r.1 ∧ Adv F w F' w'
theorem adv_after {F F' : Nat → Prop} {w w1 w2 : World} (h : Adv Nul w Nul w1) (k : Adv F w1 F' w2) : Adv F w F' w2 :=
  ⟨k.os.trans h.os, k.tape.trans h.tape, k.output.trans h.output, Nat.le_trans h.size k.size, fun j hj hn => (k.block j (Nat.lt_of_lt_of_le hj h.size) hn).trans (h.block j hj (fun x => x)), fun j hj => by
    rcases k.into j hj with h1 | h1
    · exact .inl h1
    · right; have := h.size; omega⟩
theorem save_at {at_ : Int} {n g : Nat} (h : 0 ≤ at_ ∧ at_ + 1 < (n : Int)) (hn : n ≤ 4096) : IntKind.i64.wrap (at_ + ((g % 2 : Nat) : Int)) = at_ + ((g % 2 : Nat) : Int) := by
  rw [IntKind.wrap_i64]; omega

set_option maxRecDepth 3000 in
set_option maxHeartbeats 6400000 in
theorem hsave_dk (d n : Nat) (F : Nat → Prop) (s : DS) (at_ : Int) (e : Nat) (h : Hd) (w : World) (hr : Dk w F d n s) (hq : s.Q.length ≤ 900000) (hn : n ≤ 4096) (hn1 : 2 ≤ n) (ht : h.t < 18446744073709551616) (hf : h.f < 18446744073709551616) :
    Calls Tryz.prog 90 #[.pointer (some ⟨d, 0, none⟩), .int .i64 at_, .int .u64 (e : Int), .agg #[.int .u64 (h.g : Int), .int .u64 (h.t : Int), .int .u64 (h.f : Int)]] w (PSaved w F d n (saveS s n at_ e h)) := by
  obtain ⟨g, t, f⟩ := h
  simp only at ht hf ⊢
  obtain ⟨y, hy⟩ : ∃ y, y = w.heap.size := ⟨_, rfl⟩
  obtain ⟨V, hV⟩ : ∃ V, V = w.alloc (.cells #[.int .u64 (g : Int), .int .u64 (t : Int), .int .u64 (f : Int)] 69) := ⟨_, rfl⟩
  have HY := Lib.hid (show Blk V y 69 #[.int .u64 (g : Int), .int .u64 (t : Int), .int .u64 (f : Int)] by rw [hV, hy]; exact Blk.new _ _ _)
  have HA := Lib.hid (show Adv Nul w Nul V by rw [hV]; exact (Adv.refl _ _).alloc _)
  have HR := Lib.hid (hr.far HA.out (fun _ h _ => h))
  have HV := Lib.hid hV
  have HYY := Lib.hid hy
  have HQ := Lib.hid hq
  have HSEC := Lib.hid (hseal_any e ⟨g, t, f⟩ V ht hf)
  have HN := Lib.hid hn
  have hw1 : IntKind.i64.wrap ((n : Int) - 2) = (n : Int) - 2 := by rw [IntKind.wrap_i64]; omega
  have hnz : ((n : Int) == 0) = false := by rw [beq_eq_false_iff_ne]; omega
  obtain ⟨s0, s1, s2⟩ := HY.out.three
  have hno : ∀ w1, Adv Nul V Nul w1 → ¬ ((0 ≤ at_ ∧ at_ + 1 < (n : Int)) ∧ hOk e ⟨g, t, f⟩) → PSaved w F d n (saveS s n at_ e ⟨g, t, f⟩) (.returned (.int .i64 2)) w1 := fun w1 ha hk => by
    rw [saveS_no hk]
    exact ⟨rfl, F, HR.out.far ha (fun _ h _ => h), (HA.out.trans ha).same (fun _ x => x.elim)⟩
  have HNO := Lib.hid hno
  have hsz := size_dk d n F s V HR.out
  have HSZ := Lib.hid hsz
  clear hr hV hy hq ht hf hn hn1 hno hsz
  go_enter Tryz.func90, Tryz.ntmps90
  go_upto_region 1 with (fail)
  rw [← HV.out, ← HYY.out]
  by_cases h0 : at_ < 0
  · have HF := Lib.hid (HNO.out V (Adv.refl _ _) (fun k => by omega))
    go_wp2_with fail
    refine HSZ.out.mono ?_
    rintro x w9 ⟨rfl, rfl⟩
    go_wp2_with fail
    go_ret
    exact HF.out
  · have h0' : 0 ≤ at_ := by omega
    clear h0
    by_cases h1 : (n : Int) - 2 < at_
    · have HF := Lib.hid (HNO.out V (Adv.refl _ _) (fun k => by omega))
      go_wp2_with fail
      refine HSZ.out.mono ?_
      rintro x w8 ⟨rfl, rfl⟩
      go_wp2_with fail
      refine HSZ.out.mono ?_
      rintro x w9 ⟨rfl, rfl⟩
      go_wp2_with fail
      go_ret
      exact HF.out
    · have h1' : at_ ≤ (n : Int) - 2 := by omega
      have HIN := Lib.hid (show 0 ≤ at_ ∧ at_ + 1 < (n : Int) by omega)
      clear h1
      go_wp2_with fail
      refine HSZ.out.mono ?_
      rintro x w8 ⟨rfl, rfl⟩
      go_wp2_with fail
      refine HSZ.out.mono ?_
      rintro x w9 ⟨rfl, rfl⟩
      go_wp2_with fail
      refine HSEC.out.mono ?_
      intro x w1 h1
      obtain ⟨A, m, k, F1, rfl, a1, p1, n1⟩ := h1
      obtain ⟨E, hE⟩ : ∃ E : Int, E = if hOk e ⟨g, t, f⟩ then 0 else 2 := ⟨_, rfl⟩
      rw [← hE]
      have HE := Lib.hid hE
      have HA1 := Lib.hid a1
      have HP1 := Lib.hid p1
      have HY1 := Lib.hid (HY.out.keep (a1.block y HY.out.lt (fun h => h)))
      have HSEP := Lib.hid (show ∀ j, (Value.slice A m k).ownBlock = some j → (hOk e ⟨g, t, f⟩) → ¬ F j from fun j hj ho hg => by
        obtain ⟨rfl, hs⟩ := p1 ho
        rcases a1.into j (hs.inF j hj) with h | h
        · exact h
        · have := HR.out.bd j hg; omega)
      have HAV := Lib.hid (HA.out.trans (a1.sub (G := Nul) (fun _ h => h.elim)))
      have HR1 := Lib.hid (HR.out.far a1 (fun _ h _ => h))
      obtain ⟨z0, z1, z2⟩ := HY1.out.three
      clear hE a1 p1 n1 s0 s1 s2
      by_cases hok : hOk e ⟨g, t, f⟩
      · obtain rfl : E = 0 := by rw [HE.out, if_pos hok]
        obtain ⟨rfl, hs⟩ := HP1.out hok
        have HOK := Lib.hid hok
        have HS := Lib.hid hs
        obtain ⟨r, hr⟩ : ∃ r, r = g % 2 := ⟨_, rfl⟩
        have hr3 : IntKind.i64.wrap (at_ + (r : Int)) = at_ + (r : Int) := by rw [hr]; exact save_at HIN.out HN.out
        obtain ⟨W, hW⟩ : ∃ W, W = writeS s (at_ + (r : Int)) (hSec e ⟨g, t, f⟩) := ⟨_, rfl⟩
        have hsv : saveS s n at_ e ⟨g, t, f⟩ = if W.2 = 0 then flushS W.1 else W := by
          unfold saveS
          rw [if_pos ⟨HIN.out, hok⟩, hW, hr]
        have HSV := Lib.hid hsv
        have hwr : ∀ v, Adv Nul w1 Nul v → Calls Tryz.prog 80 #[.pointer (some ⟨d, 0, none⟩), .int .i64 (at_ + (r : Int)), .slice A 128 k] v fun e w' => e = .returned (.int .i64 W.2) ∧ ∃ G', Dk w' G' d n W.1 ∧ Adv F v G' w' := fun v hv => by
          rw [hW]
          exact write_dk d n 128 _ _ F s _ v (HR1.out.far hv (fun _ h _ => h)) (hs.rd.far (fun _ _ _ h => hv.block _ h (fun h => h)) hv.size) (fun j hj hg => HSEP.out j hj hok hg) (by have := HQ.out; omega)
        have HWR := Lib.hid hwr
        obtain ⟨WE, hWE⟩ : ∃ E, E = W.2 := ⟨_, rfl⟩
        rw [← hWE] at HWR
        have HWE := Lib.hid hWE
        have HRR := Lib.hid hr
        clear hok hs hr hW hsv hwr hWE
        go_wp2_with fail
        refine (place_any g t f _).mono ?_
        rintro x w5 ⟨rfl, a5⟩
        rw [← HRR.out]
        have HA5 := Lib.hid a5
        clear a5
        go_wp2_with fail
        refine (HWR.out w5 HA5.out).mono ?_
        rintro x w2 ⟨rfl, G2, k2, t2⟩
        have HR2 := Lib.hid k2
        have HT2 := Lib.hid (adv_after HA5.out t2)
        clear k2 t2
        by_cases hz : WE = 0
        · subst hz
          go_wp2_with fail
          refine (flush_dk d n G2 W.1 w2 HR2.out).mono ?_
          rintro x w3 ⟨rfl, k3, t3⟩
          have HF := Lib.hid (show PSaved w F d n (saveS s n at_ e ⟨g, t, f⟩) (.returned (.int .i64 (flushS W.1).2)) w3 from by
            rw [HSV.out, if_pos HWE.out.symm]
            exact ⟨rfl, G2, k3, adv_after HAV.out (HT2.out.trans t3)⟩)
          obtain ⟨E3, hE3⟩ : ∃ E, E = (flushS W.1).2 := ⟨_, rfl⟩
          rw [← hE3] at HF ⊢
          clear k3 t3 hE3
          go_wp2_with fail
          go_ret
          exact HF.out
        · have hzb : (WE == 0) = false := by rw [beq_eq_false_iff_ne]; exact hz
          have HF := Lib.hid (show PSaved w F d n (saveS s n at_ e ⟨g, t, f⟩) (.returned (.int .i64 WE)) w2 from by
            rw [HSV.out, if_neg (by rw [← HWE.out]; exact hz)]
            exact ⟨by rw [HWE.out], G2, HR2.out, adv_after HAV.out HT2.out⟩)
          clear hz
          go_wp2_with fail
          go_ret
          exact HF.out
      · obtain rfl : E = 2 := by rw [HE.out, if_neg hok]
        have HF := Lib.hid (HNO.out w1 (HA1.out.sub (fun _ h => h.elim)) (fun k => hok k.2))
        clear hok
        go_wp2_with fail
        go_ret
        exact HF.out
end Go.Proofs.YtbdjlmdbnoghnaaGreat
