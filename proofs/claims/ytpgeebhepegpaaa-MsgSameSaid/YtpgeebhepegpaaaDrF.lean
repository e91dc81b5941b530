/- slices.Chunk over entries: what its iterator hands on. -/
import Derived.Test.YtpgeebhepegpaaaDrB
import Derived.RangeFuncFrom
import Derived.RangeFuncCalls
import Derived.RangeFuncLeaves
import Derived.RangeFuncBox
import Derived.Shelf.Abstract
import Derived.OwnWalkIn
import Derived.TacticsInMore
import Derived.LoopNIn
import Derived.LoopIn
import Derived.Maps.OwnIn
namespace Go.Proofs.Ytpgeebhepegpaaa
open Go.ChangeShapes Go.WideShapes Go.ChangeAt Go.RowKit Go.Shelf

attribute [local go_sem] Oper.semAt_some

set_option maxRecDepth 3000 in
theorem chunk_any (A : Option Addr) (n c : Nat) (w : World) : Calls Try.prog 90 #[.slice A n c, .int .i64 5] w fun e w' => e = .returned (.func (.func 95) #[] #[.pointer (some ⟨w.heap.size, 0, none⟩), .pointer (some ⟨w.heap.size + 1, 0, none⟩)]) ∧ w' = (w.alloc (.cells #[.slice A n c] 26)).alloc (.cells #[.int .i64 5] 3) := by
  go_enter Try.func90, Try.ntmps90
  go_wp2_with fail
  go_ret
  exact ⟨rfl, rfl⟩

/-- the k-th chunk of N entries from b, o on -/
def ckV (b o N k : Nat) : Value := .slice (some ⟨b, o + 5 * k * 4, none⟩) (min 5 (N - 5 * k)) (min 5 (N - 5 * k))
/-- these blocks lie as they lay -/
def Kp3 (b Bs Bn : Nat) (W W' : World) : Prop := W'.heap[b]? = W.heap[b]? ∧ W'.heap[Bs]? = W.heap[Bs]? ∧ W'.heap[Bn]? = W.heap[Bn]?
set_option maxRecDepth 3000 in
theorem Kp3.trans {b Bs Bn : Nat} {A B C : World} (h : Kp3 b Bs Bn A B) (k : Kp3 b Bs Bn B C) : Kp3 b Bs Bn A C := ⟨k.1.trans h.1, k.2.1.trans h.2.1, k.2.2.trans h.2.2⟩
set_option maxRecDepth 3000 in
theorem Kp3.refl (b Bs Bn : Nat) (W : World) : Kp3 b Bs Bn W W := ⟨rfl, rfl, rfl⟩
def nCk (N : Nat) : Nat := (N + 4) / 5
set_option maxRecDepth 3000 in
theorem fin_take {n k : Nat} (h : k < n) : (List.finRange n).take (k + 1) = (List.finRange n).take k ++ [⟨k, h⟩] := by
  rw [List.take_succ_eq_append_getElem (by simpa using h)]
  simp

set_option maxRecDepth 100000 in
set_option maxHeartbeats 2000000 in
theorem chunkA_in (F : Fence) (n : Nat) (h7 : F.fn 95) (hro : F.round = none) (hn : 1 ≤ n) (l Bs Bn b o N c : Nat) (hNc : N ≤ c) (hN24 : N ≤ 24) (hcm : (c : Int) ≤ 9223372036854775807) (J Jx : List (Fin (nCk N)) → World → Prop)
    (hY : ∀ pre x W, J pre W → pre.length < nCk N → YieldAt F (n - 1) Try.prog l #[ckV b o N x.1] W fun e W' =>
      (e = .returned (.bool true) ∧ J (pre ++ [x]) W' ∧ Kp3 b Bs Bn W W') ∨ (e = .returned (.bool false) ∧ Jx (pre ++ [x]) W'))
    (W : World) (hJ : AbidesFrom W.heap.size J) (hBs : W.cell? ⟨Bs, 0, none⟩ = some (.slice (some ⟨b, o, none⟩) N c)) (hBn : W.cell? ⟨Bn, 0, none⟩ = some (.int .i64 5)) (h0 : J [] W) :
    CallsIn F n Try.prog 95 #[.func (.yield l) #[] #[], .pointer (some ⟨Bs, 0, none⟩), .pointer (some ⟨Bn, 0, none⟩)] W fun e W' => (∃ v, e = .returned v) ∧
      ((∃ ys, ys = List.finRange (nCk N) ∧ J ys W') ∨ (∃ pre, pre <+: List.finRange (nCk N) ∧ Jx pre W')) := by
  refine callsIn_of_wp Try.func95 rfl h7 ?_ hro
  simp only [Try.ntmps95, List.size_toArray, List.length_cons, List.length_nil, Nat.reduceAdd, Nat.reduceSub, Array.replicate_succ, Array.replicate_zero, List.push_toArray, List.append_toArray, List.nil_append, List.cons_append]
  gi_wp2
  gi_loopw [4] (fun i wr => ∃ k K : Nat, k ≤ nCk N ∧ K = 5 * k ∧ i = .int .i64 (K : Int) ∧ J ((List.finRange (nCk N)).take k) wr ∧ Kp3 b Bs Bn W wr)
    (fun i _ => N + 5 - (intOf i).toNat)
  case atStart => exact ⟨0, 0, Nat.zero_le _, rfl, rfl, h0, Kp3.refl _ _ _ _⟩
  case round =>
    obtain ⟨k, K, hk, hK, rfl, hJs, hkp⟩ := hrel
    have hs := (World.cell?_of_block (a := ⟨Bs, 0, none⟩) hkp.2.1).trans hBs
    have hnn := (World.cell?_of_block (a := ⟨Bn, 0, none⟩) hkp.2.2).trans hBn
    by_cases hlt : K < N
    · have hkc : k < nCk N := by unfold nCk; omega
      have hJd : J ((List.finRange (nCk N)).take k) wr.drew := hJ _ wr wr.drew none hJs ⟨rfl, rfl, rfl, Nat.le_refl _, fun _ _ _ => rfl⟩ (fun r e => by cases e)
      obtain ⟨fn, tmps, assign, body, hy, hR⟩ := hY _ ⟨k, hkc⟩ wr.drew hJd (by rw [List.length_take]; simp; omega)
      dsimp only [ckV] at hy
      rw [← hK] at hy
      obtain ⟨m, hm⟩ : ∃ m, m = min 5 (N - K) := ⟨_, rfl⟩
      rw [← hm] at hy
      have HM := Lib.hid hm
      have HK := Lib.hid hK
      have HLT := Lib.hid hlt
      have hnc : ¬ c = K := by omega
      have hK24 : (K : Int) ≤ 24 := by omega
      have hm1 : K + m ≤ N := by omega
      have hm2 : (K : Int) + (m : Int) ≤ (c : Int) := by omega
      have hm3 : K + m - K = m := by omega
      have hm4 : ¬ K + m = K := by omega
      have hm5 : ¬ m = 0 := by omega
      have hs' : wr.drew.cell? ⟨Bs, 0, none⟩ = some (.slice (some ⟨b, o, none⟩) N c) := hs
      have hnn' : wr.drew.cell? ⟨Bn, 0, none⟩ = some (.int .i64 5) := hnn
      have hmm : (min 5 ((N - K : Nat) : Int)) = (m : Int) := by omega
      have HMM := Lib.hid hmm
      have HKP := Lib.hid hkp
      have HB := Lib.hid (And.intro hBs hBn)
      have HR := Lib.hid hR
      have HJs := Lib.hid hJs
      have HKC := Lib.hid hkc
      clear hm hK hY hJ h0 hBs hBn hmm hkp hR hJs hJd
      gi_wp2
      gi_region
      all_goals
        rw [HMM.out]
        clear hs hnn
        gi_wp2
        refine HR.out.mono ?_
        rintro e W3 (⟨rfl, hJ3, hk3⟩ | ⟨rfl, hJx3⟩)
        · have hk4 := HKP.out.trans (show Kp3 b Bs Bn wr W3 from hk3)
          have hn3 := (World.cell?_of_block (a := ⟨Bn, 0, none⟩) hk4.2.2).trans HB.out.2
          have HK4 := Lib.hid hk4
          clear hk3 hk4
          gi_wp2
          go_roundw
          case rel => exact ⟨k + 1, K + 5, HKC.out, by have := HK.out; omega, by first | rfl | go_num, by rw [fin_take HKC.out]; exact hJ3, HK4.out⟩
          case measure => have := HLT.out; simp [intOf]; omega
        · gi_wp2
          refine bodyPost_ret (results_none rfl _ _ _) rfl ?_
          exact ⟨⟨_, rfl⟩, .inr ⟨_, by rw [← fin_take HKC.out]; exact List.take_prefix _ _, hJx3⟩⟩
    · gi_wp2
      go_end0
      refine ⟨⟨_, rfl⟩, .inl ⟨_, ?_, hJs⟩⟩
      rw [List.take_of_length_le (by simp; unfold nCk at hk ⊢; omega)]

set_option maxRecDepth 100000 in
set_option maxHeartbeats 1000000 in
theorem chunkA_nil_in (F : Fence) (n : Nat) (h7 : F.fn 95) (hro : F.round = none) (l Bs Bn c : Nat) (A : Option Addr) (P : World → Prop) (W : World) (hBs : W.cell? ⟨Bs, 0, none⟩ = some (.slice A 0 c)) (h0 : P W) :
    CallsIn F n Try.prog 95 #[.func (.yield l) #[] #[], .pointer (some ⟨Bs, 0, none⟩), .pointer (some ⟨Bn, 0, none⟩)] W fun e W' => (∃ v, e = .returned v) ∧ P W' := by
  refine callsIn_of_wp Try.func95 rfl h7 ?_ hro
  simp only [Try.ntmps95, List.size_toArray, List.length_cons, List.length_nil, Nat.reduceAdd, Nat.reduceSub, Array.replicate_succ, Array.replicate_zero, List.push_toArray, List.append_toArray, List.nil_append, List.cons_append]
  gi_wp2
  gi_loopw [4] (fun i wr => i = .int .i64 0 ∧ wr = W) (fun _ _ => 0)
  case atStart => exact ⟨rfl, rfl⟩
  case round =>
    obtain ⟨rfl, rfl⟩ := hrel
    gi_wp2
    go_end0
    exact ⟨⟨_, rfl⟩, h0⟩

set_option maxRecDepth 3000 in
/-- slices.Chunk hands on the chunks, in order. -/
theorem chunk_stops (F : Fence) (n : Nat) (h7 : F.fn 95) (hro : F.round = none) (hn : 1 ≤ n) (A : Option Addr) (N c Bs Bn b o : Nat) (hA : 0 < N → A = some ⟨b, o, none⟩) (hNc : N ≤ c) (hN24 : N ≤ 24) (hcm : (c : Int) ≤ 9223372036854775807) (w : World) (hb : Bs < w.heap.size ∧ Bn < w.heap.size)
    (hBs : w.cell? ⟨Bs, 0, none⟩ = some (.slice A N c)) (hBn : w.cell? ⟨Bn, 0, none⟩ = some (.int .i64 5)) :
    SeqStopsK F n Try.prog 95 #[.pointer (some ⟨Bs, 0, none⟩), .pointer (some ⟨Bn, 0, none⟩)] (fun x : Fin (nCk N) => #[ckV b o N x.1]) (Kp3 b Bs Bn) (fun ys => ys = List.finRange (nCk N)) (fun pre => pre <+: List.finRange (nCk N)) (nCk N) w := fun l J Jx W hW hJ _ hY h0 => by
  have hBs' := (hW.cell (p := ⟨Bs, 0, none⟩) hb.1).trans hBs
  have hBn' := (hW.cell (p := ⟨Bn, 0, none⟩) hb.2).trans hBn
  by_cases hN : 0 < N
  · obtain rfl := hA hN
    exact chunkA_in F n h7 hro hn l Bs Bn b o N c hNc hN24 hcm J Jx hY W hJ hBs' hBn' h0
  · obtain rfl : N = 0 := by omega
    exact (chunkA_nil_in F n h7 hro l Bs Bn c A (J []) W hBs' h0).mono fun e W' ⟨he, hj⟩ => ⟨he, .inl ⟨_, rfl, hj⟩⟩
end Go.Proofs.Ytpgeebhepegpaaa
