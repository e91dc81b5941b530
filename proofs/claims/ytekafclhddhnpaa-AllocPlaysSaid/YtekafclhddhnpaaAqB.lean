/- The document's map: Bytes. -/
import Derived.Test.YtekafclhddhnpaaAqA
namespace Go.Proofs.Ytekafclhddhnpaa
open Go.RowKit

theorem made_128 (w : World) : (Instr.makeSlice 41 (.int .i64 128) (.int .i64 128)).run Try.prog w = .ok (.slice (some ⟨w.heap.size, 0, none⟩) 128 128) (w.alloc (.cells ((List.replicate 128 0).map u8).toArray 5)) := by
  obtain ⟨ie, hie, hz, hs, hb⟩ := info_parts Try.infoU8
  have h := run_make (P := Try.prog) w 41 5 ie _ Try.underlying41 hie hz .i64 .i64 128 128 (by omega) (Int.le_refl _) (by rw [hb]; omega) (by omega)
  rw [hs] at h
  rw [show madeCells (Value.int .u8 0).cells (Int.toNat 128 * 1) = ((List.replicate 128 0).map u8).toArray from by kernel_rfl] at h
  exact h

def QbyL (w : World) (z n : Nat) (T : List Bool) (t4 : Value) (wr : World) : Prop :=
  ∃ (k : Nat) (r : List Nat), t4 = .int .i64 (k : Int) ∧ k ≤ n ∧ Bt r (fun j => decide (j < k) && T.getD j false) ∧ Blk wr z 5 (r.map u8).toArray ∧ Adv Nul w (One z) wr
theorem Bt.step {r : List Nat} {T : List Bool} {k : Nat} (h : Bt r (fun j => decide (j < k) && T.getD j false)) (hb : T.getD k false = false) : Bt r (fun j => decide (j < k + 1) && T.getD j false) := h.congr fun j _ => by
  by_cases e : j = k
  · subst e
    rw [hb, Bool.and_false, Bool.and_false]
  · by_cases h1 : j < k
    · rw [decide_eq_true h1, decide_eq_true (by omega)]
    · rw [decide_eq_false h1, decide_eq_false (by omega)]
theorem Bt.more {r : List Nat} {T : List Bool} {k : Nat} (h : Bt r (fun j => decide (j < k) && T.getD j false)) (hk : k < 1024) (hb : T.getD k false = true) : Bt (r.set (k / 8) (r.getD (k / 8) 0 + bitN k)) (fun j => decide (j < k + 1) && T.getD j false) := by
  have h0 : (r.getD (k / 8) 0).testBit (7 - k % 8) = false := by
    have := h.bit k hk
    unfold hasB at this
    rw [this, decide_eq_false (by omega)]; rfl
  unfold bitN
  rw [add_or _ (getD_lt h.lt _) _ (by omega) h0]
  refine (h.put hk).congr fun j _ => ?_
  by_cases e : j = k
  · subst e
    rw [decide_eq_true rfl, hb, decide_eq_true (show j < j + 1 by omega)]; rfl
  · rw [decide_eq_false e, Bool.false_or]
    by_cases h1 : j < k
    · rw [decide_eq_true h1, decide_eq_true (by omega)]
    · rw [decide_eq_false h1, decide_eq_false (by omega)]
theorem byte_room {r : List Nat} {T : List Bool} {k : Nat} (h : Bt r (fun j => decide (j < k) && T.getD j false)) (hk : k < 1024) (hb : T.getD k false = true) : r.getD (k / 8) 0 + bitN k < 256 := by
  have h1 := (h.more hk hb).lt (r.getD (k / 8) 0 + bitN k) (List.mem_set (by rw [h.len]; omega) _)
  exact h1
theorem row8_at {w : World} {z j : Nat} {r : List Nat} (h : Blk w z 5 (r.map u8).toArray) (hr : r.length = 128) (hj : j < 128) : w.cell? ⟨z, j, none⟩ = some (.int .u8 (r.getD j 0 : Int)) ∧ w.frozen? ⟨z, j, none⟩ = false := ⟨by
  rw [h.cell, List.getElem?_toArray, List.getElem?_map, List.getD_eq_getElem?_getD, List.getElem?_eq_getElem (by omega)]
  rfl, h.frozen _⟩

set_option maxRecDepth 3000 in
set_option maxHeartbeats 1600000 in
theorem qbytes_any (w : World) (d g : Nat) (T : List Bool) (h : Qm w d g T) : Calls Try.prog 21 #[.pointer (some ⟨d, 0, none⟩)] w fun e w' => ∃ z r, e = .returned (.slice (some ⟨z, 0, none⟩) 128 128) ∧ Rep r T ∧ Sl w' (One z) 5 1 (.slice (some ⟨z, 0, none⟩) 128 128) 128 (r.map u8) ∧ Adv Nul w (One z) w' := by
  have hmk := made_128
  obtain ⟨C, hC⟩ : ∃ C, C = ((List.replicate 128 0).map u8).toArray := ⟨_, rfl⟩
  rw [← hC] at hmk
  have HQ := Lib.hid h
  have hn2 := h.len
  obtain ⟨n, hn⟩ : ∃ n, n = T.length := ⟨_, rfl⟩
  rw [← hn] at hn2
  have hn3 : (n : Int) ≤ 1024 := by omega
  have HN := Lib.hid hn
  have HSt := Lib.hid (show ∃ z, z = w.heap.size ∧ QbyL w z n T (.int .i64 0) (w.alloc (.cells C 5)) from ⟨_, rfl, 0, _, rfl, Nat.zero_le _, Bt.zero.congr (fun _ _ => by simp), by rw [← hC]; exact Blk.new _ _ _, adv_new w _⟩)
  clear h hn hn2 hC
  obtain ⟨z, hz, hst⟩ := HSt.out
  have HZ := Lib.hid hz
  have HS := Lib.hid hst
  clear HSt hz hst
  go_enter Try.func21, Try.ntmps21
  go_wp2_with fail
  rw [← HZ.out]
  clear hmk
  go_loopw [4] (QbyL w z n T) (fun t _ => n - (intOf t).toNat)
  case atStart => exact HS.out
  case round =>
    obtain ⟨k, r, rfl, hk, hr, hb, ha⟩ := hrel
    have hQ := HQ.out.far ha (fun h => h) (fun h => h)
    have c0 := hQ.c0
    rw [← HN.out] at c0
    have HR := Lib.hid hr
    have HB := Lib.hid hb
    have HA := Lib.hid ha
    by_cases hlt : k < n
    · have hlt' : (k : Int) < (n : Int) := by omega
      have hk0 : (0 : Int) ≤ (k : Int) := by omega
      obtain ⟨cg, _⟩ := hQ.row.at_ (k := k) (by rw [← HN.out]; exact hlt)
      obtain ⟨b, hbb⟩ : ∃ b, b = T.getD k false := ⟨_, rfl⟩
      rw [← hbb] at cg
      have HBB := Lib.hid hbb
      clear hbb hQ hr
      cases b
      · clear hb ha
        go_wp2_with fail
        exact ⟨⟨k + 1, r, by simp, by omega, HR.out.step HBB.out.symm, HB.out, HA.out⟩, by simp [intOf]; omega⟩
      · obtain ⟨q, hq⟩ : ∃ q, q = k / 8 := ⟨_, rfl⟩
        have hqi := wrap_quo8 k (by omega)
        rw [← hq] at hqi
        have hq2 : (q : Int) < 128 := by omega
        have hq3 : (0 : Int) ≤ (q : Int) := by omega
        obtain ⟨cz, fz⟩ := row8_at (j := q) hb HR.out.len (by omega)
        obtain ⟨x, hx⟩ : ∃ x, x = r.getD q 0 := ⟨_, rfl⟩
        rw [← hx] at cz
        have HX := Lib.hid hx
        have HQq := Lib.hid hq
        clear hb ha hx hq
        go_wp2_with fail
        have h1 := HR.out
        have ho := HQq.out
        refine ⟨⟨k + 1, r.set (k / 8) (r.getD (k / 8) 0 + bitN k), by simp, by omega, h1.more (by omega) HBB.out.symm, ?_, HA.out.setCell (p := ⟨z, q, none⟩) (.inr (by rw [HZ.out]; exact Nat.le_refl _)) _⟩, by simp [intOf]; omega⟩
        have h2 : (((x : Int) + 128 / 2 ^ (k % 8)) % 256) = ((r.getD (k / 8) 0 + bitN k : Nat) : Int) := by
          rw [bit_val, HX.out, ho]
          have := byte_room h1 (by omega) HBB.out.symm
          omega
        rw [h2, ho]
        have h3 := HB.out.set_ (0 + k / 8) (.int .u8 ((r.getD (k / 8) 0 + bitN k : Nat) : Int))
        rw [row_set, Nat.zero_add] at h3
        exact h3
    · obtain rfl : k = n := by omega
      clear hQ hr hb ha
      go_wp2_with fail
      go_ret
      have hr' := HR.out
      refine ⟨z, r, rfl, hr'.congr fun j _ => ?_, HB.out.sl8 hr'.len, HA.out⟩
      by_cases e : j < k
      · rw [decide_eq_true e]; rfl
      · rw [decide_eq_false e, List.getD_eq_getElem?_getD, List.getElem?_eq_none (by rw [← HN.out]; omega)]; rfl
end Go.Proofs.Ytekafclhddhnpaa
