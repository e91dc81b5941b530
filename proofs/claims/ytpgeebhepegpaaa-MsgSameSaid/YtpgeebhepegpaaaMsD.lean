/- The document's letters: has, Fields. -/
import Derived.Test.YtpgeebhepegpaaaMsB
namespace Go.Proofs.Ytpgeebhepegpaaa
open Go.ChangeShapes Go.WideShapes Go.ChangeAt Go.RowKit

/-- letters as a text -/
def txt (T : List Nat) : ByteArray := ⟨(T.map UInt8.ofNat).toArray⟩
def hasT (s : ByteArray) (c : Nat) : Prop := ∃ (i : Nat) (hi : i < s.size), (s[i]'hi).toNat = c
open Classical in
noncomputable def hasB (s : ByteArray) (c : Nat) : Bool := decide (hasT s c)
open Classical in
set_option maxRecDepth 3000 in
theorem hasB_txt (T : List Nat) (hT : ∀ x ∈ T, x < 256) (c : Nat) : hasB (txt T) c = decide (c ∈ T) := by
  unfold hasB
  rw [Bool.eq_iff_iff, decide_eq_true_iff, decide_eq_true_iff]
  have hs : (txt T).size = T.length := by show (T.map UInt8.ofNat).toArray.size = _; simp
  have hat : ∀ (i : Nat) (h1 : i < (txt T).size) (h2 : i < T.length), ((txt T)[i]'h1).toNat = T[i] := by
    intro i h1 h2
    have e := bytes_at (txt T) i h1
    have e2 : (txt T).data.toList = T.map UInt8.ofNat := rfl
    rw [e2, List.getElem?_map, List.getElem?_eq_getElem h2] at e
    have e3 := Option.some.inj e
    rw [← e3]
    have h3 := hT T[i] (List.getElem_mem h2)
    simp
    omega
  constructor
  · rintro ⟨i, hi, rfl⟩
    rw [hat i hi (by omega)]
    exact List.getElem_mem _
  · intro h
    obtain ⟨i, hi, rfl⟩ := List.getElem_of_mem h
    exact ⟨i, by omega, hat i _ hi⟩
open Classical in
set_option maxRecDepth 3000 in
theorem hasB_yes {s : ByteArray} {c : Nat} (h : hasT s c) : hasB s c = true := by unfold hasB; exact decide_eq_true h
open Classical in
set_option maxRecDepth 3000 in
theorem hasB_no {s : ByteArray} {c : Nat} (h : ¬ hasT s c) : hasB s c = false := by unfold hasB; exact decide_eq_false h
set_option maxRecDepth 3000 in
set_option maxHeartbeats 800000 in
theorem has_any (s : ByteArray) (hs : s.size ≤ 1000) (c : Nat) (w : World) : Calls Try.prog 64 #[.string s, .int .u8 (c : Int)] w fun e w' => e = .returned (.bool (hasB s c)) ∧ w = w' := by
  obtain ⟨B, hB⟩ : ∃ B, B = hasB s c := ⟨_, rfl⟩
  rw [← hB]
  have HYES := Lib.hid (show hasT s c → B = true from fun h => by rw [hB]; exact hasB_yes h)
  have HNO := Lib.hid (show ¬ hasT s c → B = false from fun h => by rw [hB]; exact hasB_no h)
  clear hB
  go_enter Try.func64, Try.ntmps64
  go_wp2_with fail
  go_loopw [5] (fun t wr => ∃ k : Nat, t = .int .i64 (k : Int) ∧ k ≤ s.size ∧ (∀ i (hi : i < s.size), i < k → (s[i]'hi).toNat ≠ c) ∧ wr = w) (fun t _ => s.size - (intOf t).toNat)
  case atStart => exact ⟨0, rfl, Nat.zero_le _, fun _ _ h => absurd h (by omega), rfl⟩
  case round =>
    obtain ⟨k, rfl, hk, hall, rfl⟩ := hrel
    have HALL := Lib.hid hall
    clear hall
    by_cases hlt : k < s.size
    · by_cases he : (s[k]'hlt).toNat = c
      · obtain rfl := HYES.out ⟨k, hlt, he⟩
        have hb : (((s[k]'hlt).toNat : Int) == (c : Int)) = true := by rw [beq_iff_eq]; omega
        clear he HYES HNO HALL
        go_wp2_with fail
        go_ret
        exact ⟨rfl, rfl⟩
      · have hb : (((s[k]'hlt).toNat : Int) == (c : Int)) = false := by rw [beq_eq_false_iff_ne]; omega
        have HN := Lib.hid (show ∀ i (hi : i < s.size), i < k + 1 → (s[i]'hi).toNat ≠ c from fun i hi hik => by
          by_cases e : i = k
          · subst e; exact he
          · exact HALL.out i hi (by omega))
        have HLT := Lib.hid hlt
        clear he HYES HNO
        go_wp2_with fail
        exact ⟨⟨k + 1, by go_num, by have := HLT.out; omega, by first | exact ⟨HN.out, rfl⟩ | exact ⟨HN.out, trivial⟩ | exact HN.out⟩, by have := HLT.out; simp [intOf] <;> omega⟩
    · obtain rfl : k = s.size := by omega
      obtain rfl := HNO.out (fun ⟨i, hi, e⟩ => HALL.out i hi hi e)
      clear hlt hk HYES HNO
      go_wp2_with fail
      go_ret
      exact ⟨rfl, rfl⟩
def askC : Array Value := ((List.range 15).map fun k : Nat => Value.string (txt (askT (k : Int)))).toArray
def tolC : Array Value := ((List.range 15).map fun k : Nat => Value.string (txt (tolT (k : Int)))).toArray
set_option maxRecDepth 3000 in
theorem askC_at {w : World} {z : Nat} {t : TypeId} (h : Blk w z t askC) (k : Nat) (hk : k < 15) : w.cell? ⟨z, k, none⟩ = some (.string (txt (askT (k : Int)))) := by
  rw [h.cell]; simp [askC, hk]
set_option maxRecDepth 3000 in
theorem tolC_at {w : World} {z : Nat} {t : TypeId} (h : Blk w z t tolC) (k : Nat) (hk : k < 15) : w.cell? ⟨z, k, none⟩ = some (.string (txt (tolT (k : Int)))) := by
  rw [h.cell]; simp [tolC, hk]
set_option maxRecDepth 3000 in
theorem info_strM : (Try.prog.info? 9).map (fun i => (i.zero, i.size, i.bytes)) = some (some (.string ⟨#[]⟩), 1, 16) := by kernel_rfl
set_option maxRecDepth 3000 in
set_option maxHeartbeats 800000 in
theorem fields_any (r : Bool) (k : Nat) (hk : k < 15) (w : World) : Calls Try.prog 35 #[.bool r, .int .i64 (k : Int)] w fun e w' => e = .returned (.string (txt (if r then tolT (k : Int) else askT (k : Int)))) ∧ Adv Nul w Nul w' := by
  have HI := Lib.hid info_strM
  have HK := Lib.hid hk
  have hki : (k : Int) < 15 := by omega
  obtain ⟨C, hC⟩ : ∃ C, C = askC := ⟨_, rfl⟩
  obtain ⟨D, hD⟩ : ∃ C, C = tolC := ⟨_, rfl⟩
  obtain ⟨x, hx⟩ : ∃ x, x = txt (askT (k : Int)) := ⟨_, rfl⟩
  obtain ⟨y, hy⟩ : ∃ x, x = txt (tolT (k : Int)) := ⟨_, rfl⟩
  have HCA := Lib.hid (show ∀ w z, Blk w z 9 C → w.cell? ⟨z, k, none⟩ = some (.string x) from fun w z h => by rw [hx]; rw [hC] at h; exact askC_at h k HK.out)
  have HDA := Lib.hid (show ∀ w z, Blk w z 9 D → w.cell? ⟨z, k, none⟩ = some (.string y) from fun w z h => by rw [hy]; rw [hD] at h; exact tolC_at h k HK.out)
  have HCC := Lib.hid hC
  have HDD := Lib.hid hD
  have HX := Lib.hid (show (if r then txt (tolT (k : Int)) else txt (askT (k : Int))) = if r then y else x by rw [hx, hy])
  have e : txt (if r then tolT (k : Int) else askT (k : Int)) = if r then y else x := by rw [← HX.out]; cases r <;> rfl
  rw [e]
  clear e hC hD hx hy hk HX
  cases r with
  | true =>
    go_enter Try.func35, Try.ntmps35
    go_wp2_with (first
      | (refine kop_bcells (C := C) rfl rfl rfl HI.out (by decide) (by decide) (by rw [HCC.out]; kernel_rfl) ?_; clear HCC; intro b1 w1 hb hB ha; have HA1 := Lib.hid ha; clear hb hB ha)
      | (refine kop_bcells (C := D) rfl rfl rfl HI.out (by decide) (by decide) (by rw [HDD.out]; kernel_rfl) ?_; intro b2 w2 hb hB ha; have HA2 := Lib.hid (HA1.out.trans ha); have s0 := HDA.out _ _ hB; clear hb hB ha)
      | fail)
    go_ret
    exact ⟨rfl, HA2.out⟩
  | false =>
    go_enter Try.func35, Try.ntmps35
    go_wp2_with (first
      | (refine kop_bcells (C := C) rfl rfl rfl HI.out (by decide) (by decide) (by rw [HCC.out]; kernel_rfl) ?_; clear HCC; intro b1 w1 hb hB ha; have HA1 := Lib.hid ha; have HB1 := Lib.hid hB; clear hb hB ha)
      | (refine kop_bcells (C := D) rfl rfl rfl HI.out (by decide) (by decide) (by rw [HDD.out]; kernel_rfl) ?_; intro b2 w2 hb hB ha; have HA2 := Lib.hid (HA1.out.trans ha); have s0 := HCA.out _ _ (HB1.out.over ha); clear hb hB ha)
      | fail)
    go_ret
    exact ⟨rfl, HA2.out⟩
end Go.Proofs.Ytpgeebhepegpaaa
