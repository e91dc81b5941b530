/- Messages: which are right, by masks of fields and by the document's letters. -/
import Derived.Test.YtpgeebhepegpaaaDrS
import Derived.Test.YtpgeebhepegpaaaNm
import Derived.Test.YtpgeebhepegpaaaDrG
namespace Go.Proofs.Ytpgeebhepegpaaa
open Go.ChangeShapes Go.WideShapes Go.ChangeAt Go.RowKit

structure Ms where
  ty : Int
  cl : Int
  ss : Nat
  sq : Nat
  bo : Nat
  kd : Int
  er : Int
  fi : Int
  fg : Int
  di : Int
  dg : Int
  nm : ByteArray
  ot : ByteArray
  mo : Int
  at_ : Int
  da : ByteArray
  ve : Nat
  en : List En
/-- a message's cells, its list's slice apart -/
def mc (m : Ms) (v : Value) : Array Value := #[.int .i64 m.ty, .int .i64 m.cl, .int .u64 (m.ss : Int), .int .u64 (m.sq : Int), .int .u64 (m.bo : Int), .int .i64 m.kd, .int .i64 m.er, .int .i64 m.fi, .int .i64 m.fg, .int .i64 m.di, .int .i64 m.dg, .string m.nm, .string m.ot, .int .i64 m.mo, .int .i64 m.at_, .string m.da, .int .u64 (m.ve : Int), v]
def I64 (x : Int) : Prop := -9223372036854775808 ≤ x ∧ x < 9223372036854775808
def ctP (n : Nat) : Prop := 1 ≤ n ∧ n ≤ 1099511627775
instance (n : Nat) : Decidable (ctP n) := by unfold ctP; infer_instance
def flP (i g : Int) : Prop := 1 ≤ i ∧ i ≤ 40 ∧ 0 ≤ g ∧ g ≤ 2147483647
instance (i g : Int) : Decidable (flP i g) := by unfold flP; infer_instance
def moP (x : Int) : Prop := x = 1 ∨ x = 2
instance (x : Int) : Decidable (moP x) := by unfold moP; infer_instance
open Classical in
noncomputable def enB (l : List En) : Bool := decide (RiseL l ∧ l.length ≤ 24)
/-- a field is zero -/
def zf (m : Ms) : Nat → Bool
  | 0 => decide (m.sq = 0) | 1 => decide (m.bo = 0) | 2 => decide (m.kd = 0) | 3 => decide (m.er = 0)
  | 4 => decide (m.fi = 0 ∧ m.fg = 0) | 5 => decide (m.di = 0 ∧ m.dg = 0) | 6 => decide (m.nm.size = 0) | 7 => decide (m.ot.size = 0)
  | 8 => decide (m.mo = 0) | 9 => decide (m.at_ = 0) | 10 => decide (m.da.size = 0) | 11 => decide (m.ve = 0)
  | _ => decide (m.en.length = 0)
/-- a field is right -/
noncomputable def rf (m : Ms) : Nat → Bool
  | 0 => decide (ctP m.sq) | 1 => decide (ctP m.bo) | 2 => decide (1 ≤ m.kd ∧ m.kd ≤ 14) | 3 => decide (0 ≤ m.er ∧ m.er ≤ 25)
  | 4 => decide (flP m.fi m.fg) | 5 => decide (flP m.di m.dg) | 6 => decide (Nam m.nm) | 7 => decide (Nam m.ot)
  | 8 => decide (moP m.mo) | 9 => decide (0 ≤ m.at_ ∧ m.at_ < 8) | 10 => decide (m.da.size ≤ 64) | 11 => decide (m.ve ≤ 1099511627775)
  | _ => enB m.en
def askM (k : Int) : Nat :=
  if k = 3 ∨ k = 5 then 96 else if k = 4 then 352 else if k = 6 then 240 else if k = 7 then 32 else if k = 8 ∨ k = 13 then 272 else if k = 9 then 528 else if k = 10 then 1552 else if k = 11 ∨ k = 12 then 16 else 0
def tolM (k : Int) : Nat :=
  if k = 3 then 272 else if k = 4 then 16 else if k = 7 then 4096 else if k = 9 then 3072 else if k = 8 ∨ k = 13 ∨ k = 10 ∨ k = 11 then 2048 else 0
def fldM (ty kd er : Int) : Nat × Bool :=
  if ty = 1 then (if kd = 1 then (5, true) else (7 ||| askM kd, true))
  else if ty = 2 then (if er = 0 then (7 ||| tolM kd, true) else (15, true))
  else if ty = 3 then (18, true) else (0, false)
def allF (m : Ms) (h : Nat) : Prop := ∀ i, i < 13 → (if h.testBit i then rf m i else zf m i) = true
open Classical in
noncomputable def allB (m : Ms) (h : Nat) : Bool := decide (allF m h)
/-- what the program asks -/
noncomputable def okM (m : Ms) : Bool := (fldM m.ty m.kd m.er).2 && decide (0 ≤ m.cl ∧ m.cl < 8) && decide (ctP m.ss) && allB m (fldM m.ty m.kd m.er).1
theorem allF_iff (m : Ms) (h : Nat) : allF m h ↔ ((if h.testBit 0 then rf m 0 else zf m 0) = true ∧ (if h.testBit 1 then rf m 1 else zf m 1) = true ∧ (if h.testBit 2 then rf m 2 else zf m 2) = true ∧ (if h.testBit 3 then rf m 3 else zf m 3) = true ∧ (if h.testBit 4 then rf m 4 else zf m 4) = true ∧ (if h.testBit 5 then rf m 5 else zf m 5) = true ∧ (if h.testBit 6 then rf m 6 else zf m 6) = true ∧ (if h.testBit 7 then rf m 7 else zf m 7) = true ∧ (if h.testBit 8 then rf m 8 else zf m 8) = true ∧ (if h.testBit 9 then rf m 9 else zf m 9) = true ∧ (if h.testBit 10 then rf m 10 else zf m 10) = true ∧ (if h.testBit 11 then rf m 11 else zf m 11) = true ∧ (if h.testBit 12 then rf m 12 else zf m 12) = true) := by
  constructor
  · intro a
    exact ⟨a 0 (by decide), a 1 (by decide), a 2 (by decide), a 3 (by decide), a 4 (by decide), a 5 (by decide), a 6 (by decide), a 7 (by decide), a 8 (by decide), a 9 (by decide), a 10 (by decide), a 11 (by decide), a 12 (by decide)⟩
  · rintro ⟨a0, a1, a2, a3, a4, a5, a6, a7, a8, a9, a10, a11, a12⟩ i hi
    match i, hi with
    | 0, _ => exact a0
    | 1, _ => exact a1
    | 2, _ => exact a2
    | 3, _ => exact a3
    | 4, _ => exact a4
    | 5, _ => exact a5
    | 6, _ => exact a6
    | 7, _ => exact a7
    | 8, _ => exact a8
    | 9, _ => exact a9
    | 10, _ => exact a10
    | 11, _ => exact a11
    | 12, _ => exact a12
/-- the document's letters -/
def askT (k : Int) : List Nat := if k = 3 ∨ k = 5 then [100, 110] else if k = 4 then [100, 110, 107] else if k = 6 then [100, 110, 102, 111] else if k = 7 then [100] else if k = 8 ∨ k = 13 then [102, 107] else if k = 9 then [102, 97] else if k = 10 then [102, 97, 116] else if k = 11 ∨ k = 12 then [102] else []
def tolT (k : Int) : List Nat := if k = 3 then [102, 107] else if k = 4 then [102] else if k = 7 then [101] else if k = 9 then [116, 118] else if k = 8 ∨ k = 13 ∨ k = 10 ∨ k = 11 then [118] else []
/-- just the fields of these letters -/
noncomputable def juB (m : Ms) (s : List Nat) : Bool :=
  (if 102 ∈ s then rf m 4 else zf m 4) && (if 100 ∈ s then rf m 5 else zf m 5) && (if 110 ∈ s then rf m 6 else zf m 6) && (if 111 ∈ s then rf m 7 else zf m 7) && (if 107 ∈ s then rf m 8 else zf m 8) && (if 97 ∈ s then rf m 9 else zf m 9) && (if 116 ∈ s then rf m 10 else zf m 10) && (if 118 ∈ s then rf m 11 else zf m 11) && (if 101 ∈ s then rf m 12 else zf m 12)
/-- what the document asks -/
noncomputable def isM (m : Ms) : Bool :=
  if ¬ (0 ≤ m.cl ∧ m.cl < 8 ∧ ctP m.ss) then false
  else if m.ty = 3 then zf m 0 && rf m 1 && zf m 2 && zf m 3 && juB m [102]
  else if ¬ (rf m 0 = true ∧ rf m 2 = true ∧ 1 ≤ m.ty ∧ m.ty ≤ 2) then false
  else if m.ty = 1 then zf m 3 && (if m.kd = 1 then zf m 1 else rf m 1) && juB m (askT m.kd)
  else if ¬ (rf m 3 = true ∧ rf m 1 = true) then false
  else if m.er = 0 then juB m (tolT m.kd) else juB m []
open Classical in
theorem allB_eq (m : Ms) (h : Nat) : allB m h = ((if h.testBit 0 then rf m 0 else zf m 0) && (if h.testBit 1 then rf m 1 else zf m 1) && (if h.testBit 2 then rf m 2 else zf m 2) && (if h.testBit 3 then rf m 3 else zf m 3) && (if h.testBit 4 then rf m 4 else zf m 4) && (if h.testBit 5 then rf m 5 else zf m 5) && (if h.testBit 6 then rf m 6 else zf m 6) && (if h.testBit 7 then rf m 7 else zf m 7) && (if h.testBit 8 then rf m 8 else zf m 8) && (if h.testBit 9 then rf m 9 else zf m 9) && (if h.testBit 10 then rf m 10 else zf m 10) && (if h.testBit 11 then rf m 11 else zf m 11) && (if h.testBit 12 then rf m 12 else zf m 12)) := by
  unfold allB
  rw [Bool.eq_iff_iff, decide_eq_true_iff, allF_iff]
  simp only [Bool.and_eq_true, and_assoc]
def likeT (h : Nat) (s : List Nat) : Prop := h.testBit 4 = decide (102 ∈ s) ∧ h.testBit 5 = decide (100 ∈ s) ∧ h.testBit 6 = decide (110 ∈ s) ∧ h.testBit 7 = decide (111 ∈ s) ∧ h.testBit 8 = decide (107 ∈ s) ∧ h.testBit 9 = decide (97 ∈ s) ∧ h.testBit 10 = decide (116 ∈ s) ∧ h.testBit 11 = decide (118 ∈ s) ∧ h.testBit 12 = decide (101 ∈ s)
instance (h : Nat) (s : List Nat) : Decidable (likeT h s) := by unfold likeT; infer_instance
theorem ifd {p : Prop} [Decidable p] (a b : Bool) : (if decide p = true then a else b) = if p then a else b := by
  by_cases h : p <;> simp [h]
theorem allB_ju (m : Ms) (h : Nat) (s : List Nat) (e : likeT h s) : allB m h = ((if h.testBit 0 then rf m 0 else zf m 0) && (if h.testBit 1 then rf m 1 else zf m 1) && (if h.testBit 2 then rf m 2 else zf m 2) && (if h.testBit 3 then rf m 3 else zf m 3) && juB m s) := by
  obtain ⟨e4, e5, e6, e7, e8, e9, e10, e11, e12⟩ := e
  rw [allB_eq, e4, e5, e6, e7, e8, e9, e10, e11, e12]
  simp only [ifd, juB, Bool.and_assoc]
theorem ask_like {k : Int} (h : 1 ≤ k ∧ k ≤ 14) (h1 : k ≠ 1) : likeT (7 ||| askM k) (askT k) := by
  have hk : k = 2 ∨ k = 3 ∨ k = 4 ∨ k = 5 ∨ k = 6 ∨ k = 7 ∨ k = 8 ∨ k = 9 ∨ k = 10 ∨ k = 11 ∨ k = 12 ∨ k = 13 ∨ k = 14 := by omega
  rcases hk with rfl | rfl | rfl | rfl | rfl | rfl | rfl | rfl | rfl | rfl | rfl | rfl | rfl <;> decide +kernel
theorem tol_like {k : Int} (h : 1 ≤ k ∧ k ≤ 14) : likeT (7 ||| tolM k) (tolT k) := by
  have hk : k = 1 ∨ k = 2 ∨ k = 3 ∨ k = 4 ∨ k = 5 ∨ k = 6 ∨ k = 7 ∨ k = 8 ∨ k = 9 ∨ k = 10 ∨ k = 11 ∨ k = 12 ∨ k = 13 ∨ k = 14 := by omega
  rcases hk with rfl | rfl | rfl | rfl | rfl | rfl | rfl | rfl | rfl | rfl | rfl | rfl | rfl | rfl <;> decide +kernel
theorem ask_low (k : Int) : (7 ||| askM k).testBit 0 = true ∧ (7 ||| askM k).testBit 1 = true ∧ (7 ||| askM k).testBit 2 = true ∧ (7 ||| askM k).testBit 3 = false := by
  unfold askM
  repeat' split
  all_goals decide +kernel
theorem tol_low (k : Int) : (7 ||| tolM k).testBit 0 = true ∧ (7 ||| tolM k).testBit 1 = true ∧ (7 ||| tolM k).testBit 2 = true ∧ (7 ||| tolM k).testBit 3 = false := by
  unfold tolM
  repeat' split
  all_goals decide +kernel
theorem rf2_iff (m : Ms) : rf m 2 = true ↔ 1 ≤ m.kd ∧ m.kd ≤ 14 := by simp [rf]
theorem zf3_iff (m : Ms) : zf m 3 = true ↔ m.er = 0 := by simp [zf]
theorem zf3_rf3 (m : Ms) (h : m.er = 0) : rf m 3 = true := by simp [rf, h]
theorem allB_low (m : Ms) (h : Nat) (x : Bool) (e : allB m h = true → x = true) : x = false → allB m h = false := fun hx => by
  cases ha : allB m h
  · rfl
  · rw [e ha] at hx; cases hx
open Classical in
theorem allB_at (m : Ms) (h : Nat) (a : allB m h = true) {i : Nat} (hi : i < 13) (hb : h.testBit i = true) : rf m i = true := by
  have := (of_decide_eq_true a : allF m h) i hi
  rwa [if_pos hb] at this
/-- the same, whoever asks -/
theorem ok_is (m : Ms) : okM m = isM m := by
  unfold okM isM
  by_cases hc : 0 ≤ m.cl ∧ m.cl < 8 ∧ ctP m.ss
  · rw [if_neg (fun h => h hc), decide_eq_true (show 0 ≤ m.cl ∧ m.cl < 8 from ⟨hc.1, hc.2.1⟩), decide_eq_true hc.2.2]
    by_cases t3 : m.ty = 3
    · rw [if_pos t3, show fldM m.ty m.kd m.er = (18, true) from by rw [t3]; rfl]
      rw [allB_ju m 18 [102] (by decide +kernel)]
      rfl
    · rw [if_neg t3]
      by_cases h1 : rf m 0 = true ∧ rf m 2 = true ∧ 1 ≤ m.ty ∧ m.ty ≤ 2
      · rw [if_neg (fun h => h h1)]
        obtain ⟨r0, r2, ht⟩ := h1
        have hk := (rf2_iff m).1 r2
        by_cases t1 : m.ty = 1
        · rw [if_pos t1]
          by_cases k1 : m.kd = 1
          · rw [if_pos k1, show fldM m.ty m.kd m.er = (5, true) from by rw [t1, k1]; rfl, show askT m.kd = [] from by rw [k1]; rfl, allB_ju m 5 [] (by decide +kernel)]
            show (_ && _ && _ && (rf m 0 && zf m 1 && rf m 2 && zf m 3 && _)) = _
            rw [r0, r2]
            cases zf m 1 <;> cases zf m 3 <;> rfl
          · obtain ⟨b0, b1, b2, b3⟩ := ask_low m.kd
            rw [if_neg k1, show fldM m.ty m.kd m.er = (7 ||| askM m.kd, true) from by unfold fldM; rw [if_pos t1, if_neg k1], allB_ju m _ _ (ask_like hk k1), b0, b1, b2, b3]
            show (_ && _ && _ && (rf m 0 && rf m 1 && rf m 2 && zf m 3 && _)) = _
            rw [r0, r2]
            cases rf m 1 <;> cases zf m 3 <;> rfl
        · rw [if_neg t1]
          have t2 : m.ty = 2 := by omega
          by_cases e0 : m.er = 0
          · have z3 := (zf3_iff m).2 e0
            have r3 := zf3_rf3 m e0
            obtain ⟨b0, b1, b2, b3⟩ := tol_low m.kd
            rw [if_pos e0, show fldM m.ty m.kd m.er = (7 ||| tolM m.kd, true) from by unfold fldM; rw [if_neg t1, if_pos t2, if_pos e0], allB_ju m _ _ (tol_like hk), b0, b1, b2, b3]
            show (_ && _ && _ && (rf m 0 && rf m 1 && rf m 2 && zf m 3 && _)) = _
            rw [r0, r2, r3, z3]
            cases rf m 1 <;> rfl
          · rw [if_neg e0, show fldM m.ty m.kd m.er = (15, true) from by unfold fldM; rw [if_neg t1, if_pos t2, if_neg e0], allB_ju m 15 [] (by decide +kernel)]
            show (_ && _ && _ && (rf m 0 && rf m 1 && rf m 2 && rf m 3 && _)) = _
            rw [r0, r2]
            cases rf m 1 <;> cases rf m 3 <;> rfl
      · rw [if_pos h1]
        have key : (fldM m.ty m.kd m.er).2 = true → allB m (fldM m.ty m.kd m.er).1 = false := by
          intro hf
          cases ha : allB m (fldM m.ty m.kd m.er).1
          · rfl
          exfalso
          by_cases t1 : m.ty = 1
          · by_cases k1 : m.kd = 1
            · rw [show fldM m.ty m.kd m.er = (5, true) from by rw [t1, k1]; rfl] at ha
              exact h1 ⟨allB_at m 5 ha (i := 0) (by decide) rfl, allB_at m 5 ha (i := 2) (by decide) rfl, by omega, by omega⟩
            · rw [show fldM m.ty m.kd m.er = (7 ||| askM m.kd, true) from by unfold fldM; rw [if_pos t1, if_neg k1]] at ha
              exact h1 ⟨allB_at m _ ha (i := 0) (by decide) (ask_low _).1, allB_at m _ ha (i := 2) (by decide) (ask_low _).2.2.1, by omega, by omega⟩
          · by_cases t2 : m.ty = 2
            · by_cases e0 : m.er = 0
              · rw [show fldM m.ty m.kd m.er = (7 ||| tolM m.kd, true) from by unfold fldM; rw [if_neg t1, if_pos t2, if_pos e0]] at ha
                exact h1 ⟨allB_at m _ ha (i := 0) (by decide) (tol_low _).1, allB_at m _ ha (i := 2) (by decide) (tol_low _).2.2.1, by omega, by omega⟩
              · rw [show fldM m.ty m.kd m.er = (15, true) from by unfold fldM; rw [if_neg t1, if_pos t2, if_neg e0]] at ha
                exact h1 ⟨allB_at m 15 ha (i := 0) (by decide) rfl, allB_at m 15 ha (i := 2) (by decide) rfl, by omega, by omega⟩
            · rw [show fldM m.ty m.kd m.er = (0, false) from by unfold fldM; rw [if_neg t1, if_neg t2, if_neg t3]] at hf
              cases hf
        cases hf : (fldM m.ty m.kd m.er).2
        · rfl
        · rw [key hf]; rfl
  · rw [if_pos hc]
    by_cases h2 : 0 ≤ m.cl ∧ m.cl < 8
    · have h3 : ¬ ctP m.ss := fun h => hc ⟨h2.1, h2.2, h⟩
      simp [h3]
    · simp [h2]
end Go.Proofs.Ytpgeebhepegpaaa
