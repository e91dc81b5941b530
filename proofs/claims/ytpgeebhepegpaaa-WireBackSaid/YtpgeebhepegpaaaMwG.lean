/- The program's reading of a message: its fields. The program's bytes of a message. The program's message of bytes. Messages have bytes at all; WireEncodes, walked. What Cut answers lies where its argument does. (Split off StR.) WireEncodes, walked. -/
import Derived.Test.YtpgeebhepegpaaaMwD
import Derived.Test.YtpgeebhepegpaaaMsC
import Derived.Test.YtpgeebhepegpaaaMwE
import Derived.Test.YtpgeebhepegpaaaMwF
import Derived.Test.YtpgeebhepegpaaaWiE
import Derived.Test.YtpgeebhepegpaaaR01
namespace Go.Proofs.Ytpgeebhepegpaaa
open Go.ChangeShapes Go.WideShapes Go.ChangeAt Go.RowKit

/-- while the program reads a message's fields into a block -/
structure PuS (W : World) (u b q V a : Nat) (F : Nat → Prop) (C : Array Value) (w : World) : Prop where
  xs : PT w F b q V a
  bu : Blk w u 28 C
  fu : ¬ F u
  ad : Adv (fun j => F j ∨ j = u) W (fun j => F j ∨ j = u) w
section
variable {W w w' : World} {u b q V a a2 : Nat} {F : Nat → Prop} {C D : Array Value}
set_option maxRecDepth 3000 in
theorem PuS.get (h : PuS W u b q V a F C w) (hr : PT w' F b q V a2) (ha : Adv F w F w') : PuS W u b q V a2 F C w' :=
  ⟨hr, h.bu.keep (ha.block u h.bu.lt h.fu), h.fu, h.ad.trans ⟨ha.os, ha.tape, ha.output, ha.size, fun i hi hn => ha.block i hi (fun f => hn (.inl f)), fun _ hi => .inl hi⟩⟩
set_option maxRecDepth 3000 in
theorem PuS.put (h : PuS W u b q V a F C w) (hB : Blk w' u 28 D) (ha : Adv (One u) w (One u) w') : PuS W u b q V a F D w' :=
  ⟨h.xs.far ha (fun i hi hg => h.fu (by rw [← show i = u from hi]; exact hg)), hB, h.fu, h.ad.trans ⟨ha.os, ha.tape, ha.output, ha.size, fun i hi hn => ha.block i hi (fun f => hn (.inr f)), fun _ hi => .inl hi⟩⟩
set_option maxRecDepth 3000 in
theorem EnG.new_ {G : Nat → Prop} {l : List En} {v : Value} (h : EnG W G l v w) : ∀ j, v.ownBlock = some j → W.heap.size ≤ j := fun j hj => by
  obtain ⟨F2, h1, _, h3⟩ := h.ex
  exact h3 j (h1.inF j hj)
set_option maxRecDepth 3000 in
theorem EnG.set {G : Nat → Prop} {l : List En} {v : Value} {t : TypeId} (h : EnG W G l v w) (hB : Blk w u t C) (ht : 54 ≠ t) (k : Nat) (x : Value) : EnR7 (w.setCell ⟨u, k, none⟩ x) v l := by
  have hne := own_blk_ne h.own hB ht
  exact ⟨h.rd.rd.far (fun j hj _ _ => heap_setCell_other w ⟨u, k, none⟩ j x (fun e => hne (by rw [hj, e]))) (by simp), h.sz⟩
set_option maxRecDepth 3000 in
theorem PuS.set (h : PuS W u b q V a F C w) (k : Nat) (v : Value) : PuS W u b q V a F (C.setIfInBounds k v) (w.setCell ⟨u, k, none⟩ v) :=
  h.put (h.bu.set_ k v) ((Adv.refl (One u) w).setCell (p := ⟨u, k, none⟩) (.inl rfl) v)
end
set_option maxRecDepth 3000 in
set_option maxHeartbeats 6400000 in
theorem wreadfields_any (h : Nat) (s : List Nat) (hlk : likeT h s) (hh : h < 8192) (u b q V : Nat) (F : Nat → Prop) (w : World) (hp : PT w F b q V 134) (hu : Blk w u 28 (mc (hdW q V) nilV)) (hfu : ¬ F u) :
    Calls Try.prog 50 #[.pointer (some ⟨b, 0, none⟩), .pointer (some ⟨u, 0, none⟩), .int .i64 (h : Int)] w fun e w' => e = .returned (.tuple #[]) ∧ ∃ v, PuS w u b q V (endX q V s) F (mc (rdW q V s) v) w' ∧ EnR7 w' v (rdW q V s).en ∧ ∀ j, v.ownBlock = some j → w.heap.size ≤ j := by
  have HP := Lib.hid (show PuS w u b q V 134 F (mc (hdW q V) nilV) w from ⟨hp, hu, hfu, Adv.refl _ _⟩)
  have HH102 := Lib.hid (fun w => show Calls Try.prog 63 #[.int .i64 (h : Int), .int .i64 16] w fun e w' => e = .returned (.bool (decide (102 ∈ s))) ∧ w = w' by have := fhas_any h 4 hh (by decide) w; rw [hlk.1] at this; exact this)
  have HH100 := Lib.hid (fun w => show Calls Try.prog 63 #[.int .i64 (h : Int), .int .i64 32] w fun e w' => e = .returned (.bool (decide (100 ∈ s))) ∧ w = w' by have := fhas_any h 5 hh (by decide) w; rw [hlk.2.1] at this; exact this)
  have HH110 := Lib.hid (fun w => show Calls Try.prog 63 #[.int .i64 (h : Int), .int .i64 64] w fun e w' => e = .returned (.bool (decide (110 ∈ s))) ∧ w = w' by have := fhas_any h 6 hh (by decide) w; rw [hlk.2.2.1] at this; exact this)
  have HH111 := Lib.hid (fun w => show Calls Try.prog 63 #[.int .i64 (h : Int), .int .i64 128] w fun e w' => e = .returned (.bool (decide (111 ∈ s))) ∧ w = w' by have := fhas_any h 7 hh (by decide) w; rw [hlk.2.2.2.1] at this; exact this)
  have HH107 := Lib.hid (fun w => show Calls Try.prog 63 #[.int .i64 (h : Int), .int .i64 256] w fun e w' => e = .returned (.bool (decide (107 ∈ s))) ∧ w = w' by have := fhas_any h 8 hh (by decide) w; rw [hlk.2.2.2.2.1] at this; exact this)
  have HH97 := Lib.hid (fun w => show Calls Try.prog 63 #[.int .i64 (h : Int), .int .i64 512] w fun e w' => e = .returned (.bool (decide (97 ∈ s))) ∧ w = w' by have := fhas_any h 9 hh (by decide) w; rw [hlk.2.2.2.2.2.1] at this; exact this)
  have HH116 := Lib.hid (fun w => show Calls Try.prog 63 #[.int .i64 (h : Int), .int .i64 1024] w fun e w' => e = .returned (.bool (decide (116 ∈ s))) ∧ w = w' by have := fhas_any h 10 hh (by decide) w; rw [hlk.2.2.2.2.2.2.1] at this; exact this)
  have HH118 := Lib.hid (fun w => show Calls Try.prog 63 #[.int .i64 (h : Int), .int .i64 2048] w fun e w' => e = .returned (.bool (decide (118 ∈ s))) ∧ w = w' by have := fhas_any h 11 hh (by decide) w; rw [hlk.2.2.2.2.2.2.2.1] at this; exact this)
  have HH101 := Lib.hid (fun w => show Calls Try.prog 63 #[.int .i64 (h : Int), .int .i64 4096] w fun e w' => e = .returned (.bool (decide (101 ∈ s))) ∧ w = w' by have := fhas_any h 12 hh (by decide) w; rw [hlk.2.2.2.2.2.2.2.2] at this; exact this)
  obtain ⟨g, hg⟩ : ∃ g : Int, g = (h : Int) := ⟨_, rfl⟩
  rw [← hg]
  rw [← hg] at HH102
  rw [← hg] at HH100
  rw [← hg] at HH110
  rw [← hg] at HH111
  rw [← hg] at HH107
  rw [← hg] at HH97
  rw [← hg] at HH116
  rw [← hg] at HH118
  rw [← hg] at HH101
  clear hg hlk hh hp hu hfu
  go_enter Try.func50, Try.ntmps50
  obtain ⟨t, ht⟩ : ∃ t, t = decide (102 ∈ s) := ⟨_, rfl⟩
  rw [← ht] at HH102
  have HB := Lib.hid ht
  clear ht
  go_upto_if 7 with (first
    | (go_at_call 63; refine (HH102.out _).mono ?_; rintro e w3 ⟨rfl, rfl⟩)
    | fail)
  clear HH102
  go_cut [] (fun w9 => PuS w u b q V (pw1 s) F (mc (mw1 q V s) nilV) w9)
  case first =>
    have hb := HB.out
    by_cases hc : 102 ∈ s
    · obtain rfl : t = true := by rw [hb, decide_eq_true hc]
      have HY := Lib.hid (mw1_yes (q := q) (V := V) hc)
      have HQ := Lib.hid (pw1_yes hc)
      obtain ⟨A, hA⟩ : ∃ A, A = 134 := ⟨_, rfl⟩
      have HP1 := HP
      rw [← hA] at HY HQ HP1
      have T := Lib.hid HP1.out.xs.file
      unfold flV at T
      obtain ⟨x, hx⟩ : ∃ x, x = getT q V A 6 := ⟨_, rfl⟩
      obtain ⟨y, hy⟩ : ∃ y, y = getT q V (A + 6) 31 := ⟨_, rfl⟩
      rw [← hx, ← hy] at T HY
      clear hb hc HB hA hx hy
      go_wp2_with (first
        | (go_at_call 75; refine T.out.mono ?_; rintro e w4 ⟨rfl, h4, a4⟩; have HP4 := Lib.hid (HP1.out.get h4 a4); clear h4 a4)
        | (refine kop_storeF rfl _ _ rfl u 7 HP4.out.bu rfl rfl (by show 7 + 2 ≤ 18; decide) ⟨rfl, rfl⟩ ?_; intro w5 hb ha; have HP5 := Lib.hid (HP4.out.put hb ha); clear hb ha)
        | fail)
      go_meet
      rw [HQ.out, ← HY.out]
      exact HP5.out
    · obtain rfl : t = false := by rw [hb, decide_eq_false hc]
      have HY := Lib.hid (mw1_no (q := q) (V := V) hc)
      have HQ := Lib.hid (pw1_no hc)
      clear hb hc HB
      go_wp2_with fail
      go_meet
      rw [HQ.out, ← HY.out]
      exact HP.out
  case rest =>
  replace HP := Lib.hid hcut
  clear hcut HB
  obtain ⟨t, ht⟩ : ∃ t, t = decide (100 ∈ s) := ⟨_, rfl⟩
  rw [← ht] at HH100
  have HB := Lib.hid ht
  clear ht
  go_upto_if 14 with (first
    | (go_at_call 63; refine (HH100.out _).mono ?_; rintro e w3 ⟨rfl, rfl⟩)
    | fail)
  clear HH100
  go_cut [] (fun w9 => PuS w u b q V (pw2 s) F (mc (mw2 q V s) nilV) w9)
  case first =>
    have hb := HB.out
    by_cases hc : 100 ∈ s
    · obtain rfl : t = true := by rw [hb, decide_eq_true hc]
      have HY := Lib.hid (mw2_yes (q := q) (V := V) hc)
      have HQ := Lib.hid (pw2_yes hc)
      obtain ⟨A, hA⟩ : ∃ A, A = pw1 s := ⟨_, rfl⟩
      have HP1 := HP
      rw [← hA] at HY HQ HP1
      have T := Lib.hid HP1.out.xs.file
      unfold flV at T
      obtain ⟨x, hx⟩ : ∃ x, x = getT q V A 6 := ⟨_, rfl⟩
      obtain ⟨y, hy⟩ : ∃ y, y = getT q V (A + 6) 31 := ⟨_, rfl⟩
      rw [← hx, ← hy] at T HY
      clear hb hc HB hA hx hy
      go_wp2_with (first
        | (go_at_call 75; refine T.out.mono ?_; rintro e w4 ⟨rfl, h4, a4⟩; have HP4 := Lib.hid (HP1.out.get h4 a4); clear h4 a4)
        | (refine kop_storeF rfl _ _ rfl u 9 HP4.out.bu rfl rfl (by show 9 + 2 ≤ 18; decide) ⟨rfl, rfl⟩ ?_; intro w5 hb ha; have HP5 := Lib.hid (HP4.out.put hb ha); clear hb ha)
        | fail)
      go_meet
      rw [HQ.out, ← HY.out]
      exact HP5.out
    · obtain rfl : t = false := by rw [hb, decide_eq_false hc]
      have HY := Lib.hid (mw2_no (q := q) (V := V) hc)
      have HQ := Lib.hid (pw2_no hc)
      clear hb hc HB
      go_wp2_with fail
      go_meet
      rw [HQ.out, ← HY.out]
      exact HP.out
  case rest =>
  replace HP := Lib.hid hcut
  clear hcut HB
  obtain ⟨t, ht⟩ : ∃ t, t = decide (110 ∈ s) := ⟨_, rfl⟩
  rw [← ht] at HH110
  have HB := Lib.hid ht
  clear ht
  go_upto_if 21 with (first
    | (go_at_call 63; refine (HH110.out _).mono ?_; rintro e w3 ⟨rfl, rfl⟩)
    | fail)
  clear HH110
  go_cut [] (fun w9 => PuS w u b q V (pw3 q V s) F (mc (mw3 q V s) nilV) w9)
  case first =>
    have hb := HB.out
    by_cases hc : 110 ∈ s
    · obtain rfl : t = true := by rw [hb, decide_eq_true hc]
      have HY := Lib.hid (mw3_yes (q := q) (V := V) hc)
      have HQ := Lib.hid (pw3_yes (q := q) (V := V) hc)
      obtain ⟨A, hA⟩ : ∃ A, A = pw2 s := ⟨_, rfl⟩
      have HP1 := HP
      rw [← hA] at HY HQ HP1
      have T := Lib.hid (HP1.out.xs.textp)
      obtain ⟨x, hx⟩ : ∃ x, x = txT q V A := ⟨_, rfl⟩
      rw [← hx] at T HY
      clear hb hc HB hA hx
      go_wp2_with (first
        | (go_at_call 76; refine T.out.mono ?_; rintro e w4 ⟨rfl, h4, a4⟩; have HP4 := Lib.hid (HP1.out.get h4 a4); have HP5 := Lib.hid (HP4.out.set 11 (.string x)); have d0 := HP4.out.bu.cell 11; have f0 := HP4.out.bu.frozen 11; clear h4 a4)
        | fail)
      go_meet
      rw [HQ.out, ← HY.out]
      exact HP5.out
    · obtain rfl : t = false := by rw [hb, decide_eq_false hc]
      have HY := Lib.hid (mw3_no (q := q) (V := V) hc)
      have HQ := Lib.hid (pw3_no (q := q) (V := V) hc)
      clear hb hc HB
      go_wp2_with fail
      go_meet
      rw [HQ.out, ← HY.out]
      exact HP.out
  case rest =>
  replace HP := Lib.hid hcut
  clear hcut HB
  obtain ⟨t, ht⟩ : ∃ t, t = decide (111 ∈ s) := ⟨_, rfl⟩
  rw [← ht] at HH111
  have HB := Lib.hid ht
  clear ht
  go_upto_if 28 with (first
    | (go_at_call 63; refine (HH111.out _).mono ?_; rintro e w3 ⟨rfl, rfl⟩)
    | fail)
  clear HH111
  go_cut [] (fun w9 => PuS w u b q V (pw4 q V s) F (mc (mw4 q V s) nilV) w9)
  case first =>
    have hb := HB.out
    by_cases hc : 111 ∈ s
    · obtain rfl : t = true := by rw [hb, decide_eq_true hc]
      have HY := Lib.hid (mw4_yes (q := q) (V := V) hc)
      have HQ := Lib.hid (pw4_yes (q := q) (V := V) hc)
      obtain ⟨A, hA⟩ : ∃ A, A = pw3 q V s := ⟨_, rfl⟩
      have HP1 := HP
      rw [← hA] at HY HQ HP1
      have T := Lib.hid (HP1.out.xs.textp)
      obtain ⟨x, hx⟩ : ∃ x, x = txT q V A := ⟨_, rfl⟩
      rw [← hx] at T HY
      clear hb hc HB hA hx
      go_wp2_with (first
        | (go_at_call 76; refine T.out.mono ?_; rintro e w4 ⟨rfl, h4, a4⟩; have HP4 := Lib.hid (HP1.out.get h4 a4); have HP5 := Lib.hid (HP4.out.set 12 (.string x)); have d0 := HP4.out.bu.cell 12; have f0 := HP4.out.bu.frozen 12; clear h4 a4)
        | fail)
      go_meet
      rw [HQ.out, ← HY.out]
      exact HP5.out
    · obtain rfl : t = false := by rw [hb, decide_eq_false hc]
      have HY := Lib.hid (mw4_no (q := q) (V := V) hc)
      have HQ := Lib.hid (pw4_no (q := q) (V := V) hc)
      clear hb hc HB
      go_wp2_with fail
      go_meet
      rw [HQ.out, ← HY.out]
      exact HP.out
  case rest =>
  replace HP := Lib.hid hcut
  clear hcut HB
  obtain ⟨t, ht⟩ : ∃ t, t = decide (107 ∈ s) := ⟨_, rfl⟩
  rw [← ht] at HH107
  have HB := Lib.hid ht
  clear ht
  go_upto_if 35 with (first
    | (go_at_call 63; refine (HH107.out _).mono ?_; rintro e w3 ⟨rfl, rfl⟩)
    | fail)
  clear HH107
  go_cut [] (fun w9 => PuS w u b q V (pw5 q V s) F (mc (mw5 q V s) nilV) w9)
  case first =>
    have hb := HB.out
    by_cases hc : 107 ∈ s
    · obtain rfl : t = true := by rw [hb, decide_eq_true hc]
      have HY := Lib.hid (mw5_yes (q := q) (V := V) hc)
      have HQ := Lib.hid (pw5_yes (q := q) (V := V) hc)
      obtain ⟨A, hA⟩ : ∃ A, A = pw4 q V s := ⟨_, rfl⟩
      have HP1 := HP
      rw [← hA] at HY HQ HP1
      have T := Lib.hid (HP1.out.xs.num 2 (by decide))
      obtain ⟨x, hx⟩ : ∃ x, x = getT q V A 2 := ⟨_, rfl⟩
      rw [← hx] at T HY
      clear hb hc HB hA hx
      go_wp2_with (first
        | (go_at_call 73; refine T.out.mono ?_; rintro e w4 ⟨rfl, h4, a4⟩; have HP4 := Lib.hid (HP1.out.get h4 a4); have HP5 := Lib.hid (HP4.out.set 13 (.int .i64 (x : Int))); have d0 := HP4.out.bu.cell 13; have f0 := HP4.out.bu.frozen 13; clear h4 a4)
        | fail)
      go_meet
      rw [HQ.out, ← HY.out]
      exact HP5.out
    · obtain rfl : t = false := by rw [hb, decide_eq_false hc]
      have HY := Lib.hid (mw5_no (q := q) (V := V) hc)
      have HQ := Lib.hid (pw5_no (q := q) (V := V) hc)
      clear hb hc HB
      go_wp2_with fail
      go_meet
      rw [HQ.out, ← HY.out]
      exact HP.out
  case rest =>
  replace HP := Lib.hid hcut
  clear hcut HB
  obtain ⟨t, ht⟩ : ∃ t, t = decide (97 ∈ s) := ⟨_, rfl⟩
  rw [← ht] at HH97
  have HB := Lib.hid ht
  clear ht
  go_upto_if 42 with (first
    | (go_at_call 63; refine (HH97.out _).mono ?_; rintro e w3 ⟨rfl, rfl⟩)
    | fail)
  clear HH97
  go_cut [] (fun w9 => PuS w u b q V (pw6 q V s) F (mc (mw6 q V s) nilV) w9)
  case first =>
    have hb := HB.out
    by_cases hc : 97 ∈ s
    · obtain rfl : t = true := by rw [hb, decide_eq_true hc]
      have HY := Lib.hid (mw6_yes (q := q) (V := V) hc)
      have HQ := Lib.hid (pw6_yes (q := q) (V := V) hc)
      obtain ⟨A, hA⟩ : ∃ A, A = pw5 q V s := ⟨_, rfl⟩
      have HP1 := HP
      rw [← hA] at HY HQ HP1
      have T := Lib.hid (HP1.out.xs.num 3 (by decide))
      obtain ⟨x, hx⟩ : ∃ x, x = getT q V A 3 := ⟨_, rfl⟩
      rw [← hx] at T HY
      clear hb hc HB hA hx
      go_wp2_with (first
        | (go_at_call 73; refine T.out.mono ?_; rintro e w4 ⟨rfl, h4, a4⟩; have HP4 := Lib.hid (HP1.out.get h4 a4); have HP5 := Lib.hid (HP4.out.set 14 (.int .i64 (x : Int))); have d0 := HP4.out.bu.cell 14; have f0 := HP4.out.bu.frozen 14; clear h4 a4)
        | fail)
      go_meet
      rw [HQ.out, ← HY.out]
      exact HP5.out
    · obtain rfl : t = false := by rw [hb, decide_eq_false hc]
      have HY := Lib.hid (mw6_no (q := q) (V := V) hc)
      have HQ := Lib.hid (pw6_no (q := q) (V := V) hc)
      clear hb hc HB
      go_wp2_with fail
      go_meet
      rw [HQ.out, ← HY.out]
      exact HP.out
  case rest =>
  replace HP := Lib.hid hcut
  clear hcut HB
  obtain ⟨t, ht⟩ : ∃ t, t = decide (116 ∈ s) := ⟨_, rfl⟩
  rw [← ht] at HH116
  have HB := Lib.hid ht
  clear ht
  go_upto_if 49 with (first
    | (go_at_call 63; refine (HH116.out _).mono ?_; rintro e w3 ⟨rfl, rfl⟩)
    | fail)
  clear HH116
  go_cut [] (fun w9 => PuS w u b q V (pw7 q V s) F (mc (mw7 q V s) nilV) w9)
  case first =>
    have hb := HB.out
    by_cases hc : 116 ∈ s
    · obtain rfl : t = true := by rw [hb, decide_eq_true hc]
      have HY := Lib.hid (mw7_yes (q := q) (V := V) hc)
      have HQ := Lib.hid (pw7_yes (q := q) (V := V) hc)
      obtain ⟨A, hA⟩ : ∃ A, A = pw6 q V s := ⟨_, rfl⟩
      have HP1 := HP
      rw [← hA] at HY HQ HP1
      have T := Lib.hid (HP1.out.xs.textp)
      obtain ⟨x, hx⟩ : ∃ x, x = txT q V A := ⟨_, rfl⟩
      rw [← hx] at T HY
      clear hb hc HB hA hx
      go_wp2_with (first
        | (go_at_call 76; refine T.out.mono ?_; rintro e w4 ⟨rfl, h4, a4⟩; have HP4 := Lib.hid (HP1.out.get h4 a4); have HP5 := Lib.hid (HP4.out.set 15 (.string x)); have d0 := HP4.out.bu.cell 15; have f0 := HP4.out.bu.frozen 15; clear h4 a4)
        | fail)
      go_meet
      rw [HQ.out, ← HY.out]
      exact HP5.out
    · obtain rfl : t = false := by rw [hb, decide_eq_false hc]
      have HY := Lib.hid (mw7_no (q := q) (V := V) hc)
      have HQ := Lib.hid (pw7_no (q := q) (V := V) hc)
      clear hb hc HB
      go_wp2_with fail
      go_meet
      rw [HQ.out, ← HY.out]
      exact HP.out
  case rest =>
  replace HP := Lib.hid hcut
  clear hcut HB
  obtain ⟨t, ht⟩ : ∃ t, t = decide (118 ∈ s) := ⟨_, rfl⟩
  rw [← ht] at HH118
  have HB := Lib.hid ht
  clear ht
  go_upto_if 56 with (first
    | (go_at_call 63; refine (HH118.out _).mono ?_; rintro e w3 ⟨rfl, rfl⟩)
    | fail)
  clear HH118
  go_cut [] (fun w9 => PuS w u b q V (pw8 q V s) F (mc (mw8 q V s) nilV) w9)
  case first =>
    have hb := HB.out
    by_cases hc : 118 ∈ s
    · obtain rfl : t = true := by rw [hb, decide_eq_true hc]
      have HY := Lib.hid (mw8_yes (q := q) (V := V) hc)
      have HQ := Lib.hid (pw8_yes (q := q) (V := V) hc)
      obtain ⟨A, hA⟩ : ∃ A, A = pw7 q V s := ⟨_, rfl⟩
      have HP1 := HP
      rw [← hA] at HY HQ HP1
      have T := Lib.hid (HP1.out.xs.getx 40 (by decide))
      obtain ⟨x, hx⟩ : ∃ x, x = getT q V A 40 := ⟨_, rfl⟩
      rw [← hx] at T HY
      clear hb hc HB hA hx
      go_wp2_with (first
        | (go_at_call 74; refine T.out.mono ?_; rintro e w4 ⟨rfl, h4, a4⟩; have HP4 := Lib.hid (HP1.out.get h4 a4); have HP5 := Lib.hid (HP4.out.set 16 (.int .u64 (x : Int))); have d0 := HP4.out.bu.cell 16; have f0 := HP4.out.bu.frozen 16; clear h4 a4)
        | fail)
      go_meet
      rw [HQ.out, ← HY.out]
      exact HP5.out
    · obtain rfl : t = false := by rw [hb, decide_eq_false hc]
      have HY := Lib.hid (mw8_no (q := q) (V := V) hc)
      have HQ := Lib.hid (pw8_no (q := q) (V := V) hc)
      clear hb hc HB
      go_wp2_with fail
      go_meet
      rw [HQ.out, ← HY.out]
      exact HP.out
  case rest =>
  replace HP := Lib.hid hcut
  clear hcut HB
  by_cases hc : 101 ∈ s
  · rw [decide_eq_true hc] at HH101
    have HQ := Lib.hid (show endX q V s = pwE q V (pw8 q V s + 5) (getT q V (pw8 q V s) 5) by unfold endX cntW; rw [if_pos hc, if_pos hc])
    have HEN := Lib.hid (show (rdW q V s).en = enW q V (pw8 q V s + 5) (getT q V (pw8 q V s) 5) by show enW q V (pw8 q V s + 5) (cntW q V s) = _; unfold cntW; rw [if_pos hc])
    have T := Lib.hid HP.out.xs.ens
    have d0 := HP.out.bu.cell 17
    clear hc d0
    go_wp2_with (first
      | (go_at_call 63; refine (HH101.out _).mono ?_; rintro e w3 ⟨rfl, rfl⟩)
      | (go_at_call 77; refine T.out.mono ?_; rintro e w4 ⟨v4, rfl, e4, h4, a4⟩; have HE4 := Lib.hid e4; have HP4 := Lib.hid (HP.out.get h4 a4); have HP5 := Lib.hid (HP4.out.set 17 v4); have d0 := HP4.out.bu.cell 17; have f0 := HP4.out.bu.frozen 17; obtain ⟨A4, c4, hv4⟩ := e4.form; subst hv4; clear h4 a4 e4)
      | fail)
    go_end0
    refine ⟨rfl, _, ?_, ?_, fun j hj => Nat.le_trans HP.out.ad.size (HE4.out.new_ j hj)⟩
    · rw [HQ.out]
      have := HP5.out
      exact this
    · rw [HEN.out]
      exact HE4.out.set HP4.out.bu (by decide) 17 _
  · rw [decide_eq_false hc] at HH101
    have HQ := Lib.hid (show endX q V s = pw8 q V s by unfold endX; rw [if_neg hc])
    have HEN := Lib.hid (show (rdW q V s).en = [] by show enW q V (pw8 q V s + 5) (cntW q V s) = _; unfold cntW; rw [if_neg hc]; rfl)
    clear hc
    go_wp2_with (first
      | (go_at_call 63; refine (HH101.out _).mono ?_; rintro e w3 ⟨rfl, rfl⟩)
      | fail)
    go_end0
    refine ⟨rfl, nilV, by rw [HQ.out, ← mw_all]; exact HP.out, ?_, fun j hj => by cases hj⟩
    rw [HEN.out]
    exact (EnO.nil _).rd
end Go.Proofs.Ytpgeebhepegpaaa
namespace Go.Proofs.Ytpgeebhepegpaaa
open Go.ChangeShapes Go.WideShapes Go.ChangeAt Go.RowKit

set_option maxRecDepth 3000 in
theorem chk_isM (m : Ms) : chkM m = if isM m = true then 0 else 4 := by unfold chkM; rw [ok_is]
set_option maxRecDepth 3000 in
theorem WJ.done (W : World) {F : Nat → Prop} {b : Nat} {A : List Do} {w : World} (h : WJ W Nul F b A w) (hl : lenOf A ≤ 1000000) :
    Calls Try.prog 41 #[.pointer (some ⟨b, 0, none⟩)] w fun e w' => ∃ a n c F', e = .returned (.tuple #[.slice a n c, .int .i64 0]) ∧ n = qn (lenOf A) ∧ Sl w' F' 5 1 (.slice a n c) n ((rowOf (numOf A) (lenOf A)).map u8) ∧ Adv Nul W F' w' := by
  refine (done_ok b _ _ F w h.ws (by omega)).mono ?_
  rintro e w' ⟨v, F', rfl, k1, k2⟩
  obtain ⟨a, c, rfl, _⟩ := k1.form0
  exact ⟨a, _, c, F', rfl, rfl, k1, (h.ad.sub (fun _ x => x.elim)).trans k2⟩
set_option maxRecDepth 3000 in
set_option maxHeartbeats 3200000 in
theorem wencode_any (m : Ms) (v : Value) (hm : WfM m) (w : World) (hE : EnR7 w v m.en) : Calls Try.prog 21 #[.agg (mc m v)] w (EncM w m) := by
  have HCK := Lib.hid (fun w' (ha : Adv Nul w Nul w') => check16_any m v hm w' (hE.step ha))
  have HOF := Lib.hid (fieldsof_any m v)
  have HNO := Lib.hid (fun w' => @EncM.no w w' m)
  have HYES := Lib.hid (fun (w' : World) (F : Nat → Prop) (A : Option Addr) (n c : Nat) => @EncM.yes w w' m F A n c)
  have HE := Lib.hid hE
  cases hi : isM m
  · have HI := Lib.hid hi
    rw [chk_isM, hi] at HCK
    obtain ⟨C, hC⟩ : ∃ C, C = mc m v := ⟨_, rfl⟩
    have HCS := Lib.hid (show C.size = 18 by rw [hC]; rfl)
    rw [← hC] at HCK ⊢
    clear hi hC hE hm HOF
    simp only [Bool.false_eq_true, ↓reduceIte] at HCK
    go_enter Try.func21, Try.ntmps21
    go_wp2_with (first
      | (refine kop_box rfl _ rfl rfl ?_; intro z w1 hz hb ha; have HBZ := Lib.hid hb; have HA := Lib.hid ha; clear hz hb ha)
      | (refine kop_load rfl _ rfl z HBZ.out rfl Try.underlying28 rfl sizeM HCS.out ?_)
      | (go_at_call 12; refine (HCK.out _ HA.out).mono ?_; rintro e w2 ⟨rfl, a2⟩; have HA2 := Lib.hid (HA.out.trans a2); clear a2)
      | fail)
    exact bodyPost_ret (v := .tuple #[.slice none 0 0, .int .i64 4]) (by simp [results, Try.results21, go_sem]) rfl (HNO.out _ HI.out HA2.out)
  · have HI := Lib.hid hi
    have hok := isM_okW hi
    have HOK := Lib.hid hok
    have J := Lib.hid (juW_of hok.ju)
    have HLK := Lib.hid (isM_like hi).1
    have HL8 := Lib.hid (wq_len8 hi)
    have HLL := Lib.hid (wiL_len hi)
    have HWL := Lib.hid (wiB_len m)
    rw [chk_isM, hi] at HCK
    obtain ⟨h, hh⟩ : ∃ h, h = (fldM m.ty m.kd m.er).1 := ⟨_, rfl⟩
    have HH := Lib.hid (show h < 8192 by rw [hh]; exact fldM_lt _ _ _)
    obtain ⟨o, ho⟩ : ∃ o, o = (fldM m.ty m.kd m.er).2 := ⟨_, rfl⟩
    rw [← hh] at HLK
    rw [← hh, ← ho] at HOF
    have HHEAD := Lib.hid (fun b A F w hw hl => wlayhead_any m v HOK.out b A F w hw hl)
    have HLF := Lib.hid (fun W hE b F w hw => wlayfields_any m v h _ HLK.out HH.out J.out W hE b F w hw HL8.out)
    obtain ⟨C, hC⟩ : ∃ C, C = mc m v := ⟨_, rfl⟩
    have HCS := Lib.hid (show C.size = 18 by rw [hC]; rfl)
    rw [← hC] at HCK HOF HHEAD HLF ⊢
    obtain ⟨g, hg⟩ : ∃ g : Int, g = (h : Int) := ⟨_, rfl⟩
    rw [← hg] at HOF HLF
    clear hi hC hE hm hok hh ho hg HLK HH J HL8 HOK HNO
    simp only [↓reduceIte] at HCK
    have HA0 := Lib.hid (fun (w' : World) (F' : Nat → Prop) (h : Adv Nul w F' w') => HE.out.step h)
    go_enter Try.func21, Try.ntmps21
    go_wp2_with (first
      | (refine kop_box rfl _ rfl rfl ?_; intro z w1 hz hb ha; have HBZ := Lib.hid hb; have HA := Lib.hid ha; clear hz hb ha)
      | (go_at_call 12; refine (HCK.out _ HA.out).mono ?_; clear HCK; rintro e w2 ⟨rfl, a2⟩; have HA2 := Lib.hid (HA.out.trans a2); have HB2 := Lib.hid (HBZ.out.over a2); clear a2 HBZ HA)
      | (go_at_call 38; refine (new_any _).mono ?_; rintro e w3 ⟨b, F, rfl, k1, k2, k3⟩; have HJ := Lib.hid (show WJ w2 Nul F b [] w3 from ⟨k1, k2, k3⟩); have HB3 := Lib.hid (HB2.out.over k2); clear k1 k2 k3)
      | (go_at_call 39; refine (HHEAD.out b [] F _ HJ.out.self (by decide)).mono ?_; clear HHEAD; rintro e w4 ⟨rfl, F4, r⟩; have HJ4 := Lib.hid (HJ.out.trans r); have HB4 := Lib.hid (HB2.out.over HJ4.out.ad); clear r HB3)
      | (go_at_call 30; refine (HOF.out _).mono ?_; clear HOF; rintro e w5 ⟨rfl, a5⟩; have HJ5 := Lib.hid (HJ4.out.over a5); have HB5 := Lib.hid (HB2.out.over HJ5.out.ad); clear a5 HB4)
      | (go_at_call 40; refine (HLF.out w2 (HE.out.step HA2.out) b _ _ HJ5.out).mono ?_; clear HLF; rintro e w6 ⟨rfl, F6, r⟩; have HJ6 := Lib.hid r; clear r HB5)
      | (go_at_call 41; refine (HJ6.out.done w2 (Nat.le_trans HLL.out (by decide))).mono ?_; rintro e w7 ⟨a7, n7, c7, F7, rfl, e7, s7, a7'⟩; have HS7 := Lib.hid s7; have HA7 := Lib.hid a7'; have HN7 := Lib.hid e7; clear e7 s7 a7')
      | (refine kop_load rfl _ rfl z HB5.out rfl Try.underlying28 rfl sizeM HCS.out ?_)
      | (refine kop_load rfl _ rfl z HB4.out rfl Try.underlying28 rfl sizeM HCS.out ?_)
      | (refine kop_load rfl _ rfl z HB3.out rfl Try.underlying28 rfl sizeM HCS.out ?_)
      | (refine kop_load rfl _ rfl z HBZ.out rfl Try.underlying28 rfl sizeM HCS.out ?_)
      | fail)
    exact bodyPost_ret (v := .tuple #[.slice a7 n7 c7, .int .i64 0]) (by simp [results, Try.results21, go_sem]) rfl (HYES.out _ _ _ _ _ HI.out (HN7.out.trans HWL.out.symm) HS7.out (HA2.out.trans HA7.out))
end Go.Proofs.Ytpgeebhepegpaaa
namespace Go.Proofs.Ytpgeebhepegpaaa
open Go.ChangeShapes Go.WideShapes Go.ChangeAt Go.RowKit

/-- the message that bytes are, and what is said of them -/
noncomputable def dcM (l : List Nat) : Ms := if 2048 < l.length then ms0 else (decM l).getD ms0
noncomputable def deM (l : List Nat) : Int := if 2048 < l.length then 5 else if (decM l).isSome = true then 0 else 4
def DecM (w : World) (l : List Nat) (e : Ending) (w' : World) : Prop := ∃ v, e = .returned (.tuple #[.agg (mc (dcM l) v), .int .i64 (deM l)]) ∧ EnR7 w' v (dcM l).en ∧ Adv Nul w Nul w'
set_option maxRecDepth 3000 in
theorem DecM.yes {w w' : World} {l : List Nat} {m : Ms} {v : Value} (hl : l.length ≤ 2048) (h : decM l = some m) (hE : EnR7 w' v m.en) (ha : Adv Nul w Nul w') : DecM w l (.returned (.tuple #[.agg (mc m v), .int .i64 0])) w' := by
  have h1 : dcM l = m := by unfold dcM; rw [if_neg (by omega), h]; rfl
  have h2 : deM l = 0 := by unfold deM; rw [if_neg (by omega), h]; rfl
  exact ⟨v, by rw [h1, h2], by rw [h1]; exact hE, ha⟩
set_option maxRecDepth 3000 in
theorem DecM.no {w w' : World} {l : List Nat} (hl : l.length ≤ 2048) (h : decM l = none) (ha : Adv Nul w Nul w') : DecM w l (.returned (.tuple #[.agg (mc ms0 nilV), .int .i64 4])) w' := by
  have h1 : dcM l = ms0 := by unfold dcM; rw [if_neg (by omega), h]; rfl
  have h2 : deM l = 4 := by unfold deM; rw [if_neg (by omega), h]; rfl
  exact ⟨nilV, by rw [h1, h2], by rw [h1]; exact (EnO.nil _).rd, ha⟩
set_option maxRecDepth 3000 in
theorem DecM.big {w w' : World} {l : List Nat} (hl : 2048 < l.length) (ha : Adv Nul w Nul w') : DecM w l (.returned (.tuple #[.agg (mc ms0 nilV), .int .i64 5])) w' := by
  have h1 : dcM l = ms0 := by unfold dcM; rw [if_pos hl]
  have h2 : deM l = 5 := by unfold deM; rw [if_pos hl]
  exact ⟨nilV, by rw [h1, h2], by rw [h1]; exact (EnO.nil _).rd, ha⟩
set_option maxRecDepth 3000 in
theorem built_M0 : Try.prog.built 28 [] = some (mc ms0 nilV) := by kernel_rfl
set_option maxRecDepth 3000 in
set_option maxHeartbeats 6400000 in
theorem wdecode_any (v : Value) (l : List Nat) (w : World) (h : Rd w 1 v l.length (l.map u8)) (hb : ∀ x ∈ l, x < 256) (h3 : l.length ≤ 3000) (hwf : l.length ≤ 2048 → WfM (rdP l.length (byN l))) : Calls Try.prog 27 #[v] w (DecM w l) := by
  obtain ⟨n, hn⟩ : ∃ n, n = l.length := ⟨_, rfl⟩
  have HNO := Lib.hid (fun w' hl hd ha => @DecM.no w w' l hl hd ha)
  have HBIG := Lib.hid (fun w' hl ha => @DecM.big w w' l hl ha)
  have HYES := Lib.hid (fun (w' : World) (v : Value) (hl : l.length ≤ 2048) (hd : isM (rdP l.length (byN l)) = true ∧ endP l.length (byN l) ≤ 8 * l.length ∧ endOf l.length (byN l) (endP l.length (byN l)) = 0) (hE : EnR7 w' v (rdP l.length (byN l)).en) (ha : Adv Nul w Nul w') => @DecM.yes w w' l _ v hl (decP_yes hb hd.1 hd.2.1 hd.2.2) hE ha)
  have HNN := Lib.hid (decP_no (l := l))
  obtain ⟨V, hV⟩ : ∃ V, V = byN l := ⟨_, rfl⟩
  have HBE := Lib.hid (show be n V = l by rw [hn, hV]; exact be_byN l hb)
  rw [← hn] at h
  rw [← hn, ← hV] at HNN hwf HYES
  rw [← hn] at HNO HBIG h3
  obtain ⟨A, c, rfl, hc1, hc2⟩ := h.form
  have HR := Lib.hid h
  have H3 := Lib.hid h3
  have HW := Lib.hid hwf
  clear hn h hb hV hc1 hc2 h3 hwf
  obtain ⟨Z, hZ⟩ : ∃ C, C = mc ms0 nilV := ⟨_, rfl⟩
  have HZS := Lib.hid (show Z.size = 18 by rw [hZ]; rfl)
  have HZ1 := Lib.hid (show Z.all (·.oneCell') = true by rw [hZ]; exact mc_one _ _ _ _)
  have HI := Lib.hid infoM
  have HBU := Lib.hid built_M0
  rw [← hZ] at HI HBU HNO HBIG
  clear hZ
  by_cases hbig : 2048 < n
  · have HB := Lib.hid hbig
    have hbi : (2048 : Int) < (n : Int) := by omega
    clear hbig HNO HYES HNN HW
    go_enter Try.func27, Try.ntmps27
    go_wp2_with (first
      | (refine kop_alloc rfl rfl HI.out ?_; intro z w1 hz hb ha; have HZZ := Lib.hid hz; have HBZ := Lib.hid hb; have HA1 := Lib.hid ((Adv.refl Nul w).trans ha); clear hz hb ha)
      | (refine kop_zero HBU.out rfl rfl ?_)
      | (refine kop_store rfl _ _ rfl z HBZ.out rfl rfl sizeM HZS.out HZS.out HZ1.out ?_; intro w7 hb ha; have HB7 := Lib.hid hb; have HA7 := Lib.hid (HA1.out.fresh HZZ.out ha); clear hb ha)
      | fail)
    exact bodyPost_ret (kres2 (v := .int .i64 5) rfl _ _ rfl rfl HB7.out Try.underlying28 rfl (by rw [sizeM, HZS.out])) rfl (HBIG.out _ HB.out HA7.out)
  · have HLE := Lib.hid (show n ≤ 2048 by omega)
    have hle : (n : Int) ≤ 2048 := by omega
    have HWF := Lib.hid (HW.out (by omega))
    have HOPEN := Lib.hid (fun (w' : World) (ha : Adv Nul w Nul w') => open_any (.slice A n c) n V w' (by rw [HBE.out]; exact HR.out.far (fun k _ _ hk => ha.block k hk (fun h => h)) ha.size) (by have := H3.out; omega))
    obtain ⟨hm, hhm⟩ : ∃ hm, hm = hW n V := ⟨_, rfl⟩
    have HHM := Lib.hid (show hm < 8192 by rw [hhm]; exact fldM_lt _ _ _)
    have HOF := Lib.hid (fun w' => show Calls Try.prog 30 #[.agg (mc (hdW n V) nilV)] w' fun e w'' => ∃ o, e = .returned (.tuple #[.int .i64 (hm : Int), .bool o]) ∧ Adv Nul w' Nul w'' from (fieldsof_any (hdW n V) nilV w').mono fun e w'' hh => ⟨_, by rw [hhm]; exact hh.1, hh.2⟩)
    have HRF := Lib.hid (fun u b F w' hp hu hfu => wreadfields_any hm (lsM hm) (like_ls hm) HHM.out u b n V F w' hp hu hfu)
    obtain ⟨D, hD⟩ : ∃ C, C = mc (hdW n V) nilV := ⟨_, rfl⟩
    have HDS := Lib.hid (show D.size = 18 by rw [hD]; rfl)
    have HD1 := Lib.hid (show D.all (·.oneCell') = true by rw [hD]; exact mc_one _ _ _ _)
    have HHD := Lib.hid (fun (w : World) (F : Nat → Prop) (b : Nat) (h : PT w F b n V 0) => h.head)
    rw [← hD] at HOF HRF HHD
    obtain ⟨m, hmm⟩ : ∃ m, m = rdP n V := ⟨_, rfl⟩
    have hmm' : rdW n V (lsM hm) = m := by rw [hmm, hhm]; rfl
    obtain ⟨en, hen⟩ : ∃ en, en = endP n V := ⟨_, rfl⟩
    have hen' : endX n V (lsM hm) = en := by rw [hen, hhm]; rfl
    rw [hmm', hen'] at HRF
    rw [← hmm] at HYES HNN HWF
    rw [← hen] at HYES HNN
    have HCK := Lib.hid (fun v w' hE => check16_any m v HWF.out w' hE)
    obtain ⟨gi, hgi⟩ : ∃ g : Int, g = (hm : Int) := ⟨_, rfl⟩
    rw [← hgi] at HOF HRF
    clear hbig hhm hD hmm hmm' hen hen' hgi HBIG HBE HR H3 HW HHM HWF
    obtain ⟨x, hx⟩ : ∃ x, x = endT n V en := ⟨_, rfl⟩
    have HEX := Lib.hid (fun (w : World) (F : Nat → Prop) (b : Nat) (h : PT w F b n V en) => h.endx)
    rw [← hx] at HEX
    have HX := Lib.hid (show x = 0 ↔ en ≤ 8 * n ∧ endOf n V en = 0 by rw [hx]; exact endT_zero)
    clear hx
    go_enter Try.func27, Try.ntmps27
    go_upto_region 7 with (first
      | (refine kop_alloc rfl rfl HI.out ?_; intro z w1 hz hb ha; have HZZ := Lib.hid hz; have HBZ := Lib.hid hb; have HA1 := Lib.hid ((Adv.refl Nul w).trans ha); clear hz hb ha)
      | (go_at_call 48; refine (HOPEN.out _ HA1.out).mono ?_; clear HOPEN; rintro e w2 ⟨b, F, rfl, r2, a2, b2⟩; have HP2 := Lib.hid (show PT w2 F b n V 0 from .inl ⟨Nat.zero_le _, r2, b2⟩); have HA2 := Lib.hid a2; have HBZ2 := Lib.hid (HBZ.out.over a2); have HFN := Lib.hid (show ∀ k, F k → w1.heap.size ≤ k from fun k hk => (a2.into k hk).elim (fun x => x.elim) id); have HFZ := Lib.hid (show ¬ F z from fun f => by have := HFN.out z f; have := HBZ.out.lt; omega); have HWZ := Lib.hid (show w.heap.size ≤ z from HZZ.out); clear r2 a2 b2 HBZ)
      | (go_at_call 49; refine (HHD.out _ _ _ HP2.out).mono ?_; clear HHD; rintro e w3 ⟨rfl, h3, a3⟩; have HP3 := Lib.hid h3; have HA3 := Lib.hid (HA2.out.trans a3); have HBZ3 := Lib.hid (HBZ2.out.keep (a3.block z HBZ2.out.lt HFZ.out)); have HN3 := Lib.hid (show Adv Nul w Nul w3 from HA1.out.trans (HA3.out.sub (fun _ h => h.elim))); clear h3 a3 HBZ2 HP2)
      | (refine kop_alloc rfl rfl HI.out ?_; intro u w4 hz hb ha; have HUU := Lib.hid hz; have HBU4 := Lib.hid hb; have HP4 := Lib.hid (HP3.out.over ha); have HN4 := Lib.hid (HN3.out.trans ha); have HWU := Lib.hid (Nat.le_trans HN3.out.size hz); have HBZ4 := Lib.hid (HBZ3.out.over ha); have HFU := Lib.hid (show ¬ F u from fun f => by have := HP3.out.bd u f; omega); have HNE := Lib.hid (show z ≠ u from fun e => by have := HBZ3.out.lt; omega); clear hz hb ha HBZ3 HP3)
      | (refine kop_store rfl _ _ rfl u HBU4.out rfl rfl sizeM HDS.out HZS.out HD1.out ?_; intro w5 hb ha; have HBU5 := Lib.hid hb; have HP5 := Lib.hid (HP4.out.far ha (fun i hi hg => HFU.out (by rw [← show i = u from hi]; exact hg))); have HBZ5 := Lib.hid (HBZ4.out.far1 ha HNE.out); have HN5 := Lib.hid (HN4.out.newF ha (fun q e => by have := HWU.out; have e' : q = u := e; omega)); clear hb ha HBU4 HBZ4 HP4)
      | (refine kop_load rfl _ rfl u HBU5.out rfl Try.underlying28 rfl sizeM HDS.out ?_)
      | (go_at_call 30; refine (HOF.out _).mono ?_; clear HOF; rintro e w6 ⟨o6, rfl, a6⟩; have HP6 := Lib.hid (HP5.out.over a6); have HBU6 := Lib.hid (HBU5.out.over a6); have HBZ6 := Lib.hid (HBZ5.out.over a6); have HN6 := Lib.hid (HN5.out.trans a6); clear a6 HBU5 HBZ5 HP5)
      | (go_at_call 50; refine (HRF.out u b F _ HP6.out HBU6.out HFU.out).mono ?_; clear HRF; rintro e w7 ⟨rfl, v7, p7, e7, o7⟩; have HP7 := Lib.hid p7; have HE7 := Lib.hid e7; have HO7 := Lib.hid o7; have HBZ7 := Lib.hid (HBZ6.out.keep (p7.ad.block z HBZ6.out.lt (fun f => f.elim HFZ.out HNE.out))); have HZ6 := Lib.hid HBZ6.out.lt; have HN7 := Lib.hid (HN6.out.newF p7.ad (fun q f => f.elim (fun f => Nat.le_trans HA1.out.size (HFN.out q f)) (fun e => by have := HWU.out; omega))); clear p7 e7 o7 HBU6 HBZ6 HP6)
      | fail)
    have HC7 := Lib.hid (fun w' hE => HCK.out v7 w' hE)
    clear HCK
    obtain ⟨E, hE⟩ : ∃ E, E = mc m v7 := ⟨_, rfl⟩
    have HES := Lib.hid (show E.size = 18 by rw [hE]; obtain ⟨a, nn, cc, e⟩ := HE7.out.form; rfl)
    have HE1 := Lib.hid (show E.all (·.oneCell') = true by rw [hE]; obtain ⟨a, cc, e, _⟩ := HE7.out.form; rw [e]; exact mc_one _ _ _ _)
    rw [← hE] at HC7
    have HP8 := HP7
    rw [← hE] at HP8
    have HYE := Lib.hid (fun w' hd hEn ha => show DecM w l (.returned (.tuple #[.agg E, .int .i64 0])) w' from by rw [hE]; exact HYES.out w' v7 HLE.out hd hEn ha)
    clear hE HYES HP7
    by_cases hx : x = 0
    · have hx2 := HX.out.1 hx
      subst hx
      cases hi : isM m
      · have HCH := Lib.hid (show chkM m = 4 by rw [chk_isM, hi]; rfl)
        have HDN := Lib.hid (HNN.out (fun h => by rw [hi] at h; cases h.1))
        clear hi hx2 HX HYE
        go_wp2_with (first
          | (go_at_call 51; refine (HEX.out _ _ _ HP8.out.xs).mono ?_; clear HEX; rintro e w8 ⟨rfl, a8⟩; have HBU8 := Lib.hid (HP8.out.bu.over a8); have HBZ8 := Lib.hid (HBZ7.out.over a8); have HE8 := Lib.hid (HE7.out.step a8); have HN8 := Lib.hid (HN7.out.trans a8); clear a8)
          | (refine kw_loadC (t := 28) _ rfl (by simp [Region.wanted, yielded]) u HBU8.out rfl Try.underlying28 rfl sizeM HES.out ?_)
          | (go_at_call 12; refine (HC7.out _ HE8.out).mono ?_; clear HC7; rintro e w9 ⟨rfl, a9⟩; rw [HCH.out]; have HBZ9 := Lib.hid (HBZ8.out.over a9); have HN9 := Lib.hid (HN8.out.trans a9); clear a9)
          | (refine kop_zero HBU.out rfl rfl ?_)
          | (refine kop_store rfl _ _ rfl z HBZ9.out rfl rfl sizeM HZS.out HZS.out HZ1.out ?_; intro w10 hb ha; have HB10 := Lib.hid hb; have HN10 := Lib.hid (HN9.out.fresh HWZ.out ha); clear hb ha)
          | fail)
        exact bodyPost_ret (kres2 (v := .int .i64 4) rfl _ _ rfl rfl HB10.out Try.underlying28 rfl (by rw [sizeM, HZS.out])) rfl (HNO.out _ HLE.out HDN.out HN10.out)
      · have HCH := Lib.hid (show chkM m = 0 by rw [chk_isM, hi]; rfl)
        have HDY := Lib.hid (show isM m = true ∧ en ≤ 8 * n ∧ endOf n V en = 0 from ⟨hi, hx2⟩)
        clear hi hx2 HX HNN HNO
        go_wp2_with (first
          | (go_at_call 51; refine (HEX.out _ _ _ HP8.out.xs).mono ?_; clear HEX; rintro e w8 ⟨rfl, a8⟩; have HBU8 := Lib.hid (HP8.out.bu.over a8); have HBZ8 := Lib.hid (HBZ7.out.over a8); have HE8 := Lib.hid (HE7.out.step a8); have HN8 := Lib.hid (HN7.out.trans a8); clear a8)
          | (refine kw_loadC (t := 28) _ rfl (by simp [Region.wanted, yielded]) u HBU8.out rfl Try.underlying28 rfl sizeM HES.out ?_)
          | (go_at_call 12; refine (HC7.out _ HE8.out).mono ?_; clear HC7; rintro e w9 ⟨rfl, a9⟩; rw [HCH.out]; have HBU9 := Lib.hid (HBU8.out.over a9); have HBZ9 := Lib.hid (HBZ8.out.over a9); have HE9 := Lib.hid (HE8.out.step a9); have HN9 := Lib.hid (HN8.out.trans a9); clear a9 HBU8)
          | (refine kop_load rfl _ rfl u HBU9.out rfl Try.underlying28 rfl sizeM HES.out ?_)
          | (refine kop_store rfl _ _ rfl z HBZ9.out rfl rfl sizeM HES.out HZS.out HE1.out ?_; intro w10 hb ha; have HB10 := Lib.hid hb; have HN10 := Lib.hid (HN9.out.fresh HWZ.out ha); have HE10 := Lib.hid (show EnR7 w10 v7 m.en from ⟨HE9.out.rd.far (fun j hj _ hl => ha.block j hl (fun e => by have := HO7.out j hj; have := HZ6.out; have e' : j = z := e; omega)) ha.size, HE9.out.sz⟩); clear hb ha)
          | fail)
        exact bodyPost_ret (kres2 (v := .int .i64 0) rfl _ _ rfl rfl HB10.out Try.underlying28 rfl (by rw [sizeM, HES.out])) rfl (HYE.out _ HDY.out HE10.out HN10.out)
    · have HDN := Lib.hid (HNN.out (fun h => hx (HX.out.2 h.2)))
      have hxb : (x != 0) = true := by rw [bne_iff_ne]; exact hx
      clear HX HYE hx
      go_wp2_with (first
        | (go_at_call 51; refine (HEX.out _ _ _ HP8.out.xs).mono ?_; clear HEX; rintro e w8 ⟨rfl, a8⟩; have HBZ8 := Lib.hid (HBZ7.out.over a8); have HN8 := Lib.hid (HN7.out.trans a8); clear a8)
        | (refine kop_zero HBU.out rfl rfl ?_)
        | (refine kop_store rfl _ _ rfl z HBZ8.out rfl rfl sizeM HZS.out HZS.out HZ1.out ?_; intro w10 hb ha; have HB10 := Lib.hid hb; have HN10 := Lib.hid (HN8.out.fresh HWZ.out ha); clear hb ha)
        | fail)
      exact bodyPost_ret (kres2 (v := .int .i64 4) rfl _ _ rfl rfl HB10.out Try.underlying28 rfl (by rw [sizeM, HZS.out])) rfl (HNO.out _ HLE.out HDN.out HN10.out)
end Go.Proofs.Ytpgeebhepegpaaa
namespace Go.Proofs.Ytpgeebhepegpaaa
open Go.ChangeShapes Go.WideShapes Go.ChangeAt Go.RowKit

set_option maxRecDepth 3000 in
/-- a right message's head -/
theorem isM_hd {m : Ms} (h : isM m = true) : 1 ≤ m.ty ∧ m.kd ≤ 14 ∧ (m.ty < 3 → 1 ≤ m.kd) := by
  unfold isM at h
  by_cases hc : 0 ≤ m.cl ∧ m.cl < 8 ∧ ctP m.ss
  · rw [if_neg (fun x => x hc)] at h
    by_cases t3 : m.ty = 3
    · rw [if_pos t3] at h
      simp only [Bool.and_eq_true] at h
      have h2 : m.kd = 0 := of_decide_eq_true h.1.1.2
      omega
    · rw [if_neg t3] at h
      by_cases h4 : rf m 0 = true ∧ rf m 2 = true ∧ 1 ≤ m.ty ∧ m.ty ≤ 2
      · have hk := (rf2_iff m).1 h4.2.1
        omega
      · rw [if_pos h4] at h; cases h
  · rw [if_pos hc] at h; cases h
set_option maxRecDepth 3000 in
theorem EnR7.box {w5 w6 w7 : World} {v : Value} {l : List En} {y : Nat} {F' F2 : Nat → Prop} (h : EnR7 w5 v l) (a : Adv Nul w5 F' w6) (hy : w5.heap.size ≤ y) (k : Adv (One y) w6 F2 w7) : EnR7 w7 v l :=
  ⟨h.rd.far (fun j _ _ hl => (k.block j (Nat.lt_of_lt_of_le hl a.size) (fun e => by have e' : j = y := e; omega)).trans (a.block j hl (fun x => x))) (Nat.le_trans a.size k.size), h.sz⟩
def rc17 : Ms := { ms0 with ty := 3, ss := 1, bo := 1, fi := 2, fg := 1 }
set_option maxRecDepth 3000 in
theorem rc17_wf : WfM rc17 := ⟨by decide, by decide, by decide, by decide, by decide, by decide, by decide, by decide⟩
set_option maxRecDepth 3000 in
theorem rc17_ok : isM rc17 = true := by
  unfold isM
  rw [if_neg (fun h => h (by decide)), if_pos (show rc17.ty = 3 from rfl)]
  have h : juB rc17 [102] = true := by
    unfold juB
    simp [rf, zf, rc17, ms0, flP]
    rfl
  rw [h]
  rfl
set_option maxRecDepth 3000 in
theorem rc17_len : (wiB rc17).length = 22 := by
  rw [wiB_len]
  have h : lenOf (wiL rc17) = 171 := by
    unfold wiL wi8
    rw [show letM rc17.ty rc17.kd rc17.er = [102] from rfl, lenOf_app, lenOf_app, lenOf_app, lenOf_app, lenOf_app, lenOf_app, lenOf_app, lenOf_app, lenOf_app, len_wiH]
    unfold wf1 wf2 wf3 wf4 wf5 wf6 wf7 wf8 wf9
    rw [len_file, len_file, if_pos (by decide), if_neg (by decide), if_neg (by decide), if_neg (by decide), if_neg (by decide), if_neg (by decide), if_neg (by decide), if_neg (by decide), if_neg (by decide)]
    rfl
  rw [h]
  rfl
set_option maxRecDepth 3000 in
theorem wiB_lt (m : Ms) : ∀ x ∈ wiB m, x < 256 := fun x hx => be_lt _ _ x hx
set_option maxRecDepth 3000 in
theorem built_rc17 : Try.prog.built 28 [(0, .int .i64 3), (2, .int .u64 1), (4, .int .u64 1), (7, .agg #[.int .i64 2, .int .i64 1])] = some (mc rc17 nilV) := by kernel_rfl
set_option maxRecDepth 3000 in
/-- what any message's bytes are read as -/
theorem dcM_back {m : Ms} (h : isM m = true) : dcM (wiB m) = m ∧ deM (wiB m) = 0 := by
  have h1 := wiB_short h
  unfold dcM deM
  rw [if_neg (by omega), if_neg (by omega), decM_back h]
  exact ⟨rfl, rfl⟩
set_option maxRecDepth 3000 in
theorem rdP_back {m : Ms} (h : isM m = true) : rdP (wiB m).length (byN (wiB m)) = m := by
  have h2 := (decM_some (decM_back h)).2.2
  rw [(rdP_of (.inr (by rw [h2]; exact h))).1, h2]
set_option maxRecDepth 3000 in
/-- what Encode answers can be read -/
theorem EncM.sl {w w' : World} {m : Ms} {e : Ending} (h : EncM w m e w') : ∃ A n c F bl, e = .returned (.tuple #[.slice A n c, .int .i64 (if isM m = true then 0 else 4)]) ∧ Sl w' F 5 1 (.slice A n c) n (bl.map u8) ∧ Adv Nul w F w' ∧ bl = if isM m = true then wiB m else [] := by
  obtain ⟨A, n, c, F, rfl, ha, h1, h2⟩ := h
  cases hi : isM m
  · obtain ⟨rfl, rfl, rfl⟩ := h2 (by rw [hi]; exact Bool.false_ne_true)
    exact ⟨none, 0, 0, Nul, [], rfl, Sl.nil _ _ _, ha.sub (fun _ x => x.elim), rfl⟩
  · obtain ⟨_, h4⟩ := h1 hi
    exact ⟨A, n, c, F, wiB m, rfl, h4, ha, rfl⟩
set_option maxRecDepth 3000 in
theorem enc17_any (w : World) : Calls Try.prog 21 #[.agg (mc rc17 nilV)] w fun e w' => ∃ A c, e = .returned (.tuple #[.slice A 22 c, .int .i64 0]) ∧ Rd w' 1 (.slice A 22 c) 22 ((wiB rc17).map u8) ∧ Adv Nul w Nul w' := by
  refine (wencode_any rc17 nilV rc17_wf w (EnO.nil _).rd).mono ?_
  rintro e w' ⟨A, n, c, F, rfl, ha, h1, _⟩
  obtain ⟨hn, hs⟩ := h1 rc17_ok
  rw [rc17_len] at hn
  subst hn
  exact ⟨A, c, by rw [if_pos rc17_ok], hs.rd, ha.sub (fun _ h => h.elim)⟩
set_option maxRecDepth 3000 in
set_option maxHeartbeats 3200000 in
theorem lives17_any (w : World) : Calls Try.prog 24 #[] w fun e w' => e = .returned (.bool true) ∧ Adv Nul w Nul w' := by
  have HBU := Lib.hid built_rc17
  have HENC := Lib.hid (fun w' => enc17_any w')
  have HDEC := Lib.hid (fun (v : Value) (w' : World) (hr : Rd w' 1 v 22 ((wiB rc17).map u8)) => show Calls Try.prog 27 #[v] w' fun e w'' => ∃ A n c, e = .returned (.tuple #[.agg (mc rc17 (.slice A n c)), .int .i64 0]) ∧ Adv Nul w' Nul w'' from (wdecode_any v (wiB rc17) w' (by rw [rc17_len]; exact hr) (wiB_lt _) (by rw [rc17_len]; decide) (fun _ => by rw [rdP_back rc17_ok]; exact rc17_wf)).mono fun e w'' ⟨v, h1, h2, h3⟩ => by
    obtain ⟨A, c, hv, _⟩ := h2.form
    exact ⟨A, _, c, by rw [h1, (dcM_back rc17_ok).1, (dcM_back rc17_ok).2, hv], h3⟩)
  have HI := Lib.hid infoM
  obtain ⟨Z, hZ⟩ : ∃ C, C = mc ms0 nilV := ⟨_, rfl⟩
  have HZS := Lib.hid (show Z.size = 18 by rw [hZ]; rfl)
  obtain ⟨C, hC⟩ : ∃ C, C = mc rc17 nilV := ⟨_, rfl⟩
  have HCS := Lib.hid (show C.size = 18 by rw [hC]; rfl)
  have HC1 := Lib.hid (show C.all (·.oneCell') = true by rw [hC]; exact mc_one _ _ _ _)
  have HCC := Lib.hid hC
  rw [← hZ] at HI
  rw [← hC] at HBU HENC
  clear hZ hC
  go_enter Try.func24, Try.ntmps24
  go_upto_region 4 with (first
    | (refine kop_built rfl rfl ?hbb HBU.out ?_; case hbb => kernel_rfl)
    | (refine kop_alloc rfl rfl HI.out ?_; intro u w1 hz hb ha; have HU1 := Lib.hid hb; have HZ1 := Lib.hid hz; have HA1 := Lib.hid ((Adv.refl Nul w).trans ha); clear hz hb ha)
    | (refine kop_store rfl _ _ rfl u HU1.out rfl rfl sizeM HCS.out HZS.out HC1.out ?_; intro w2 hb ha; have HU2 := Lib.hid hb; have HA2 := Lib.hid (HA1.out.fresh HZ1.out ha); clear hb ha HU1)
    | (refine kop_load rfl _ rfl u HU2.out rfl Try.underlying28 rfl sizeM HCS.out ?_)
    | (go_at_call 21; refine (HENC.out _).mono ?_; clear HENC; rintro e w3 ⟨A3, c3, rfl, s3, a3⟩; have HS3 := Lib.hid s3; have HU3 := Lib.hid (HU2.out.over a3); have HA3 := Lib.hid (HA2.out.trans a3); clear s3 a3 HU2)
    | (go_at_call 27; refine (HDEC.out _ _ HS3.out).mono ?_; clear HDEC; rintro e w4 ⟨A4, n4, c4, rfl, a4⟩; have HU4 := Lib.hid (HU3.out.over a4); have HA4 := Lib.hid (HA3.out.trans a4); obtain ⟨D, hD⟩ : ∃ D, D = mc rc17 (.slice A4 n4 c4) := ⟨_, rfl⟩; have HDD := Lib.hid hD; have HDS := Lib.hid (show D.size = 18 by rw [hD]; rfl); have HD1 := Lib.hid (show D.all (·.oneCell') = true by rw [hD]; exact mc_one _ _ _ _); rw [← hD]; clear hD a4 HU3)
    | (refine kop_alloc rfl rfl HI.out ?_; intro y w5 hz hb ha; have HY5 := Lib.hid hb; have HZ5 := Lib.hid (Nat.le_trans HA4.out.size hz); have HU5 := Lib.hid (HU4.out.over ha); have HNE := Lib.hid (show u ≠ y from fun e => by have := HU4.out.lt; omega); have HA5 := Lib.hid (HA4.out.trans ha); clear hz hb ha HU4)
    | (refine kop_store rfl _ _ rfl y HY5.out rfl rfl sizeM HDS.out HZS.out HD1.out ?_; intro w6 hb ha; have HY6 := Lib.hid hb; have HU6 := Lib.hid (HU5.out.far1 ha HNE.out); have HA6 := Lib.hid (HA5.out.fresh HZ5.out ha); clear hb ha HY5 HU5)
    | fail)
  obtain ⟨⟨s0, s1, s2, s3, s4, s5, s6⟩, ⟨s7, s8, s9, s10⟩, _⟩ := (show Blk w6 y 28 (mc rc17 (.slice A4 n4 c4)) by rw [← HDD.out]; exact HY6.out).c18
  obtain ⟨⟨q0, q1, q2, q3, q4, q5, q6⟩, ⟨q7, q8, q9, q10⟩, _⟩ := (show Blk w6 u 28 (mc rc17 nilV) by rw [← HCC.out]; exact HU6.out).c18
  replace s4 := show w6.cell? ⟨y, 4, none⟩ = some (.int .u64 1) from s4
  replace s7 := show w6.cell? ⟨y, 7, none⟩ = some (.int .i64 2) from s7
  replace s8 := show w6.cell? ⟨y, 8, none⟩ = some (.int .i64 1) from s8
  replace q7 := show w6.cell? ⟨u, 7, none⟩ = some (.int .i64 2) from q7
  replace q8 := show w6.cell? ⟨u, 8, none⟩ = some (.int .i64 1) from q8
  clear s0 s1 s2 s3 s5 s6 s9 s10 q0 q1 q2 q3 q4 q5 q6 q9 q10
  go_wp2_with fail
  go_ret
  exact ⟨rfl, HA6.out⟩
end Go.Proofs.Ytpgeebhepegpaaa
namespace Go.Proofs.Ytpgeebhepegpaaa
open Go.ChangeShapes Go.WideShapes Go.ChangeAt Go.RowKit

set_option maxRecDepth 3000 in
/-- what Cut answers of what came in ahead of a world lies ahead of it, too -/
theorem cut_old (v : Value) (l : List Nat) (n B : Nat) (w : World) (h : In w v l) (hB : ∀ b, v.ownBlock = some b → 0 < l.length → b < B) (hn : n ≤ 1000000000) :
    Calls Try.prog 25 #[v, .int .i64 n] w fun e w' => ∃ k A c m, e = .returned (.slice A m c) ∧ m ≤ n ∧ InN w (.slice A m c) m k ∧ (∀ b, (Value.slice A m c).ownBlock = some b → 0 < m → b < B) ∧ w = w' := by
  obtain ⟨A, c, rfl, hlc, hcm⟩ := h.rd.form
  unfold maxLen at hcm
  obtain ⟨m, hm⟩ : ∃ m, m = l.length := ⟨_, rfl⟩
  by_cases hlt : n < m
  · obtain ⟨b, o, rfl, hb, hc⟩ := h.rd.cells (by omega) (by decide)
    have hin : In w (.slice (some ⟨b, o, none⟩) n c) (l.take n) := by
      have e : (l.take n).length = n := by simp; omega
      refine ⟨⟨_, c, by rw [e], by omega, by unfold maxLen; omega, by simp, fun h => (by cases h), fun _ => ⟨_, rfl, hb, fun j u hu => ?_⟩⟩, fun k hk _ => ?_, fun x hx => h.lt x (List.mem_of_mem_take hx)⟩
      · rw [add_none]
        refine hc j u ?_
        rw [List.map_take, List.getElem?_take] at hu
        split at hu
        · exact hu
        · cases hu
      · have : b = k := by simpa [Value.ownBlock] using hk
        omega
    have HI := Lib.hid (hin.num (m := n) (by simp; omega))
    have HO := Lib.hid (show ∀ k, (Value.slice (some ⟨b, o, none⟩) n c).ownBlock = some k → 0 < n → k < B from fun k hk _ => hB k (by simpa [Value.ownBlock] using hk) (by omega))
    rw [← hm] at hlc ⊢
    clear hin h hc hm hB
    go_enter Try.func25, Try.ntmps25
    go_wp2
    go_ret
    exact ⟨_, _, _, _, rfl, Nat.le_refl _, HI.out, HO.out, rfl⟩
  · have hi := h.num hm
    rw [← hm] at hB hi hlc ⊢
    have HI := Lib.hid hi
    have HO := Lib.hid (show ∀ k, (Value.slice A m c).ownBlock = some k → 0 < m → k < B from fun k hk h0 => hB k hk h0)
    have HL := Lib.hid (show m ≤ n by omega)
    clear h hm hB hi
    go_enter Try.func25, Try.ntmps25
    go_wp2
    go_ret
    exact ⟨_, _, _, _, rfl, HL.out, HI.out, HO.out, rfl⟩

set_option maxRecDepth 3000 in
/-- the same, ahead of any world that what came in lies in -/
theorem cut_w (v : Value) (l : List Nat) (n : Nat) (w w' : World) (h : In w v l) (ha : Adv Nul w Nul w') (hn : n ≤ 1000000000) :
    Calls Try.prog 25 #[v, .int .i64 n] w' fun e w'' => ∃ k A c m, e = .returned (.slice A m c) ∧ m ≤ n ∧ m = k.length ∧ (∀ x ∈ k, x < 256) ∧ (∀ W, Adv Nul w Nul W → In W (.slice A m c) k) ∧ w' = w'' := by
  refine (cut_old v l n w.heap.size w' (h.far ha.toBelow) h.old hn).mono ?_
  rintro e w'' ⟨k, A, c, m, rfl, hm, hi, ho, rfl⟩
  refine ⟨k, A, c, m, rfl, hm, hi.len, hi.lt, fun W hW => ?_, rfl⟩
  have hr : Rd W 1 (.slice A m c) m (k.map u8) := by
    obtain ⟨A', c', e, h1, h2, h3, h4, h5⟩ := hi.rd
    injection e with e1 _ e3
    subst e1 e3
    refine ⟨A, c, rfl, h1, h2, h3, h4, fun h0 => ?_⟩
    obtain ⟨ad, rfl, hb, hc⟩ := h5 h0
    have hlt := ho ad.block rfl h0
    refine ⟨ad, rfl, Nat.lt_of_lt_of_le hlt hW.size, fun j u hu => ?_⟩
    rw [← hc j u hu]
    exact World.cell?_of_block (by rw [add_block, hW.block _ hlt (fun x => x), ha.block _ hlt (fun x => x)])
  have hl := hi.len
  subst hl
  exact ⟨hr, fun b hb h0 => Nat.lt_of_lt_of_le (ho b hb h0) hW.size, hi.lt⟩
end Go.Proofs.Ytpgeebhepegpaaa
namespace Go.Proofs.Ytpgeebhepegpaaa
open Go.ChangeShapes Go.WideShapes Go.ChangeAt Go.RowKit

set_option maxRecDepth 3000 in
theorem short17 {m sm : Ms} (hs : sm = shM m) (v : Value) (hm : WfAm m) (w : World) (hE : EnR7 w v m.en) : Calls Try.prog 11 #[.agg (mc m v)] w fun e w' => ∃ A n c, e = .returned (.agg (mc sm (.slice A n c))) ∧ EnO w sm.en (.slice A n c) w' := by
  refine (short16_any m v hm w hE).mono ?_
  rintro e w' ⟨u, rfl, h⟩
  obtain ⟨A, c, rfl⟩ := h.form
  exact ⟨A, _, c, by rw [hs], by rw [hs]; exact h⟩
set_option maxRecDepth 3000 in
theorem enc_p {sm : Ms} (hw : WfM sm) {BL : List Nat} {E : Int} (hB : BL = if isM sm = true then wiB sm else []) (hE : E = if isM sm = true then 0 else 4) (v : Value) (w : World) (h : EnR7 w v sm.en) : Calls Try.prog 21 #[.agg (mc sm v)] w fun e w' => ∃ A n c F, e = .returned (.tuple #[.slice A n c, .int .i64 E]) ∧ Sl w' F 5 1 (.slice A n c) n (BL.map u8) ∧ Adv Nul w F w' := by
  refine (wencode_any sm v hw w h).mono ?_
  intro e w' h
  obtain ⟨A, n, c, F, bl, rfl, h2, h3, h4⟩ := h.sl
  exact ⟨A, n, c, F, by rw [hE], by rw [hB, ← h4]; exact h2, h3⟩
set_option maxRecDepth 3000 in
theorem enc_q {sm : Ms} (hw : WfM sm) {BL : List Nat} {E : Int} (hB : BL = if isM sm = true then wiB sm else []) (hE : E = if isM sm = true then 0 else 4) (v : Value) (w : World) (h : EnR7 w v sm.en) : Calls Try.prog 22 #[.agg (mc sm v)] w fun e w' => ∃ A n c F, e = .returned (.tuple #[.slice A n c, .int .i64 E]) ∧ Sl w' F 5 1 (.slice A n c) n (BL.map u8) ∧ Adv Nul w F w' := by
  refine (q17encode_any sm v hw w h).mono ?_
  intro e w' h
  obtain ⟨A, n, c, F, bl, rfl, h2, h3, h4⟩ := h.sl
  exact ⟨A, n, c, F, by rw [hE], by rw [hB, ← h4]; exact h2, h3⟩
set_option maxRecDepth 3000 in
set_option maxHeartbeats 3200000 in
theorem encodes17_walk (w : World) (v0 : Value) (h0 : MArg w v0) : Calls Try.prog 7 #[v0] w fun e w' => e = .returned (.bool true) ∧ Below w.heap.size w w' := by
  obtain ⟨m, sv, rfl, hm, hE⟩ := h0
  obtain ⟨sm, hs⟩ : ∃ s, s = shM m := ⟨_, rfl⟩
  have hw : WfM sm := by rw [hs]; exact hm.short
  have HS1 := Lib.hid (fun (w' : World) (a : Adv Nul w Nul w') => short17 hs sv hm w' (hE.step a))
  obtain ⟨BL, hB⟩ : ∃ l, l = if isM sm = true then wiB sm else [] := ⟨_, rfl⟩
  obtain ⟨E, hEE⟩ : ∃ e : Int, e = if isM sm = true then 0 else 4 := ⟨_, rfl⟩
  have HEP := Lib.hid (fun v w' h => enc_p hw hB hEE v w' h)
  have HEQ := Lib.hid (fun v w' h => enc_q hw hB hEE v w' h)
  have HLV := Lib.hid (fun w => lives17_any w)
  obtain ⟨C0, hC0⟩ : ∃ C, C = mc m sv := ⟨_, rfl⟩
  have HC0S := Lib.hid (show C0.size = 18 by rw [hC0]; rfl)
  rw [← hC0] at HS1 ⊢
  obtain ⟨L, hL⟩ : ∃ L, L = sm.en := ⟨_, rfl⟩
  rw [← hL] at HS1 HEP HEQ
  obtain ⟨BK, hBK⟩ : ∃ l, l = BL := ⟨_, rfl⟩
  have HT := Lib.hid (decide_eq_true hBK)
  rw [← hBK] at HEP
  clear hC0 hB hEE hw hm hE hs hL hBK
  go_enter Try.func7, Try.ntmps7
  go_wp2_with (first
    | (refine kop_box rfl _ rfl rfl ?_; intro z w1 hz hb ha; have HA1 := Lib.hid ((Adv.refl Nul w).trans ha); have HZ1 := Lib.hid hz; have HB1 := Lib.hid hb; clear hz hb ha)
    | (go_at_call 11; refine (HS1.out _ HA1.out).mono ?_; clear HS1; rintro x w2 ⟨A1, n1, c1, rfl, he⟩; have HE2 := Lib.hid he; have HB2 := Lib.hid (HB1.out.over he.adv); have HA2 := Lib.hid (HA1.out.trans he.adv); have HP := Lib.hid (fun w' h => HEP.out (.slice A1 n1 c1) w' h); have HQ := Lib.hid (fun w' h => HEQ.out (.slice A1 n1 c1) w' h); clear HEP HEQ; obtain ⟨C1, hC1⟩ : ∃ C, C = mc sm (.slice A1 n1 c1) := ⟨_, rfl⟩; have HC1S := Lib.hid (show C1.size = 18 by rw [hC1]; rfl); have HC1O := Lib.hid (show C1.all (·.oneCell') = true by rw [hC1]; exact mc_one _ _ _ _); rw [← hC1] at HP HQ ⊢; clear he hC1)
    | (refine kop_store rfl _ _ rfl z HB2.out rfl rfl sizeM HC1S.out HC0S.out HC1O.out ?_; intro w3 hb ha; have HB3 := Lib.hid hb; have HA3 := Lib.hid (HA2.out.fresh HZ1.out ha); have HE3 := Lib.hid (HE2.out.putz HA1.out HZ1.out HB1.out.lt ha).rd; clear hb ha HB1 HB2 HE2)
    | (go_at_call 21; refine (HP.out _ HE3.out).mono ?_; clear HP; rintro e w4 ⟨A4, n4, c4, F4, rfl, s4, a4⟩; have HS4 := Lib.hid s4; have HB4 := Lib.hid (HB3.out.over a4); have HE4 := Lib.hid (HE3.out.step a4); have HA4 := Lib.hid (show Adv Nul w Nul w4 from HA3.out.trans (a4.sub (fun _ h => h.elim))); clear s4 a4)
    | (go_at_call 22; refine (HQ.out _ HE4.out).mono ?_; clear HQ; rintro e w5 ⟨A5, n5, c5, F5, rfl, s5, a5⟩; have HS5 := Lib.hid s5; have HR4 := Lib.hid (HS4.out.far a5 (fun _ x _ => x)); have HA5 := Lib.hid (show Adv Nul w Nul w5 from HA4.out.trans (a5.sub (fun _ h => h.elim))); clear s5 a5)
    | (go_at_call 23; refine (isame_any _ _ _ _ _ _ _ HR4.out.rd HS5.out.rd).mono ?_; rintro e w6 ⟨rfl, j6, rfl⟩; rw [HT.out])
    | (go_at_call 24; refine (HLV.out _).mono ?_; rintro e w7 ⟨rfl, a7⟩; have HA7 := Lib.hid ((HA5.out.drewN _).trans a7); clear a7)
    | (refine kop_load (t := 28) rfl _ rfl z HB4.out rfl Try.underlying28 rfl sizeM HC1S.out ?_)
    | (refine kop_load (t := 28) rfl _ rfl z HB3.out rfl Try.underlying28 rfl sizeM HC1S.out ?_)
    | (refine kop_load (t := 28) rfl _ rfl z HB1.out rfl Try.underlying28 rfl sizeM HC0S.out ?_)
    | fail)
  go_ret
  exact ⟨rfl, HA7.out.toBelow⟩
end Go.Proofs.Ytpgeebhepegpaaa
