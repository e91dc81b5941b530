/- Slots sorted; what is kept, listed: those, list, Dirty, All, Of. What is kept, listed: Dirty, All, Of. A cache whose power stays, among other blocks; whether any block is kept at all. Whether any block is kept at all; the document's slot as the program's. -/
import Derived.Test.YtcglfknkkeaegaaGreatDoorMq23
import Derived.Test.YtcglfknkkeaegaaGreatDoorMq19
import Derived.Test.YtcglfknkkeaegaaGreatDoorMq22
import Derived.Test.YtcglfknkkeaegaaGreatDoorMq08
namespace Go.Proofs.YtcglfknkkeaegaaGreatDoor
open Go.ChangeShapes Go.WideShapes Go.ChangeAt Go.RowKit Go.Maps
def tcl (l : List Slt) : List Value := l.flatMap (fun x => (tc x).toList)
set_option maxRecDepth 3000 in
theorem tcl_length (l : List Slt) : (tcl l).length = l.length * 7 := by have := tcs_size l; simpa [tcs, tcl] using this
set_option maxRecDepth 3000 in
theorem tcl_at (l : List Slt) (k j : Nat) (hj : j < 7) (hk : k < l.length) : (tcl l)[k * 7 + j]? = (tc l[k])[j]? := by have := tcs_at l k j hj hk; simpa [tcs, tcl] using this
set_option maxRecDepth 3000 in
theorem tcl_append (l m : List Slt) : tcl (l ++ m) = tcl l ++ tcl m := by simp [tcl]
set_option maxRecDepth 3000 in
theorem tcl_one (x : Slt) : tcl [x] = (tc x).toList := by simp [tcl]
set_option maxRecDepth 3000 in
theorem tcl_ext {xs : List Value} {l : List Slt} (hs : xs.length = l.length * 7) (h : ∀ k (hk : k < l.length) j, j < 7 → xs[k * 7 + j]? = (tc l[k])[j]?) : xs = tcl l := by
  have := tcs_ext (C := xs.toArray) (L := l) (by simpa using hs) (fun k hk j hj => by simpa using h k hk j hj)
  simpa [tcs, tcl] using congrArg Array.toList this
set_option maxRecDepth 3000 in
/-- a slice of one's own, as a row in a block -/
theorem Sl.tb {w : World} {F : Nat → Prop} {v : Value} {l : List Slt} (h : Sl w F 44 7 v l.length (tcl l)) (h0 : 0 < l.length) : ∃ g cap, v = .slice (some ⟨g, 0, none⟩) l.length cap ∧ F g ∧ TB w g cap l := by
  obtain ⟨_, hn | ⟨g, cap, cur, rfl, _, h1, h2, h3, h4, h5⟩⟩ := h.own
  · omega
  · refine ⟨g, cap, rfl, h.inF g rfl, ⟨cur, h1, h4, h2, h3, fun k hk j hj => ?_⟩⟩
    rw [← tcl_at l k j hj hk, ← h5, List.getElem?_take, if_pos (by omega), Array.getElem?_toList]
set_option maxRecDepth 3000 in
theorem TB.sl {w' : World} {F : Nat → Prop} {g cap : Nat} {l l' : List Slt} (h : TB w' g cap l') (hl : l'.length = l.length) (hF : F g) (hb : Bd F w') : Sl w' F 44 7 (.slice (some ⟨g, 0, none⟩) l.length cap) l.length (tcl l') := by
  obtain ⟨cur, h1, h2, h3, h4, h5⟩ := h.ex
  refine ⟨⟨by rw [tcl_length, hl], .inr ⟨g, cap, cur, rfl, Nat.zero_le _, h1, by omega, h4, h2, tcl_ext ?_ fun k hk j hj => ?_⟩⟩, fun k hk => by injection hk with hk; rw [← hk]; exact hF, hb⟩
  · have e : cur.toList.length = cap * 7 := by rw [Array.length_toList]; exact h2
    rw [List.length_take, e, hl]; omega
  · rw [List.getElem?_take, if_pos (by omega), Array.getElem?_toList]; exact h5 k hk j hj
set_option maxRecDepth 3000 in
theorem sort_p {w : World} {F : Nat → Prop} {v : Value} {l : List Slt} (h : Sl w F 44 7 v l.length (tcl l)) (h12 : l.length ≤ 12) (ha : AprT l) :
    Calls Tryz.prog 85 #[v, .func (.func 86) #[] #[]] w (SrtR w (fun w' => Sl w' F 44 7 v l.length (tcl (srtT l))) F) := by
  by_cases h0 : 0 < l.length
  · obtain ⟨g, cap, rfl, hF, ht⟩ := h.tb h0
    refine sort_v h12 ((ins_p ht rfl h0 (by omega) ha).mono ?_)
    rintro e w1 ⟨rfl, t1, a1⟩
    have a2 : Adv F w F w1 := a1.same (fun k hk => by rw [show k = g from hk]; exact hF)
    exact ⟨rfl, t1.sl (srtT_len l) hF (a2.bd h.bd), a2⟩
  · obtain rfl : l = [] := List.eq_nil_of_length_eq_zero (by omega)
    obtain ⟨A, c, rfl, _⟩ := h.form0
    refine sort_v h12 ((ins_0 A c w).mono ?_)
    rintro e w1 ⟨rfl, rfl⟩
    exact ⟨rfl, h, Adv.refl _ _⟩
/-! The closures. -/
set_option maxRecDepth 3000 in
theorem clo_dirty (x : Slt) (w : World) : Calls Tryz.prog 61 #[.agg (tc x)] w fun e w' => e = .returned (.bool x.d) ∧ Adv Nul w Nul w' := by
  obtain ⟨D, hD⟩ : ∃ D, D = x.d := ⟨_, rfl⟩
  have HC := Lib.hid (show ∀ W z, Blk W z 44 (tc x) → W.cell? ⟨z, 5, none⟩ = some (.bool D) from fun W z h => by rw [hD]; exact h.cell 5)
  rw [← hD]
  clear hD
  go_enter Tryz.func61, Tryz.ntmps61
  go_wp2_with (first
    | (refine kop_box rfl _ rfl rfl ?_; intro p w1 hz hb ha; have c5 := HC.out _ _ hb; have HA1 := Lib.hid ha; clear hz hb ha)
    | fail)
  go_ret
  exact ⟨rfl, HA1.out⟩
set_option maxRecDepth 3000 in
theorem clo_all (x : Slt) (w : World) : Calls Tryz.prog 62 #[.agg (tc x)] w fun e w' => e = .returned (.bool true) ∧ Adv Nul w Nul w' := by
  go_enter Tryz.func62, Tryz.ntmps62
  go_wp2_with (first
    | (refine kop_box rfl _ rfl rfl ?_; intro p w1 hz hb ha; have HA1 := Lib.hid ha; clear hz hb ha)
    | fail)
  go_ret
  exact ⟨rfl, HA1.out⟩
def thoK (L : List Slt) (f : Slt → Bool) (k : Nat) : List Nat := (List.range k).filter (fun i => (L.getD i zeroT).u && f (L.getD i zeroT))
set_option maxRecDepth 3000 in
theorem thoK_succ (L : List Slt) (f : Slt → Bool) (k : Nat) : thoK L f (k + 1) = thoK L f k ++ (if ((L.getD k zeroT).u && f (L.getD k zeroT)) = true then [k] else []) := by
  unfold thoK
  rw [List.range_succ, List.filter_append, List.filter_cons, List.filter_nil]
set_option maxRecDepth 3000 in
theorem thoK_len (L : List Slt) (f : Slt → Bool) (k : Nat) : (thoK L f k).length ≤ k := by
  have := List.length_filter_le (fun i => (L.getD i zeroT).u && f (L.getD i zeroT)) (List.range k)
  rwa [List.length_range] at this
set_option maxRecDepth 3000 in
theorem thoK_lt {L : List Slt} {f : Slt → Bool} {k i : Nat} (h : i ∈ thoK L f k) : i < k := List.mem_range.1 (List.mem_filter.1 h).1
set_option maxRecDepth 3000 in
theorem inew_at {T : TypeId} {w : World} {x : Int} (j : Nat) (u : Value) (h : [Value.int .i64 x][j]? = some u) : (w.alloc (.cells #[.int .i64 x] T)).cell? ((⟨w.heap.size, 0, none⟩ : Addr).add j) = some u := by
  rw [show (⟨w.heap.size, 0, none⟩ : Addr).add j = ⟨w.heap.size, j, none⟩ from by rw [add_none, Nat.zero_add], (Blk.new w T #[.int .i64 x]).cell j]
  simpa using h
def ii (i : Nat) : Value := .int .i64 (i : Int)
def ThoW (w : World) (L : List Slt) (f : Slt → Bool) (n : Nat) (t5 t13 : Value) (wr : World) : Prop := ∃ k F, k ≤ n ∧ t13 = .int .i64 (k : Int) ∧ Sl wr F 3 1 t5 (thoK L f k).length ((thoK L f k).map ii) ∧ Adv Nul w F wr
def ThoR (w : World) (L : List Slt) (f : Slt → Bool) (e : Ending) (w' : World) : Prop := ∃ v F, e = .returned v ∧ Sl w' F 3 1 v (thoL L f).length ((thoL L f).map ii) ∧ Adv Nul w F w'
def LisW (w : World) (l : List Slt) (n : Nat) (t5 t15 : Value) (wr : World) : Prop := ∃ k F, k ≤ n ∧ t15 = .int .i64 (k : Int) ∧ Sl wr F 44 7 t5 k (tcl (l.take k)) ∧ Adv Nul w F wr
def LisR (w : World) (l : List Slt) (e : Ending) (w' : World) : Prop := ∃ v F, e = .returned v ∧ Sl w' F 44 7 v l.length (tcl l) ∧ Adv Nul w F w'
set_option maxRecDepth 3000 in
theorem Sl.len_le {w : World} {F : Nat → Prop} {e : TypeId} {size n : Nat} {v : Value} {xs : List Value} (h : Sl w F e size v n xs) : ∃ A c, v = .slice A n c := by
  obtain ⟨A, c, e, _⟩ := h.form0
  exact ⟨A, c, e⟩
set_option maxRecDepth 3000 in
theorem tgrown {e : TypeId} {w wr w1 : World} {F : Nat → Prop} {v v' : Value} {k m n : Nat} {s : Nat} {xs ys : List Value} (hS : Sl wr F e s v k xs) (ha : Adv Nul w F wr) (hown : w1.ownsRow 0 e s v' n ys) (hg : wr.grownBy w1 v.ownBlock)
    (hat : v'.ownBlock = v.ownBlock ∨ v'.ownBlock = some m) (hm : wr.heap.size ≤ m) : ∃ F', Sl w1 F' e s v' n ys ∧ Adv Nul w F' w1 := by
  have hF' : ∀ j, (F j ∨ v'.ownBlock = some j) → F j ∨ wr.heap.size ≤ j := by
    rintro j (h | h)
    · exact .inl h
    · rcases hat with q | q
      · exact .inl (hS.inF j (by rw [← q]; exact h))
      · rw [q] at h; injection h with h; right; omega
  have hA : Adv F wr (fun j => F j ∨ v'.ownBlock = some j) w1 := by
    have h1 := (Adv.refl F wr).grown hg (fun j hj => .inl (hS.inF j hj))
    exact ⟨h1.os, h1.tape, h1.output, h1.size, h1.block, hF'⟩
  refine ⟨_, ⟨hown, fun j hj => .inr hj, ?_⟩, ha.trans hA⟩
  rintro j (h | h)
  · exact Nat.lt_of_lt_of_le (hS.bd j h) hA.size
  · exact (hown.lt j h).2

set_option maxRecDepth 3000 in
set_option maxHeartbeats 6400000 in
theorem those_d {w : World} {E : PE} (h : Pk w E) :
    Calls Tryz.prog 70 #[.pointer (some ⟨E.c, 0, none⟩), .func (.func 61) #[] #[]] w (ThoR w E.L (fun x => x.d)) := by
  have HP := Lib.hid h

  have HFR := Lib.hid (fun x (hx : isT x) W => free_any x (isT_wf hx) W)
  obtain ⟨f, hf⟩ : ∃ f : Slt → Bool, f = (fun x => x.d) := ⟨_, rfl⟩
  rw [← hf]
  have HCL := Lib.hid (show ∀ x W, Adv Nul w Nul W → Calls Tryz.prog 61 #[.agg (tc x)] W fun e w' => e = .returned (.bool (f x)) ∧ Adv Nul W Nul w' from fun x W ha => by rw [hf]; exact clo_dirty x W)
  obtain ⟨L, hL⟩ : ∃ L, L = E.L := ⟨_, rfl⟩
  obtain ⟨n, hn⟩ : ∃ n, n = L.length := ⟨_, rfl⟩
  obtain ⟨c, hc⟩ : ∃ c, c = E.c := ⟨_, rfl⟩
  obtain ⟨q, hq⟩ : ∃ c, c = E.q := ⟨_, rfl⟩
  have c3 : w.cell? ⟨c, 3, none⟩ = some (.slice (some ⟨q, 0, none⟩) n n) := by rw [hc, hq, hn, hL]; exact h.c3
  have HQ := Lib.hid (show Blk w q 44 (tcs L) by rw [hq, hL]; exact h.sl)
  have HIS := Lib.hid (show ∀ k (hk : k < L.length), isT L[k] by subst hL; exact fun k hk => h.wl.is _ (List.getElem_mem hk))
  have hn64 : (n : Int) ≤ 64 := by have := h.ln; rw [hn, hL]; omega
  have HN := Lib.hid hn
  rw [← hc, ← hL]
  clear h hf hL hn hc hq
  go_enter Tryz.func70, Tryz.ntmps70
  go_wp2_with fail
  go_loopw [5, 13] (ThoW w L f n) (fun _ t _ => n - (intOf t).toNat)
  case atStart => exact ⟨0, Nul, Nat.zero_le _, rfl, Sl.nil _ _ _, Adv.refl _ _⟩
  case round =>
    obtain ⟨k, F, hk, rfl, hs, ha⟩ := hrel
    obtain ⟨A5, c5, rfl⟩ := hs.len_le
    have HS := Lib.hid hs
    have HA := Lib.hid ha
    by_cases hlt : k < n
    · have hkl : k < L.length := by rw [← HN.out]; exact hlt
      have HKL := Lib.hid hkl
      have HQR := Lib.hid (HQ.out.over ha)
      have hsu := thoK_succ L f k
      rw [getT_at hkl] at hsu
      have his := HIS.out k hkl
      obtain ⟨x, hx⟩ : ∃ x, x = L[k]'HKL.out := ⟨_, rfl⟩
      have HX := Lib.hid hx
      rw [← hx] at hsu his
      have HFX := Lib.hid (fun W => HFR.out x his W)
      have HCX := Lib.hid (fun W ha => HCL.out x W ha)
      have HLT := Lib.hid hlt
      have hlt' : (k : Int) < (n : Int) := by omega
      by_cases h0 : x = zeroT
      · have hse : thoK L f (k + 1) = thoK L f k := by rw [hsu, h0]; simp [u_zero]
        have HSE := Lib.hid hse
        rw [decide_eq_true h0] at HFX
        clear hk hs ha hkl hsu his hx hlt h0 hse
        go_wp2_with (first
          | (refine rop_load rfl _ rfl q k HQR.out HKL.out rfl ?_; rw [← HX.out])
          | (refine kop_alloc rfl rfl infoT ?_; intro y w2 hz hb ha; have HY := Lib.hid hz; have HYB := Lib.hid hb; have HA2 := Lib.hid ha; clear hz hb ha)
          | (refine kop_store rfl _ _ rfl y HYB.out rfl rfl sizeT (tc_size _) (tc_size _) (tc_one _) ?_; intro w3 hb ha; have HY3 := Lib.hid hb; have HA3 := Lib.hid (HA2.out.fresh HY.out ha); clear hb ha)
          | (refine kop_load rfl _ rfl y HY3.out rfl Tryz.underlying44 rfl sizeT (tc_size _) ?_)
          | (go_at_call 33; refine (HFX.out _).mono ?_; rintro e w4 ⟨rfl, a4⟩; have HA4 := Lib.hid (HA3.out.trans a4); clear a4)
          | fail)
        have hlt := HLT.out
        exact ⟨⟨k + 1, F, by omega, by go_num, by rw [HSE.out]; exact HS.out.far HA4.out (fun _ x _ => x), HA.out.over HA4.out⟩, by simp [intOf]; omega⟩
      · have hu : x.u = true := (isT_ne his h0).1
        rw [decide_eq_false h0] at HFX
        rw [hu, Bool.true_and] at hsu
        cases hfx : f x with
        | false =>
          rw [hfx] at hsu HCX
          have HSE := Lib.hid (show thoK L f (k + 1) = thoK L f k by rw [hsu]; simp)
          clear hk hs ha hkl hsu his hx hlt h0 hu hfx
          go_wp2_with (first
            | (refine rop_load rfl _ rfl q k HQR.out HKL.out rfl ?_; rw [← HX.out])
            | (refine kop_alloc rfl rfl infoT ?_; intro y w2 hz hb ha; have HY := Lib.hid hz; have HYB := Lib.hid hb; have HA2 := Lib.hid ha; clear hz hb ha)
            | (refine kop_store rfl _ _ rfl y HYB.out rfl rfl sizeT (tc_size _) (tc_size _) (tc_one _) ?_; intro w3 hb ha; have HY3 := Lib.hid hb; have HA3 := Lib.hid (HA2.out.fresh HY.out ha); clear hb ha)
            | (refine kop_load rfl _ rfl y HY3.out rfl Tryz.underlying44 rfl sizeT (tc_size _) ?_)
            | (go_at_call 33; refine (HFX.out _).mono ?_; rintro e w4 ⟨rfl, a4⟩; have HA4 := Lib.hid (HA3.out.trans a4); have HY4 := Lib.hid (HY3.out.over a4); clear a4)
            | (refine kpw_guard rfl ?_; refine kop_load rfl _ rfl y HY4.out rfl Tryz.underlying44 rfl sizeT (tc_size _) ?_)
            | fail)
          refine (HCX.out _ ((HA.out.trans (adv_wk (G := F) HA4.out)).nul)).mono ?_
          rintro e w5 ⟨rfl, a5⟩
          have HA5 := Lib.hid (HA4.out.trans a5)
          clear a5
          go_wp2_with fail
          have hlt := HLT.out
          exact ⟨⟨k + 1, F, by omega, by go_num, by rw [HSE.out]; exact HS.out.far HA5.out (fun _ x _ => x), HA.out.over HA5.out⟩, by simp [intOf]; omega⟩
        | true =>
          rw [hfx] at hsu HCX
          have HSE := Lib.hid (show thoK L f (k + 1) = thoK L f k ++ [k] by rw [hsu]; simp)
          have hle := thoK_len L f k
          have HLE := Lib.hid hle
          obtain ⟨m, hm⟩ : ∃ m, m = (thoK L f k).length := ⟨_, rfl⟩
          rw [← hm] at HS hle
          have HM := Lib.hid hm
          have HK1 := Lib.hid (show m + 1 ≤ maxLen by unfold maxLen; omega)
          have HK2 := Lib.hid (show (m + 1) * 8 ≤ 140737488355328 by omega)
          rw [← hm]
          clear hk hs ha hkl hsu his hx hlt h0 hu hfx hle hm
          go_wp2_with (first
            | (refine rop_load rfl _ rfl q k HQR.out HKL.out rfl ?_; rw [← HX.out])
            | (refine kop_alloc rfl rfl infoT ?_; intro y w2 hz hb ha; have HY := Lib.hid hz; have HYB := Lib.hid hb; have HA2 := Lib.hid ha; clear hz hb ha)
            | (refine kop_store rfl _ _ rfl y HYB.out rfl rfl sizeT (tc_size _) (tc_size _) (tc_one _) ?_; intro w3 hb ha; have HY3 := Lib.hid hb; have HA3 := Lib.hid (HA2.out.fresh HY.out ha); clear hb ha)
            | (refine kop_load rfl _ rfl y HY3.out rfl Tryz.underlying44 rfl sizeT (tc_size _) ?_)
            | (go_at_call 33; refine (HFX.out _).mono ?_; rintro e w4 ⟨rfl, a4⟩; have HA4 := Lib.hid (HA3.out.trans a4); have HY4 := Lib.hid (HY3.out.over a4); clear a4)
            | (refine kpw_guard rfl ?_; refine kop_load rfl _ rfl y HY4.out rfl Tryz.underlying44 rfl sizeT (tc_size _) ?_)
            | fail)
          refine (HCX.out _ ((HA.out.trans (adv_wk (G := F) HA4.out)).nul)).mono ?_
          rintro e w5 ⟨rfl, a5⟩
          have HA5 := Lib.hid (HA4.out.trans a5)
          clear a5
          have HU := Lib.hid ((HS.out.far HA5.out (fun _ x _ => x)).far ((Adv.refl Nul w5).alloc (.cells #[.int .i64 (k : Int)] 3)) (fun _ x _ => x))
          go_wp2_with (first
            | (at_builtin; refine lop_append_own rfl (.tmp 26) (.tmp 28) 41 3 rfl Tryz.underlying41 infoInt7 rfl (by decide) rfl HU.out.own ⟨w5.heap.size, 0, none⟩ 1 1 rfl [.int .i64 (k : Int)] rfl (fun j u hj => inew_at j u hj) (by intro u hu; rw [List.mem_singleton.1 hu]; rfl) HK1.out HK2.out ?_; intro v' w8 hown hg2 hat; obtain ⟨a8, k8, rfl⟩ := (slice_of hown); have HOWN := Lib.hid hown; have HG2 := Lib.hid hg2; have HAT := Lib.hid hat; clear hown hg2 hat)
            | fail)
          have hlt := HLT.out
          obtain ⟨F', hs', ha'⟩ := tgrown (m := (w5.alloc (.cells #[.int .i64 (k : Int)] 3)).heap.size) HU.out ((HA.out.over HA5.out).over ((Adv.refl Nul w5).alloc (.cells #[.int .i64 (k : Int)] 3))) HOWN.out HG2.out HAT.out (Nat.le_refl _)
          refine ⟨⟨k + 1, F', by omega, by go_num, ?_, ha'⟩, by simp [intOf]; omega⟩
          rw [HSE.out, List.length_append, List.map_append, ← HM.out]
          exact hs'
    · obtain rfl : k = n := by omega
      have HF := Lib.hid (show thoK L f k = thoL L f by rw [HN.out]; rfl)
      rw [HF.out] at HS
      clear hk hs ha hlt
      rw [HF.out]
      go_wp2_with fail
      go_ret
      exact ⟨_, F, rfl, HS.out, HA.out⟩
set_option maxRecDepth 3000 in
set_option maxHeartbeats 6400000 in
theorem list_d {w : World} {E : PE} (h : Pk w E) (h12 : E.L.length ≤ 12) :
    Calls Tryz.prog 55 #[.pointer (some ⟨E.c, 0, none⟩), .func (.func 61) #[] #[]] w (LisR w (allL E.L (fun x => x.d))) := by
  have HP := Lib.hid h
  have HM := Lib.hid (pmade_any w E h)
  have HT := Lib.hid (those_d h)
  obtain ⟨f, hf⟩ : ∃ f : Slt → Bool, f = (fun x => x.d) := ⟨_, rfl⟩
  rw [← hf] at HT ⊢
  have HAP := Lib.hid (sel_apr h.wl f)
  have HTL := Lib.hid (tho_sel f E.L)
  have HSL := Lib.hid (show (thoL E.L f).length ≤ 12 from Nat.le_trans (thoK_len E.L f E.L.length) h12)
  have HTI := Lib.hid (show ∀ i, i ∈ thoL E.L f → i < E.L.length from fun i hi => thoK_lt hi)
  obtain ⟨L, hL⟩ : ∃ L, L = E.L := ⟨_, rfl⟩
  obtain ⟨n, hn⟩ : ∃ n, n = L.length := ⟨_, rfl⟩
  obtain ⟨c, hc⟩ : ∃ c, c = E.c := ⟨_, rfl⟩
  obtain ⟨q, hq⟩ : ∃ c, c = E.q := ⟨_, rfl⟩
  have HC3 := Lib.hid (show ∀ W, Adv Nul w Nul W → W.cell? ⟨c, 3, none⟩ = some (.slice (some ⟨q, 0, none⟩) n n) from fun W a => by rw [hc, hq, hn, hL]; exact (h.step a).c3)
  have HQ := Lib.hid (show Blk w q 44 (tcs L) by rw [hq, hL]; exact h.sl)
  have hn64 : (n : Int) ≤ 64 := by have := h.ln; rw [hn, hL]; omega
  have HN := Lib.hid hn
  rw [← hc] at HM HT ⊢
  rw [← hL] at HT HAP HTL HSL HTI ⊢
  unfold allL
  obtain ⟨T, hTT⟩ : ∃ T, T = thoL L f := ⟨_, rfl⟩
  obtain ⟨S, hSS⟩ : ∃ S, S = selL L f := ⟨_, rfl⟩
  unfold ThoR at HT
  rw [← hTT] at HT HTL HSL HTI
  rw [← hSS] at HAP HTL ⊢
  have HSN := Lib.hid (show S.length = T.length by rw [← HTL.out, List.length_map])
  obtain ⟨m, hm⟩ : ∃ m, m = T.length := ⟨_, rfl⟩
  rw [← hm] at HT HSN HSL
  have HMM := Lib.hid hm
  have hm12 : (m : Int) ≤ 12 := by have := HSL.out; omega
  clear h h12 hf hL hn hc hq hTT hSS hm
  go_enter Tryz.func55, Tryz.ntmps55
  go_wp2_with (first
    | (go_at_call 46; refine HM.out.mono ?_; rintro e w1 ⟨rfl, rfl⟩)
    | (go_at_call 70; refine HT.out.mono ?_; rintro e w2 ⟨v2, F2, rfl, s2, a2⟩; obtain ⟨A2, c2, rfl⟩ := s2.len_le; have HS2 := Lib.hid s2; have HA2 := Lib.hid a2; clear s2 a2)
    | fail)
  go_loopw [5, 15] (LisW w2 S m) (fun _ t _ => m - (intOf t).toNat)
  case atStart => exact ⟨0, Nul, Nat.zero_le _, rfl, Sl.nil _ _ _, Adv.refl _ _⟩
  case round =>
    obtain ⟨k, F, hk, rfl, hs, ha⟩ := hrel
    obtain ⟨A5, c5, rfl⟩ := hs.len_le
    have HS := Lib.hid hs
    have HA := Lib.hid ha
    by_cases hlt : k < m
    · have hkt : k < T.length := by rw [← HMM.out]; exact hlt
      have hks : k < S.length := by rw [HSN.out]; exact hlt
      obtain ⟨gb, gc, e2, -, -⟩ := HS2.out.form (by omega)
      obtain rfl : A2 = some ⟨gb, 0, none⟩ := by injection e2
      clear e2
      have hcell : wr.cell? ⟨gb, k, none⟩ = some (.int .i64 (T[k] : Int)) := by
        have h3 := (HS2.out.far ha (fun _ x _ => x)).own.cellAt k (by omega)
        rw [h3, List.getElem?_map, List.getElem?_eq_getElem hkt]; rfl
      have hti0 := HTI.out _ (List.getElem_mem hkt)
      have hsk : S[k] = L[T[k]]'hti0 := by
        have h4 : S[k]? = (T.map (fun i => L.getD i zeroT))[k]? := by rw [HTL.out]
        rw [List.getElem?_map, List.getElem?_eq_getElem hkt, List.getElem?_eq_getElem hks] at h4
        rw [← getT_at hti0]
        exact Option.some.inj h4
      have HST := Lib.hid (show S.take (k + 1) = S.take k ++ [S[k]] from List.take_succ_eq_append_getElem hks)
      obtain ⟨i, hi⟩ : ∃ i, i = T[k] := ⟨_, rfl⟩
      obtain ⟨x, hx⟩ : ∃ x, x = S[k] := ⟨_, rfl⟩
      have hti : i < L.length := by rw [hi]; exact hti0
      rw [← hi] at hcell
      have HTI2 := Lib.hid hti
      have HX := Lib.hid (show L[i]'HTI2.out = x by subst hi; rw [hx]; exact hsk.symm)
      rw [← hx] at HST
      have hin : (i : Int) < (n : Int) := by have := HN.out; omega
      have c3 := HC3.out wr ((HA2.out.trans (adv_wk (G := F2) (ha.sub (G := Nul) (fun _ x => x.elim)))).nul)
      have HQR := Lib.hid ((HQ.out.over HA2.out).over ha)
      have HLT := Lib.hid hlt
      have hlt' : (k : Int) < (m : Int) := by omega
      have HK1 := Lib.hid (show k + 1 ≤ maxLen by unfold maxLen; omega)
      have HK2 := Lib.hid (show (k + 1) * 64 ≤ 140737488355328 by omega)
      clear hk hs ha hlt hkt hks hti hsk hi hx hti0
      go_wp2_with (first
        | (refine rop_load rfl _ rfl q i HQR.out HTI2.out rfl ?_; rw [HX.out])
        | (refine kop_bslice rfl _ rfl Tryz.underlying57 infoT rfl (tc_size x) (by decide) (by decide) ?_; intro y w4 hy hb ha; have HYB := Lib.hid hb; have HA4 := Lib.hid ha; have HU := Lib.hid (HS.out.far ha (fun _ x _ => x)); clear hy hb ha)
        | (at_builtin; refine lop_append_own rfl (.tmp 19) (.tmp 27) 57 44 rfl Tryz.underlying57 infoT rfl (by decide) rfl HU.out.own ⟨y, 0, none⟩ 1 1 rfl (tc x).toList rfl (fun j u hj => by have h0 := Blk.range HYB.out j u hj; rw [Nat.zero_add] at h0; rw [add_none, Nat.zero_add]; exact h0) (by have h1 := tc_one x; exact fun u hu => (Array.all_eq_true_iff_forall_mem.1 h1) u (by simpa using hu)) HK1.out HK2.out ?_; intro v' w8 hown hg2 hat; obtain ⟨a8, k8, rfl⟩ := (slice_of hown); have HOWN := Lib.hid hown; have HG2 := Lib.hid hg2; have HAT := Lib.hid hat; clear hown hg2 hat)
        | fail)
      have hlt := HLT.out
      obtain ⟨F', hs', ha'⟩ := tgrown (m := w4.heap.size) HU.out (HA.out.over HA4.out) HOWN.out HG2.out HAT.out (Nat.le_refl _)
      refine ⟨⟨k + 1, F', by omega, by go_num, ?_, ha'⟩, by simp [intOf]; omega⟩
      rw [HST.out, tcl_append, tcl_one]
      exact hs'
    · obtain rfl : k = m := by omega
      have HTK := Lib.hid (show S.take k = S from List.take_of_length_le (by rw [HSN.out]; exact Nat.le_refl _))
      rw [HTK.out] at HS
      have HSO := Lib.hid (show Calls Tryz.prog 85 #[.slice A5 k c5, .func (.func 86) #[] #[]] wr (SrtR wr (fun w' => Sl w' F 44 7 (.slice A5 k c5) k (tcl (srtT S))) F) by
        have h1 : Sl wr F 44 7 (.slice A5 k c5) S.length (tcl S) := by rw [HSN.out]; exact HS.out
        have := sort_p h1 (by rw [HSN.out]; exact HSL.out) HAP.out
        rw [HSN.out] at this
        exact this)
      have HLN := Lib.hid (show (srtT S).length = k by rw [srtT_len, HSN.out])
      clear hk hs ha hlt
      go_wp2_with (first
        | (go_at_call 85; refine HSO.out.mono ?_; rintro e w9 ⟨rfl, s9, a9⟩; have HS9 := Lib.hid s9; have HA9 := Lib.hid a9; clear s9 a9)
        | fail)
      go_ret
      exact ⟨_, F, rfl, by rw [HLN.out]; exact HS9.out, ⟨HA9.out.os.trans (HA.out.os.trans HA2.out.os), HA9.out.tape.trans (HA.out.tape.trans HA2.out.tape), HA9.out.output.trans (HA.out.output.trans HA2.out.output), Nat.le_trans HA2.out.size (Nat.le_trans HA.out.size HA9.out.size), ((HA2.out.sub (G := Nul) (fun _ x => x.elim)).trans (HA.out.trans HA9.out)).block, ((HA2.out.sub (G := Nul) (fun _ x => x.elim)).trans (HA.out.trans HA9.out)).into⟩⟩

set_option maxRecDepth 3000 in
set_option maxHeartbeats 6400000 in
theorem those_a {w : World} {E : PE} (h : Pk w E) :
    Calls Tryz.prog 70 #[.pointer (some ⟨E.c, 0, none⟩), .func (.func 62) #[] #[]] w (ThoR w E.L (fun _ => true)) := by
  have HP := Lib.hid h

  have HFR := Lib.hid (fun x (hx : isT x) W => free_any x (isT_wf hx) W)
  obtain ⟨f, hf⟩ : ∃ f : Slt → Bool, f = (fun _ => true) := ⟨_, rfl⟩
  rw [← hf]
  have HCL := Lib.hid (show ∀ x W, Adv Nul w Nul W → Calls Tryz.prog 62 #[.agg (tc x)] W fun e w' => e = .returned (.bool (f x)) ∧ Adv Nul W Nul w' from fun x W ha => by rw [hf]; exact clo_all x W)
  obtain ⟨L, hL⟩ : ∃ L, L = E.L := ⟨_, rfl⟩
  obtain ⟨n, hn⟩ : ∃ n, n = L.length := ⟨_, rfl⟩
  obtain ⟨c, hc⟩ : ∃ c, c = E.c := ⟨_, rfl⟩
  obtain ⟨q, hq⟩ : ∃ c, c = E.q := ⟨_, rfl⟩
  have c3 : w.cell? ⟨c, 3, none⟩ = some (.slice (some ⟨q, 0, none⟩) n n) := by rw [hc, hq, hn, hL]; exact h.c3
  have HQ := Lib.hid (show Blk w q 44 (tcs L) by rw [hq, hL]; exact h.sl)
  have HIS := Lib.hid (show ∀ k (hk : k < L.length), isT L[k] by subst hL; exact fun k hk => h.wl.is _ (List.getElem_mem hk))
  have hn64 : (n : Int) ≤ 64 := by have := h.ln; rw [hn, hL]; omega
  have HN := Lib.hid hn
  rw [← hc, ← hL]
  clear h hf hL hn hc hq
  go_enter Tryz.func70, Tryz.ntmps70
  go_wp2_with fail
  go_loopw [5, 13] (ThoW w L f n) (fun _ t _ => n - (intOf t).toNat)
  case atStart => exact ⟨0, Nul, Nat.zero_le _, rfl, Sl.nil _ _ _, Adv.refl _ _⟩
  case round =>
    obtain ⟨k, F, hk, rfl, hs, ha⟩ := hrel
    obtain ⟨A5, c5, rfl⟩ := hs.len_le
    have HS := Lib.hid hs
    have HA := Lib.hid ha
    by_cases hlt : k < n
    · have hkl : k < L.length := by rw [← HN.out]; exact hlt
      have HKL := Lib.hid hkl
      have HQR := Lib.hid (HQ.out.over ha)
      have hsu := thoK_succ L f k
      rw [getT_at hkl] at hsu
      have his := HIS.out k hkl
      obtain ⟨x, hx⟩ : ∃ x, x = L[k]'HKL.out := ⟨_, rfl⟩
      have HX := Lib.hid hx
      rw [← hx] at hsu his
      have HFX := Lib.hid (fun W => HFR.out x his W)
      have HCX := Lib.hid (fun W ha => HCL.out x W ha)
      have HLT := Lib.hid hlt
      have hlt' : (k : Int) < (n : Int) := by omega
      by_cases h0 : x = zeroT
      · have hse : thoK L f (k + 1) = thoK L f k := by rw [hsu, h0]; simp [u_zero]
        have HSE := Lib.hid hse
        rw [decide_eq_true h0] at HFX
        clear hk hs ha hkl hsu his hx hlt h0 hse
        go_wp2_with (first
          | (refine rop_load rfl _ rfl q k HQR.out HKL.out rfl ?_; rw [← HX.out])
          | (refine kop_alloc rfl rfl infoT ?_; intro y w2 hz hb ha; have HY := Lib.hid hz; have HYB := Lib.hid hb; have HA2 := Lib.hid ha; clear hz hb ha)
          | (refine kop_store rfl _ _ rfl y HYB.out rfl rfl sizeT (tc_size _) (tc_size _) (tc_one _) ?_; intro w3 hb ha; have HY3 := Lib.hid hb; have HA3 := Lib.hid (HA2.out.fresh HY.out ha); clear hb ha)
          | (refine kop_load rfl _ rfl y HY3.out rfl Tryz.underlying44 rfl sizeT (tc_size _) ?_)
          | (go_at_call 33; refine (HFX.out _).mono ?_; rintro e w4 ⟨rfl, a4⟩; have HA4 := Lib.hid (HA3.out.trans a4); clear a4)
          | fail)
        have hlt := HLT.out
        exact ⟨⟨k + 1, F, by omega, by go_num, by rw [HSE.out]; exact HS.out.far HA4.out (fun _ x _ => x), HA.out.over HA4.out⟩, by simp [intOf]; omega⟩
      · have hu : x.u = true := (isT_ne his h0).1
        rw [decide_eq_false h0] at HFX
        rw [hu, Bool.true_and] at hsu
        cases hfx : f x with
        | false =>
          rw [hfx] at hsu HCX
          have HSE := Lib.hid (show thoK L f (k + 1) = thoK L f k by rw [hsu]; simp)
          clear hk hs ha hkl hsu his hx hlt h0 hu hfx
          go_wp2_with (first
            | (refine rop_load rfl _ rfl q k HQR.out HKL.out rfl ?_; rw [← HX.out])
            | (refine kop_alloc rfl rfl infoT ?_; intro y w2 hz hb ha; have HY := Lib.hid hz; have HYB := Lib.hid hb; have HA2 := Lib.hid ha; clear hz hb ha)
            | (refine kop_store rfl _ _ rfl y HYB.out rfl rfl sizeT (tc_size _) (tc_size _) (tc_one _) ?_; intro w3 hb ha; have HY3 := Lib.hid hb; have HA3 := Lib.hid (HA2.out.fresh HY.out ha); clear hb ha)
            | (refine kop_load rfl _ rfl y HY3.out rfl Tryz.underlying44 rfl sizeT (tc_size _) ?_)
            | (go_at_call 33; refine (HFX.out _).mono ?_; rintro e w4 ⟨rfl, a4⟩; have HA4 := Lib.hid (HA3.out.trans a4); have HY4 := Lib.hid (HY3.out.over a4); clear a4)
            | (refine kpw_guard rfl ?_; refine kop_load rfl _ rfl y HY4.out rfl Tryz.underlying44 rfl sizeT (tc_size _) ?_)
            | fail)
          refine (HCX.out _ ((HA.out.trans (adv_wk (G := F) HA4.out)).nul)).mono ?_
          rintro e w5 ⟨rfl, a5⟩
          have HA5 := Lib.hid (HA4.out.trans a5)
          clear a5
          go_wp2_with fail
          have hlt := HLT.out
          exact ⟨⟨k + 1, F, by omega, by go_num, by rw [HSE.out]; exact HS.out.far HA5.out (fun _ x _ => x), HA.out.over HA5.out⟩, by simp [intOf]; omega⟩
        | true =>
          rw [hfx] at hsu HCX
          have HSE := Lib.hid (show thoK L f (k + 1) = thoK L f k ++ [k] by rw [hsu]; simp)
          have hle := thoK_len L f k
          have HLE := Lib.hid hle
          obtain ⟨m, hm⟩ : ∃ m, m = (thoK L f k).length := ⟨_, rfl⟩
          rw [← hm] at HS hle
          have HM := Lib.hid hm
          have HK1 := Lib.hid (show m + 1 ≤ maxLen by unfold maxLen; omega)
          have HK2 := Lib.hid (show (m + 1) * 8 ≤ 140737488355328 by omega)
          rw [← hm]
          clear hk hs ha hkl hsu his hx hlt h0 hu hfx hle hm
          go_wp2_with (first
            | (refine rop_load rfl _ rfl q k HQR.out HKL.out rfl ?_; rw [← HX.out])
            | (refine kop_alloc rfl rfl infoT ?_; intro y w2 hz hb ha; have HY := Lib.hid hz; have HYB := Lib.hid hb; have HA2 := Lib.hid ha; clear hz hb ha)
            | (refine kop_store rfl _ _ rfl y HYB.out rfl rfl sizeT (tc_size _) (tc_size _) (tc_one _) ?_; intro w3 hb ha; have HY3 := Lib.hid hb; have HA3 := Lib.hid (HA2.out.fresh HY.out ha); clear hb ha)
            | (refine kop_load rfl _ rfl y HY3.out rfl Tryz.underlying44 rfl sizeT (tc_size _) ?_)
            | (go_at_call 33; refine (HFX.out _).mono ?_; rintro e w4 ⟨rfl, a4⟩; have HA4 := Lib.hid (HA3.out.trans a4); have HY4 := Lib.hid (HY3.out.over a4); clear a4)
            | (refine kpw_guard rfl ?_; refine kop_load rfl _ rfl y HY4.out rfl Tryz.underlying44 rfl sizeT (tc_size _) ?_)
            | fail)
          refine (HCX.out _ ((HA.out.trans (adv_wk (G := F) HA4.out)).nul)).mono ?_
          rintro e w5 ⟨rfl, a5⟩
          have HA5 := Lib.hid (HA4.out.trans a5)
          clear a5
          have HU := Lib.hid ((HS.out.far HA5.out (fun _ x _ => x)).far ((Adv.refl Nul w5).alloc (.cells #[.int .i64 (k : Int)] 3)) (fun _ x _ => x))
          go_wp2_with (first
            | (at_builtin; refine lop_append_own rfl (.tmp 26) (.tmp 28) 41 3 rfl Tryz.underlying41 infoInt7 rfl (by decide) rfl HU.out.own ⟨w5.heap.size, 0, none⟩ 1 1 rfl [.int .i64 (k : Int)] rfl (fun j u hj => inew_at j u hj) (by intro u hu; rw [List.mem_singleton.1 hu]; rfl) HK1.out HK2.out ?_; intro v' w8 hown hg2 hat; obtain ⟨a8, k8, rfl⟩ := (slice_of hown); have HOWN := Lib.hid hown; have HG2 := Lib.hid hg2; have HAT := Lib.hid hat; clear hown hg2 hat)
            | fail)
          have hlt := HLT.out
          obtain ⟨F', hs', ha'⟩ := tgrown (m := (w5.alloc (.cells #[.int .i64 (k : Int)] 3)).heap.size) HU.out ((HA.out.over HA5.out).over ((Adv.refl Nul w5).alloc (.cells #[.int .i64 (k : Int)] 3))) HOWN.out HG2.out HAT.out (Nat.le_refl _)
          refine ⟨⟨k + 1, F', by omega, by go_num, ?_, ha'⟩, by simp [intOf]; omega⟩
          rw [HSE.out, List.length_append, List.map_append, ← HM.out]
          exact hs'
    · obtain rfl : k = n := by omega
      have HF := Lib.hid (show thoK L f k = thoL L f by rw [HN.out]; rfl)
      rw [HF.out] at HS
      clear hk hs ha hlt
      rw [HF.out]
      go_wp2_with fail
      go_ret
      exact ⟨_, F, rfl, HS.out, HA.out⟩
set_option maxRecDepth 3000 in
set_option maxHeartbeats 6400000 in
theorem list_a {w : World} {E : PE} (h : Pk w E) (h12 : E.L.length ≤ 12) :
    Calls Tryz.prog 55 #[.pointer (some ⟨E.c, 0, none⟩), .func (.func 62) #[] #[]] w (LisR w (allL E.L (fun _ => true))) := by
  have HP := Lib.hid h
  have HM := Lib.hid (pmade_any w E h)
  have HT := Lib.hid (those_a h)
  obtain ⟨f, hf⟩ : ∃ f : Slt → Bool, f = (fun _ => true) := ⟨_, rfl⟩
  rw [← hf] at HT ⊢
  have HAP := Lib.hid (sel_apr h.wl f)
  have HTL := Lib.hid (tho_sel f E.L)
  have HSL := Lib.hid (show (thoL E.L f).length ≤ 12 from Nat.le_trans (thoK_len E.L f E.L.length) h12)
  have HTI := Lib.hid (show ∀ i, i ∈ thoL E.L f → i < E.L.length from fun i hi => thoK_lt hi)
  obtain ⟨L, hL⟩ : ∃ L, L = E.L := ⟨_, rfl⟩
  obtain ⟨n, hn⟩ : ∃ n, n = L.length := ⟨_, rfl⟩
  obtain ⟨c, hc⟩ : ∃ c, c = E.c := ⟨_, rfl⟩
  obtain ⟨q, hq⟩ : ∃ c, c = E.q := ⟨_, rfl⟩
  have HC3 := Lib.hid (show ∀ W, Adv Nul w Nul W → W.cell? ⟨c, 3, none⟩ = some (.slice (some ⟨q, 0, none⟩) n n) from fun W a => by rw [hc, hq, hn, hL]; exact (h.step a).c3)
  have HQ := Lib.hid (show Blk w q 44 (tcs L) by rw [hq, hL]; exact h.sl)
  have hn64 : (n : Int) ≤ 64 := by have := h.ln; rw [hn, hL]; omega
  have HN := Lib.hid hn
  rw [← hc] at HM HT ⊢
  rw [← hL] at HT HAP HTL HSL HTI ⊢
  unfold allL
  obtain ⟨T, hTT⟩ : ∃ T, T = thoL L f := ⟨_, rfl⟩
  obtain ⟨S, hSS⟩ : ∃ S, S = selL L f := ⟨_, rfl⟩
  unfold ThoR at HT
  rw [← hTT] at HT HTL HSL HTI
  rw [← hSS] at HAP HTL ⊢
  have HSN := Lib.hid (show S.length = T.length by rw [← HTL.out, List.length_map])
  obtain ⟨m, hm⟩ : ∃ m, m = T.length := ⟨_, rfl⟩
  rw [← hm] at HT HSN HSL
  have HMM := Lib.hid hm
  have hm12 : (m : Int) ≤ 12 := by have := HSL.out; omega
  clear h h12 hf hL hn hc hq hTT hSS hm
  go_enter Tryz.func55, Tryz.ntmps55
  go_wp2_with (first
    | (go_at_call 46; refine HM.out.mono ?_; rintro e w1 ⟨rfl, rfl⟩)
    | (go_at_call 70; refine HT.out.mono ?_; rintro e w2 ⟨v2, F2, rfl, s2, a2⟩; obtain ⟨A2, c2, rfl⟩ := s2.len_le; have HS2 := Lib.hid s2; have HA2 := Lib.hid a2; clear s2 a2)
    | fail)
  go_loopw [5, 15] (LisW w2 S m) (fun _ t _ => m - (intOf t).toNat)
  case atStart => exact ⟨0, Nul, Nat.zero_le _, rfl, Sl.nil _ _ _, Adv.refl _ _⟩
  case round =>
    obtain ⟨k, F, hk, rfl, hs, ha⟩ := hrel
    obtain ⟨A5, c5, rfl⟩ := hs.len_le
    have HS := Lib.hid hs
    have HA := Lib.hid ha
    by_cases hlt : k < m
    · have hkt : k < T.length := by rw [← HMM.out]; exact hlt
      have hks : k < S.length := by rw [HSN.out]; exact hlt
      obtain ⟨gb, gc, e2, -, -⟩ := HS2.out.form (by omega)
      obtain rfl : A2 = some ⟨gb, 0, none⟩ := by injection e2
      clear e2
      have hcell : wr.cell? ⟨gb, k, none⟩ = some (.int .i64 (T[k] : Int)) := by
        have h3 := (HS2.out.far ha (fun _ x _ => x)).own.cellAt k (by omega)
        rw [h3, List.getElem?_map, List.getElem?_eq_getElem hkt]; rfl
      have hti0 := HTI.out _ (List.getElem_mem hkt)
      have hsk : S[k] = L[T[k]]'hti0 := by
        have h4 : S[k]? = (T.map (fun i => L.getD i zeroT))[k]? := by rw [HTL.out]
        rw [List.getElem?_map, List.getElem?_eq_getElem hkt, List.getElem?_eq_getElem hks] at h4
        rw [← getT_at hti0]
        exact Option.some.inj h4
      have HST := Lib.hid (show S.take (k + 1) = S.take k ++ [S[k]] from List.take_succ_eq_append_getElem hks)
      obtain ⟨i, hi⟩ : ∃ i, i = T[k] := ⟨_, rfl⟩
      obtain ⟨x, hx⟩ : ∃ x, x = S[k] := ⟨_, rfl⟩
      have hti : i < L.length := by rw [hi]; exact hti0
      rw [← hi] at hcell
      have HTI2 := Lib.hid hti
      have HX := Lib.hid (show L[i]'HTI2.out = x by subst hi; rw [hx]; exact hsk.symm)
      rw [← hx] at HST
      have hin : (i : Int) < (n : Int) := by have := HN.out; omega
      have c3 := HC3.out wr ((HA2.out.trans (adv_wk (G := F2) (ha.sub (G := Nul) (fun _ x => x.elim)))).nul)
      have HQR := Lib.hid ((HQ.out.over HA2.out).over ha)
      have HLT := Lib.hid hlt
      have hlt' : (k : Int) < (m : Int) := by omega
      have HK1 := Lib.hid (show k + 1 ≤ maxLen by unfold maxLen; omega)
      have HK2 := Lib.hid (show (k + 1) * 64 ≤ 140737488355328 by omega)
      clear hk hs ha hlt hkt hks hti hsk hi hx hti0
      go_wp2_with (first
        | (refine rop_load rfl _ rfl q i HQR.out HTI2.out rfl ?_; rw [HX.out])
        | (refine kop_bslice rfl _ rfl Tryz.underlying57 infoT rfl (tc_size x) (by decide) (by decide) ?_; intro y w4 hy hb ha; have HYB := Lib.hid hb; have HA4 := Lib.hid ha; have HU := Lib.hid (HS.out.far ha (fun _ x _ => x)); clear hy hb ha)
        | (at_builtin; refine lop_append_own rfl (.tmp 19) (.tmp 27) 57 44 rfl Tryz.underlying57 infoT rfl (by decide) rfl HU.out.own ⟨y, 0, none⟩ 1 1 rfl (tc x).toList rfl (fun j u hj => by have h0 := Blk.range HYB.out j u hj; rw [Nat.zero_add] at h0; rw [add_none, Nat.zero_add]; exact h0) (by have h1 := tc_one x; exact fun u hu => (Array.all_eq_true_iff_forall_mem.1 h1) u (by simpa using hu)) HK1.out HK2.out ?_; intro v' w8 hown hg2 hat; obtain ⟨a8, k8, rfl⟩ := (slice_of hown); have HOWN := Lib.hid hown; have HG2 := Lib.hid hg2; have HAT := Lib.hid hat; clear hown hg2 hat)
        | fail)
      have hlt := HLT.out
      obtain ⟨F', hs', ha'⟩ := tgrown (m := w4.heap.size) HU.out (HA.out.over HA4.out) HOWN.out HG2.out HAT.out (Nat.le_refl _)
      refine ⟨⟨k + 1, F', by omega, by go_num, ?_, ha'⟩, by simp [intOf]; omega⟩
      rw [HST.out, tcl_append, tcl_one]
      exact hs'
    · obtain rfl : k = m := by omega
      have HTK := Lib.hid (show S.take k = S from List.take_of_length_le (by rw [HSN.out]; exact Nat.le_refl _))
      rw [HTK.out] at HS
      have HSO := Lib.hid (show Calls Tryz.prog 85 #[.slice A5 k c5, .func (.func 86) #[] #[]] wr (SrtR wr (fun w' => Sl w' F 44 7 (.slice A5 k c5) k (tcl (srtT S))) F) by
        have h1 : Sl wr F 44 7 (.slice A5 k c5) S.length (tcl S) := by rw [HSN.out]; exact HS.out
        have := sort_p h1 (by rw [HSN.out]; exact HSL.out) HAP.out
        rw [HSN.out] at this
        exact this)
      have HLN := Lib.hid (show (srtT S).length = k by rw [srtT_len, HSN.out])
      clear hk hs ha hlt
      go_wp2_with (first
        | (go_at_call 85; refine HSO.out.mono ?_; rintro e w9 ⟨rfl, s9, a9⟩; have HS9 := Lib.hid s9; have HA9 := Lib.hid a9; clear s9 a9)
        | fail)
      go_ret
      exact ⟨_, F, rfl, by rw [HLN.out]; exact HS9.out, ⟨HA9.out.os.trans (HA.out.os.trans HA2.out.os), HA9.out.tape.trans (HA.out.tape.trans HA2.out.tape), HA9.out.output.trans (HA.out.output.trans HA2.out.output), Nat.le_trans HA2.out.size (Nat.le_trans HA.out.size HA9.out.size), ((HA2.out.sub (G := Nul) (fun _ x => x.elim)).trans (HA.out.trans HA9.out)).block, ((HA2.out.sub (G := Nul) (fun _ x => x.elim)).trans (HA.out.trans HA9.out)).into⟩⟩
end Go.Proofs.YtcglfknkkeaegaaGreatDoor
namespace Go.Proofs.YtcglfknkkeaegaaGreatDoor
open Go.ChangeShapes Go.WideShapes Go.ChangeAt Go.RowKit Go.Maps
set_option maxRecDepth 3000 in
theorem dirty_p {w : World} {E : PE} (h : Pk w E) (h12 : E.L.length ≤ 12) : Calls Tryz.prog 29 #[.pointer (some ⟨E.c, 0, none⟩)] w (LisR w (allL E.L (fun x => x.d))) := by
  have HL := Lib.hid (list_d h h12)
  generalize allL E.L (fun x => x.d) = l at HL ⊢
  generalize E.c = c at HL ⊢
  unfold LisR at HL ⊢
  clear h h12
  go_enter Tryz.func29, Tryz.ntmps29
  go_wp2_with (first
    | (go_at_call 55; refine HL.out.mono ?_; rintro e w1 ⟨v, F, rfl, s1, a1⟩; have HS1 := Lib.hid s1; have HA1 := Lib.hid a1; clear s1 a1)
    | fail)
  go_ret
  exact ⟨v, F, rfl, HS1.out, HA1.out⟩
set_option maxRecDepth 3000 in
theorem all_p {w : World} {E : PE} (h : Pk w E) (h12 : E.L.length ≤ 12) : Calls Tryz.prog 30 #[.pointer (some ⟨E.c, 0, none⟩)] w (LisR w (allL E.L (fun _ => true))) := by
  have HL := Lib.hid (list_a h h12)
  generalize allL E.L (fun _ => true) = l at HL ⊢
  generalize E.c = c at HL ⊢
  unfold LisR at HL ⊢
  clear h h12
  go_enter Tryz.func30, Tryz.ntmps30
  go_wp2_with (first
    | (go_at_call 55; refine HL.out.mono ?_; rintro e w1 ⟨v, F, rfl, s1, a1⟩; have HS1 := Lib.hid s1; have HA1 := Lib.hid a1; clear s1 a1)
    | fail)
  go_ret
  exact ⟨v, F, rfl, HS1.out, HA1.out⟩
end Go.Proofs.YtcglfknkkeaegaaGreatDoor
namespace Go.Proofs.YtcglfknkkeaegaaGreatDoor
open Go.ChangeShapes Go.WideShapes Go.ChangeAt Go.RowKit Go.Maps
/-- Block c is a cache on the disk d, all made since W; the blocks Z are none of its own. -/
structure Gd (W w : World) (Z : Nat → Prop) (d c n N k : Nat) (L : List Slt) (R : RgS) (num : Nat) : Prop where
  ex : ∃ E rest, Pk w E ∧ Lc E.s E.g n N k (HL num L rest) ∧ (E.c = c ∧ E.d = d ∧ E.n = n ∧ E.N = N) ∧ (E.L = L ∧ E.R = R ∧ E.num = num) ∧ ∀ j, E.V j → W.heap.size ≤ j ∧ ¬ Z j
  rg : PRg L R
  ln : L.length ≤ 12 ∧ n + 3 + L.length ≤ N
  adv : Adv Nul W Nul w
  zb : ∀ j, Z j → j < w.heap.size
def KpZ (Z : Nat → Prop) (w w' : World) : Prop := ∀ z, Z z → w'.heap[z]? = w.heap[z]?
structure PutA where
  L : List Slt
  R : RgS
  e : Int
def putA15 (L : List Slt) (R : RgS) (x : Slt) : PutA :=
  if okT x then
    if (plF L R (bkT x)).e = 0 then ⟨L.set (plF L R (bkT x)).i.toNat x, useR (plF L R (bkT x)).R (plF L R (bkT x)).i.toNat x.d, 0⟩
    else ⟨L, R, 8⟩
  else ⟨L, R, 2⟩
section
variable {W w w' : World} {Z : Nat → Prop} {d c n N k num : Nat} {L : List Slt} {R : RgS}
set_option maxRecDepth 3000 in
theorem Gd.step {F' : Nat → Prop} (h : Gd W w Z d c n N k L R num) (ha : Adv Nul w F' w') : Gd W w' Z d c n N k L R num := by
  obtain ⟨E, rest, h1, h2⟩ := h.ex
  exact ⟨⟨E, rest, h1.step ha, h2⟩, h.rg, h.ln, h.adv.trans ha.nul, fun j hj => Nat.lt_of_lt_of_le (h.zb j hj) ha.size⟩
set_option maxRecDepth 3000 in
theorem Gd.up (h : Gd W w Z d c n N k L R num) {j : Nat} (hj : k ≤ j) : Gd W w Z d c n N j L R num := by
  obtain ⟨E, rest, h1, h2, h3⟩ := h.ex
  exact ⟨⟨E, rest, h1, h2.up hj, h3⟩, h.rg, h.ln, h.adv, h.zb⟩
set_option maxRecDepth 3000 in
/-- more blocks that are none of its own -/
theorem Gd.more {F' : Nat → Prop} (h : Gd W w Z d c n N k L R num) (ha : Adv Nul w F' w') (Y : Nat → Prop) (hY : ∀ j, Y j → w.heap.size ≤ j ∧ j < w'.heap.size) : Gd W w' (fun j => Z j ∨ Y j) d c n N k L R num := by
  obtain ⟨E, rest, h1, h2, h3, h4, h5⟩ := h.ex
  refine ⟨⟨E, rest, h1.step ha, h2, h3, h4, fun j hj => ⟨(h5 j hj).1, fun y => ?_⟩⟩, h.rg, h.ln, h.adv.trans ha.nul, fun j hj => ?_⟩
  · rcases y with y | y
    · exact (h5 j hj).2 y
    · have := h1.bd j hj; have := (hY j y).1; omega
  · rcases hj with y | y
    · exact Nat.lt_of_lt_of_le (h.zb j y) ha.size
    · exact (hY j y).2
set_option maxRecDepth 3000 in
theorem Gd.less {Y : Nat → Prop} (h : Gd W w Z d c n N k L R num) (hY : ∀ j, Y j → Z j) : Gd W w Y d c n N k L R num := by
  obtain ⟨E, rest, h1, h2, h3, h4, h5⟩ := h.ex
  exact ⟨⟨E, rest, h1, h2, h3, h4, fun j hj => ⟨(h5 j hj).1, fun y => (h5 j hj).2 (hY j y)⟩⟩, h.rg, h.ln, h.adv, fun j hj => h.zb j (hY j hj)⟩
set_option maxRecDepth 3000 in
theorem Gd.of (h : Gd W w Z d c n N k L R num) {E E' : PE} {rest : List (List Nat)} {k' : Nat} {L' : List Slt} {R' : RgS} {num' : Nat} (h5 : ∀ j, E.V j → W.heap.size ≤ j ∧ ¬ Z j) (hp : Pk w' E') (ha : Adv E.V w E'.V w') (hl : Lc E'.s E'.g n N k' (HL num' L' rest)) (h3 : E'.c = c ∧ E'.d = d ∧ E'.n = n ∧ E'.N = N) (h4 : E'.L = L' ∧ E'.R = R' ∧ E'.num = num') (hr : PRg L' R') (hn : L'.length = L.length) :
    Gd W w' Z d c n N k' L' R' num' ∧ KpZ Z w w' := by
  have hin : ∀ j, E'.V j → W.heap.size ≤ j ∧ ¬ Z j := fun j hj => by
    rcases ha.into j hj with y | y
    · exact h5 j y
    · exact ⟨Nat.le_trans h.adv.size y, fun q => by have := h.zb j q; omega⟩
  refine ⟨⟨⟨E', rest, hp, hl, h3, h4, hin⟩, hr, by rw [hn]; exact h.ln, ?_, fun j hj => Nat.lt_of_lt_of_le (h.zb j hj) ha.size⟩, fun z hz => ha.block z (h.zb z hz) (fun y => (h5 z y).2 hz)⟩
  exact ⟨ha.os.trans h.adv.os, ha.tape.trans h.adv.tape, ha.output.trans h.adv.output, Nat.le_trans h.adv.size ha.size, fun j hj _ => (ha.block j (Nat.lt_of_lt_of_le hj h.adv.size) (fun y => by have := (h5 j y).1; omega)).trans (h.adv.block j hj (fun y => y)), fun _ y => y.elim⟩
set_option maxRecDepth 3000 in
theorem putA15_len (L : List Slt) (R : RgS) (x : Slt) : (putA15 L R x).L.length = L.length := by
  unfold putA15
  (repeat' split) <;> simp
set_option maxRecDepth 3000 in
theorem putA15_rg (h : PRg L R) (x : Slt) : PRg (putA15 L R x).L (putA15 L R x).R := by
  unfold putA15
  by_cases hk : okT x
  · rw [if_pos hk]
    by_cases he : (plF L R (bkT x)).e = 0
    · obtain ⟨i, hi, hl, hr, _⟩ := plF_yes h hk he
      rw [if_pos he, hi, Int.toNat_natCast]
      exact hr.use hl hk.1
    · rw [if_neg he]; exact h
  · rw [if_neg hk]; exact h
set_option maxRecDepth 3000 in
theorem Gd.put (h : Gd W w Z d c n N k L R num) (hk : k ≤ 130) {x : Slt} (hx : WfT x) :
    Calls Tryz.prog 34 #[.pointer (some ⟨c, 0, none⟩), .agg (tc x)] w fun e w' => e = .returned (.int .i64 (putA15 L R x).e) ∧ Gd W w' Z d c n N (k + 2) (putA15 L R x).L (putA15 L R x).R num ∧ KpZ Z w w' := by
  obtain ⟨E, rest, h1, h2, ⟨rfl, rfl, rfl, rfl⟩, ⟨rfl, rfl, rfl⟩, h5⟩ := h.ex
  refine (put_p h1 h.rg (h2.wok (by omega)) hx).mono ?_
  rintro e w' ⟨rfl, F', p, a⟩
  have hrg := putA15_rg h.rg x
  have hlen := putA15_len E.L E.R x
  have he : (putE E x).e = (putA15 E.L E.R x).e ∧ (putE E x).L = (putA15 E.L E.R x).L ∧ (putE E x).R = (putA15 E.L E.R x).R ∧ Lc (putE E x).s (putE E x).g E.n E.N (k + 2) (HL E.num (putA15 E.L E.R x).L rest) := by
    unfold putE putA15
    by_cases hok : okT x
    · rw [if_pos hok, if_pos hok]
      by_cases h0 : (plF E.L E.R (bkT x)).e = 0
      · obtain ⟨i, hi, hl, hr, _⟩ := plF_yes h.rg hok h0
        rw [if_pos h0, if_pos h0, hi, Int.toNat_natCast]
        have hlt := hl.lt
        have hln := h.ln
        obtain ⟨w1, w2⟩ := h2.wrt hk (ps := putsT [(i, x)]) (fun _ => puts_ok (by simp) (by show 1 ≤ 14; omega) (by simp) (fun p hp => by rw [List.mem_singleton.1 hp]; show 1 + i < _; omega))
        rw [if_pos w1]
        refine ⟨rfl, rfl, rfl, ?_⟩
        rw [HL_puts E.num rest [(i, x)] E.L (fun p hp => by rw [List.mem_singleton.1 hp]; exact hlt)] at w2
        exact w2
      · obtain ⟨e8, eR, _⟩ := plF_full h.rg h0
        rw [if_neg h0, if_neg h0]
        exact ⟨e8, rfl, eR, h2.up (by omega)⟩
    · rw [if_neg hok, if_neg hok]
      exact ⟨rfl, rfl, rfl, h2.up (by omega)⟩
  obtain ⟨e1, e2, e3, e4⟩ := he
  rw [e1]
  exact ⟨rfl, h.of h5 p a e4 ⟨rfl, rfl, rfl, rfl⟩ ⟨e2, e3, rfl⟩ hrg hlen⟩
set_option maxRecDepth 3000 in
theorem Gd.get (h : Gd W w Z d c n N k L R num) {b : Bk} (hb : WfB b) :
    Calls Tryz.prog 12 #[.pointer (some ⟨c, 0, none⟩), .agg (bkc b)] w fun e w' => e = .returned (.tuple #[.agg (tc (((atL L b).map (fun i => L.getD i zeroT)).getD zeroT)), .bool (atL L b).isSome]) ∧ Gd W w' Z d c n N k L (((atL L b).map (fun i => doS 2 R i)).getD R) num ∧ KpZ Z w w' := by
  obtain ⟨E, rest, h1, h2, ⟨rfl, rfl, rfl, rfl⟩, ⟨rfl, rfl, rfl⟩, h5⟩ := h.ex
  refine (get_p h1 hb).mono ?_
  rintro e w' ⟨rfl, p, a⟩
  refine ⟨rfl, h.of h5 p a h2 ⟨rfl, rfl, rfl, rfl⟩ ⟨rfl, rfl, rfl⟩ ?_ rfl⟩
  cases hat : atL E.L b with
  | none => exact h.rg
  | some i => exact h.rg.touch (atL_lt hat)
set_option maxRecDepth 3000 in
theorem Gd.setnumber (h : Gd W w Z d c n N k L R num) (hk : k ≤ 130) {x : Nat} (hx : x < 18446744073709551616) :
    Calls Tryz.prog 38 #[.pointer (some ⟨c, 0, none⟩), .int .u64 (x : Int)] w fun e w' => e = .returned (.int .i64 (if x ≤ 1099511627775 then 0 else 2)) ∧ Gd W w' Z d c n N (k + 2) L R (if x ≤ 1099511627775 then x else num) ∧ KpZ Z w w' := by
  obtain ⟨E, rest, h1, h2, ⟨rfl, rfl, rfl, rfl⟩, ⟨rfl, rfl, rfl⟩, h5⟩ := h.ex
  refine (setnumber_p h1 (h2.wok (by omega)) hx).mono ?_
  rintro e w' ⟨rfl, F', p, a⟩
  have hln := h.ln
  have he : (snE E x).e = (if x ≤ 1099511627775 then 0 else 2) ∧ (snE E x).num = (if x ≤ 1099511627775 then x else E.num) ∧ Lc (snE E x).s (snE E x).g E.n E.N (k + 2) (HL (if x ≤ 1099511627775 then x else E.num) E.L rest) := by
    unfold snE
    by_cases hm : x ≤ 1099511627775
    · rw [if_pos hm, if_pos hm, if_pos hm]
      obtain ⟨w1, w2⟩ := h2.wrt hk (ps := [⟨0, numS x⟩]) (fun _ => num_ok (by omega))
      rw [if_pos w1]
      obtain ⟨s1, s2⟩ := w2.sync
      rw [if_pos s1]
      exact ⟨rfl, rfl, s2⟩
    · rw [if_neg hm, if_neg hm, if_neg hm]
      exact ⟨rfl, rfl, h2.up (by omega)⟩
  obtain ⟨e1, e2, e3⟩ := he
  rw [e1]
  exact ⟨rfl, h.of h5 p a e3 ⟨rfl, rfl, rfl, rfl⟩ ⟨rfl, rfl, e2⟩ h.rg rfl⟩
set_option maxRecDepth 3000 in
theorem Gd.number (h : Gd W w Z d c n N k L R num) : Calls Tryz.prog 40 #[.pointer (some ⟨c, 0, none⟩)] w fun e w' => e = .returned (.int .u64 (num : Int)) ∧ w = w' := by
  obtain ⟨E, rest, h1, h2, ⟨rfl, rfl, rfl, rfl⟩, ⟨rfl, rfl, rfl⟩, h5⟩ := h.ex
  exact number_p h1
set_option maxRecDepth 3000 in
theorem Gd.all (h : Gd W w Z d c n N k L R num) : Calls Tryz.prog 30 #[.pointer (some ⟨c, 0, none⟩)] w (LisR w (allL L (fun _ => true))) := by
  obtain ⟨E, rest, h1, h2, ⟨rfl, rfl, rfl, rfl⟩, ⟨rfl, rfl, rfl⟩, h5⟩ := h.ex
  exact all_p h1 h.ln.1
set_option maxRecDepth 3000 in
theorem Gd.dirty (h : Gd W w Z d c n N k L R num) : Calls Tryz.prog 29 #[.pointer (some ⟨c, 0, none⟩)] w (LisR w (allL L (fun x => x.d))) := by
  obtain ⟨E, rest, h1, h2, ⟨rfl, rfl, rfl, rfl⟩, ⟨rfl, rfl, rfl⟩, h5⟩ := h.ex
  exact dirty_p h1 h.ln.1
end
set_option maxRecDepth 3000 in
/-- opened on a fresh disk -/
theorem Gd.new {W w : World} {F : Nat → Prop} {d n N m : Nat} (h : Dk w F d N (newS N)) (hF : ∀ j, F j → W.heap.size ≤ j) (haw : Adv Nul W Nul w) (hn : 20 ≤ n ∧ n + 3 + m ≤ N ∧ N ≤ 1100) (hm : 1 ≤ m ∧ m ≤ 12) (ht : Tz w) (h0 : 0 < W.heap.size) :
    Calls Tryz.prog 10 #[.pointer (some ⟨d, 0, none⟩), .int .i64 (n : Int), .int .i64 (m : Int)] w fun e w' => ∃ c, e = .returned (.tuple #[.pointer (some ⟨c, 0, none⟩), .int .i64 0]) ∧ Gd W w' Nul d c n N 0 (List.replicate m zeroT) (ldR (List.replicate m zeroT) m) 0 := by
  have hl : (List.replicate m zeroT).length = m := List.length_replicate
  have hnew := Lc.new (n := n) (N := N) (m := m) hn
  obtain ⟨V, txs, ar⟩ := hnew.ar
  have hw : WL (List.replicate m zeroT) := (PRg.new hm.1 (by omega)).wl
  have := open_good (L := List.replicate m zeroT) (num := 0) (rest := List.replicate (N - 3 - n - m) nou) h ar.sb_ hn.1 (by rw [hl]; omega) (by rw [hl]; omega) hn.2.2 (by have := ar.top hnew.nn; omega) hw (by omega) hnew.hm ht (fun x => by have := hF 0 x; omega)
  rw [hl] at this
  refine this.mono ?_
  rintro e w' ⟨E, o⟩
  have hrg := o.rg
  rw [o.eL, o.eR, hl] at hrg
  refine ⟨E.c, o.e, ⟨⟨E, List.replicate (N - 3 - n - m) nou, o.pk, ?_, ⟨rfl, o.ed, o.en, o.eN⟩, ⟨o.eL, by rw [o.eR, hl], o.eN2⟩, fun j hj => ?_⟩, hrg, by rw [hl]; omega, ?_, fun j hj => hj.elim⟩⟩
  · rw [o.es, o.eg]; exact hnew
  · rcases o.adv.into j hj with x | x
    · exact ⟨hF j x, fun y => y⟩
    · exact ⟨Nat.le_trans haw.size x, fun y => y⟩
  · have a := o.adv
    exact ⟨a.os.trans haw.os, a.tape.trans haw.tape, a.output.trans haw.output, Nat.le_trans haw.size a.size, fun j hj _ => (a.block j (Nat.lt_of_lt_of_le hj haw.size) (fun y => by have := hF j y; omega)).trans (haw.block j hj (fun y => y)), fun _ y => y.elim⟩
end Go.Proofs.YtcglfknkkeaegaaGreatDoor
namespace Go.Proofs.YtcglfknkkeaegaaGreatDoor
open Go.ChangeShapes Go.WideShapes Go.ChangeAt Go.RowKit Go.Maps
set_option maxRecDepth 3000 in
theorem infoBk : (Tryz.prog.info? 37).map (fun i => (i.zero, i.size, i.bytes)) = some (some (.agg #[.int .i64 0, .int .i64 0, .int .i64 0]), 3, 24) := by kernel_rfl
set_option maxRecDepth 3000 in
theorem one_bk (b : Bk) : (bkc b).all (·.oneCell') = true := by simp [bkc, Value.oneCell']
set_option maxRecDepth 3000 in
theorem mine15_any (x : Slt) (w : World) : Calls Tryz.prog 14 #[.agg (tc x)] w fun e w' => e = .returned (.agg (tc x)) ∧ Adv Nul w Nul w' := by
  obtain ⟨u, i, g, a, v, d, s⟩ := x
  simp only [tc]
  go_enter Tryz.func14, Tryz.ntmps14
  go_wp2_with fail
  exact bodyPost_ret (v := .agg #[.bool u, .int .i64 i, .int .i64 g, .int .i64 a, .int .u64 (v : Int), .bool d, .string s]) (by simp [results, Tryz.results14, go_sem]) rfl ⟨rfl, ((Adv.refl _ _).alloc _).alloc _⟩
def xL : Slt := ⟨true, 2, 1, 1, 0, false, ⟨#[120]⟩⟩
set_option maxRecDepth 3000 in
theorem xL_ok : okT xL := by decide
set_option maxRecDepth 3000 in
theorem xL_wf : WfT xL := ⟨by decide, by decide, by decide, by decide, by decide⟩
def L2 : List Slt := [zeroT, zeroT]
def R2 : RgS := ldR (List.replicate 2 zeroT) 2
set_option maxRecDepth 3000 in
theorem L2_rg : PRg L2 R2 := by
  have := ld_prg (L := List.replicate 2 zeroT) (PRg.new (by decide) (by decide)).wl (by decide) (by decide) 2 (by decide)
  exact this
set_option maxRecDepth 3000 in
/-- what is kept behind the one call -/
theorem put_l : ∃ (i : Nat) (R : RgS), i < 2 ∧ putA15 L2 R2 xL = ⟨L2.set i xL, R, 0⟩ := by
  have he : (plF L2 R2 (bkT xL)).e = 0 := by
    by_cases h : (plF L2 R2 (bkT xL)).e = 0
    · exact h
    · have := (plF_full L2_rg h).2.2 0 (by decide)
      exact absurd this (by decide)
  obtain ⟨i, hi, hl, _⟩ := plF_yes L2_rg xL_ok he
  refine ⟨i, useR (plF L2 R2 (bkT xL)).R i xL.d, hl.lt, ?_⟩
  unfold putA15
  rw [if_pos xL_ok, if_pos he, hi, Int.toNat_natCast]
set_option maxRecDepth 3000 in
theorem set_l {i : Nat} (hi : i < 2) : atL (L2.set i xL) (bkT xL) = some i ∧ (L2.set i xL).getD i zeroT = xL ∧ allL (L2.set i xL) (fun _ => true) = [xL] := by
  match i, hi with
  | 0, _ => exact ⟨by decide, rfl, by decide⟩
  | 1, _ => exact ⟨by decide, rfl, by decide⟩
def LivR (w : World) (e : Ending) (w' : World) : Prop := e = .returned (.bool true) ∧ Adv Nul w Nul w'
set_option maxRecDepth 3000 in
set_option maxHeartbeats 6400000 in
theorem lives15_any (w : World) (ht : Tz w) : Calls Tryz.prog 23 #[] w (LivR w) := by
  have HNEW := Lib.hid (show Calls Tryz.prog 9 #[.int .i64 30] w fun e w' => ∃ d F, e = .returned (.tuple #[.pointer (some ⟨d, 0, none⟩), .int .i64 0]) ∧ Dk w' F d 30 (newS 30) ∧ Adv Nul w F w' from new_r 30 (by decide) (by decide) w)
  have HOP := Lib.hid (fun w1 d F (hd : Dk w1 F d 30 (newS 30)) (ha : Adv Nul w F w1) => show Calls Tryz.prog 10 #[.pointer (some ⟨d, 0, none⟩), .int .i64 20, .int .i64 2] w1 fun e w' => ∃ c, e = .returned (.tuple #[.pointer (some ⟨c, 0, none⟩), .int .i64 0]) ∧ Gd w w' Nul d c 20 30 0 L2 R2 0 from Gd.new (W := w) (n := 20) (m := 2) hd (fun j hj => by rcases ha.into j hj with x | x; exact x.elim; exact x) ha.nul (by decide) (by decide) (ht.far (adv_wk (G := Nul) ha) (fun x => x)) ht.lt)
  obtain ⟨i, R, hi, hput⟩ := put_l
  have HPU := Lib.hid (fun w1 Z d c (g : Gd w w1 Z d c 20 30 0 L2 R2 0) => g.put (by decide) xL_wf)
  rw [hput] at HPU
  obtain ⟨s1, s2, s3⟩ := set_l hi
  obtain ⟨LL, hLL⟩ : ∃ LL, LL = L2.set i xL := ⟨_, rfl⟩
  rw [← hLL] at HPU s1 s2 s3
  simp only at HPU
  have HSN := Lib.hid (fun w1 Z d c (g : Gd w w1 Z d c 20 30 2 LL R 0) => show Calls Tryz.prog 38 #[.pointer (some ⟨c, 0, none⟩), .int .u64 5] w1 fun e w' => e = .returned (.int .i64 0) ∧ Gd w w' Z d c 20 30 4 LL R 5 ∧ KpZ Z w1 w' from g.setnumber (x := 5) (by decide) (by decide))
  have HGE := Lib.hid (fun w1 Z d c (g : Gd w w1 Z d c 20 30 4 LL R 5) => g.get xL_wf.b)
  rw [s1] at HGE
  simp only [Option.map_some, Option.getD_some, s2, Option.isSome_some] at HGE
  obtain ⟨R3, hR3⟩ : ∃ R3, R3 = doS 2 R i := ⟨_, rfl⟩
  rw [← hR3] at HGE
  have HNU := Lib.hid (fun w1 Z d c (g : Gd w w1 Z d c 20 30 4 LL R3 5) => show Calls Tryz.prog 40 #[.pointer (some ⟨c, 0, none⟩)] w1 fun e w' => e = .returned (.int .u64 5) ∧ w1 = w' from g.number)
  have HAL := Lib.hid (fun w1 Z d c (g : Gd w w1 Z d c 20 30 4 LL R3 5) => g.all)
  rw [s3] at HAL
  unfold LisR at HAL
  simp only [List.length_cons, List.length_nil] at HAL
  clear hput s1 s2 s3 hLL hR3 hi ht
  have HX := Lib.hid (show #[.bool true, .int .i64 2, .int .i64 1, .int .i64 1, .int .u64 0, .bool false, .string ⟨#[120]⟩] = tc xL from rfl)
  go_enter Tryz.func23, Tryz.ntmps23
  go_wp2_with (first
    | (go_at_call 9; refine HNEW.out.mono ?_; rintro e w1 ⟨d, F, rfl, hd, ha⟩; have HD1 := Lib.hid hd; have HA1 := Lib.hid ha; clear hd ha)
    | (go_at_call 10; refine (HOP.out _ d F HD1.out HA1.out).mono ?_; rintro e w2 ⟨c, rfl, g2⟩; have HG2 := Lib.hid (show Gd w w2 Nul d c 20 30 0 L2 R2 0 from g2); clear g2)
    | (refine kop_alloc rfl rfl infoBk ?_; intro u w3 hz hb ha; have HU := Lib.hid hz; have HUB := Lib.hid hb; have HA3 := Lib.hid ha; clear hz hb ha)
    | (refine kop_store rfl _ _ rfl u HUB.out rfl rfl sizeBk rfl rfl (one_bk ⟨2, 1, 1⟩) ?_; intro w4 hb ha; have HB4 := Lib.hid hb; have HG4 := Lib.hid (HG2.out.more (HA3.out.fresh HU.out ha) (One u) (fun j hj => by rw [show j = u from hj]; exact ⟨HU.out, hb.lt⟩)); clear hb ha)
    | (refine kpw_guard rfl ?_; refine kop_load rfl _ rfl u HB4.out rfl Tryz.underlying37 rfl sizeBk rfl ?_)
    | (go_at_call 34; rw [HX.out]; refine (HPU.out _ _ d c HG4.out).mono ?_; rintro e w5 ⟨rfl, g5, k5⟩; have HG5 := Lib.hid g5; have HB5 := Lib.hid (HB4.out.keep (k5 u (.inr rfl))); clear g5 k5)
    | (go_at_call 38; refine (HSN.out _ _ d c HG5.out).mono ?_; rintro e w6 ⟨rfl, g6, k6⟩; have HG6 := Lib.hid g6; have HB6 := Lib.hid (HB5.out.keep (k6 u (.inr rfl))); clear g6 k6)
    | (refine kop_load rfl _ rfl u HB6.out rfl Tryz.underlying37 rfl sizeBk rfl ?_)
    | (go_at_call 12; refine (HGE.out _ _ d c HG6.out).mono ?_; rintro e w7 ⟨rfl, g7, k7⟩; have HG7 := Lib.hid g7; clear g7 k7)
    | (refine kop_alloc rfl rfl infoT ?_; intro y w8 hz hb ha; have HY8 := Lib.hid hz; have HYB := Lib.hid hb; have HA8 := Lib.hid ha; clear hz hb ha)
    | (refine kop_store rfl _ _ rfl y HYB.out rfl rfl sizeT (tc_size _) (tc_size _) (tc_one _) ?_; intro w9 hb ha; have c64 : w9.cell? ⟨y, 6, none⟩ = some (.string ⟨#[120]⟩) := hb.cell 6; have HG9 := Lib.hid (HG7.out.step (HA8.out.fresh HY8.out ha)); clear hb ha)
    | (go_at_call 40; refine (HNU.out _ _ d c HG9.out).mono ?_; rintro e w10 ⟨rfl, rfl⟩)
    | (go_at_call 30; refine (HAL.out _ _ d c HG9.out).mono ?_; rintro e w11 ⟨v, F1, rfl, s11, a11⟩; obtain ⟨A11, c11, rfl⟩ := s11.len_le; have HG11 := Lib.hid (HG9.out.step a11); clear s11 a11)
    | fail)
  go_ret
  exact ⟨rfl, HG11.out.adv⟩
end Go.Proofs.YtcglfknkkeaegaaGreatDoor
