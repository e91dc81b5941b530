/- The statements' lists of calls, and few. -/
import Derived.Test.YtplibkdnfjofdaaR01
import Derived.Test.YtplibkdnfjofdaaShort
namespace Go.Proofs.Ytplibkdnfjofdaa
open Go.RowKit

structure Do where
  kind : Int
  x : Nat
  n : Int
  s : ByteArray

def Do.cells (d : Do) : List Value := [.int .i64 d.kind, .int .u64 (d.x : Int), .int .i64 d.n, .string d.s]
def cellsOf (l : List Do) : List Value := l.flatMap Do.cells

theorem cellsOf_length (l : List Do) : (cellsOf l).length = l.length * 4 := by
  induction l with
  | nil => rfl
  | cons d l ih => simp [cellsOf, List.flatMap_cons, Do.cells] at ih ⊢; omega
theorem cellsOf_append (l m : List Do) : cellsOf (l ++ m) = cellsOf l ++ cellsOf m := by simp [cellsOf]
theorem cellsOf_at (l : List Do) (k j : Nat) (hj : j < 4) (hk : k < l.length) : (cellsOf l)[k * 4 + j]? = (l[k].cells)[j]? := by
  induction l generalizing k with
  | nil => simp at hk
  | cons d l ih =>
    cases k with
    | zero =>
      simp only [cellsOf, List.flatMap_cons, Nat.zero_mul, Nat.zero_add, List.getElem_cons_zero]
      rw [List.getElem?_append_left (by simpa [Do.cells] using hj)]
    | succ k =>
      have h := ih k (by simpa using hk)
      simp only [cellsOf, List.flatMap_cons, List.getElem_cons_succ] at h ⊢
      rw [List.getElem?_append_right (by simp [Do.cells]; omega), ← h]
      congr 1
      simp [Do.cells]; omega

theorem Try.infoDo : (Try.prog.info? 34).map (fun i => (i.zero, i.size, i.bytes)) = some (some (.agg #[.int .i64 0, .int .u64 0, .int .i64 0, .string ⟨#[]⟩]), 4, 40) := by kernel_rfl

def shortS (s : ByteArray) : ByteArray := if 40 < s.size then s.extract 0 40 else s
theorem shortS_size (s : ByteArray) : (shortS s).size ≤ 40 := by
  unfold shortS
  split
  · simp only [ByteArray.size_extract]; omega
  · omega
def Do.short (d : Do) : Do := { d with s := shortS d.s }
def fewOf (ds : List Do) : List Do := (ds.map Do.short).take 40

theorem short_few (s : ByteArray) (w : World) (hs : s.size ≤ maxLen) :
    Calls Try.prog 19 #[.string s, .int .i64 40] w fun e w' => e = .returned (.string (shortS s)) ∧ w = w' := short_any s 40 w (by decide) hs

theorem do_one (d : Do) : ∀ u ∈ d.cells, u.oneCell' = true := by
  intro u hu
  simp only [Do.cells, List.mem_cons, List.not_mem_nil, or_false] at hu
  rcases hu with rfl | rfl | rfl | rfl <;> rfl

def FewRel (w : World) (ds : List Do) (t5 t6 : Value) (wr : World) : Prop :=
  ∃ j F, t6 = .int .i64 ((j : Nat) : Int) ∧ j ≤ ds.length ∧ j ≤ 40 ∧ Sl wr F 34 4 t5 j (cellsOf ((ds.map Do.short).take j)) ∧ Adv Nul w F wr

theorem few_step {w wr w1 : World} {F : Nat → Prop} {ds : List Do} {v v' : Value} {j m : Nat} {o1 o2 : Obj} (hj : j < ds.length) (hj40 : j < 40) (hS : Sl wr F 34 4 v j (cellsOf ((ds.map Do.short).take j))) (ha : Adv Nul w F wr)
    (hown : w1.ownsRow 0 34 4 v' (j + 1) (cellsOf ((ds.map Do.short).take j) ++ (ds[j].short).cells)) (hg : ((wr.alloc o1).alloc o2).grownBy w1 v.ownBlock) (hat : v'.ownBlock = v.ownBlock ∨ v'.ownBlock = some m) (hm : wr.heap.size ≤ m) :
    FewRel w ds v' (.int .i64 ((j : Int) + 1)) w1 := by
  have hF' : ∀ k, (F k ∨ v'.ownBlock = some k) → F k ∨ wr.heap.size ≤ k := by
    rintro k (h | h)
    · exact .inl h
    · rcases hat with e | e
      · exact .inl (hS.inF k (by rw [← e]; exact h))
      · rw [e] at h; injection h with h; right; omega
  have hA : Adv F wr (fun k => F k ∨ v'.ownBlock = some k) w1 := by
    have h1 := (((Adv.refl F wr).alloc o1).alloc o2).grown hg (fun k hk => .inl (hS.inF k hk))
    exact ⟨h1.os, h1.tape, h1.output, h1.size, h1.block, hF'⟩
  refine ⟨j + 1, (fun k => F k ∨ v'.ownBlock = some k), by simp, by omega, by omega, ⟨?_, fun k hk => .inr hk, ?_⟩, ha.trans hA⟩
  · rw [show (ds.map Do.short).take (j + 1) = (ds.map Do.short).take j ++ [ds[j].short] from by rw [List.take_succ_eq_append_getElem (by simpa using hj)]; simp, cellsOf_append]
    simpa [cellsOf] using hown
  · rintro k (h | h)
    · exact Nat.lt_of_lt_of_le (hS.bd k h) hA.size
    · exact (hown.lt k h).2

/-- What is known of a list of calls that came in. -/
def DosIn (w : World) (v : Value) (ds : List Do) : Prop := Rd w 4 v ds.length (cellsOf ds) ∧ (∀ d ∈ ds, d.s.size ≤ maxLen)

set_option maxHeartbeats 1000000 in
theorem few_any (v : Value) (ds : List Do) (w : World) (hd : DosIn w v ds) :
    Calls Try.prog 5 #[v, .int .i64 40] w fun e w' => ∃ v' F, e = .returned v' ∧ Sl w' F 34 4 v' (fewOf ds).length (cellsOf (fewOf ds)) ∧ Adv Nul w F w' := by
  obtain ⟨hr, hs⟩ := hd
  obtain ⟨A, c, rfl, hnc, hcm⟩ := hr.form
  unfold maxLen at hcm
  obtain ⟨i0, hi, hz0, hz1, hz2⟩ := info_parts Try.infoDo
  have hfew : (fewOf ds).length = min 40 ds.length := by simp [fewOf]
  obtain ⟨n, hn⟩ : ∃ n, n = ds.length := ⟨_, rfl⟩
  rw [← hn] at hr hnc hfew ⊢
  have HR := Lib.hid hr
  have HN := Lib.hid hn
  have HSZ := Lib.hid hs
  have HFW := Lib.hid hfew
  clear hr hn hs hfew
  go_enter Try.func5, Try.ntmps5
  go_wp2_with fail
  go_loopw [5, 6] (FewRel w ds) (fun _ t _ => n - (intOf t).toNat)
  case atStart => exact ⟨0, Nul, rfl, by omega, by omega, Sl.nil _ _ _, Adv.refl _ _⟩
  case round =>
    obtain ⟨j, F, rfl, hjn, hj4, hS, ha⟩ := hrel
    rw [← HN.out] at hjn
    obtain ⟨a5, c5, rfl, hc5, _⟩ := hS.form0
    have HS := Lib.hid hS
    have HA := Lib.hid ha
    clear hS ha
    have hcase : (j < n ∧ j < 40) ∨ ((j : Int) < n ∧ (40 : Int) ≤ j ∧ j = 40) ∨ ((n : Int) ≤ j ∧ j = n) := by omega
    rcases hcase with ⟨hlt, hj40⟩ | ⟨hlt, hj40, hje⟩ | ⟨hlt, hje⟩
    · obtain ⟨b, o, rfl, hb, hcell⟩ := (HR.out.below HA.out.toBelow (fun _ _ _ h => h)).cells (by omega) (by decide)
      have hjd : j < ds.length := by have := HN.out; omega
      obtain ⟨d, hd⟩ : ∃ d, d = ds[j] := ⟨_, rfl⟩
      have g : ∀ i, i < 4 → ∀ u, d.cells[i]? = some u → wr.cell? ⟨b, o + (j * 4 + i), none⟩ = some u := fun i hi u hu => hcell _ _ (by rw [cellsOf_at ds j i hi hjd, ← hd]; exact hu)
      have g0 : wr.cell? ⟨b, o + j * 4, none⟩ = some (.int .i64 d.kind) := g 0 (by decide) _ rfl
      have g1 : wr.cell? ⟨b, o + j * 4 + 1, none⟩ = some (.int .u64 d.x) := g 1 (by decide) _ rfl
      have g2 : wr.cell? ⟨b, o + j * 4 + 2, none⟩ = some (.int .i64 d.n) := g 2 (by decide) _ rfl
      have g3 : wr.cell? ⟨b, o + j * 4 + 3, none⟩ = some (.string d.s) := g 3 (by decide) _ rfl
      have hdm : d.s.size ≤ maxLen := HSZ.out d (by rw [hd]; exact List.getElem_mem _)
      have HD := Lib.hid hd
      have hown := HS.out.own
      clear g hcell hd
      go_wp2_with (first
        | (go_at_call 19; refine (short_few _ _ hdm).mono ?_; rintro e w1 ⟨rfl, rfl⟩)
        | (at_builtin; refine wpList_append_own_at _ rfl (.tmp 27) (.tmp 29) 23 rfl 0 34 i0 _ 4 40 Try.underlying23 hi hz0 hz1 hz2 rfl (by decide) (.slice a5 j c5) j _ rfl ((hown.alloc _).alloc _) ⟨wr.heap.size + 1, 0, none⟩ 1 1 (d.short).cells rfl rfl ?c1 (do_one _) ?c3 ?c4 (Nat.zero_le _) ?c5)
        | fail)
      case c1 =>
        intro i u hu
        rw [add_none, Nat.zero_add]
        have h := (Blk.new (wr.alloc (.cells #[.int .i64 d.kind, .int .u64 (d.x : Int), .int .i64 d.n, .string (shortS d.s)] 34)) 34 #[.int .i64 d.kind, .int .u64 (d.x : Int), .int .i64 d.n, .string (shortS d.s)]).cell i
        simp only [World.size_alloc] at h
        rw [h]
        simpa [Do.cells, Do.short] using hu
      case c3 => unfold maxLen; omega
      case c4 => omega
      case c5 =>
        intro v' w1 hown1 hg1 _ hat1
        rw [HD.out] at hown1
        go_wp2
        exact ⟨few_step hjd hj40 HS.out HA.out hown1 hg1 hat1 (by omega), by simp [intOf]; omega⟩
    · subst hje
      go_wp2
      go_ret
      have h := HS.out
      have hf := HFW.out
      have hjf : 40 = (fewOf ds).length := by omega
      rw [← hjf]
      exact ⟨_, F, rfl, h, HA.out⟩
    · subst hje
      go_wp2
      go_ret
      have h := HS.out
      have hf := HFW.out
      have he : (ds.map Do.short).take j = fewOf ds := by
        unfold fewOf
        have := HN.out
        rw [List.take_of_length_le (by simp; omega), List.take_of_length_le (by simp; omega)]
      rw [he] at h
      have hjf : j = (fewOf ds).length := by omega
      rw [← hjf]
      exact ⟨_, F, rfl, h, HA.out⟩
end Go.Proofs.Ytplibkdnfjofdaa
