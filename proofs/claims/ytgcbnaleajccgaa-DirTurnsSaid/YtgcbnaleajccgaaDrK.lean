/- The program's parts: the entries that stand in a block. -/
import Derived.Test.YtgcbnaleajccgaaDrJ
namespace Go.Proofs.Ytgcbnaleajccgaa
open Go.ChangeShapes Go.WideShapes Go.ChangeAt Go.RowKit

theorem Adv.newF {W w w' : World} {F F' : Nat → Prop} (h : Adv Nul W Nul w) (ha : Adv F w F' w') (fn : ∀ q, F q → W.heap.size ≤ q) : Adv Nul W Nul w' :=
  ⟨ha.os.trans h.os, ha.tape.trans h.tape, ha.output.trans h.output, Nat.le_trans h.size ha.size, fun k hk _ => (ha.block k (Nat.lt_of_lt_of_le hk h.size) (fun hf => absurd (fn k hf) (by omega))).trans (h.block k hk (fun x => x)), fun k hk => hk.elim⟩
/-- between two entries that are read -/
structure PaS (W : World) (b V j : Nat) (F : Nat → Prop) (l : List En) (v : Value) (w : World) : Prop where
  rs : RSt w F b 128 V (172 * j)
  bd : Bd F w
  ex : ∃ F2, Sl w F2 46 4 v l.length (ecs l) ∧ Sep F F2 ∧ ∀ q, F2 q → W.heap.size ≤ q
  ad : Adv Nul W Nul w
  fn : ∀ q, F q → W.heap.size ≤ q
section
variable {W w w' : World} {b V j : Nat} {F : Nat → Prop} {l : List En} {v : Value}
theorem PaS.alloc (h : PaS W b V j F l v w) (o : Obj) : PaS W b V j F l v (w.alloc o) := by
  obtain ⟨F2, h1, h2, h3⟩ := h.ex
  exact ⟨h.rs.alloc h.bd o, fun q hq => Nat.lt_of_lt_of_le (h.bd q hq) (by simp), ⟨F2, h1.far (F' := Nul) ((Adv.refl Nul w).alloc o) (fun _ x _ => x), h2, h3⟩, h.ad.alloc o, h.fn⟩
theorem PaS.form (h : PaS W b V j F l v w) : ∃ A c, v = .slice A l.length c := by
  obtain ⟨F2, h1, _⟩ := h.ex
  obtain ⟨A, c, e, _⟩ := h1.form0
  exact ⟨A, c, e⟩
theorem PaS.read (h : PaS W b V j F l v w) (hr : RSt w' F b 128 V (172 * (j + 1))) (ha : Adv F w F w') (hb : Bd F w') : PaS W b V (j + 1) F l v w' := by
  obtain ⟨F2, h1, h2, h3⟩ := h.ex
  exact ⟨hr, hb, ⟨F2, h1.far ha h2, h2, h3⟩, h.ad.newF ha h.fn, h.fn⟩
theorem PaS.own (h : PaS W b V j F l v w) : w.ownsRow 0 46 4 v l.length (ecs l) := by
  obtain ⟨F2, h1, _⟩ := h.ex
  exact h1.own
theorem PaS.push {e : En} {v' : Value} (h : PaS W b V j F l v w) (hown : w'.ownsRow 0 46 4 v' (l.length + 1) (ecs l ++ ec e)) (hg : w.grownBy w' v.ownBlock) (hat : v'.ownBlock = v.ownBlock ∨ v'.ownBlock = some w.heap.size) : PaS W b V j F (l ++ [e]) v' w' := by
  obtain ⟨F2, h1, h2, h3⟩ := h.ex
  have hF' : ∀ q, (F2 q ∨ v'.ownBlock = some q) → F2 q ∨ w.heap.size ≤ q := by
    rintro q (h | h)
    · exact .inl h
    · rcases hat with e | e
      · exact .inl (h1.inF q (by rw [← e]; exact h))
      · rw [e] at h; injection h with h; right; omega
  have hA : Adv F2 w (fun q => F2 q ∨ v'.ownBlock = some q) w' := by
    have h5 := (Adv.refl F2 w).grown hg (fun q hq => .inl (h1.inF q hq))
    exact ⟨h5.os, h5.tape, h5.output, h5.size, h5.block, hF'⟩
  have hsep : Sep F (fun q => F2 q ∨ v'.ownBlock = some q) := fun q a c => by
    rcases hF' q c with d | d
    · exact h2 q a d
    · have := h.bd q a; omega
  obtain ⟨rv, hB, hS⟩ := h.rs.ex
  have hb := hA.block b hB.lt (fun f => h2 b h.rs.inF f)
  refine ⟨⟨⟨rv, hB.keep hb, hS.far hA h2.symm⟩, h.rs.inF, h.rs.le, h.rs.sm⟩, hA.bd h.bd, ⟨_, ⟨by rw [List.length_append, ecs_append, ecs_one_eq]; exact hown, fun q hq => .inr hq, ?_⟩, hsep, fun q hq => ?_⟩, h.ad.newF hA h3, h.fn⟩
  · rintro q (c | c)
    · exact Nat.lt_of_lt_of_le (h1.bd q c) hA.size
    · exact (hown.lt q c).2
  · rcases hF' q hq with d | d
    · exact h3 q d
    · exact Nat.le_trans h.ad.size d
end
theorem rd_one2 (w : World) (o : Obj) (e : En) : Rd ((w.alloc o).alloc (.cells (ea e) 46)) 4 (.slice (some ⟨w.heap.size + 1, 0, none⟩) 1 1) 1 (ec e) := by
  have := rd_one (w.alloc o) e
  rwa [World.size_alloc] at this
theorem rdE_size (V k : Nat) : (rdE V k (min (rdN V k) 16)).s.size = min (rdN V k) 16 := by
  show (bytesAt 128 V (172 * k + 44) (min (rdN V k) 16)).toArray.size = _
  rw [List.size_toArray, bytesAt_length]
theorem size0 {s : ByteArray} (h : s.size = 0) : s = ⟨#[]⟩ := by
  apply data_ext
  rw [List.eq_nil_of_length_eq_zero (show s.data.toList.length = 0 from h)]
theorem ne_nil {s : ByteArray} (h : s.size ≠ 0) : (s.toList == []) = false := by
  rw [beq_eq_false_iff_ne, ByteArray.toList_eq]
  intro e
  exact h (by show s.data.size = 0; rw [← Array.length_toList, e]; rfl)
def PaL (W : World) (b V : Nat) (F : Nat → Prop) (t4 t8 : Value) (wr : World) : Prop := ∃ j : Nat, t8 = .int .i64 (j : Int) ∧ j ≤ 5 ∧ PaS W b V j F (ptP V j) t4 wr

set_option maxRecDepth 3000 in
set_option maxHeartbeats 6400000 in
theorem dparts_any (v : Value) (r : List Nat) (w : World) (h : Rd w 1 v 128 (r.map u8)) (hl : r.length = 128) (hb : ∀ x ∈ r, x < 256) :
    Calls Try.prog 28 #[v] w fun x w' => ∃ v', x = .returned v' ∧ EnO w (ptP (byN r) 5) v' w' := by
  obtain ⟨A, c, rfl, _, _⟩ := h.form
  obtain ⟨V, hV⟩ : ∃ V, V = byN r := ⟨_, rfl⟩
  have hopen : Calls Try.prog 48 #[.slice A 128 c] w fun e w' => ∃ b F, e = .returned (.pointer (some ⟨b, 0, none⟩)) ∧ RSt w' F b 128 V 0 ∧ Adv Nul w F w' ∧ Bd F w' := open_any _ 128 V w (by rw [hV, ← hl, be_byN r hb, hl]; exact h) (by decide)
  rw [← hV]
  have HO := Lib.hid hopen
  clear hopen hV hl hb h
  go_enter Try.func28, Try.ntmps28
  go_wp2_with (first
    | (go_at_call 48; refine HO.out.mono ?_; rintro x w1 ⟨b, F, rfl, r1, a1, b1⟩; have HP0 := Lib.hid (show PaS w b V 0 F [] (.slice none 0 0) w1 from ⟨r1, b1, ⟨Nul, Sl.nil _ _ _, fun _ _ x => x, fun _ x => x.elim⟩, a1.sub (fun _ x => x.elim), fun q hq => (a1.into q hq).elim (fun x => x.elim) id⟩); clear r1 a1 b1)
    | fail)
  go_loopw [4, 8] (PaL w b V F) (fun _ t _ => 5 - (intOf t).toNat)
  case atStart => exact ⟨0, rfl, Nat.zero_le _, HP0.out⟩
  case round =>
    obtain ⟨j, rfl, hj, hP⟩ := hrel
    obtain ⟨A4, c4, rfl⟩ := hP.form
    obtain ⟨n, hn⟩ : ∃ n, n = (ptP V j).length := ⟨_, rfl⟩
    rw [← hn] at hP ⊢
    have HP := Lib.hid hP
    clear hP
    by_cases hlt : j < 5
    · have HLT := Lib.hid hlt
      obtain ⟨E, hE⟩ : ∃ E, E = rdE V j (min (rdN V j) 16) := ⟨_, rfl⟩
      have hsz : E.s.size = min (rdN V j) 16 := by rw [hE]; exact rdE_size V j
      have HRD := Lib.hid (show Calls Try.prog 49 #[.pointer (some ⟨b, 0, none⟩)] wr fun x w' => x = .returned (.agg (ea E)) ∧ RSt w' F b 128 V (172 * (j + 1)) ∧ Adv F wr F w' ∧ Bd F w' by rw [hE]; exact dread_any b V j F wr HP.out.rs HP.out.bd hlt)
      have HPT := Lib.hid (ptP_succ V j)
      have HPR := Lib.hid (show prP V j = if rdN V j = 0 then none else some E by rw [hE]; rfl)
      have HN := Lib.hid hn
      have HN5 := Lib.hid (show n ≤ 5 by rw [hn]; exact Nat.le_trans (List.length_filterMap_le _ _) (by rw [List.length_range]; omega))
      clear hE hn
      obtain ⟨s, i, g, kd⟩ := E
      simp only at hsz
      simp only [ea] at HRD
      by_cases h0 : rdN V j = 0
      · obtain rfl := size0 (by rw [hsz, h0]; rfl)
        have HPT0 := Lib.hid (show ptP V (j + 1) = ptP V j by rw [HPT.out, HPR.out, if_pos h0]; simp)
        clear h0 hsz HPT HPR
        go_wp2_with (first
          | (go_at_call 49; refine HRD.out.mono ?_; rintro x w2 ⟨rfl, r2, a2, b2⟩; have HP2 := Lib.hid ((HP.out.read r2 a2 b2).alloc (.cells #[.string ⟨#[]⟩, .int .i64 i, .int .i64 g, .int .i64 kd] 46)); clear r2 a2 b2)
          | fail)
        exact ⟨⟨j + 1, by go_num, HLT.out, by rw [HPT0.out]; exact HP2.out⟩, by have := HLT.out; simp [intOf] <;> omega⟩
      · have hne := ne_nil (s := s) (by rw [hsz]; omega)
        have HPT1 := Lib.hid (show ptP V (j + 1) = ptP V j ++ [⟨s, i, g, kd⟩] by rw [HPT.out, HPR.out, if_neg h0]; rfl)
        clear h0 hsz HPT HPR
        go_wp2_with (first
          | (go_at_call 49; refine HRD.out.mono ?_; rintro x w2 ⟨rfl, r2, a2, b2⟩; have HP2 := Lib.hid (((HP.out.read r2 a2 b2).alloc (.cells #[.string s, .int .i64 i, .int .i64 g, .int .i64 kd] 46)).alloc (.cells #[.string s, .int .i64 i, .int .i64 g, .int .i64 kd] 46)); have hown := HP2.out.own; rw [← HN.out] at hown; have hrd := rd_one2 w2 (.cells #[.string s, .int .i64 i, .int .i64 g, .int .i64 kd] 46) ⟨s, i, g, kd⟩; clear r2 a2 b2)
          | (at_builtin; refine wpList_append_en rfl (.tmp 15) (.tmp 17) rfl rfl rfl hown hrd (ec_one _) (by have := HN5.out; omega) ?c5)
          | fail)
        case c5 =>
          intro v' w5 hown5 hg5 hat5
          have hp := HP2.out.push (e := ⟨s, i, g, kd⟩) (by rw [← HN.out]; exact hown5) hg5 (by simpa using hat5)
          rw [← HPT1.out] at hp
          have HP5 := Lib.hid hp
          obtain ⟨A5, c5, rfl⟩ := hp.form
          clear hp hown5 hg5 hat5 hown hrd
          go_wp2_with fail
          exact ⟨⟨j + 1, by go_num, HLT.out, HP5.out⟩, by have := HLT.out; simp [intOf] <;> omega⟩
    · obtain rfl : j = 5 := by omega
      clear hj hlt
      go_wp2_with fail
      go_ret
      obtain ⟨F2, h1, _, h3⟩ := HP.out.ex
      refine ⟨_, rfl, ⟨F2, h1, ?_⟩, fun e he => ?_⟩
      · have ha := HP.out.ad
        exact ⟨ha.os, ha.tape, ha.output, ha.size, ha.block, fun q hq => .inr (h3 q hq)⟩
      · obtain ⟨k, _, hk⟩ := List.mem_filterMap.1 he
        unfold prP at hk
        split at hk
        · cases hk
        · rw [← Option.some.inj hk, rdE_size]; unfold maxLen; omega
end Go.Proofs.Ytgcbnaleajccgaa
