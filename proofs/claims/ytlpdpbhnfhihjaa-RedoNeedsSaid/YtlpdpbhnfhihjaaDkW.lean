/- The disk: New, Read, Write, Fuse. -/
import Derived.Test.YtlpdpbhnfhihjaaDkO
namespace Go.Proofs.Ytlpdpbhnfhihjaa
open Go.RowKit

theorem step_append_own {w : World} {ops : Array Oper} {o : Oper} {a : Act} {K : Act → World → Prop} {Q : Exit → Act → World → Prop} {E : Prop} (hgd : o.guard = none) (s x : Operand) (t e : TypeId)
    (ho : o.op = .call { callee := .builtin .append, args := #[s, x], argTypes := #[t, t] }) (ht : Try.prog.underlying t = some (.slice e)) {z : Value} {size bytes : Nat} (hi : (Try.prog.info? e).map (fun i => (i.zero, i.size, i.bytes)) = some (some z, size, bytes)) (hzs : z.cells.size = size) (hsz : 0 < size)
    {v : Value} {n : Nat} {xs : List Value} (hs : a.eval s = v) (hown : w.ownsRow 0 e size v n xs) (ad : Addr) (m c : Nat) (hx : a.eval x = .slice (some ad) m c) (news : List Value) (hl : news.length = m * size) (hnews : ∀ j u, news[j]? = some u → w.cell? (ad.add j) = some u) (h1 : ∀ u ∈ news, u.oneCell' = true)
    (h63 : n + m ≤ maxLen) (hb : (n + m) * bytes ≤ 140737488355328)
    (h : ∀ v' w', w'.ownsRow 0 e size v' (n + m) (xs ++ news) → w.grownBy w' v.ownBlock → (v'.ownBlock = v.ownBlock ∨ v'.ownBlock = some w.heap.size) → K (a.put o.dst v') w') :
    if Region.wanted o (yielded ops a.tmps) = true then Oper.wp Try.prog o a w K Q else E := by
  rw [if_pos (by simp [Region.wanted, hgd])]
  obtain ⟨i0, hi0, hz0, hz1, hz2⟩ := info_parts hi
  obtain ⟨v', w', hrun, h2, h3, _, h5⟩ := run_append_own_at (P := Try.prog) w 0 t o.type e i0 z size bytes ht hi0 hz0 hz1 hz2 hzs hsz v n xs hown ad m c news hl hnews h1 h63 hb (Nat.zero_le _)
  unfold Oper.wp execOp
  simp only [ho, resolve, invoke, builtin, Sem.run_bind, Sem.run_pure, Result.andThen_ok, List.map_toArray, List.map_cons, List.map_nil, hs, hx, hrun]
  exact h v' w' h2 h3 h5
theorem op_append_own {w : World} {ops : Array Oper} {rest : List Oper} {o : Oper} {a : Act} {Q : Exit → Act → World → Prop} (hgd : o.guard = none) (s x : Operand) (t e : TypeId)
    (ho : o.op = .call { callee := .builtin .append, args := #[s, x], argTypes := #[t, t] }) (ht : Try.prog.underlying t = some (.slice e)) {z : Value} {size bytes : Nat} (hi : (Try.prog.info? e).map (fun i => (i.zero, i.size, i.bytes)) = some (some z, size, bytes)) (hzs : z.cells.size = size) (hsz : 0 < size)
    {v : Value} {n : Nat} {xs : List Value} (hs : a.eval s = v) (hown : w.ownsRow 0 e size v n xs) (ad : Addr) (m c : Nat) (hx : a.eval x = .slice (some ad) m c) (news : List Value) (hl : news.length = m * size) (hnews : ∀ j u, news[j]? = some u → w.cell? (ad.add j) = some u) (h1 : ∀ u ∈ news, u.oneCell' = true)
    (h63 : n + m ≤ maxLen) (hb : (n + m) * bytes ≤ 140737488355328)
    (h : ∀ v' w', w'.ownsRow 0 e size v' (n + m) (xs ++ news) → w.grownBy w' v.ownBlock → (v'.ownBlock = v.ownBlock ∨ v'.ownBlock = some w.heap.size) → wpList Try.prog ops Q rest (a.put o.dst v') w') : wpList Try.prog ops Q (o :: rest) a w := by
  refine wpList_plain hgd fun K hK => ?_
  have h0 := step_append_own (ops := ops) (K := K) (Q := Q) (E := True) hgd s x t e ho ht hi hzs hsz hs hown ad m c hx news hl hnews h1 h63 hb (fun v' w' h1 h2 h3 => hK _ _ (h v' w' h1 h2 h3))
  rwa [if_pos (by simp [Region.wanted, hgd])] at h0

section
variable {ops : Array Oper} {o : Oper} {a : Act} {w : World} {Q : Exit → Act → World → Prop} {K : Act → World → Prop} {E : Prop}
theorem st_load_sector (hgd : o.guard = none) (x : Operand) (ho : o.op = .load 70 x) (b off : Nat) (l : List Nat) (hl : l.length = 128) (hc : w.rangeAt b off (l.map u8)) (hx : a.eval x = .pointer (some ⟨b, off, none⟩))
    (h : K (a.put o.dst (.agg (l.map u8).toArray)) w) : if Region.wanted o (yielded ops a.tmps) = true then Oper.wp Try.prog o a w K Q else E := by
  rw [if_pos (by simp [Region.wanted, hgd])]
  exact wp_load_mid 70 x ho b off hx (l.map u8) _ hc Try.underlying70 rfl (by rw [sizeSector, List.length_map, hl]) h
theorem st_load_write (hgd : o.guard = none) (x : Operand) (ho : o.op = .load 72 x) (b off : Nat) (q : Nat × List Nat) (hl : q.2.length = 128) (hc : w.rangeAt b off (wcells q)) (hx : a.eval x = .pointer (some ⟨b, off, none⟩))
    (h : K (a.put o.dst (.agg (wcells q).toArray)) w) : if Region.wanted o (yielded ops a.tmps) = true then Oper.wp Try.prog o a w K Q else E := by
  rw [if_pos (by simp [Region.wanted, hgd])]
  exact wp_load_mid 72 x ho b off hx (wcells q) _ hc Try.underlying72 rfl (by rw [sizeWrite, wcells_length hl]) h
theorem st_store_sector (hgd : o.guard = none) (x y : Operand) (ho : o.op = .store 70 x y) (b off : Nat) (l : List Nat) (hl : l.length = 128) (ht : w.there b off 128) (hx : a.eval x = .pointer (some ⟨b, off, none⟩)) (hy : a.eval y = .agg (l.map u8).toArray)
    (h : K (a.put o.dst undef) (w.setCells b off (l.map u8))) : if Region.wanted o (yielded ops a.tmps) = true then Oper.wp Try.prog o a w K Q else E := by
  rw [if_pos (by simp [Region.wanted, hgd])]
  exact wp_store_mid 70 x y ho b off _ hx hy (by simpa [hl] using ht) (by rw [sizeSector]; simp [hl]) (one_u8 l) (by simpa using h)
theorem st_buildSlice_write (hgd : o.guard = none) (x : Operand) (ho : o.op = .buildSlice 47 1 #[(0, x)]) (q : Nat × List Nat) (hl : q.2.length = 128) (hx : a.eval x = .agg (wcells q).toArray)
    (h : K (a.put o.dst (.slice (some ⟨w.heap.size, 0, none⟩) 1 1)) (w.alloc (.cells (wcells q).toArray 72))) : if Region.wanted o (yielded ops a.tmps) = true then Oper.wp Try.prog o a w K Q else E := by
  rw [if_pos (by simp [Region.wanted, hgd])]
  unfold Oper.wp execOp
  simp only [ho, List.map_toArray, List.map_cons, List.map_nil, hx, Sem.run_bind, run_buildSlice_write q hl, Result.andThen_ok]
  exact h
end

theorem made_sectors (n : Nat) (hn : n ≤ 4096) (w : World) : (Instr.makeSlice 46 (.int .i64 (n : Int)) (.int .i64 (n : Int))).run Try.prog w = .ok (.slice (some ⟨w.heap.size, 0, none⟩) n n) (w.alloc (.cells (madeCells zS (n * 128)) 70)) := by
  obtain ⟨ie, hie, hz, hs, hb⟩ := info_parts infoSector
  have h := run_make (P := Try.prog) w 46 70 ie _ Try.underlying46 hie hz .i64 .i64 n n (by omega) (Int.le_refl _) (by rw [hb]; omega) (by omega)
  simpa [hs, Value.cells] using h
theorem zS_at (k : Nat) (hk : k < 128) : zS[k]! = u8 0 := by
  have h : zS[k]? = some (u8 0) := by
    simp only [zS, List.getElem?_toArray, List.getElem?_replicate, if_pos hk]
  rw [getElem!_def, h]
theorem made_at (m k : Nat) (hk : k < m) : (madeCells zS m)[k]? = some (u8 0) := by
  have h1 : (Array.range m)[k]? = some k := by rw [Array.getElem?_eq_getElem (by simpa using hk)]; simp
  simp only [madeCells, Array.getElem?_map, h1, Option.map_some]
  rw [zS_size, zS_at _ (Nat.mod_lt _ (by decide))]
theorem made_rows {w : World} {g n : Nat} (h : Blk w g 70 (madeCells zS (n * 128))) : Rows w g 70 (List.replicate n (List.replicate 128 0)) := by
  refine ⟨⟨_, h, by rw [size_madeCells]; simp⟩, fun i r hr => ?_⟩
  have hi : i < n := by
    have := (List.getElem?_eq_some_iff.1 hr).1
    simpa using this
  rw [List.getElem?_replicate, if_pos hi] at hr
  injection hr with hr
  subst hr
  refine ⟨by simp, fun j v hv => ?_⟩
  rw [List.map_replicate, List.getElem?_replicate] at hv
  split at hv
  · injection hv with hv
    subst hv
    rw [h.cell]
    refine made_at _ _ ?_
    have : (i + 1) * 128 ≤ n * 128 := Nat.mul_le_mul_right _ hi
    rw [Nat.succ_mul] at this
    omega
  · cases hv

/-- New, where there may be so many -/
theorem new_dk (n : Nat) (hn : 1 ≤ n) (hn2 : n ≤ 4096) (w : World) (z gl gr : Nat) (hz : z = w.heap.size) (hg : (gl = z ∧ gr = z + 1) ∨ (gl = z + 1 ∧ gr = z)) :
    Dk (((w.alloc (.cells (madeCells zS (n * 128)) 70)).alloc (.cells (madeCells zS (n * 128)) 70)).alloc (.cells #[.slice (some ⟨gl, 0, none⟩) n n, .slice (some ⟨gr, 0, none⟩) n n, .slice none 0 0, .bool false, .bool false, .int .i64 0] 49))
      (fun k => z ≤ k ∧ k < z + 3) (z + 2) n (newS n) ∧
    Adv Nul w (fun k => z ≤ k ∧ k < z + 3) (((w.alloc (.cells (madeCells zS (n * 128)) 70)).alloc (.cells (madeCells zS (n * 128)) 70)).alloc (.cells #[.slice (some ⟨gl, 0, none⟩) n n, .slice (some ⟨gr, 0, none⟩) n n, .slice none 0 0, .bool false, .bool false, .int .i64 0] 49)) := by
  subst hz
  obtain ⟨C, hC⟩ : ∃ C, C = madeCells zS (n * 128) := ⟨_, rfl⟩
  have hb0 : Blk (w.alloc (.cells C 70)) w.heap.size 70 C := Blk.new _ _ _
  have hb1 : Blk ((w.alloc (.cells C 70)).alloc (.cells C 70)) (w.heap.size + 1) 70 C := by
    have := Blk.new (w.alloc (.cells C 70)) 70 C
    simpa using this
  have hb2 : ∀ D, Blk (((w.alloc (.cells C 70)).alloc (.cells C 70)).alloc (.cells D 49)) (w.heap.size + 2) 49 D := fun D => by
    have := Blk.new ((w.alloc (.cells C 70)).alloc (.cells C 70)) 49 D
    simpa using this
  rw [← hC]
  refine ⟨⟨newS_ok n, gl, gr, .slice none 0 0, hb2 _, hn, hn2, by simp [newS], by simp [newS, lays], fun q hq => by simp [newS] at hq, ?_, ?_, ?_, by omega, by omega, by omega, by omega, ⟨_, hb2 _⟩⟩, ?_⟩
  · have h0 := made_rows (hC ▸ (hb0.alloc (.cells C 70)).alloc (.cells #[.slice (some ⟨gl, 0, none⟩) n n, .slice (some ⟨gr, 0, none⟩) n n, .slice none 0 0, .bool false, .bool false, .int .i64 0] 49))
    have h1 := made_rows (hC ▸ hb1.alloc (.cells #[.slice (some ⟨gl, 0, none⟩) n n, .slice (some ⟨gr, 0, none⟩) n n, .slice none 0 0, .bool false, .bool false, .int .i64 0] 49))
    rw [← hC] at h0 h1
    rcases hg with ⟨rfl, rfl⟩ | ⟨rfl, rfl⟩
    · exact h0
    · exact h1
  · have h0 := made_rows (hC ▸ (hb0.alloc (.cells C 70)).alloc (.cells #[.slice (some ⟨gl, 0, none⟩) n n, .slice (some ⟨gr, 0, none⟩) n n, .slice none 0 0, .bool false, .bool false, .int .i64 0] 49))
    have h1 := made_rows (hC ▸ hb1.alloc (.cells #[.slice (some ⟨gl, 0, none⟩) n n, .slice (some ⟨gr, 0, none⟩) n n, .slice none 0 0, .bool false, .bool false, .int .i64 0] 49))
    rw [← hC] at h0 h1
    rcases hg with ⟨rfl, rfl⟩ | ⟨rfl, rfl⟩
    · exact h1
    · exact h0
  · exact Sl.nilF _ _ (fun k hk => by simp; omega) _ _
  · exact ⟨rfl, rfl, rfl, by simp; omega, fun k hk _ => by rw [Below.heap_alloc _ _ _ (by simp; omega), Below.heap_alloc _ _ _ (by simp; omega), Below.heap_alloc _ _ _ hk], fun k hk => .inr hk.1⟩

set_option maxRecDepth 3000 in
set_option maxHeartbeats 400000 in
theorem new_r (n : Nat) (hn : 1 ≤ n) (hn2 : n ≤ 4096) (w : World) :
    Calls Try.prog 6 #[.int .i64 (n : Int)] w fun e w' => ∃ d F, e = .returned (.tuple #[.pointer (some ⟨d, 0, none⟩), .int .i64 0]) ∧ Dk w' F d n (newS n) ∧ Adv Nul w F w' := by
  have h1 : (1 : Int) ≤ (n : Int) := by omega
  have h2 : (n : Int) ≤ 4096 := by omega
  obtain ⟨C, hC⟩ : ∃ C, C = madeCells zS (n * 128) := ⟨_, rfl⟩
  have hmk := made_sectors n hn2
  rw [← hC] at hmk
  have hfin : ∀ w : World, ∀ z gl gr : Nat, z = w.heap.size → ((gl = z ∧ gr = z + 1) ∨ (gl = z + 1 ∧ gr = z)) → _ := fun w z gl gr => new_dk n hn hn2 w z gl gr
  rw [← hC] at hfin
  have HF := Lib.hid hfin
  clear hfin hC
  go_enter Try.func6, Try.ntmps6
  go_wp2_with fail
  go_region
  · go_wp2
    go_ret2
    obtain ⟨k1, k2⟩ := HF.out w _ _ _ rfl (.inl ⟨rfl, rfl⟩)
    exact ⟨_, _, rfl, k1.drewN 1, k2.drew⟩
  · go_wp2
    go_ret2
    obtain ⟨k1, k2⟩ := HF.out w _ _ _ rfl (.inr ⟨rfl, rfl⟩)
    exact ⟨_, _, rfl, k1.drewN 1, k2.drew⟩

set_option maxRecDepth 3000 in
set_option maxHeartbeats 800000 in
theorem read_r (d gl gr n : Nat) (vQ : Value) (F : Nat → Prop) (R : List (List Nat)) (s : DS) (i : Nat) (w : World) (h : DkR w F d gl gr vQ n R s) (hi : i < n) :
    Calls Try.prog 36 #[.pointer (some ⟨d, 0, none⟩), .int .i64 (i : Int)] w fun e w' => ∃ z, e = .returned (.tuple #[.slice (some ⟨z, 0, none⟩) 128 128, .int .i64 0]) ∧ Blk w' z 70 ((R.getD i []).map u8).toArray ∧ (R.getD i []).length = 128 ∧ Adv Nul w (fun k => k = z) w' := by
  have c0 := h.c0
  have c1 := h.c1
  have hi0 : (0 : Int) ≤ (i : Int) := by omega
  have hin : (i : Int) < (n : Int) := by omega
  have hiR : i < R.length := by rw [h.b.lenR]; exact hi
  have hr := h.b.reads.at_ hiR
  have hl : (R.getD i []).length = 128 := by
    rw [List.getD_eq_getElem?_getD, List.getElem?_eq_getElem hiR]
    exact (h.b.reads.row i _ (List.getElem?_eq_getElem hiR)).1
  obtain ⟨r, hre⟩ : ∃ r, r = R.getD i [] := ⟨_, rfl⟩
  rw [← hre] at hr hl ⊢
  have HR := Lib.hid hr
  have HL := Lib.hid hl
  have hz : Blk (w.alloc (.cells (r.map u8).toArray 70)) w.heap.size 70 (r.map u8).toArray := Blk.new _ _ _
  have ha : Adv Nul w (fun k => k = w.heap.size) (w.alloc (.cells (r.map u8).toArray 70)) :=
    ⟨rfl, rfl, rfl, by simp, fun k hk _ => Below.heap_alloc _ _ _ hk, fun k hk => .inr (by omega)⟩
  have HZ := Lib.hid hz
  have HA := Lib.hid ha
  clear h hr hl hre hiR hz ha
  go_enter Try.func36, Try.ntmps36
  go_wp2_with (first
    | (go_at_call 33; refine (made_r _ _ _ _ c0).mono ?_; rintro e w1 ⟨rfl, rfl⟩)
    | (go_at_call 52; refine (has_r _ _ _ _ _ c0).mono ?_; rintro e w1 ⟨rfl, rfl⟩; rw [decide_eq_true (show 0 ≤ (i : Int) ∧ (i : Int) < (n : Int) from ⟨hi0, hin⟩)])
    | (refine op_load_sector rfl _ rfl gr (i * 128) r HL.out HR.out rfl ?_)
    | (refine op_alloc_sector rfl rfl ?_)
    | (refine op_store_sector rfl _ _ rfl _ rfl r HL.out rfl rfl ?_)
    | fail)
  go_ret2
  exact ⟨_, rfl, HZ.out, HL.out, HA.out⟩

set_option maxRecDepth 3000 in
theorem new_bad (n : Int) (hn : n < 1 ∨ 4096 < n) (w : World) :
    Calls Try.prog 6 #[.int .i64 n] w fun e w' => e = .returned (.tuple #[.pointer none, .int .i64 2]) ∧ w = w' := by
  rcases hn with h1 | h1
  · go_enter Try.func6, Try.ntmps6
    go_wp2_with fail
    go_ret2
    exact ⟨rfl, rfl⟩
  · have h2 : (1 : Int) ≤ n := by omega
    go_enter Try.func6, Try.ntmps6
    go_wp2_with fail
    go_ret2
    exact ⟨rfl, rfl⟩

set_option maxRecDepth 3000 in
theorem read_bad (d gl n : Nat) (i : Int) (w : World) (c0 : w.cell? ⟨d, 0, none⟩ = some (.slice (some ⟨gl, 0, none⟩) n n)) (hi : ¬ (0 ≤ i ∧ i < (n : Int))) :
    Calls Try.prog 36 #[.pointer (some ⟨d, 0, none⟩), .int .i64 i] w fun e w' => e = .returned (.tuple #[.slice none 0 0, .int .i64 2]) ∧ w = w' := by
  have HI := Lib.hid hi
  clear hi
  go_enter Try.func36, Try.ntmps36
  go_wp2_with (first
    | (go_at_call 33; refine (made_r _ _ _ _ c0).mono ?_; rintro e w1 ⟨rfl, rfl⟩)
    | (go_at_call 52; refine (has_r _ _ _ _ _ c0).mono ?_; rintro e w1 ⟨rfl, rfl⟩; rw [decide_eq_false HI.out])
    | fail)
  go_ret2
  exact ⟨rfl, rfl⟩
end Go.Proofs.Ytlpdpbhnfhihjaa
