/- Writers, whatever has been put; noughts put behind a slice of one's own. -/
import Derived.Test.YtpgeebhepegpaaaDone
import Derived.Lib.AppendZerosOnto
namespace Go.Proofs.Ytpgeebhepegpaaa
open Go.RowKit

/-- a writer that has been given so many bits, or has an error -/
def WrP (w : World) (F : Nat → Prop) (b : Nat) (ok : Prop) (N m : Nat) : Prop := (ok ∧ WSt w F b N m ∧ Bd F w) ∨ (¬ ok ∧ WErr w F b)
structure WP (V : World) (F : Nat → Prop) (b : Nat) (ok : Prop) (N m : Nat) (w : World) : Prop where
  ws : WrP w F b ok N m
  ad : Adv Nul V F w
section
variable {V w : World} {F : Nat → Prop} {b N m : Nat} {ok : Prop}
theorem WP.drew (h : WP V F b ok N m w) : WP V F b ok N m w.drew := by
  refine ⟨?_, h.ad.drew⟩
  rcases h.ws with ⟨h1, h2, h3⟩ | ⟨h1, h2⟩
  · exact .inl ⟨h1, h2.drew, h3⟩
  · obtain ⟨v, r, hB⟩ := h2.ex
    exact .inr ⟨h1, ⟨⟨v, r, hB.drew⟩, h2.inF, h2.bd⟩⟩
theorem WP.new (ha : Adv Nul V Nul w) : Calls Try.prog 38 #[] w fun e w' => ∃ b F, e = .returned (.pointer (some ⟨b, 0, none⟩)) ∧ WP V F b True 0 0 w' := by
  refine (new_any w).mono ?_
  rintro e w' ⟨b, F, rfl, h1, h2, h3⟩
  exact ⟨b, F, rfl, .inl ⟨trivial, h1, h3⟩, ha.trans h2⟩
theorem WP.put (h : WP V F b ok N m w) (x n : Nat) (hn : n ≤ 64) (hx : x < 18446744073709551616) (hm : m + n ≤ 1000000000) :
    Calls Try.prog 68 #[.pointer (some ⟨b, 0, none⟩), .int .u64 (x : Int), .int .i64 (n : Int)] w fun e w' => ∃ F', e = .returned (.pointer (some ⟨b, 0, none⟩)) ∧ WP V F' b (ok ∧ x < 2 ^ n) (N * 2 ^ n + x) (m + n) w' := by
  rcases h.ws with ⟨h1, h2, h3⟩ | ⟨h1, h2⟩
  · by_cases hx2 : x < 2 ^ n
    · refine (put_ok b N m x n F w h2 h3 hn hx2 hm).mono ?_
      rintro e w' ⟨rfl, F', k1, k2, k3⟩
      exact ⟨F', rfl, .inl ⟨⟨h1, hx2⟩, k1, k3⟩, h.ad.trans k2⟩
    · refine (put_bad b N m x n F w h2 h3 hx (.inr (.inr ⟨n, rfl, hn, Nat.le_of_not_lt hx2⟩))).mono ?_
      rintro e w' ⟨rfl, k1, k2⟩
      exact ⟨F, rfl, .inr ⟨fun h => hx2 h.2, k1⟩, h.ad.trans k2⟩
  · refine (put_err b x n F w h2).mono ?_
    rintro e w' ⟨rfl, rfl⟩
    exact ⟨F, rfl, .inr ⟨fun h => h1 h.1, h2⟩, h.ad⟩
theorem WP.done_ [Decidable ok] (h : WP V F b ok N m w) (hm : m ≤ 1000000000) :
    Calls Try.prog 41 #[.pointer (some ⟨b, 0, none⟩)] w fun e w' => ∃ A n k F', e = .returned (.tuple #[.slice A n k, .int .i64 (if ok then 0 else 2)]) ∧ (ok → n = qn m ∧ Sl w' F' 5 1 (.slice A n k) n ((rowOf N m).map u8)) ∧ Adv Nul V F' w' := by
  rcases h.ws with ⟨h1, h2, h3⟩ | ⟨h1, h2⟩
  · refine (done_ok b N m F w h2 hm).mono ?_
    rintro e w' ⟨v, F', rfl, k1, k2⟩
    obtain ⟨A, k, rfl, _⟩ := k1.form0
    exact ⟨A, _, k, F', by rw [if_pos h1], fun _ => ⟨rfl, k1⟩, (h.ad.sub (fun _ x => x.elim)).trans k2⟩
  · refine (done_err b F w h2).mono ?_
    rintro e w' ⟨rfl, k2⟩
    exact ⟨none, 0, 0, Nul, by rw [if_neg h1], fun h => absurd h h1, (h.ad.sub (fun _ x => x.elim)).trans k2⟩
end
theorem zeros_list (m : Nat) : (Builtin.zeroCells (#[.int .u8 0] : Array Value) m).toList = List.replicate m (u8 0) := by
  apply List.ext_getElem
  · simp [Builtin.zeroCells]
  · intro j h1 h2
    simp [Builtin.zeroCells, Nat.mod_one, u8]
theorem zeros_size (m : Nat) : (Builtin.zeroCells (#[.int .u8 0] : Array Value) m).size = m := by simp [Builtin.zeroCells]
theorem cells_u8 (x : Int) : (Value.int .u8 x).cells = #[.int .u8 x] := rfl
theorem run_append_noughts {w : World} {ty : TypeId} {g cap n m : Nat} {xs : List Value} (hown : w.ownsRow 0 5 1 (.slice (some ⟨g, 0, none⟩) n cap) n xs) (hm : 0 < m) (hn : n + m ≤ 1000000000) :
    ∃ v' w', (Builtin.append_ #[38, 3] ty #[.slice (some ⟨g, 0, none⟩) n cap, .int .i64 (m : Int)]).run Try.prog w = .ok v' w' ∧ w'.ownsRow 0 5 1 v' (n + m) (xs ++ List.replicate m (u8 0)) ∧ w.grownBy w' (some g) ∧ (v'.ownBlock = some g ∨ v'.ownBlock = some w.heap.size) := by
  obtain ⟨i, hi, hz0, hz1, hz2⟩ := info_parts Try.infoU8
  have ht := Try.underlying38
  have htn := Try.underlying3
  have hcells : ∀ j u, xs[j]? = some u → w.cell? ((⟨g, 0, none⟩ : Addr).add j) = some u := hown.cells (g := g) rfl
  obtain ⟨hxl, hh⟩ := hown
  rcases hh with ⟨h, _⟩ | ⟨g', cap', cur, e, hbg, hg, hnc, hcm, hcs, htake⟩
  · cases h
  · injection e with e1 e2 e3
    injection e1 with e1
    injection e1 with e1
    subst e1
    subst e3
    rw [Nat.mul_one] at hcs hxl htake
    have hlen : (xs ++ List.replicate m (u8 0)).length = (n + m) * 1 := by simp [hxl]
    have hw : IntKind.i64.wrap (m : Int) = m := by rw [IntKind.wrap_i64]; omega
    have hm0 : m ≠ 0 := by omega
    have hneg : ¬ ((m : Int) < 0) := by omega
    have h48 : ¬ (281474976710656 < (m : Int)) := by omega
    by_cases hroom : n + m ≤ cap
    · have hst := run_storeCells_at Try.prog g n 5 (List.replicate m (u8 0)) 0 cur w hg (by rw [List.length_replicate, hcs]; omega) (by intro u hu; rw [(List.mem_replicate.1 hu).2]; rfl)
      simp only [Nat.add_zero] at hst
      have hr : (Builtin.append_ #[38, 3] ty #[.slice (some ⟨g, 0, none⟩) n cap, .int .i64 (m : Int)]).run Try.prog w = .ok (.slice (some ⟨g, 0, none⟩) (n + m) cap) (w.setRow g (cur.toList.take n ++ List.replicate m (u8 0) ++ cur.toList.drop (n + (List.replicate m (u8 0)).length)).toArray) := by
        simp [Builtin.append_, run_underlying ht, run_underlying htn, sizeOf, typeInfo, zeroValue, hi, hz0, hz1, hz2, asInt, asIntOf, hw, hroom, hneg, hm0, h48, Addr.add_lit, cells_u8, zeros_list]
        have h2 := hst
        simp at h2
        rw [h2]
        rfl
      refine ⟨_, _, hr, ⟨hlen, .inr ⟨g, cap, _, rfl, Nat.zero_le _, setRow_heap w g cur _ _ _ hg, hroom, hcm, ?_, ?_⟩⟩, ⟨rfl, rfl, rfl, by simp, fun k _ hk => setRow_other w g k _ (fun e => hk (by rw [e]))⟩, .inl rfl⟩
      · simp only [List.size_toArray, List.length_append, List.length_take, List.length_drop, Array.length_toList, List.length_replicate, Nat.mul_one]
        omega
      · rw [htake, ← hlen]
        exact List.take_left
    · have hold : (Builtin.firstCells i.size n (.slice (some ⟨g, 0, none⟩) n cap)).run Try.prog w.drew = .ok xs.toArray w.drew := run_firstCells_some w.drew i.size n ⟨g, 0, none⟩ n cap xs (by rw [hz1, Nat.mul_one]; exact hxl) (fun j u hu => hcells j u hu)
      have hr := Lib.run_append_grow_zeros (P := Try.prog) w 38 3 ty 5 i (.int .u8 0) .i64 .i64 ht htn hi hz0 (some ⟨g, 0, none⟩) n cap xs hold m hm (by rw [hz1]; decide) (by omega) (by omega) (by rw [hz2]; omega) (growslice_fits (by omega) (by rw [hz2]; omega))
      have hge := grownCap_ge w (n + m) cap 5
      have hcm' : grownCap w (n + m) cap 5 ≤ maxLen := grownCap_le_maxLen w (n + m) cap 5 (by unfold maxLen; omega)
      refine ⟨_, _, hr, ⟨hlen, .inr ⟨w.heap.size, _, _, rfl, Nat.zero_le _, heap_alloc_new w.drew _, hge, hcm', ?_, ?_⟩⟩, ⟨rfl, rfl, rfl, by simp, fun k hk _ => Below.heap_alloc w.drew _ _ hk⟩, .inr rfl⟩
      · simp only [Array.size_append, List.size_toArray, cells_u8, zeros_size, hxl, Nat.mul_one]
        omega
      · simp only [Array.toList_append, cells_u8, zeros_list, ← hlen]
        exact List.take_left
theorem wpList_append_noughts {w : World} {ops : Array Oper} {rest : List Oper} {o : Oper} {a : Act} {Q : Exit → Act → World → Prop} (hgd : o.guard = none) (s x : Operand) (ho : o.op = .call { callee := .builtin .append, args := #[s, x], argTypes := #[38, 3] })
    {g cap n m : Nat} {xs : List Value} (hs : a.eval s = .slice (some ⟨g, 0, none⟩) n cap) (hx : a.eval x = .int .i64 (m : Int)) (hown : w.ownsRow 0 5 1 (.slice (some ⟨g, 0, none⟩) n cap) n xs) (hm : 0 < m) (hn : n + m ≤ 1000000000)
    (h : ∀ v' w', w'.ownsRow 0 5 1 v' (n + m) (xs ++ List.replicate m (u8 0)) → w.grownBy w' (some g) → (v'.ownBlock = some g ∨ v'.ownBlock = some w.heap.size) → wpList Try.prog ops Q rest (a.put o.dst v') w') : wpList Try.prog ops Q (o :: rest) a w := by
  refine wpList_plain hgd fun K hK => ?_
  obtain ⟨v', w', hr, h2, h3, h5⟩ := run_append_noughts (ty := o.type) hown hm hn
  unfold Oper.wp execOp
  simp only [ho, resolve, invoke, builtin, Sem.run_bind, Sem.run_pure, Result.andThen_ok, List.map_toArray, List.map_cons, List.map_nil, hs, hx, hr]
  exact hK _ _ (h v' w' h2 h3 h5)
end Go.Proofs.Ytpgeebhepegpaaa
