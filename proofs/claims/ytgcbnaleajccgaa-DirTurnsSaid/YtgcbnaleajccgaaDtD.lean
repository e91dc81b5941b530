/- slices.Grow and slices.Concat of two; the program's Drop. -/
import Derived.Test.YtgcbnaleajccgaaDtC
import Derived.Lib.AppendZeros
namespace Go.Proofs.Ytgcbnaleajccgaa
open Go.ChangeShapes Go.WideShapes Go.ChangeAt Go.RowKit

theorem zeros_size4 (k : Nat) : (Builtin.zeroCells (Value.agg #[.string ⟨#[]⟩, .int .i64 0, .int .i64 0, .int .i64 0]).cells k).size = k * 4 := by
  simp [Builtin.zeroCells, Value.cells]
theorem eno_made {w : World} {cur : Array Value} {cap : Nat} (hc : cap ≤ maxLen) (hs : cur.size = cap * 4) : EnO w [] (.slice (some ⟨w.heap.size, 0, none⟩) 0 cap) (w.drew.alloc (.cells cur 46)) := by
  have h : (w.drew.alloc (.cells cur 46)).ownsRow 0 46 4 (.slice (some ⟨w.heap.size, 0, none⟩) 0 cap) 0 [] := World.ownsRow_made w.drew cur cap (Nat.zero_le _) hc hs
  have ha := ((Adv.refl Nul w).drew).alloc (.cells cur 46)
  refine ⟨⟨fun k => k = w.heap.size, ⟨h, fun k hk => ?_, fun k hk => ?_⟩, ⟨ha.os, ha.tape, ha.output, ha.size, ha.block, fun k hk => .inr (by omega)⟩⟩, fun _ h => by simp at h⟩
  · have : w.heap.size = k := by simpa [Value.ownBlock] using hk
    exact this.symm
  · subst hk
    have := World.size_alloc w.drew (.cells cur 46)
    rw [this]
    show w.heap.size < w.heap.size + 1
    omega

set_option maxRecDepth 3000 in
set_option maxHeartbeats 1600000 in
theorem slgrow_any (n : Nat) (hn : n ≤ 2000) (w : World) : Calls Try.prog 52 #[.slice none 0 0, .int .i64 (n : Int)] w fun x w' => ∃ v', x = .returned v' ∧ EnO w [] v' w' := by
  have hni : (n : Int) ≤ 2000 := by omega
  obtain ⟨i0, hi, hz0, hz1, hz2⟩ := info_parts infoEntry
  by_cases h0 : n = 0
  · subst h0
    go_enter Try.func52, Try.ntmps52
    go_wp2_with fail
    go_ret
    exact ⟨_, rfl, EnO.nil w⟩
  · have hpos : (0 : Int) < (n : Int) := by omega
    have hrun : ∀ ty, (Builtin.append_ #[22, 3] ty #[.slice none 0 0, .int .i64 (n : Int)]).run Try.prog w = _ := fun ty => Lib.run_append_nil_zeros w 22 3 ty 46 i0 _ .i64 .i64 Try.underlying22 Try.underlying3 hi hz0 n (by omega) (by rw [hz1]; decide) (by omega) (by rw [hz2]; omega)
    have hge := grownCap_ge w n 0 46
    have hle : grownCap w n 0 46 ≤ maxLen := grownCap_le_maxLen w n 0 46 (by unfold maxLen; omega)
    obtain ⟨cap, hcap⟩ : ∃ c, c = grownCap w n 0 46 := ⟨_, rfl⟩
    rw [← hcap] at hrun hge hle
    have hsz : (Builtin.zeroCells (Value.agg #[.string ⟨#[]⟩, .int .i64 0, .int .i64 0, .int .i64 0]).cells n ++ Builtin.zeroCells (Value.agg #[.string ⟨#[]⟩, .int .i64 0, .int .i64 0, .int .i64 0]).cells (cap - n)).size = cap * 4 := by
      rw [Array.size_append, zeros_size4, zeros_size4]; omega
    obtain ⟨cur, hcur⟩ : ∃ c, c = Builtin.zeroCells (Value.agg #[.string ⟨#[]⟩, .int .i64 0, .int .i64 0, .int .i64 0]).cells n ++ Builtin.zeroCells (Value.agg #[.string ⟨#[]⟩, .int .i64 0, .int .i64 0, .int .i64 0]).cells (cap - n) := ⟨_, rfl⟩
    rw [← hcur] at hrun hsz
    have HM := Lib.hid (eno_made (w := w) hle hsz)
    have HRUN := Lib.hid hrun
    have hci : (cap : Int) ≤ 9223372036854775807 := by unfold maxLen at hle; omega
    have hgi : (n : Int) ≤ (cap : Int) := by omega
    clear hcap hcur hsz hrun hle hge h0
    go_enter Try.func52, Try.ntmps52
    go_wp2_with (first
      | (at_builtin; refine Lib.wpList_append_run _ rfl (.tmp 20) (.tmp 21) 22 3 rfl _ _ rfl rfl _ _ (HRUN.out _) ?_)
      | fail)
    go_ret
    exact ⟨_, rfl, HM.out⟩
def CcL (w : World) (N S : Nat) (t3 t11 : Value) (wr : World) : Prop := ((t11 = .int .i64 0 ∧ t3 = .int .i64 0) ∨ (t11 = .int .i64 1 ∧ t3 = .int .i64 (N : Int)) ∨ (t11 = .int .i64 2 ∧ t3 = .int .i64 (S : Int))) ∧ wr = w
def CdL (w : World) (l m : List En) (t6 t27 : Value) (wr : World) : Prop := (t27 = .int .i64 0 ∧ EnO w [] t6 wr) ∨ (t27 = .int .i64 1 ∧ EnO w l t6 wr) ∨ (t27 = .int .i64 2 ∧ EnO w (l ++ m) t6 wr)

set_option maxRecDepth 3000 in
set_option maxHeartbeats 3200000 in
theorem slconcat_any (w : World) (y : Nat) (va vb : Value) (l m : List En) (hY : Blk w y 22 #[va, vb]) (ha : EnR w va l) (hb : EnR w vb m) (hl : l.length ≤ 1000) (hm : m.length ≤ 1000) : Calls Try.prog 37 #[.slice (some ⟨y, 0, none⟩) 2 2] w fun x w' => ∃ v', x = .returned v' ∧ EnO w (l ++ m) v' w' := by
  obtain ⟨A1, c1, rfl, _, _⟩ := ha.form
  obtain ⟨A2, c2, rfl, _, _⟩ := hb.form
  obtain ⟨N, hN⟩ : ∃ N, N = l.length := ⟨_, rfl⟩
  obtain ⟨M, hM⟩ : ∃ N, N = m.length := ⟨_, rfl⟩
  obtain ⟨S, hS⟩ : ∃ S, S = N + M := ⟨_, rfl⟩
  rw [← hN] at ha hY hl
  rw [← hM] at hb hY hm
  have hNi : (N : Int) ≤ 1000 := by omega
  have hMi : (M : Int) ≤ 1000 := by omega
  have hSi : (S : Int) ≤ 2000 := by omega
  have hNS : (N : Int) + (M : Int) = (S : Int) := by omega
  have HA := Lib.hid ha
  have HB := Lib.hid hb
  have HY := Lib.hid hY
  have HN := Lib.hid hN
  have HM := Lib.hid hM
  have HG := Lib.hid (slgrow_any S (by omega))
  have HLM := Lib.hid (show N ≤ 1000 ∧ M ≤ 1000 from ⟨hl, hm⟩)
  have y0 : w.cell? ⟨y, 0, none⟩ = some (.slice A1 N c1) := hY.cell 0
  have y1 : w.cell? ⟨y, 1, none⟩ = some (.slice A2 M c2) := hY.cell 1
  clear ha hb hY hN hM hS hl hm
  go_enter Try.func37, Try.ntmps37
  go_wp2_with fail
  go_loopw [3, 11] (CcL w N S) (fun _ t _ => 2 - (intOf t).toNat)
  case atStart => exact ⟨.inl ⟨rfl, rfl⟩, rfl⟩
  case round =>
    obtain ⟨hrel, rfl⟩ := hrel
    rcases hrel with ⟨rfl, rfl⟩ | ⟨rfl, rfl⟩ | ⟨rfl, rfl⟩
    · go_wp2_with fail
      exact ⟨⟨.inr (.inl ⟨rfl, rfl⟩), rfl⟩, by simp [intOf]⟩
    · go_wp2_with fail
      exact ⟨⟨.inr (.inr ⟨rfl, by rw [← hNS]⟩), rfl⟩, by simp [intOf]⟩
    · clear y0 y1
      go_wp2_with (first
        | (go_at_call 52; refine (HG.out _).mono ?_; rintro x w2 ⟨v2, rfl, h2⟩; have HE := Lib.hid h2; clear h2)
        | fail)
      go_loopw [6, 27] (CdL wr l m) (fun _ t _ => 2 - (intOf t).toNat)
      case atStart => exact .inl ⟨rfl, HE.out⟩
      case round =>
        clear HE
        rcases hrel with ⟨rfl, he⟩ | ⟨rfl, he⟩ | ⟨rfl, he⟩
        · have hY := (HY.out.keep (he.adv.block y HY.out.lt (fun h => h)))
          have y0 : wr.cell? ⟨y, 0, none⟩ = some (.slice A1 N c1) := hY.cell 0
          have hm := (HA.out.step he.adv)
          have hmore := he.more (m := l) hm.sz
          have hown := hmore.1
          have hrd := hm.rd
          have hlen : ([] : List En).length + (l).length ≤ 1000000 := by
            have := HLM.out
            have := HN.out
            have := HM.out
            (try simp only [List.length_nil])
            omega
          rw [← HN.out] at hrd hlen
          have HMORE := Lib.hid hmore.2
          obtain ⟨A6, c6, rfl⟩ := he.form
          clear hmore hm hY he
          go_wp2_with (first
            | (at_builtin; refine wpList_append_en rfl (.tmp 31) (.tmp 32) rfl rfl rfl hown hrd (ecs_one _) hlen ?c2)
            | fail)
          case c2 =>
            intro v4 w4 hown4 hg4 hat4
            have hp := HMORE.out _ v4 w4 (Adv.refl _ _) (by rw [← HN.out, List.length_nil, Nat.zero_add]; exact hown4) hg4 hat4
            have HP := Lib.hid hp
            clear hp hown4 hg4 hat4 hown hrd hlen y0
            go_wp2_with fail
            exact ⟨.inr (.inl ⟨rfl, HP.out⟩), by simp [intOf]⟩
        · have hY := (HY.out.keep (he.adv.block y HY.out.lt (fun h => h)))
          have y1 : wr.cell? ⟨y, 1, none⟩ = some (.slice A2 M c2) := hY.cell 1
          have hm := (HB.out.step he.adv)
          have hmore := he.more (m := m) hm.sz
          have hown := hmore.1
          have hrd := hm.rd
          have hlen : (l).length + (m).length ≤ 1000000 := by
            have := HLM.out
            have := HN.out
            have := HM.out
            (try simp only [List.length_nil])
            omega
          rw [← HM.out] at hrd hlen
          have HMORE := Lib.hid hmore.2
          obtain ⟨A6, c6, rfl⟩ := he.form
          clear hmore hm hY he
          go_wp2_with (first
            | (at_builtin; refine wpList_append_en rfl (.tmp 31) (.tmp 32) rfl rfl rfl hown hrd (ecs_one _) hlen ?c2)
            | fail)
          case c2 =>
            intro v4 w4 hown4 hg4 hat4
            have hp := HMORE.out _ v4 w4 (Adv.refl _ _) (by rw [← HM.out]; exact hown4) hg4 hat4
            have HP := Lib.hid hp
            clear hp hown4 hg4 hat4 hown hrd hlen y1
            go_wp2_with fail
            exact ⟨.inr (.inr ⟨rfl, HP.out⟩), by simp [intOf]⟩
        · have HE := Lib.hid he
          go_wp2_with fail
          go_ret
          exact ⟨_, rfl, HE.out⟩

set_option maxRecDepth 3000 in
set_option maxHeartbeats 1600000 in
theorem ddrop_any (v : Value) (l : List En) (s : ByteArray) (w : World) (h : EnR w v l) (hr : Ris l) (hl : l.length ≤ 1000) : Calls Try.prog 21 #[v, .string s] w fun x w' => ∃ v', x = .returned v' ∧ EnO w (dropL l s) v' w' := by
  have HAR := Lib.hid (around_any v l s w h hr hl)
  have HRI := Lib.hid hr
  have HLL := Lib.hid hl
  clear h hr hl
  go_enter Try.func21, Try.ntmps21
  go_upto_region 2 with (first
    | (go_at_call 36; refine HAR.out.mono ?_; rintro x w2 ⟨⟨p, F, A1, A2, c2, hf, rfl, hfr, hbk, a2⟩⟩; have HF := Lib.hid hf; have HFR := Lib.hid hfr; have HBK := Lib.hid hbk; have HA2 := Lib.hid a2; clear hf hfr hbk a2)
    | fail)
  obtain ⟨n, hn⟩ : ∃ n, n = (bh l p F).length := ⟨_, rfl⟩
  rw [← hn]
  have hbk := HBK.out
  rw [← hn] at hbk
  have hA3 := (Adv.refl Nul w2).alloc (.cells #[.slice A1 p p, .slice A2 n c2] 22)
  have hln : (l.take p).length ≤ 1000 ∧ (bh l p F).length ≤ 1000 := by
    have := HLL.out
    unfold bh
    simp only [List.length_take, List.length_drop]
    omega
  have HC := Lib.hid (slconcat_any _ w2.heap.size _ _ _ _ (Blk.new w2 22 #[.slice A1 p p, .slice A2 n c2]) (HFR.out.step hA3) (hbk.step hA3) hln.1 hln.2)
  have HA3 := Lib.hid (HA2.out.trans hA3)
  have e : l.take p ++ bh l p F = dropL l s := by
    rw [HF.out.lo_eq, show bh l p F = hi s l from HF.out.hi_eq HRI.out]; rfl
  rw [e] at HC
  clear hn hbk hA3 hln e
  go_wp2_with (first
    | (go_at_call 37; refine HC.out.mono ?_; rintro x w4 ⟨v4, rfl, h4⟩; have HP := Lib.hid (h4.since HA3.out); clear h4)
    | fail)
  go_ret
  exact ⟨_, rfl, HP.out⟩
end Go.Proofs.Ytgcbnaleajccgaa
