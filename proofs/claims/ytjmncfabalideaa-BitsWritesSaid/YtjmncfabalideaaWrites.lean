/- BitsWrites. -/
import Derived.Test.YtjmncfabalideaaApp
import Derived.Test.YtjmncfabalideaaArgDo
import Derived.Deep.DeepCutAuto
namespace Go.Proofs.Ytjmncfabalideaa
open Go.RowKit

def WOk (w : World) (F : Nat → Prop) (b : Nat) (es : List Do) (j : Nat) : Prop := WSt w F b (numOf (es.take j)) (lenOf (es.take j)) ∧ ∀ d ∈ es.take j, d.fits
theorem WOk.drew {w : World} {F : Nat → Prop} {b : Nat} {es : List Do} {j : Nat} (h : WOk w F b es j) : WOk w.drew F b es j := ⟨h.1.drew, h.2⟩

theorem wok_next {w : World} {F : Nat → Prop} {b j N m : Nat} {es : List Do} (hj : j < es.length) (h : WSt w F b N m) (hN : N = numOf (es.take j) * 2 ^ es[j].bits + es[j].num) (hm : m = lenOf (es.take j) + es[j].bits) (hf : ∀ d ∈ es.take j, d.fits) (hfit : es[j].fits) : WOk w F b es (j + 1) := by
  refine ⟨?_, fun d hd => ?_⟩
  · rw [List.take_succ_eq_append_getElem hj, numOf_snoc, lenOf_snoc, ← hN, ← hm]; exact h
  · rw [List.take_succ_eq_append_getElem hj, List.mem_append, List.mem_singleton] at hd
    rcases hd with hd | rfl
    · exact hf d hd
    · exact hfit

theorem take_len (es : List Do) (j : Nat) (hsz : ∀ d ∈ es, d.s.size ≤ 40) (hle : es.length ≤ 40) (hf : ∀ d ∈ es.take j, d.fits) : lenOf (es.take j) ≤ 13440 := by
  have h1 := lenOf_le (es.take j) (fun d hd => ⟨hf d hd, hsz d (List.mem_of_mem_take hd)⟩)
  have h2 : (es.take j).length ≤ 40 := by simp; omega
  omega

theorem putok_w (b j : Nat) (es : List Do) (F : Nat → Prop) (w : World) (hp : WOk w F b es j) (hF : Bd F w) (hj : j < es.length) (hsz : ∀ d ∈ es, d.s.size ≤ 40) (hle : es.length ≤ 40) (hk : es[j].kind = 0) (hfit : es[j].fits) :
    Calls Try.prog 11 #[.pointer (some ⟨b, 0, none⟩), .int .u64 es[j].x, .int .i64 es[j].n] w fun e w' => e = .returned (.pointer (some ⟨b, 0, none⟩)) ∧ ∃ F', WOk w' F' b es (j + 1) ∧ Adv F w F' w' ∧ Bd F' w' := by
  have hlen := take_len es j hsz hle hp.2
  obtain ⟨h0, h1, h2⟩ := hfit hk
  obtain ⟨k, hkn⟩ := Int.eq_ofNat_of_zero_le h0
  have hkn' : es[j].n.toNat = k := by omega
  rw [hkn'] at h2
  refine (hkn ▸ put_ok b _ _ es[j].x k F w hp.1 hF (by omega) h2 (by omega)).mono ?_
  rintro e w' ⟨rfl, F', h, ha, hb⟩
  refine ⟨rfl, F', wok_next hj h ?_ ?_ hp.2 hfit, ha, hb⟩
  · have e1 : es[j].bits = k := by unfold Do.bits; rw [if_pos hk, hkn']
    have e2 : es[j].num = es[j].x := by unfold Do.num; rw [if_pos hk]
    rw [e1, e2]
  · have e1 : es[j].bits = k := by unfold Do.bits; rw [if_pos hk, hkn']
    rw [e1]

theorem putbad_w (b j : Nat) (es : List Do) (F : Nat → Prop) (w : World) (hp : WOk w F b es j) (hF : Bd F w) (hj : j < es.length) (hx : es[j].x < 18446744073709551616) (hfit : ¬ es[j].fits) :
    Calls Try.prog 11 #[.pointer (some ⟨b, 0, none⟩), .int .u64 es[j].x, .int .i64 es[j].n] w fun e w' => e = .returned (.pointer (some ⟨b, 0, none⟩)) ∧ WErr w' F b ∧ Adv F w F w' := by
  have hbad : es[j].n < 0 ∨ 64 < es[j].n ∨ ∃ k : Nat, es[j].n = k ∧ k ≤ 64 ∧ 2 ^ k ≤ es[j].x := by
    by_cases h0 : es[j].n < 0
    · exact .inl h0
    · by_cases h1 : 64 < es[j].n
      · exact .inr (.inl h1)
      · refine .inr (.inr ⟨es[j].n.toNat, by omega, by omega, ?_⟩)
        exact Nat.le_of_not_lt fun h => hfit fun _ => ⟨by omega, by omega, h⟩
  exact put_bad b _ _ es[j].x es[j].n F w hp.1 hF hx hbad

theorem textok_w (b j : Nat) (es : List Do) (F : Nat → Prop) (w : World) (hp : WOk w F b es j) (hF : Bd F w) (hj : j < es.length) (hsz : ∀ d ∈ es, d.s.size ≤ 40) (hle : es.length ≤ 40) (hk : es[j].kind ≠ 0) :
    Calls Try.prog 14 #[.pointer (some ⟨b, 0, none⟩), .string es[j].s] w fun e w' => e = .returned (.pointer (some ⟨b, 0, none⟩)) ∧ ∃ F', WOk w' F' b es (j + 1) ∧ Adv F w F' w' ∧ Bd F' w' := by
  have hlen := take_len es j hsz hle hp.2
  have hs := hsz es[j] (List.getElem_mem _)
  refine (text_ok b _ _ es[j].s F w hp.1 hF (by omega) (by omega)).mono ?_
  rintro e w' ⟨rfl, F', h, ha, hb⟩
  rw [tx_put, Nat.add_assoc] at h
  refine ⟨rfl, F', wok_next hj h ?_ ?_ hp.2 (fun h => absurd h hk), ha, hb⟩
  · have e1 : es[j].bits = 16 + 8 * es[j].s.size := by unfold Do.bits; rw [if_neg hk]
    have e2 : es[j].num = tx es[j].s.size es[j].s.data.toList := by unfold Do.num; rw [if_neg hk]
    rw [e1, e2]
  · have e1 : es[j].bits = 16 + 8 * es[j].s.size := by unfold Do.bits; rw [if_neg hk]
    rw [e1]

/-- what the writer's state and 'all' are: r: all fitted so far -/
def WrSt (wr : World) (F Fa : Nat → Prop) (b : Nat) (va : Value) (es : List Do) (j : Nat) (r : Bool) : Prop :=
  ∃ n l N, Bl l N n ∧ n ≤ 336 * j ∧ Sl wr Fa 5 1 va n (l.map u8) ∧
    ((r = true ∧ WOk wr F b es j ∧ n = lenOf (es.take j) ∧ N = numOf (es.take j)) ∨ (r = false ∧ WErr wr F b))

theorem WSt.over {w w' : World} {F G : Nat → Prop} {b N m : Nat} (h : WSt w F b N m) (ha : Adv Nul w G w') : WSt w' F b N m := by
  obtain ⟨v, h1, h2⟩ := h.ex
  exact ⟨⟨v, h1.keep (ha.block b h1.lt (fun h => h)), h2.far ha (fun _ h _ => h)⟩, h.inF, h.lt⟩

def WritesRel (W : World) (F0 : Nat → Prop) (v : Value) (es : List Do) (t3 t4 t5 t6 : Value) (wr : World) : Prop :=
  ∃ b F Fa j r, t3 = .pointer (some ⟨b, 0, none⟩) ∧ t5 = .bool r ∧ t6 = .int .i64 ((j : Nat) : Int) ∧ j ≤ es.length ∧ Made wr F0 v es ∧ Sep F F0 ∧ Sep F Fa ∧ Sep Fa F0 ∧ Bd F wr ∧ (∀ k, F k → W.heap.size ≤ k) ∧ (∀ k, Fa k → W.heap.size ≤ k) ∧ Below W.heap.size W wr ∧ WrSt wr F Fa b t4 es j r

def WrStat (wr : World) (F : Nat → Prop) (b : Nat) (es : List Do) (j n N : Nat) (r : Bool) : Prop :=
  (r = true ∧ WOk wr F b es j ∧ n = lenOf (es.take j) ∧ N = numOf (es.take j)) ∨ (r = false ∧ WErr wr F b)

theorem WrStat.far {w w' : World} {F : Nat → Prop} {b j n N : Nat} {es : List Do} {r : Bool} (h : WrStat w F b es j n N r) (hb : Bd F w) (hk : ∀ k, F k → w'.heap[k]? = w.heap[k]?) (hs : w.heap.size ≤ w'.heap.size) : WrStat w' F b es j n N r := by
  rcases h with ⟨h1, h2, h3⟩ | ⟨h1, h2⟩
  · refine .inl ⟨h1, ⟨?_, h2.2⟩, h3⟩
    obtain ⟨v, g1, g2⟩ := h2.1.ex
    exact ⟨⟨v, g1.keep (hk b h2.1.inF), own_keep g2.own (fun k hkk => hk k (g2.inF k hkk)), g2.inF, fun k hkk => Nat.lt_of_lt_of_le (hb k hkk) hs⟩, h2.1.inF, h2.1.lt⟩
  · obtain ⟨v, r, g⟩ := h2.ex
    exact .inr ⟨h1, ⟨v, r, g.keep (hk b h2.inF)⟩, h2.inF, fun k hkk => Nat.lt_of_lt_of_le (hb k hkk) hs⟩

/-- a round's end, where 'all' has grown -/
theorem writes_close {W wr w4 w5 w6 : World} {F F0 F4 Fa F5 : Nat → Prop} {v va v6 : Value} {es : List Do} {b j n N k x : Nat} {l l5 : List Nat} {r : Bool} (hj : j < es.length) (hM : Made wr F0 v es) (hsp : Sep F F0) (hsa : Sep F Fa) (hs0 : Sep Fa F0)
    (hF : ∀ k, F k → W.heap.size ≤ k) (hFa : ∀ k, Fa k → W.heap.size ≤ k) (hB : Below W.heap.size W wr) (hS : Sl wr Fa 5 1 va n (l.map u8)) (hl : Bl l N n) (hn : n ≤ 336 * j)
    (ha4 : Adv F wr F4 w4) (hb4 : Bd F4 w4) (hst : WrStat w4 F4 b es (j + 1) (n + k) (N * 2 ^ k + x) r) (a5 : Adv Nul w4 F5 w5)
    (hown : w6.ownsRow 0 5 1 v6 (n + k) (l.map u8 ++ l5.map u8)) (hg : w5.grownBy w6 va.ownBlock) (hat : v6.ownBlock = va.ownBlock ∨ v6.ownBlock = some w5.heap.size) (hl5 : Bl l5 x k) (hk : k ≤ 336) :
    WritesRel W F0 v es (.pointer (some ⟨b, 0, none⟩)) v6 (.bool r) (.int .i64 ((j : Int) + 1)) w6 := by
  have hsa4 : Sep F4 Fa := ha4.sep hsa hS.bd
  have hS5 := (hS.far ha4 hsa).far a5 (fun _ h _ => h)
  have hM5 := (hM.far ha4 hsp).far a5 (fun _ h _ => h)
  have hF'into : ∀ q, (Fa q ∨ v6.ownBlock = some q) → Fa q ∨ w5.heap.size ≤ q := by
    rintro q (h | h)
    · exact .inl h
    · rcases hat with e | e
      · exact .inl (hS5.inF q (by rw [← e]; exact h))
      · rw [e] at h; injection h with h; right; omega
  have hA6 : Adv Fa w5 (fun q => Fa q ∨ v6.ownBlock = some q) w6 := by
    have h1 := (Adv.refl Fa w5).grown hg (fun q hq => .inl (hS5.inF q hq))
    exact ⟨h1.os, h1.tape, h1.output, h1.size, h1.block, hF'into⟩
  have hb5 : Bd F4 w5 := a5.bd hb4
  have B4 := ha4.below hB hF hB.size
  have B5 := a5.below B4 (fun k hk => hk.elim) B4.size
  have B6 := hA6.below B5 hFa B5.size
  refine ⟨b, F4, (fun q => Fa q ∨ v6.ownBlock = some q), j + 1, r, rfl, rfl, by simp, by omega, hM5.far hA6 hs0, ha4.sep hsp hM.sl.bd, ?_, hA6.sep hs0 hM5.sl.bd, hA6.bd hb5, ha4.from_ hF hB.size, hA6.from_ hFa B5.size, B6, n + k, l ++ l5, N * 2 ^ k + x, hl.append hl5, by omega, ⟨by rw [List.map_append]; exact hown, fun q hq => .inr hq, ?_⟩, ?_⟩
  · exact (hA6.sep hsa4.symm hb5).symm
  · rintro q (h | h)
    · exact Nat.lt_of_lt_of_le (hS5.bd q h) hA6.size
    · exact (hown.lt q h).2
  · have h1 := hst.far hb4 (w' := w5) (a5.far (fun _ h _ => h) hb4) a5.size
    exact h1.far hb5 (hA6.far hsa4.symm hb5) hA6.size

/-- a round's end, where 'all' stays -/
theorem writes_close0 {W wr w4 : World} {F F0 F4 Fa : Nat → Prop} {v va : Value} {es : List Do} {b j n N N' n' : Nat} {l : List Nat} (hj : j < es.length) (hM : Made wr F0 v es) (hsp : Sep F F0) (hsa : Sep F Fa) (hs0 : Sep Fa F0)
    (hF : ∀ k, F k → W.heap.size ≤ k) (hFa : ∀ k, Fa k → W.heap.size ≤ k) (hB : Below W.heap.size W wr) (hS : Sl wr Fa 5 1 va n (l.map u8)) (hl : Bl l N n) (hn : n ≤ 336 * j)
    (ha4 : Adv F wr F4 w4) (hb4 : Bd F4 w4) (hst : WrStat w4 F4 b es (j + 1) n' N' false) (kq : Nat) :
    WritesRel W F0 v es (.pointer (some ⟨b, 0, none⟩)) va (.bool false) (.int .i64 ((j : Int) + 1)) (w4.drewN kq) := by
  have B4 := ha4.below hB hF hB.size
  have hS4 := hS.far ha4 hsa
  have hM4 := hM.far ha4 hsp
  refine ⟨b, F4, Fa, j + 1, false, rfl, rfl, by simp, by omega, ⟨⟨hM4.sl.own, hM4.sl.inF, hM4.sl.bd⟩, hM4.sz, hM4.x, hM4.le⟩, ha4.sep hsp hM.sl.bd, ha4.sep hsa hS.bd, hs0, hb4, ha4.from_ hF hB.size, hFa, below_drewN B4 _, n, l, N, hl, by omega, ⟨hS4.own, hS4.inF, hS4.bd⟩, ?_⟩
  rcases hst with ⟨h1, _⟩ | ⟨_, h2⟩
  · cases h1
  · exact .inr ⟨rfl, h2.ex, h2.inF, h2.bd⟩

set_option maxRecDepth 100000 in
set_option maxHeartbeats 4000000 in
theorem writes_walk (W : World) (v : Value) (hv : DosArg W v) :
    Calls Try.prog 3 #[v] W fun e w' => e = .returned (.bool true) ∧ Below W.heap.size W w' := by
  obtain ⟨ds, hd, hx⟩ := hv
  have HD := Lib.hid hd
  clear hd
  obtain ⟨i0, hi, hz0, hz1, hz2⟩ := info_parts Try.infoU8
  go_enter Try.func3, Try.ntmps3
  go_wp2_with fail
  refine (few_any _ _ _ HD.out).mono ?_
  rintro e w1 ⟨v1, F0, rfl, h1, a1⟩
  have hM1 := fewOf_made hx h1
  have B1 := a1.below (Below.refl _ _) (fun k hk => hk.elim) (Nat.le_refl _)
  obtain ⟨es, hes⟩ : ∃ es, es = fewOf ds := ⟨_, rfl⟩
  rw [← hes] at hM1
  obtain ⟨A, c, rfl, hc1, hc2⟩ := hM1.sl.form0
  unfold maxLen at hc2
  have HM1 := Lib.hid hM1
  have HB1 := Lib.hid B1
  clear h1 hx hes hM1 B1 a1 HD
  go_wp2_with fail
  refine (new_any _).mono ?_
  rintro e w2 ⟨b, F1, rfl, h2, a2, b2⟩
  have h3 : WritesRel W F0 (.slice A es.length c) es (.pointer (some ⟨b, 0, none⟩)) (.slice none 0 0) (.bool true) (.int .i64 0) w2 :=
    ⟨b, F1, Nul, 0, true, rfl, rfl, rfl, Nat.zero_le _, HM1.out.far a2 (fun _ h _ => h), fun k hk hk0 => by
      rcases a2.into k hk with h | h
      · exact h
      · have := HM1.out.sl.bd k hk0; omega, fun _ _ h => h, fun _ h _ => h, b2, a2.from_ (fun k hk => hk.elim) HB1.out.size, fun _ h => h.elim, a2.below HB1.out (fun k hk => hk.elim) HB1.out.size,
      0, [], 0, Bl.nil, by omega, Sl.nil _ _ _, .inl ⟨rfl, ⟨by simpa [numOf, lenOf] using h2, by simp⟩, by simp [lenOf], by simp [numOf]⟩⟩
  have H3 := Lib.hid h3
  clear h3 h2 a2 b2
  go_wp2_with fail
  go_loopw [3, 4, 5, 6] (WritesRel W F0 (.slice A es.length c) es) (fun _ _ _ t _ => es.length - (intOf t).toNat)
  case atStart => exact H3.out
  case round =>
    clear H3
    obtain ⟨b, F, Fa, j, r, rfl, rfl, rfl, hj, hM, hsep, hsepa, hsep0, hb, hF, hFa, hB, n, l, N, hl, hn, hS, hst⟩ := hrel
    obtain ⟨a4, c4, rfl, _, _⟩ := hS.form0
    have HM := Lib.hid hM
    have HSP := Lib.hid hsep
    have HSA := Lib.hid hsepa
    have HS0 := Lib.hid hsep0
    have HF := Lib.hid hF
    have HFa := Lib.hid hFa
    have HB := Lib.hid hB
    have HS := Lib.hid hS
    have HL := Lib.hid hl
    clear hM hsep hsepa hsep0 hF hFa hB hS hl
    by_cases hlt : j < es.length
    · obtain ⟨g, cap, e, _, _⟩ := HM.out.sl.form (by omega)
      injection e with e1 e2 e3
      subst e1
      subst e3
      clear e2
      obtain ⟨g0, g1, g2, g3⟩ := HM.out.cells hlt
      obtain ⟨d, hd⟩ : ∃ d, d = es[j] := ⟨_, rfl⟩
      rw [← hd] at g0 g1 g2 g3
      have hle := HM.out.le
      have HDD := Lib.hid hd
      by_cases hk : d.kind = 0
      · have hk1 : (d.kind == 0) = true := by simp [hk]
        rcases hst with ⟨rfl, hok, hne, hNe⟩ | ⟨rfl, herr⟩
        · by_cases hfit : d.fits
          · have hput := fun w hw hFw => putok_w b j es F w hw hFw hlt HM.out.sz HM.out.le (hd ▸ hk) (hd ▸ hfit)
            rw [← hd] at hput
            obtain ⟨hf0, hf1, hf2⟩ := hfit hk
            have hfits : ∀ w, Calls Try.prog 12 #[.int .u64 d.x, .int .i64 d.n] w fun e w' => e = .returned (.bool true) ∧ w' = w := by
              intro w
              refine (fits_any d.x d.n w (by rw [hd]; exact HM.out.x _ (List.getElem_mem _))).mono ?_
              rintro e w' ⟨rfl, rfl⟩
              exact ⟨by rw [decide_eq_true ⟨hf0, hf1, hf2⟩], rfl⟩
            have hbits : ∀ w, Calls Try.prog 13 #[.int .u64 d.x, .int .i64 d.n] w fun e w' => ∃ v, e = .returned v ∧ ∃ F l, Sl w' F 5 1 v d.n.toNat (l.map u8) ∧ Bl l d.x d.n.toNat ∧ Adv Nul w F w' := fun w => bits_int d.x d.x d.n w rfl hf0 hf2 hf1
            have HPUT := Lib.hid hput
            have HFT := Lib.hid hfits
            have HBT := Lib.hid hbits
            have HOK := Lib.hid hok
            have hn64 : d.n.toNat ≤ 64 := by omega
            have HNE := Lib.hid hne
            have HNN := Lib.hid hNe
            have hbn : d.bits = d.n.toNat ∧ d.num = d.x := ⟨by unfold Do.bits; rw [if_pos hk], by unfold Do.num; rw [if_pos hk]⟩
            have HBN := Lib.hid hbn
            clear hput hfits hbits hok hd hk hfit hf0 hf1 hf2 hne hNe hbn
            go_wp2_with fail
            go_region_with (first
              | (go_at_call 11; refine (HPUT.out _ ?_ ?_).mono ?_; exact HOK.out.drew; exact hb; rintro e w4 ⟨rfl, F4, hp4, ha4, hb4⟩; have hM4 := HM.out.far (Adv.of_drew ha4) HSP.out; obtain ⟨i0', i1, i2, i3⟩ := hM4.cells hlt; rw [← HDD.out] at i0' i1 i2 i3)
              | fail)
            all_goals
              have hS4 := HS.out.far (Adv.of_drew ha4) HSA.out
              have hA4 := Adv.of_drew ha4
              have HS4 := Lib.hid hS4
              have HA4 := Lib.hid hA4
              have HM4 := Lib.hid hM4
              have HP4 := Lib.hid hp4
              clear ha4 hp4 hM4 hS4 hA4
              go_wp2_with fail
              go_quiet ((go_at_call 12; exact Calls.quiet_of_same (HFT.out _)))
              go_wp2_with fail
              refine wp_region_held_drew (S := (fun w' => w'.cell? ⟨g, j * 4 + 1, none⟩ = some (.int .u64 (d.x : Int)) ∧ w'.cell? ⟨g, j * 4 + 2, none⟩ = some (.int .i64 d.n))) (by kernel_rfl) (by first | exact ⟨i1, i2⟩ | exact ⟨k1, k2⟩ | exact ⟨m1, m2⟩) (fun hHeld => ?_)
              clear hHeld
              refine wpAnyH_take (i := 0) (oi := { dst := some 53, op := Go.Op.move (Go.Operand.tmp 4), type := 26, pos := "law.go:46", after := #[], guard := none }) (v := ?_) rfl (by kernel_rfl) (by kernel_rfl) (by kernel_rfl) (fun _ _ _ h => h) (Or.inl ⟨by rfl, ?_⟩) (by first | exact ⟨i1, i2⟩ | exact ⟨k1, k2⟩ | exact ⟨m1, m2⟩) ?_
              rotate_left
              · (intro w hSw; obtain ⟨s1, s2⟩ := hSw; go_simp <;> with_reducible rfl)
              simp only [Act.put, List.setIfInBounds_toArray, List.set_cons_zero, List.set_cons_succ]
              refine wpAnyH_take (i := 1) (oi := { dst := some 54, op := Go.Op.move (Go.Operand.tmp 0), type := 22, pos := "law.go:46", after := #[], guard := none }) (v := ?_) rfl (by kernel_rfl) (by kernel_rfl) (by kernel_rfl) (fun _ _ _ h => h) (Or.inl ⟨by rfl, ?_⟩) (by first | exact ⟨i1, i2⟩ | exact ⟨k1, k2⟩ | exact ⟨m1, m2⟩) ?_
              rotate_left
              · (intro w hSw; obtain ⟨s1, s2⟩ := hSw; go_simp <;> with_reducible rfl)
              simp only [Act.put, List.setIfInBounds_toArray, List.set_cons_zero, List.set_cons_succ]
              refine wpAnyH_take (i := 2) (oi := { dst := some 55, op := Go.Op.move (Go.Operand.tmp 6), type := 3, pos := "law.go:46", after := #[], guard := none }) (v := ?_) rfl (by kernel_rfl) (by kernel_rfl) (by kernel_rfl) (fun _ _ _ h => h) (Or.inl ⟨by rfl, ?_⟩) (by first | exact ⟨i1, i2⟩ | exact ⟨k1, k2⟩ | exact ⟨m1, m2⟩) ?_
              rotate_left
              · (intro w hSw; obtain ⟨s1, s2⟩ := hSw; go_simp <;> with_reducible rfl)
              simp only [Act.put, List.setIfInBounds_toArray, List.set_cons_zero, List.set_cons_succ]
              refine wpAnyH_take (i := 3) (oi := { dst := some 56, op := Go.Op.indexAddr 22 (Go.Operand.tmp 54) (Go.Operand.tmp 55), type := 0, pos := "law.go:46", after := #[{ on := 1, ground := Go.Ground.data }, { on := 2, ground := Go.Ground.data }], guard := none }) (v := ?_) rfl (by kernel_rfl) (by kernel_rfl) (by kernel_rfl) (fun _ _ _ h => h) (Or.inl ⟨by rfl, ?_⟩) (by first | exact ⟨i1, i2⟩ | exact ⟨k1, k2⟩ | exact ⟨m1, m2⟩) ?_
              rotate_left
              · (intro w hSw; obtain ⟨s1, s2⟩ := hSw; go_simp <;> with_reducible rfl)
              simp only [Act.put, List.setIfInBounds_toArray, List.set_cons_zero, List.set_cons_succ]
              refine wpAnyH_take (i := 4) (oi := { dst := some 57, op := Go.Op.fieldAddr 29 (Go.Operand.tmp 56) 1, type := 0, pos := "law.go:46", after := #[{ on := 3, ground := Go.Ground.data }], guard := none }) (v := ?_) rfl (by kernel_rfl) (by kernel_rfl) (by kernel_rfl) (fun _ _ _ h => h) (Or.inl ⟨by rfl, ?_⟩) (by first | exact ⟨i1, i2⟩ | exact ⟨k1, k2⟩ | exact ⟨m1, m2⟩) ?_
              rotate_left
              · (intro w hSw; obtain ⟨s1, s2⟩ := hSw; go_simp <;> with_reducible rfl)
              simp only [Act.put, List.setIfInBounds_toArray, List.set_cons_zero, List.set_cons_succ]
              refine wpAnyH_take (i := 5) (oi := { dst := some 58, op := Go.Op.load 27 (Go.Operand.tmp 57), type := 27, pos := "law.go:46", after := #[{ on := 4, ground := Go.Ground.data }], guard := none }) (v := ?_) rfl (by kernel_rfl) (by kernel_rfl) (by kernel_rfl) (fun _ _ _ h => h) (Or.inl ⟨by rfl, ?_⟩) (by first | exact ⟨i1, i2⟩ | exact ⟨k1, k2⟩ | exact ⟨m1, m2⟩) ?_
              rotate_left
              · (intro w hSw; obtain ⟨s1, s2⟩ := hSw; go_simp <;> with_reducible rfl)
              simp only [Act.put, List.setIfInBounds_toArray, List.set_cons_zero, List.set_cons_succ]
              refine wpAnyH_take (i := 6) (oi := { dst := some 59, op := Go.Op.move (Go.Operand.tmp 0), type := 22, pos := "law.go:46", after := #[], guard := none }) (v := ?_) rfl (by kernel_rfl) (by kernel_rfl) (by kernel_rfl) (fun _ _ _ h => h) (Or.inl ⟨by rfl, ?_⟩) (by first | exact ⟨i1, i2⟩ | exact ⟨k1, k2⟩ | exact ⟨m1, m2⟩) ?_
              rotate_left
              · (intro w hSw; obtain ⟨s1, s2⟩ := hSw; go_simp <;> with_reducible rfl)
              simp only [Act.put, List.setIfInBounds_toArray, List.set_cons_zero, List.set_cons_succ]
              refine wpAnyH_take (i := 7) (oi := { dst := some 60, op := Go.Op.move (Go.Operand.tmp 6), type := 3, pos := "law.go:46", after := #[], guard := none }) (v := ?_) rfl (by kernel_rfl) (by kernel_rfl) (by kernel_rfl) (fun _ _ _ h => h) (Or.inl ⟨by rfl, ?_⟩) (by first | exact ⟨i1, i2⟩ | exact ⟨k1, k2⟩ | exact ⟨m1, m2⟩) ?_
              rotate_left
              · (intro w hSw; obtain ⟨s1, s2⟩ := hSw; go_simp <;> with_reducible rfl)
              simp only [Act.put, List.setIfInBounds_toArray, List.set_cons_zero, List.set_cons_succ]
              refine wpAnyH_take (i := 8) (oi := { dst := some 61, op := Go.Op.indexAddr 22 (Go.Operand.tmp 59) (Go.Operand.tmp 60), type := 0, pos := "law.go:46", after := #[{ on := 6, ground := Go.Ground.data }, { on := 7, ground := Go.Ground.data }], guard := none }) (v := ?_) rfl (by kernel_rfl) (by kernel_rfl) (by kernel_rfl) (fun _ _ _ h => h) (Or.inl ⟨by rfl, ?_⟩) (by first | exact ⟨i1, i2⟩ | exact ⟨k1, k2⟩ | exact ⟨m1, m2⟩) ?_
              rotate_left
              · (intro w hSw; obtain ⟨s1, s2⟩ := hSw; go_simp <;> with_reducible rfl)
              simp only [Act.put, List.setIfInBounds_toArray, List.set_cons_zero, List.set_cons_succ]
              refine wpAnyH_take (i := 9) (oi := { dst := some 62, op := Go.Op.fieldAddr 29 (Go.Operand.tmp 61) 2, type := 0, pos := "law.go:46", after := #[{ on := 8, ground := Go.Ground.data }], guard := none }) (v := ?_) rfl (by kernel_rfl) (by kernel_rfl) (by kernel_rfl) (fun _ _ _ h => h) (Or.inl ⟨by rfl, ?_⟩) (by first | exact ⟨i1, i2⟩ | exact ⟨k1, k2⟩ | exact ⟨m1, m2⟩) ?_
              rotate_left
              · (intro w hSw; obtain ⟨s1, s2⟩ := hSw; go_simp <;> with_reducible rfl)
              simp only [Act.put, List.setIfInBounds_toArray, List.set_cons_zero, List.set_cons_succ]
              refine wpAnyH_take (i := 10) (oi := { dst := some 63, op := Go.Op.load 3 (Go.Operand.tmp 62), type := 3, pos := "law.go:46", after := #[{ on := 9, ground := Go.Ground.data }], guard := none }) (v := ?_) rfl (by kernel_rfl) (by kernel_rfl) (by kernel_rfl) (fun _ _ _ h => h) (Or.inl ⟨by rfl, ?_⟩) (by first | exact ⟨i1, i2⟩ | exact ⟨k1, k2⟩ | exact ⟨m1, m2⟩) ?_
              rotate_left
              · (intro w hSw; obtain ⟨s1, s2⟩ := hSw; go_simp <;> with_reducible rfl)
              simp only [Act.put, List.setIfInBounds_toArray, List.set_cons_zero, List.set_cons_succ]
              refine wpAnyH_ready (rs := [11]) (by kernel_rfl) (by simp) ?_
              refine AllReadyH.cons (o := { dst := some 64, op := Go.Op.call { callee := Go.Callee.value (Go.Operand.func 13), args := #[Go.Operand.tmp 58, Go.Operand.tmp 63], argTypes := #[27, 3] }, type := 26, pos := "law.go:46", after := #[{ on := 5, ground := Go.Ground.data }, { on := 10, ground := Go.Ground.data }], guard := none }) rfl (fun K hK => ?_) AllReadyH.nil
              go_simp
              refine (HBT.out _).mono ?_
              rintro e w5 ⟨v5, rfl, F5, l5, h5, hl5, a5⟩
              obtain ⟨p5, c5, rfl, _, _⟩ := h5.form0
              have hM5 := HM4.out.far (Adv.of_drewN a5) (fun _ h _ => h)
              have hS5 := HS4.out.far (Adv.of_drewN a5) (fun _ h _ => h)
              obtain ⟨k0, k1, k2, k3⟩ := hM5.cells hlt
              rw [← HDD.out] at k1 k2
              go_wp2_with fail
              refine hK.out _ _ (by first | exact ⟨i1, i2⟩ | exact ⟨k1, k2⟩ | exact ⟨m1, m2⟩) (fun hHeld => ?_)
              clear hK K hHeld
              try simp only [Act.put, List.setIfInBounds_toArray, List.set_cons_zero, List.set_cons_succ]
              refine wpAnyH_ready (rs := [12]) (by kernel_rfl) (by simp) ?_
              refine AllReadyH.cons (o := { dst := some 65, op := Go.Op.call { callee := Go.Callee.builtin Go.Builtin.append, args := #[Go.Operand.tmp 53, Go.Operand.tmp 64], argTypes := #[26, 26] }, type := 26, pos := "law.go:46", after := #[{ on := 0, ground := Go.Ground.data }, { on := 11, ground := Go.Ground.data }, { on := 11, ground := Go.Ground.chain }], guard := none }) rfl (fun K hK => ?_) AllReadyH.nil
              refine step_append_rd rfl (.tmp 53) (.tmp 64) rfl rfl rfl hS5.own h5.rd (u8_one _) (by omega) ?_
              intro v6 w6 hown6 hg6 hat6
              have hM6 := hM5.far ((Adv.refl Fa w5).grown hg6 (fun q hq => .inl (hS5.inF q hq))) HS0.out
              obtain ⟨m0, m1, m2, m3⟩ := hM6.cells hlt
              rw [← HDD.out] at m1 m2
              refine hK.out _ _ (by first | exact ⟨i1, i2⟩ | exact ⟨k1, k2⟩ | exact ⟨m1, m2⟩) (fun hHeld => ?_)
              clear hK K hHeld
              try simp only [Act.put, List.setIfInBounds_toArray, List.set_cons_zero, List.set_cons_succ]
              refine wpAnyH_take (i := 13) (oi := { dst := some 4, op := Go.Op.assign (Go.Operand.tmp 65), type := 26, pos := "law.go:46", after := #[{ on := 12, ground := Go.Ground.data }, { on := 12, ground := Go.Ground.chain }, { on := 0, ground := Go.Ground.phase }, { on := 1, ground := Go.Ground.phase }, { on := 2, ground := Go.Ground.phase }, { on := 3, ground := Go.Ground.phase }, { on := 4, ground := Go.Ground.phase }, { on := 5, ground := Go.Ground.phase }, { on := 6, ground := Go.Ground.phase }, { on := 7, ground := Go.Ground.phase }, { on := 8, ground := Go.Ground.phase }, { on := 9, ground := Go.Ground.phase }, { on := 10, ground := Go.Ground.phase }, { on := 11, ground := Go.Ground.phase }, { on := 12, ground := Go.Ground.phase }], guard := none }) (v := ?_) rfl (by kernel_rfl) (by kernel_rfl) (by kernel_rfl) (fun _ _ _ h => h) (Or.inl ⟨by rfl, ?_⟩) (by first | exact ⟨i1, i2⟩ | exact ⟨k1, k2⟩ | exact ⟨m1, m2⟩) ?_
              rotate_left
              · (intro w hSw; obtain ⟨s1, s2⟩ := hSw; go_simp <;> with_reducible rfl)
              simp only [Act.put, List.setIfInBounds_toArray, List.set_cons_zero, List.set_cons_succ]
              refine wpAnyH_done (by kernel_rfl) ?_ _
              have hrel2 := writes_close (r := true) hlt HM.out HSP.out HSA.out HS0.out HF.out HFa.out HB.out HS.out HL.out hn HA4.out hb4 (.inl ⟨rfl, HP4.out, by rw [List.take_succ_eq_append_getElem hlt, lenOf_snoc, ← HNE.out, ← HDD.out, HBN.out.1], by rw [List.take_succ_eq_append_getElem hlt, numOf_snoc, ← HNN.out, ← HDD.out, HBN.out.1, HBN.out.2]⟩) (Adv.of_drewN a5) hown6 hg6 hat6 hl5 (by omega)
              have HREL := Lib.hid hrel2
              clear hrel2 hown6 hg6 hat6 hM6 hM5 hS5 h5 hl5 a5
              go_wp2
              exact ⟨HREL.out, by simp [intOf]; omega⟩
          · have hput := fun w hw hFw => putbad_w b j es F w hw hFw hlt (HM.out.x _ (List.getElem_mem _)) (hd ▸ hfit)
            rw [← hd] at hput
            have hfits : ∀ w, Calls Try.prog 12 #[.int .u64 d.x, .int .i64 d.n] w fun e w' => e = .returned (.bool false) ∧ w' = w := by
              intro w
              refine (fits_any d.x d.n w (by rw [hd]; exact HM.out.x _ (List.getElem_mem _))).mono ?_
              rintro e w' ⟨rfl, rfl⟩
              exact ⟨by rw [decide_eq_false (fun h => hfit (fun _ => h))], rfl⟩
            have HPUT := Lib.hid hput
            have HFT := Lib.hid hfits
            have HOK := Lib.hid hok
            clear hput hfits hok hd hk hfit hne hNe
            go_wp2_with fail
            go_region_with (first
              | (go_at_call 11; refine (HPUT.out _ ?_ ?_).mono ?_; exact HOK.out.drew; exact hb; rintro e w4 ⟨rfl, hp4, ha4⟩; have hM4 := HM.out.far (Adv.of_drew ha4) HSP.out; obtain ⟨i0', i1, i2, i3⟩ := hM4.cells hlt; rw [← HDD.out] at i0' i1 i2 i3)
              | fail)
            all_goals
              have hA4 := Adv.of_drew ha4
              have HA4 := Lib.hid hA4
              have HP4 := Lib.hid hp4
              clear ha4 hp4 hM4 hA4
              go_wp2_with fail
              go_quiet ((go_at_call 12; exact Calls.quiet_of_same (HFT.out _)))
              have HREL := Lib.hid (writes_close0 (n' := 0) (N' := 0) hlt HM.out HSP.out HSA.out HS0.out HF.out HFa.out HB.out HS.out HL.out hn HA4.out HP4.out.bd (.inr ⟨rfl, HP4.out⟩) nq)
              go_wp2
              exact ⟨HREL.out, by simp [intOf]; omega⟩
        · have hput := fun w hw => put_err b d.x d.n F w hw
          have HPUT := Lib.hid hput
          have HER := Lib.hid herr
          clear hput herr hd hk
          go_wp2_with fail
          go_region_with (first
            | (go_at_call 11; refine (HPUT.out _ ?_).mono ?_; exact ⟨HER.out.ex, HER.out.inF, HER.out.bd⟩; rintro e w4 ⟨rfl, rfl⟩)
            | fail)
          all_goals
            go_wp2_with fail
            simp only [List.getElem_toArray, List.getElem_cons_succ, List.getElem_cons_zero, Act.put, List.setIfInBounds_toArray, List.set_cons_zero, List.set_cons_succ]
            refine wp_region_held_drew (S := (fun _ => True)) (by kernel_rfl) (by first | trivial) (fun hHeld => ?_)
            clear hHeld
            refine wpAnyH_take (i := 0) (oi := { dst := some 38, op := Go.Op.move (Go.Operand.tmp 5), type := 4, pos := "law.go:44", after := #[], guard := none }) (v := ?_) rfl (by kernel_rfl) (by kernel_rfl) (by kernel_rfl) (fun _ _ _ h => h) (Or.inl ⟨by rfl, ?_⟩) (by first | trivial) ?_
            rotate_left
            · (intro w hSw; obtain _h := hSw; go_simp <;> with_reducible rfl)
            simp only [Act.put, List.setIfInBounds_toArray, List.set_cons_zero, List.set_cons_succ]
            refine wpAnyH_take (i := 1) (oi := { dst := some 39, op := Go.Op.move (Go.Operand.tmp 38), type := 4, pos := "law.go:44", after := #[{ on := 0, ground := Go.Ground.data }], guard := none }) (v := ?_) rfl (by kernel_rfl) (by kernel_rfl) (by kernel_rfl) (fun _ _ _ h => h) (Or.inl ⟨by rfl, ?_⟩) (by first | trivial) ?_
            rotate_left
            · (intro w hSw; obtain _h := hSw; go_simp <;> with_reducible rfl)
            simp only [Act.put, List.setIfInBounds_toArray, List.set_cons_zero, List.set_cons_succ]
            refine wpAnyH_take (i := 2) (oi := { dst := some 40, op := Go.Op.move (Go.Operand.tmp 0), type := 22, pos := "law.go:44", after := #[{ on := 1, ground := Go.Ground.guard }], guard := some (1, true) }) (v := undef) rfl (by kernel_rfl) (by kernel_rfl) (by kernel_rfl) (fun _ _ _ h => h) (Or.inr ⟨by rfl, rfl⟩) (by first | trivial) ?_
            try simp only [Act.put, List.setIfInBounds_toArray, List.set_cons_zero, List.set_cons_succ]
            refine wpAnyH_take (i := 3) (oi := { dst := some 41, op := Go.Op.move (Go.Operand.tmp 6), type := 3, pos := "law.go:44", after := #[{ on := 1, ground := Go.Ground.guard }], guard := some (1, true) }) (v := undef) rfl (by kernel_rfl) (by kernel_rfl) (by kernel_rfl) (fun _ _ _ h => h) (Or.inr ⟨by rfl, rfl⟩) (by first | trivial) ?_
            try simp only [Act.put, List.setIfInBounds_toArray, List.set_cons_zero, List.set_cons_succ]
            refine wpAnyH_take (i := 4) (oi := { dst := some 42, op := Go.Op.indexAddr 22 (Go.Operand.tmp 40) (Go.Operand.tmp 41), type := 0, pos := "law.go:44", after := #[{ on := 2, ground := Go.Ground.data }, { on := 3, ground := Go.Ground.data }, { on := 1, ground := Go.Ground.guard }], guard := some (1, true) }) (v := undef) rfl (by kernel_rfl) (by kernel_rfl) (by kernel_rfl) (fun _ _ _ h => h) (Or.inr ⟨by rfl, rfl⟩) (by first | trivial) ?_
            try simp only [Act.put, List.setIfInBounds_toArray, List.set_cons_zero, List.set_cons_succ]
            refine wpAnyH_take (i := 5) (oi := { dst := some 43, op := Go.Op.fieldAddr 29 (Go.Operand.tmp 42) 1, type := 0, pos := "law.go:44", after := #[{ on := 4, ground := Go.Ground.data }, { on := 1, ground := Go.Ground.guard }], guard := some (1, true) }) (v := undef) rfl (by kernel_rfl) (by kernel_rfl) (by kernel_rfl) (fun _ _ _ h => h) (Or.inr ⟨by rfl, rfl⟩) (by first | trivial) ?_
            try simp only [Act.put, List.setIfInBounds_toArray, List.set_cons_zero, List.set_cons_succ]
            refine wpAnyH_take (i := 6) (oi := { dst := some 44, op := Go.Op.load 27 (Go.Operand.tmp 43), type := 27, pos := "law.go:44", after := #[{ on := 5, ground := Go.Ground.data }, { on := 1, ground := Go.Ground.guard }], guard := some (1, true) }) (v := undef) rfl (by kernel_rfl) (by kernel_rfl) (by kernel_rfl) (fun _ _ _ h => h) (Or.inr ⟨by rfl, rfl⟩) (by first | trivial) ?_
            try simp only [Act.put, List.setIfInBounds_toArray, List.set_cons_zero, List.set_cons_succ]
            refine wpAnyH_take (i := 7) (oi := { dst := some 45, op := Go.Op.move (Go.Operand.tmp 0), type := 22, pos := "law.go:44", after := #[{ on := 1, ground := Go.Ground.guard }], guard := some (1, true) }) (v := undef) rfl (by kernel_rfl) (by kernel_rfl) (by kernel_rfl) (fun _ _ _ h => h) (Or.inr ⟨by rfl, rfl⟩) (by first | trivial) ?_
            try simp only [Act.put, List.setIfInBounds_toArray, List.set_cons_zero, List.set_cons_succ]
            refine wpAnyH_take (i := 8) (oi := { dst := some 46, op := Go.Op.move (Go.Operand.tmp 6), type := 3, pos := "law.go:44", after := #[{ on := 1, ground := Go.Ground.guard }], guard := some (1, true) }) (v := undef) rfl (by kernel_rfl) (by kernel_rfl) (by kernel_rfl) (fun _ _ _ h => h) (Or.inr ⟨by rfl, rfl⟩) (by first | trivial) ?_
            try simp only [Act.put, List.setIfInBounds_toArray, List.set_cons_zero, List.set_cons_succ]
            refine wpAnyH_take (i := 9) (oi := { dst := some 47, op := Go.Op.indexAddr 22 (Go.Operand.tmp 45) (Go.Operand.tmp 46), type := 0, pos := "law.go:44", after := #[{ on := 7, ground := Go.Ground.data }, { on := 8, ground := Go.Ground.data }, { on := 1, ground := Go.Ground.guard }], guard := some (1, true) }) (v := undef) rfl (by kernel_rfl) (by kernel_rfl) (by kernel_rfl) (fun _ _ _ h => h) (Or.inr ⟨by rfl, rfl⟩) (by first | trivial) ?_
            try simp only [Act.put, List.setIfInBounds_toArray, List.set_cons_zero, List.set_cons_succ]
            refine wpAnyH_take (i := 10) (oi := { dst := some 48, op := Go.Op.fieldAddr 29 (Go.Operand.tmp 47) 2, type := 0, pos := "law.go:44", after := #[{ on := 9, ground := Go.Ground.data }, { on := 1, ground := Go.Ground.guard }], guard := some (1, true) }) (v := undef) rfl (by kernel_rfl) (by kernel_rfl) (by kernel_rfl) (fun _ _ _ h => h) (Or.inr ⟨by rfl, rfl⟩) (by first | trivial) ?_
            try simp only [Act.put, List.setIfInBounds_toArray, List.set_cons_zero, List.set_cons_succ]
            refine wpAnyH_take (i := 11) (oi := { dst := some 49, op := Go.Op.load 3 (Go.Operand.tmp 48), type := 3, pos := "law.go:44", after := #[{ on := 10, ground := Go.Ground.data }, { on := 1, ground := Go.Ground.guard }], guard := some (1, true) }) (v := undef) rfl (by kernel_rfl) (by kernel_rfl) (by kernel_rfl) (fun _ _ _ h => h) (Or.inr ⟨by rfl, rfl⟩) (by first | trivial) ?_
            try simp only [Act.put, List.setIfInBounds_toArray, List.set_cons_zero, List.set_cons_succ]
            refine wpAnyH_take (i := 12) (oi := { dst := some 50, op := Go.Op.call { callee := Go.Callee.value (Go.Operand.func 12), args := #[Go.Operand.tmp 44, Go.Operand.tmp 49], argTypes := #[27, 3] }, type := 4, pos := "law.go:44", after := #[{ on := 6, ground := Go.Ground.data }, { on := 11, ground := Go.Ground.data }, { on := 1, ground := Go.Ground.chain }, { on := 1, ground := Go.Ground.guard }], guard := some (1, true) }) (v := undef) rfl (by kernel_rfl) (by kernel_rfl) (by kernel_rfl) (fun _ _ _ h => h) (Or.inr ⟨by rfl, rfl⟩) (by first | trivial) ?_
            try simp only [Act.put, List.setIfInBounds_toArray, List.set_cons_zero, List.set_cons_succ]
            refine wpAnyH_take (i := 13) (oi := { dst := some 51, op := Go.Op.pick (Go.Operand.tmp 39) (Go.Operand.tmp 50) (Go.Operand.const (Go.Value.bool false)), type := 4, pos := "law.go:44", after := #[{ on := 1, ground := Go.Ground.data }, { on := 12, ground := Go.Ground.data }], guard := none }) (v := ?_) rfl (by kernel_rfl) (by kernel_rfl) (by kernel_rfl) (fun _ _ _ h => h) (Or.inl ⟨by rfl, ?_⟩) (by first | trivial) ?_
            rotate_left
            · (intro w hSw; obtain _h := hSw; go_simp <;> with_reducible rfl)
            simp only [Act.put, List.setIfInBounds_toArray, List.set_cons_zero, List.set_cons_succ]
            refine wpAnyH_take (i := 14) (oi := { dst := some 5, op := Go.Op.assign (Go.Operand.tmp 51), type := 4, pos := "law.go:44", after := #[{ on := 13, ground := Go.Ground.data }, { on := 12, ground := Go.Ground.chain }, { on := 0, ground := Go.Ground.phase }, { on := 1, ground := Go.Ground.phase }, { on := 2, ground := Go.Ground.phase }, { on := 3, ground := Go.Ground.phase }, { on := 4, ground := Go.Ground.phase }, { on := 5, ground := Go.Ground.phase }, { on := 6, ground := Go.Ground.phase }, { on := 7, ground := Go.Ground.phase }, { on := 8, ground := Go.Ground.phase }, { on := 9, ground := Go.Ground.phase }, { on := 10, ground := Go.Ground.phase }, { on := 11, ground := Go.Ground.phase }, { on := 12, ground := Go.Ground.phase }, { on := 13, ground := Go.Ground.phase }], guard := none }) (v := ?_) rfl (by kernel_rfl) (by kernel_rfl) (by kernel_rfl) (fun _ _ _ h => h) (Or.inl ⟨by rfl, ?_⟩) (by first | trivial) ?_
            rotate_left
            · (intro w hSw; obtain _h := hSw; go_simp <;> with_reducible rfl)
            simp only [Act.put, List.setIfInBounds_toArray, List.set_cons_zero, List.set_cons_succ]
            refine wpAnyH_done (by kernel_rfl) ?_ _
            have HREL := Lib.hid (writes_close0 (n' := 0) (N' := 0) hlt HM.out HSP.out HSA.out HS0.out HF.out HFa.out HB.out HS.out HL.out hn (Adv.refl F wr) hb (.inr ⟨rfl, HER.out⟩) 2)
            go_wp2
            exact ⟨HREL.out, by simp [intOf]; omega⟩
      · have hk1 : (d.kind == 0) = false := by simp [hk]
        have hsd := HM.out.sz es[j] (List.getElem_mem _)
        have htext : Calls Try.prog 14 #[.pointer (some ⟨b, 0, none⟩), .string d.s] wr fun e w' => e = .returned (.pointer (some ⟨b, 0, none⟩)) ∧ ∃ F', WrStat w' F' b es (j + 1) (n + (16 + 8 * d.s.size)) (N * 2 ^ (16 + 8 * d.s.size) + tx d.s.size d.s.data.toList) r ∧ Adv F wr F' w' ∧ Bd F' w' := by
          have e1 : d.bits = 16 + 8 * d.s.size := by unfold Do.bits; rw [if_neg hk]
          have e2 : d.num = tx d.s.size d.s.data.toList := by unfold Do.num; rw [if_neg hk]
          rcases hst with ⟨rfl, hok, hne, hNe⟩ | ⟨rfl, herr⟩
          · have h := textok_w b j es F wr hok hb hlt HM.out.sz HM.out.le (hd ▸ hk)
            rw [← hd] at h
            refine h.mono ?_
            rintro e w' ⟨rfl, F', h1, h2, h3⟩
            exact ⟨rfl, F', .inl ⟨rfl, h1, by rw [List.take_succ_eq_append_getElem hlt, lenOf_snoc, ← hne, ← hd, e1], by rw [List.take_succ_eq_append_getElem hlt, numOf_snoc, ← hNe, ← hd, e1, e2]⟩, h2, h3⟩
          · refine (text_err b d.s F wr herr).mono ?_
            rintro e w' ⟨rfl, rfl⟩
            exact ⟨rfl, F, .inr ⟨rfl, herr⟩, Adv.refl _ _, hb⟩
        rw [← hd] at hsd
        have HTX := Lib.hid htext
        clear htext hst hd hk
        go_wp2_with (first
          | (go_at_call 14; refine HTX.out.mono ?_; rintro e w4 ⟨rfl, F4, hp4, ha4, hb4⟩; have hM4 := HM.out.far ha4 HSP.out; obtain ⟨i0', i1, i2, i3⟩ := hM4.cells hlt; rw [← HDD.out] at i0' i1 i2 i3; have HS4 := Lib.hid (HS.out.far ha4 HSA.out); have HA4 := Lib.hid ha4; have HP4 := Lib.hid hp4; clear ha4 hp4 hM4)
          | (go_at_call 15; refine (reftext_any d.s _ (by omega)).mono ?_; rintro e w5 ⟨v5, rfl, F5, l5, h5, hl5, a5⟩; obtain ⟨p5, c5, rfl, _, _⟩ := h5.form0; have hS5 := HS4.out.far a5 (fun _ h _ => h))
          | (at_builtin; refine wpList_append_rd rfl (.tmp 73) (.tmp 79) rfl rfl rfl hS5.own h5.rd (u8_one _) (by omega) ?_; intro v6 w6 hown6 hg6 hat6; have HREL := Lib.hid (writes_close hlt HM.out HSP.out HSA.out HS0.out HF.out HFa.out HB.out HS.out HL.out hn HA4.out hb4 HP4.out a5 hown6 hg6 hat6 hl5 (by omega)))
          | fail)
        exact ⟨HREL.out, by simp [intOf]; omega⟩
    · obtain rfl : j = es.length := by omega
      have hle := HM.out.le
      rcases hst with ⟨rfl, hok, hne, hNe⟩ | ⟨rfl, herr⟩
      · obtain ⟨hw, hf⟩ := hok
        rw [List.take_length] at hw hf hne hNe
        have hlen := lenOf_le es (fun d hd => ⟨hf d hd, HM.out.sz d hd⟩)
        have hw' : WSt wr F b N n := by rw [hne, hNe]; exact hw
        have HS' := HS.out
        have HL' := HL.out
        have hm1 : n ≤ 20000 := by omega
        obtain ⟨q, hq⟩ : ∃ q, q = qn n := ⟨_, rfl⟩
        have hR : (rowOf N n).length = q := by rw [hq]; exact be_length _ _
        obtain ⟨R, hRR⟩ : ∃ R, R = rowOf N n := ⟨_, rfl⟩
        have hdone : ∀ w, WSt w F b N n → Calls Try.prog 16 #[.pointer (some ⟨b, 0, none⟩)] w fun e w' => ∃ v F', e = .returned (.tuple #[v, .int .i64 0]) ∧ Sl w' F' 5 1 v q (R.map u8) ∧ Adv Nul w F' w' := by
          intro w h; rw [hq, hRR]; exact done_ok _ _ _ _ _ h (by omega)
        have hbytes : ∀ w, Sl w Fa 5 1 (.slice a4 n c4) n (l.map u8) → Calls Try.prog 19 #[.slice a4 n c4] w fun e w' => ∃ v, e = .returned v ∧ ∃ F, Sl w' F 5 1 v q (R.map u8) ∧ Adv Nul w F w' := by
          intro w h; rw [hq, hRR]; exact bytes_any _ _ _ _ _ _ h HL' (by omega)
        have HDN := Lib.hid hdone
        have HBY := Lib.hid hbytes
        have HSS := Lib.hid HS'
        have HWW := Lib.hid hw'
        clear hdone hbytes HS' HL' hw' hw hf hlen hRR hR hq HS HL hn hne hNe
        go_wp2_with fail
        refine (HDN.out _ HWW.out).mono ?_
        rintro e w4 ⟨v4, F4, rfl, h4, x4⟩
        obtain ⟨a40, c40, rfl, _, _⟩ := h4.form0
        go_wp2_with fail
        refine (HDN.out _ (HWW.out.over x4)).mono ?_
        rintro e w5 ⟨v5, F5, rfl, h5, x5⟩
        obtain ⟨a50, c50, rfl, _, _⟩ := h5.form0
        have h4b := h4.far x5 (fun _ h _ => h)
        go_wp2_with fail
        refine (HBY.out _ ((HSS.out.far x4 (fun _ h _ => h)).far x5 (fun _ h _ => h))).mono ?_
        rintro e w6 ⟨v6, rfl, F6, h6, x6⟩
        obtain ⟨a60, c60, rfl, _, _⟩ := h6.form0
        have h4c := h4b.far x6 (fun _ h _ => h)
        have h5c := h5.far x6 (fun _ h _ => h)
        have B4 := x4.below HB.out (fun k hk => hk.elim) HB.out.size
        have B5 := x5.below B4 (fun k hk => hk.elim) B4.size
        have B6 := Lib.hid (x6.below B5 (fun k hk => hk.elim) B5.size)
        have H4 := Lib.hid h4c
        have H5 := Lib.hid h5c
        have H6 := Lib.hid h6
        clear h4 h5 h6 h4b h4c h5c x4 x5 x6 B4 B5
        go_wp2_with fail
        refine (same_eq _ _ q R _ H4.out.rd H6.out.rd).mono ?_
        rintro e w7 ⟨rfl, k7, rfl⟩
        go_wp2_with fail
        refine (same_eq _ _ q R _ (show Rd (w6.drewN k7) 1 _ q _ from H4.out.rd) (show Rd (w6.drewN k7) 1 _ q _ from H5.out.rd)).mono ?_
        rintro e w8 ⟨rfl, k8, rfl⟩
        go_wp2_with (first
          | (go_at_call 17; refine (lives_any _).mono ?_; rintro e w7 ⟨rfl, hb7⟩))
        go_ret
        have B8 : Below W.heap.size W (w6.drewN (k7 + k8)) := below_drewN B6.out _
        exact ⟨rfl, B8.trans (hb7.mono B8.size)⟩
      · have HW := Lib.hid herr
        clear herr
        go_wp2_with (first
          | (go_at_call 16; refine (done_err _ _ _ HW.out).mono ?_; rintro e w4 ⟨rfl, a4⟩)
          | (go_at_call 17; refine (lives_any _).mono ?_; rintro e w7 ⟨rfl, hb7⟩))
        go_ret
        have B4 := a4.below HB.out (fun k hk => hk.elim) HB.out.size
        exact ⟨rfl, B4.trans (hb7.mono B4.size)⟩
end Go.Proofs.Ytjmncfabalideaa
