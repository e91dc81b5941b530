/- The first document answer's plain words: Within, Same, Cut, Copy. Numbers as bytes, stamps, flags: what the calls answer. A number's bytes by the document; bytes cloned, bytes compared. Memory in pieces: cells laid in a row, bytes cloned, bytes compared. -/
import Derived.Test.YtbdjlmdbnoghnaaGreatMh00
import Derived.Deep.QuietTactic
import Derived.BigQuiet
import Derived.Laws.AppendOwnNone
import Derived.Laws.BytesArg
import Derived.Deep.MidRow
import Derived.Deep.RegionHeld3
import Derived.Deep.RegionWith
namespace Go.Proofs.YtbdjlmdbnoghnaaGreat
open Go.ChangeShapes Go.WideShapes Go.ChangeAt Go.RowKit

set_option maxRecDepth 3000 in
theorem within_any (x a b : Int) (w : World) (hab : a ≤ b) :
    Calls Tryz.prog 4 #[.int .i64 x, .int .i64 a, .int .i64 b] w fun e w' => ∃ y : Int, e = .returned (.int .i64 y) ∧ a ≤ y ∧ y ≤ b ∧ (a ≤ x → x ≤ b → y = x) ∧ w = w' := by
  by_cases h1 : x < a
  · go_enter Tryz.func4, Tryz.ntmps4
    go_wp2
    go_ret
    exact ⟨a, rfl, by omega, hab, by omega, rfl⟩
  · by_cases h2 : b < x
    · go_enter Tryz.func4, Tryz.ntmps4
      go_wp2
      go_ret
      exact ⟨b, rfl, hab, by omega, by omega, rfl⟩
    · go_enter Tryz.func4, Tryz.ntmps4
      go_wp2
      go_ret
      exact ⟨x, rfl, by omega, by omega, by simp, rfl⟩

set_option maxRecDepth 3000 in
set_option maxHeartbeats 400000 in
theorem same_eq (v1 v2 : Value) (n : Nat) (l : List Nat) (w : World) (h1 : Rd w 1 v1 n (l.map u8)) (h2 : Rd w 1 v2 n (l.map u8)) :
    Calls Tryz.prog 24 #[v1, v2] w fun e w' => e = .returned (.bool true) ∧ ∃ k, w' = w.drewN k := by
  obtain ⟨A1, c1, rfl, _, _⟩ := h1.form
  obtain ⟨A2, c2, rfl, _, hc2⟩ := h2.form
  unfold maxLen at hc2
  have hl : l.length = n := by obtain ⟨_, _, _, _, _, h, _⟩ := h1; simpa using h
  have H1 := Lib.hid h1
  have H2 := Lib.hid h2
  have HL := Lib.hid hl
  clear h1 h2 hl
  go_enter Tryz.func24, Tryz.ntmps24
  go_wp2_with fail
  go_loopw [5] (fun t wr => ∃ k : Nat, t = .int .i64 ((k : Nat) : Int) ∧ k ≤ n ∧ ∃ j, wr = w.drewN j) (fun t _ => n - (intOf t).toNat)
  case atStart => exact ⟨0, rfl, Nat.zero_le _, 0, rfl⟩
  case round =>
    obtain ⟨k, rfl, hk, j, rfl⟩ := hrel
    by_cases hlt : k < n
    · obtain ⟨b1, o1, rfl, _, g1⟩ := H1.out.cells (by omega) (by decide)
      obtain ⟨b2, o2, rfl, _, g2⟩ := H2.out.cells (by omega) (by decide)
      have hkl : k < l.length := by have := HL.out; omega
      have c1' : w.cell? ⟨b1, o1 + k, none⟩ = some (.int .u8 (l[k] : Int)) := g1 k _ (by rw [List.getElem?_map, List.getElem?_eq_getElem hkl]; rfl)
      have c2' : w.cell? ⟨b2, o2 + k, none⟩ = some (.int .u8 (l[k] : Int)) := g2 k _ (by rw [List.getElem?_map, List.getElem?_eq_getElem hkl]; rfl)
      obtain ⟨x, hx⟩ : ∃ x, x = l[k] := ⟨_, rfl⟩
      rw [← hx] at c1' c2'
      clear g1 g2 hx hkl
      go_wp2_with fail
      go_quiet (fail)
      go_wp2
      exact ⟨⟨k + 1, by simp, by omega, _, rfl⟩, by simp [intOf]; omega⟩
    · obtain rfl : k = n := by omega
      go_wp2
      go_ret
      exact ⟨rfl, _, rfl⟩

/-- What is known of bytes that came in. -/
structure In (W : World) (v : Value) (l : List Nat) : Prop where
  rd : Rd W 1 v l.length (l.map u8)
  old : ∀ b, v.ownBlock = some b → 0 < l.length → b < W.heap.size
  lt : ∀ x ∈ l, x < 256
theorem In.below {W w : World} {v : Value} {l : List Nat} (h : In W v l) (hb : Below W.heap.size W w) : Rd w 1 v l.length (l.map u8) := h.rd.below hb (fun k hk hn _ => h.old k hk hn)
theorem In.far {W w : World} {v : Value} {l : List Nat} (h : In W v l) (hb : Below W.heap.size W w) : In w v l := ⟨h.below hb, fun b hb' hn => Nat.lt_of_lt_of_le (h.old b hb' hn) hb.size, h.lt⟩

set_option maxRecDepth 3000 in
theorem cut_any (v : Value) (l : List Nat) (n : Nat) (w : World) (h : In w v l) (hn : n ≤ 1000000000) :
    Calls Tryz.prog 41 #[v, .int .i64 n] w fun e w' => ∃ v', e = .returned v' ∧ In w v' (l.take n) ∧ w = w' := by
  obtain ⟨A, c, rfl, hlc, hcm⟩ := h.rd.form
  unfold maxLen at hcm
  obtain ⟨m, hm⟩ : ∃ m, m = l.length := ⟨_, rfl⟩
  by_cases hlt : n < m
  · obtain ⟨b, o, rfl, hb, hc⟩ := h.rd.cells (by omega) (by decide)
    have hin : In w (.slice (some ⟨b, o, none⟩) n c) (l.take n) := by
      have e : (l.take n).length = n := by simp; omega
      refine ⟨⟨_, c, by rw [e], by omega, by unfold maxLen; omega, by simp, fun h => (by cases h), fun _ => ⟨_, rfl, hb, fun j u hu => ?_⟩⟩, fun k hk _ => ?_, fun x hx => h.lt x (List.mem_of_mem_take hx)⟩
      · rw [add_none]
        refine hc j u ?_
        rw [List.map_take, List.getElem?_take] at hu
        split at hu
        · exact hu
        · cases hu
      · have : b = k := by simpa [Value.ownBlock] using hk
        omega
    have HI := Lib.hid hin
    have HH := Lib.hid h
    rw [← hm] at hlc ⊢
    clear hin h hc hm
    go_enter Tryz.func41, Tryz.ntmps41
    go_wp2
    go_ret
    exact ⟨_, rfl, HI.out, rfl⟩
  · have hin : In w (.slice A l.length c) (l.take n) := by
      rw [List.take_of_length_le (by omega)]; exact h
    have HI := Lib.hid hin
    rw [← hm] at hlc HI ⊢
    clear hin h hm
    go_enter Tryz.func41, Tryz.ntmps41
    go_wp2
    go_ret
    exact ⟨_, rfl, HI.out, rfl⟩

set_option maxRecDepth 3000 in
theorem copy_any (v : Value) (n : Nat) (l : List Nat) (w : World) (h : Rd w 1 v n (l.map u8)) (hn : n ≤ 1000000000) :
    Calls Tryz.prog 40 #[v] w fun e w' => ∃ v' F, e = .returned v' ∧ Sl w' F 5 1 v' n (l.map u8) ∧ Adv Nul w F w' := by
  have H := Lib.hid h
  clear h
  go_enter Tryz.func40, Tryz.ntmps40
  go_wp2_with (first
    | (at_builtin; refine wpList_append_rd rfl (.tmp 4) (.tmp 5) rfl rfl rfl (World.ownsRow_nil _ _ _ _) H.out (u8_one _) ?c1 ?c2)
    | fail)
  case c1 => omega
  case c2 =>
    intro v' w' hown hg hat
    go_wp2
    go_ret
    refine ⟨v', (fun k => v'.ownBlock = some k), rfl, ⟨hown, fun k hk => hk, fun k hk => (hown.lt k hk).2⟩, ?_⟩
    refine ⟨hg.os, hg.tape, hg.output, hg.size, fun k hk _ => hg.block k hk (by simp [Value.ownBlock]), fun k hk => ?_⟩
    rcases hat with e | e
    · rw [hk] at e; simp [Value.ownBlock] at e
    · rw [hk] at e; injection e with e; right; omega

theorem In.of_rd_ints {W : World} {v : Value} (h : ∃ (n : Nat) (zs : List Int), Rd W 1 v n (zs.map (Value.int .u8)) ∧ zs.length = n ∧ (∀ z ∈ zs, (Lit.int .u8 z).wf = true) ∧ (∀ b, v.ownBlock = some b → 0 < n → b < W.heap.size)) : ∃ l, In W v l := by
  obtain ⟨n, zs, h1, h2, h3, h4⟩ := h
  have hb : ∀ z ∈ zs, 0 ≤ z ∧ z < 256 := fun z hz => by have := bounds_u8 (h3 z hz); omega
  have e : (zs.map Int.toNat).map u8 = zs.map (Value.int .u8) := by
    rw [List.map_map]
    refine List.map_congr_left fun z hz => ?_
    have := hb z hz
    simp only [Function.comp, u8]
    rw [Int.toNat_of_nonneg this.1]
  refine ⟨zs.map Int.toNat, ⟨by rw [e, List.length_map, h2]; exact h1, fun b hb hn => h4 b hb (by rw [List.length_map, h2] at hn; exact hn), fun x hx => ?_⟩⟩
  obtain ⟨z, hz, rfl⟩ := List.mem_map.1 hx
  have := hb z hz
  omega

/-- Bytes that came in, with their number. -/
structure InN (W : World) (v : Value) (m : Nat) (l : List Nat) : Prop where
  len : m = l.length
  rd : Rd W 1 v m (l.map u8)
  old : ∀ b, v.ownBlock = some b → 0 < m → b < W.heap.size
  lt : ∀ x ∈ l, x < 256
theorem In.num {W : World} {v : Value} {m : Nat} {l : List Nat} (h : In W v l) (hm : m = l.length) : InN W v m l := by subst hm; exact ⟨rfl, h.rd, h.old, h.lt⟩
theorem InN.far {W w : World} {v : Value} {m : Nat} {l : List Nat} (h : InN W v m l) (hb : Below W.heap.size W w) : InN w v m l :=
  ⟨h.len, h.rd.below hb (fun k hk hn _ => h.old k hk hn), fun b hb' hn => Nat.lt_of_lt_of_le (h.old b hb' hn) hb.size, h.lt⟩
theorem Sl.rdl {w : World} {F : Nat → Prop} {v : Value} {m : Nat} {l : List Nat} (h : Sl w F 5 1 v m (l.map u8)) (hm : m = l.length) : Rd w 1 v l.length (l.map u8) := by rw [← hm]; exact h.rd

/-- an own row of bytes, one of them stored anew -/
theorem Sl.set8 {w : World} {F : Nat → Prop} {g c n : Nat} {l : List Nat} (h : Sl w F 5 1 (.slice (some ⟨g, 0, none⟩) n c) n (l.map u8)) (k y : Nat) (v : Int) (hv : v = (y : Int)) :
    Sl (w.setCell ⟨g, k, none⟩ (.int .u8 v)) F 5 1 (.slice (some ⟨g, 0, none⟩) n c) n ((l.set k y).map u8) := by
  have h1 := (h.own.stored k (.int .u8 v)).1
  refine ⟨?_, h.inF, fun j hj => by have := h.bd j hj; simpa [World.setCell] using this⟩
  rw [List.map_set, show u8 y = .int .u8 v from by rw [hv]; rfl]
  exact h1
theorem Sl.at8 {w : World} {F : Nat → Prop} {g c n k : Nat} {l : List Nat} (h : Sl w F 5 1 (.slice (some ⟨g, 0, none⟩) n c) n (l.map u8)) (hk : k < n) (hl : k < l.length) : w.cell? ⟨g, k, none⟩ = some (.int .u8 (l[k] : Int)) := by
  rw [h.own.cellAt k (by omega), List.getElem?_map, List.getElem?_eq_getElem hl]; rfl
theorem InN.at8 {w : World} {v : Value} {m k : Nat} {l : List Nat} (h : InN w v m l) (hk : k < l.length) : ∃ b o c, v = .slice (some ⟨b, o, none⟩) m c ∧ b < w.heap.size ∧ ∀ j (hj : j < l.length), w.cell? ⟨b, o + j, none⟩ = some (.int .u8 (l[j] : Int)) := by
  obtain ⟨A, c, rfl, _, _⟩ := h.rd.form
  obtain ⟨b, o, rfl, hb, hc⟩ := h.rd.cells (by have := h.len; omega) (by decide)
  exact ⟨b, o, c, rfl, hb, fun j hj => hc j _ (by rw [List.getElem?_map, List.getElem?_eq_getElem hj]; rfl)⟩
end Go.Proofs.YtbdjlmdbnoghnaaGreat
namespace Go.Proofs.YtbdjlmdbnoghnaaGreat
open Go.RowKit

theorem stamp_join (e c : Nat) (he : e ≤ 16777215) (hc : c ≤ 1099511627775) : bits .or .u64 ((e : Int) * 1099511627776) (c : Int) = ((stamp e c : Nat) : Int) := by
  have h1 := u64_or_nat (e * 1099511627776) c (by omega) (by omega)
  rw [Go.nat_join 40 _ _ (by omega) (by omega)] at h1
  exact h1
theorem stamp_and (s : Nat) (h : s < 18446744073709551616) : bits .and .u64 (s : Int) 1099511627775 = ((s % 1099511627776 : Nat) : Int) := by
  have h1 := u64_and_nat s 1099511627775 h (by decide)
  rw [Nat.and_two_pow_sub_one_eq_mod s 40] at h1
  exact h1

set_option maxRecDepth 3000 in
theorem stampok (e c : Nat) (he : e ≤ 16777215) (hc : c ≤ 1099511627775) (w : World) :
    Calls Tryz.prog 105 #[.int .u64 (e : Int), .int .u64 (c : Int)] w fun x w' => x = .returned (.tuple #[.int .u64 ((stamp e c : Nat) : Int), .int .i64 0]) ∧ w = w' := by
  have hj := stamp_join e c he hc
  have h1 : (e : Int) ≤ 16777215 := by omega
  have h2 : (c : Int) ≤ 1099511627775 := by omega
  clear he hc
  go_enter Tryz.func105, Tryz.ntmps105
  go_wp2
  go_ret2
  exact ⟨rfl, rfl⟩
set_option maxRecDepth 3000 in
theorem stampno (e c : Nat) (h : ¬ (e ≤ 16777215 ∧ c ≤ 1099511627775)) (w : World) :
    Calls Tryz.prog 105 #[.int .u64 (e : Int), .int .u64 (c : Int)] w fun x w' => x = .returned (.tuple #[.int .u64 0, .int .i64 2]) ∧ w = w' := by
  by_cases he : e ≤ 16777215
  · have h1 : (e : Int) ≤ 16777215 := by omega
    have h2 : 1099511627775 < (c : Int) := by omega
    clear he h
    go_enter Tryz.func105, Tryz.ntmps105
    go_wp2
    go_ret2
    exact ⟨rfl, rfl⟩
  · have h1 : 16777215 < (e : Int) := by omega
    clear he h
    go_enter Tryz.func105, Tryz.ntmps105
    go_wp2
    go_ret2
    exact ⟨rfl, rfl⟩
set_option maxRecDepth 3000 in
theorem epoch_any (s : Nat) (w : World) : Calls Tryz.prog 92 #[.int .u64 (s : Int)] w fun x w' => x = .returned (.int .u64 ((s / 1099511627776 : Nat) : Int)) ∧ w = w' := by
  go_enter Tryz.func92, Tryz.ntmps92
  go_wp2
  go_ret
  exact ⟨rfl, rfl⟩
set_option maxRecDepth 3000 in
theorem count_any (s : Nat) (h : s < 18446744073709551616) (w : World) : Calls Tryz.prog 116 #[.int .u64 (s : Int)] w fun x w' => x = .returned (.int .u64 ((s % 1099511627776 : Nat) : Int)) ∧ w = w' := by
  have hj := stamp_and s h
  clear h
  go_enter Tryz.func116, Tryz.ntmps116
  go_wp2
  go_ret
  exact ⟨rfl, rfl⟩

set_option maxRecDepth 3000 in
theorem flags_any (e c : Int) (f g : Bool) (v : Value) (w : World) :
    Calls Tryz.prog 109 #[.agg #[.int .u64 e, .int .u64 c, .bool f, .bool g, v]] w fun x w' => x = .returned (.int .u8 ((flg f g : Nat) : Int)) ∧ w' = w.alloc (.cells #[.int .u64 e, .int .u64 c, .bool f, .bool g, v] 96) := by
  have h1 : bits .or .u8 0 1 = 1 := by decide
  have h2 : bits .or .u8 0 2 = 2 := by decide
  have h3 : bits .or .u8 1 2 = 3 := by decide
  cases f with
  | true =>
    cases g with
    | true => go_enter Tryz.func109, Tryz.ntmps109; go_wp2; go_ret; exact ⟨rfl, rfl⟩
    | false => go_enter Tryz.func109, Tryz.ntmps109; go_wp2; go_ret; exact ⟨rfl, rfl⟩
  | false =>
    cases g with
    | true => go_enter Tryz.func109, Tryz.ntmps109; go_wp2; go_ret; exact ⟨rfl, rfl⟩
    | false => go_enter Tryz.func109, Tryz.ntmps109; go_wp2; go_ret; exact ⟨rfl, rfl⟩

/-- a row of which some places are laid anew -/
def putAt (L : List Nat) (a : Nat) (l : List Nat) : List Nat := L.take a ++ l ++ L.drop (a + l.length)
theorem putAt_length {L l : List Nat} {a : Nat} (h : a + l.length ≤ L.length) : (putAt L a l).length = L.length := by
  simp only [putAt, List.length_append, List.length_take, List.length_drop]; omega
theorem putAt_set {L l : List Nat} {a y : Nat} (h : a + 1 + l.length ≤ L.length) : (putAt L (a + 1) l).set a y = putAt L a (y :: l) := by
  have hl : a < L.length := by omega
  simp only [putAt]
  rw [List.take_succ_eq_append_getElem hl, List.append_assoc, List.append_assoc, List.set_append_right _ _ (by rw [List.length_take]; omega), List.length_take, Nat.min_eq_left (by omega), Nat.sub_self]
  simp only [List.length_cons, List.nil_append, List.set_cons_zero, List.cons_append, List.append_assoc]
  rw [show a + 1 + l.length = a + (l.length + 1) by omega]
theorem be_cons : ∀ k x, be (k + 1) x = (x / 256 ^ k % 256) :: be k x
  | 0, x => by simp [be]
  | k + 1, x => by
    rw [be, be_cons k (x / 256), be]
    simp only [List.cons_append, Nat.div_div_eq_div_mul]
    rw [Nat.mul_comm 256, ← Nat.pow_succ]

def LayRl (w : World) (F : Nat → Prop) (g o N n c : Nat) (L : List Nat) (x : Nat) (t1 t7 : Value) (wr : World) : Prop :=
  ∃ k, k ≤ n ∧ t1 = .int .u64 ((x / 256 ^ k : Nat) : Int) ∧ t7 = .int .i64 (k : Int) ∧ Sl wr F 5 1 (.slice (some ⟨g, 0, none⟩) N c) N ((putAt L (o + (n - k)) (be k x)).map u8) ∧ Adv F w F wr

set_option maxRecDepth 3000 in
set_option maxHeartbeats 800000 in
theorem play_any (F : Nat → Prop) (g o N n c c2 : Nat) (L : List Nat) (x : Nat) (w : World) (h : Sl w F 5 1 (.slice (some ⟨g, 0, none⟩) N c) N (L.map u8)) (hon : o + n ≤ N) (hN : N ≤ 1000) (hx : x < 18446744073709551616) (hn : 0 < n) :
    Calls Tryz.prog 108 #[.slice (some ⟨g, o, none⟩) n c2, .int .u64 (x : Int)] w fun e w' => e = .returned (.tuple #[]) ∧ Sl w' F 5 1 (.slice (some ⟨g, 0, none⟩) N c) N ((putAt L o (be n x)).map u8) ∧ Adv F w F w' := by
  have hl : L.length = N := by have := h.own.1; simpa using this
  have H := Lib.hid h
  have HL := Lib.hid hl
  have hx1 : (x : Int) < 18446744073709551616 := by omega
  have hnn : n ≤ 1000 := by omega
  clear h hl
  go_enter Tryz.func108, Tryz.ntmps108
  go_wp2_with fail
  go_loopw [1, 7] (LayRl w F g o N n c L x) (fun _ t _ => n - (intOf t).toNat)
  case atStart => exact ⟨0, Nat.zero_le _, by simp, rfl, by simpa [putAt, be] using H.out, Adv.refl _ _⟩
  case round =>
    obtain ⟨k, hk, rfl, rfl, hr, ha⟩ := hrel
    have hF := hr.inF g rfl
    by_cases hlt : k < n
    · have hfr := hr.own.frozenAt (o + (n - 1 - k))
      have hlen : (putAt L (o + (n - k)) (be k x)).length = N := by rw [putAt_length (by rw [be_length, HL.out]; omega), HL.out]
      have hj : o + (n - 1 - k) = o + (n - (k + 1)) := by omega
      obtain ⟨z, hcell⟩ : ∃ z, wr.cell? ⟨g, o + (n - 1 - k), none⟩ = some z := ⟨_, hr.at8 (k := o + (n - 1 - k)) (by omega) (by rw [hlen]; omega)⟩
      have hs := hr.set8 (o + (n - 1 - k)) (x / 256 ^ k % 256) ((x / 256 ^ k : Nat) % 256 : Int) (by omega)
      rw [hj, show o + (n - k) = o + (n - (k + 1)) + 1 by omega, putAt_set (by rw [be_length, HL.out]; omega), ← be_cons, ← hj] at hs
      obtain ⟨y, hy⟩ : ∃ y, y = x / 256 ^ k := ⟨_, rfl⟩
      have hy1 : x / 256 ^ (k + 1) = y / 256 := by rw [hy, Nat.pow_succ, Nat.div_div_eq_div_mul]
      have hy2 : y ≤ x := by rw [hy]; exact Nat.div_le_self _ _
      rw [← hy] at hs ⊢
      have HS := Lib.hid hs
      have HA := Lib.hid (ha.setCell (p := ⟨g, o + (n - 1 - k), none⟩) (.inl hF) (.int .u8 ((y : Nat) % 256 : Int)))
      have HJ := Lib.hid hj
      have HY := Lib.hid hy1
      have hk0 : (0 : Int) ≤ (n : Int) - 1 - (k : Int) := by omega
      have hk1 : (n : Int) - 1 - (k : Int) < (n : Int) := by omega
      have hy64 : y < 18446744073709551616 := by omega
      have hnI : (n : Int) ≤ 1000 := by omega
      clear hr ha hs hj hy1 hy hlen hy2 hx hx1 hnn hon hN
      go_wp2_with fail
      refine ⟨⟨k + 1, by omega, by rw [HY.out]; go_num, by go_num, ?_, HA.out⟩, by simp [intOf]; omega⟩
      rw [← HJ.out]
      exact HS.out
    · obtain rfl : k = n := by omega
      have h1 := hr
      rw [Nat.sub_self, Nat.add_zero] at h1
      have H1 := Lib.hid h1
      have HA := Lib.hid ha
      clear h1 hr ha hlt hk
      go_wp2
      go_end0
      exact ⟨rfl, H1.out, HA.out⟩

theorem val_take_succ {l : List Nat} {k : Nat} (h : k < l.length) : val (l.take (k + 1)) = val (l.take k) * 256 + l[k] := by
  rw [List.take_succ_eq_append_getElem h, val_snoc]
theorem val_take_lt {l : List Nat} {k : Nat} (hk : k < l.length) (h8 : l.length ≤ 8) (hl : ∀ x ∈ l, x < 256) : val (l.take k) < 72057594037927936 := by
  have h1 := val_lt k (l.take k) (by simp; omega) (fun x hx => hl x (List.mem_of_mem_take hx))
  have h2 := Nat.pow_le_pow_right (n := 256) (by decide) (show k ≤ 7 by omega)
  have e : 256 ^ 7 = 72057594037927936 := by decide
  omega
theorem u64_join8 (x b : Nat) (hx : x < 72057594037927936) (hb : b < 256) : bits .or .u64 ((x : Int) * 256) (b : Int) = ((x * 256 + b : Nat) : Int) := by
  have h1 := u64_or_nat (x * 256) b (by omega) (by omega)
  rw [Go.nat_join 8 _ _ (by omega) (by omega)] at h1
  exact h1

def NumRel (l : List Nat) (t3 t8 : Value) : Prop := ∃ k : Nat, k ≤ l.length ∧ t8 = .int .i64 (k : Int) ∧ t3 = .int .u64 ((val (l.take k) : Nat) : Int)

set_option maxRecDepth 3000 in
set_option maxHeartbeats 400000 in
theorem number_any (v : Value) (n : Nat) (l : List Nat) (w : World) (h : Rd w 1 v n (l.map u8)) (hn : n ≤ 8) (hl : ∀ x ∈ l, x < 256) :
    Calls Tryz.prog 93 #[v] w fun e w' => e = .returned (.int .u64 ((val l : Nat) : Int)) ∧ w = w' := by
  obtain ⟨A, c, rfl, _, _⟩ := h.form
  have hll : l.length = n := by obtain ⟨_, _, _, _, _, h, _⟩ := h; simpa using h
  have hnI : (n : Int) ≤ 8 := by omega
  have H := Lib.hid h
  have HL := Lib.hid hl
  have HLL := Lib.hid hll
  have HN := Lib.hid hn
  clear h hl hll hn
  go_enter Tryz.func93, Tryz.ntmps93
  go_wp2_with fail
  go_loop [3, 8] (NumRel l) (fun _ t => n - (intOf t).toNat)
  case atStart => exact ⟨0, Nat.zero_le _, rfl, rfl⟩
  case round =>
    obtain ⟨k, hk, rfl, rfl⟩ := hrel
    rw [HLL.out] at hk
    by_cases hlt : k < n
    · obtain ⟨b, o, rfl, _, hc⟩ := H.out.cells (by omega) (by decide)
      have hkl : k < l.length := by have := HLL.out; omega
      have c1 : w.cell? ⟨b, o + k, none⟩ = some (.int .u8 (l[k] : Int)) := hc k _ (by rw [List.getElem?_map, List.getElem?_eq_getElem hkl]; rfl)
      have hx256 := HL.out _ (List.getElem_mem hkl)
      have hv := val_take_lt hkl (by have := HLL.out; have := HN.out; omega) HL.out
      have hv2 := val_take_succ hkl
      obtain ⟨x, hx⟩ : ∃ x, x = l[k] := ⟨_, rfl⟩
      obtain ⟨y, hy⟩ : ∃ y, y = val (l.take k) := ⟨_, rfl⟩
      rw [← hx] at c1 hx256 hv2
      rw [← hy] at hv hv2 ⊢
      have hj := u64_join8 y x hv hx256
      have hvI : (y : Int) < 72057594037927936 := by omega
      have hxI : (x : Int) < 256 := by omega
      rw [← hv2] at hj
      have HKL := Lib.hid hkl
      clear hc hx hy hkl hv hv2 hx256
      go_wp2
      go_round
      case rel => exact ⟨k + 1, HKL.out, by go_num, rfl⟩
      case measure => simp [intOf]; omega
    · obtain rfl : k = n := by omega
      have e : l.take k = l := List.take_of_length_le (by have := HLL.out; omega)
      rw [e]
      clear e hlt hk
      go_wp2
      go_ret
      exact ⟨rfl, rfl⟩

set_option maxRecDepth 3000 in
set_option maxHeartbeats 400000 in
theorem rvalue_any (v : Value) (n : Nat) (l : List Nat) (w : World) (h : Rd w 1 v n (l.map u8)) (hn : n ≤ 8) (hl : ∀ x ∈ l, x < 256) :
    Calls Tryz.prog 33 #[v] w fun e w' => e = .returned (.int .u64 ((val l : Nat) : Int)) ∧ w = w' := by
  obtain ⟨A, c, rfl, _, _⟩ := h.form
  have hll : l.length = n := by obtain ⟨_, _, _, _, _, h, _⟩ := h; simpa using h
  have hnI : (n : Int) ≤ 8 := by omega
  have H := Lib.hid h
  have HL := Lib.hid hl
  have HLL := Lib.hid hll
  have HN := Lib.hid hn
  clear h hl hll hn
  go_enter Tryz.func33, Tryz.ntmps33
  go_wp2_with fail
  go_loop [3, 4] (NumRel l) (fun _ t => n - (intOf t).toNat)
  case atStart => exact ⟨0, Nat.zero_le _, rfl, rfl⟩
  case round =>
    obtain ⟨k, hk, rfl, rfl⟩ := hrel
    rw [HLL.out] at hk
    by_cases hlt : k < n
    · obtain ⟨b, o, rfl, _, hc⟩ := H.out.cells (by omega) (by decide)
      have hkl : k < l.length := by have := HLL.out; omega
      have c1 : w.cell? ⟨b, o + k, none⟩ = some (.int .u8 (l[k] : Int)) := hc k _ (by rw [List.getElem?_map, List.getElem?_eq_getElem hkl]; rfl)
      have hx256 := HL.out _ (List.getElem_mem hkl)
      have hv := val_take_lt hkl (by have := HLL.out; have := HN.out; omega) HL.out
      have hv2 := val_take_succ hkl
      obtain ⟨x, hx⟩ : ∃ x, x = l[k] := ⟨_, rfl⟩
      obtain ⟨y, hy⟩ : ∃ y, y = val (l.take k) := ⟨_, rfl⟩
      rw [← hx] at c1 hx256 hv2
      rw [← hy] at hv hv2 ⊢
      have hvI : (y : Int) < 72057594037927936 := by omega
      have hxI : (x : Int) < 256 := by omega
      have HV := Lib.hid hv2
      have HKL := Lib.hid hkl
      clear hc hx hy hkl hv hv2 hx256
      go_wp2
      exact ⟨⟨k + 1, HKL.out, by go_num, by rw [HV.out]; go_num⟩, by simp [intOf]; omega⟩
    · obtain rfl : k = n := by omega
      have e : l.take k = l := List.take_of_length_le (by have := HLL.out; omega)
      rw [e]
      clear e hlt hk
      go_wp2
      go_ret
      exact ⟨rfl, rfl⟩
end Go.Proofs.YtbdjlmdbnoghnaaGreat
namespace Go.Proofs.YtbdjlmdbnoghnaaGreat
open Go.RowKit

theorem be_rev_at {n x j : Nat} (h : j < n) : (be n x).reverse[n - 1 - j]? = (be n x)[j]? := by
  rw [List.getElem?_reverse (by rw [be_length]; omega), be_length]
  congr 1; omega

def lenOf' : Value → Nat
  | .slice _ n _ => n
  | _ => 0
def NumOut (w : World) (n x : Nat) (t0 t5 t6 : Value) (wr : World) : Prop :=
  ∃ k F, k ≤ n ∧ t6 = .int .i64 ((k : Nat) : Int) ∧ t0 = .int .u64 ((x / 256 ^ k : Nat) : Int) ∧ Sl wr F 5 1 t5 k ((be k x).reverse.map u8) ∧ Adv Nul w F wr
def NumBack (w : World) (n x : Nat) (t7 t8 : Value) (wr : World) : Prop :=
  ∃ i j F, i + j = n ∧ t8 = .int .i64 ((i : Nat) : Int) ∧ Sl wr F 5 1 t7 j (((be n x).take j).map u8) ∧ Adv Nul w F wr

set_option maxRecDepth 3000 in
set_option maxHeartbeats 1600000 in
theorem rnumber_any (x n : Nat) (w : World) (hx : x < 18446744073709551616) (hn : n ≤ 100) (hn0 : 0 < n) :
    Calls Tryz.prog 84 #[.int .u64 (x : Int), .int .i64 (n : Int)] w fun e w' => ∃ v F, e = .returned v ∧ Sl w' F 5 1 v n ((be n x).map u8) ∧ Adv Nul w F w' := by
  obtain ⟨i0, hi, hz0, hz1, hz2⟩ := info_parts Tryz.infoU8
  have hnI : (n : Int) ≤ 100 := by omega
  have HX := Lib.hid hx
  have HN0 := Lib.hid hn0
  have HN := Lib.hid hn
  clear hx hn hn0
  go_enter Tryz.func84, Tryz.ntmps84
  go_wp2_with fail
  go_loopw [0, 5, 6] (NumOut w n x) (fun _ _ t _ => n - (intOf t).toNat)
  case atStart => exact ⟨0, Nul, Nat.zero_le _, rfl, by simp, Sl.nil _ _ _, Adv.refl _ _⟩
  case round =>
    obtain ⟨k, F, hk, rfl, rfl, hS, hA⟩ := hrel
    obtain ⟨a5, c5, rfl, _, _⟩ := hS.form0
    have hown := hS.own
    have hy2 : x / 256 ^ k ≤ x := Nat.div_le_self _ _
    have hyn : x / 256 ^ (k + 1) = x / 256 ^ k / 256 := by rw [Nat.pow_succ, Nat.div_div_eq_div_mul]
    have hbn : (be (k + 1) x).reverse = (be k x).reverse ++ [x / 256 ^ k % 256] := by rw [be_cons, List.reverse_cons]
    obtain ⟨y, hy⟩ : ∃ y, y = x / 256 ^ k := ⟨_, rfl⟩
    rw [← hy] at hy2 hyn hbn ⊢
    have hyx : y < 18446744073709551616 := by have := HX.out; omega
    have HYN := Lib.hid hyn
    have HBN := Lib.hid hbn
    have HS := Lib.hid hS
    have HA := Lib.hid hA
    clear hS hA hy hy2 hyn hbn
    by_cases hlt : k < n
    · have hki : (k : Int) < (n : Int) := by omega
      have HLT := Lib.hid hlt
      clear hlt hk
      go_wp2_with (first
        | (at_builtin; refine wpList_append_own_at _ rfl (.tmp 14) (.tmp 18) 53 rfl 0 5 i0 (.int .u8 0) 1 1 Tryz.underlying53 hi hz0 hz1 hz2 rfl (by decide) (.slice a5 k c5) k _ rfl (hown.alloc _) ⟨wr.heap.size, 0, none⟩ 1 1 [_] rfl rfl (cell_one_new _ _ _) ?c2 ?c3 ?c4 (Nat.zero_le _) ?c5)
        | fail)
      case c2 => intro u hu; simp at hu; subst hu; rfl
      case c3 => have := HLT.out; have := HN.out; unfold maxLen; omega
      case c4 => have := HLT.out; have := HN.out; omega
      case c5 =>
        intro v' w1 hown1 hg1 _ hat1
        obtain ⟨h1, h2⟩ := one_grown HS.out HA.out hown1 hg1 hat1 (by omega)
        obtain ⟨a6, c6, rfl, _, _⟩ := h1.form0
        have H1 := Lib.hid h1
        have H2 := Lib.hid h2
        clear h1 h2 hown1 hg1 hat1 hown
        go_wp2
        have hlt := HLT.out
        refine ⟨⟨k + 1, _, by omega, by go_num, by rw [HYN.out]; go_num, ?_, H2.out⟩, by simp [intOf]; omega⟩
        have h := H1.out
        simp only [HBN.out, List.map_append, List.map_cons, List.map_nil, List.map_reverse]
        exact h
    · obtain rfl : k = n := by omega
      obtain ⟨go, co, eo, _, _⟩ := HS.out.form HN0.out
      injection eo with e1 e2 e3
      subst e1
      clear e2 e3 hown hlt hk hyx
      go_wp2_with fail
      obtain ⟨wm, rfl⟩ : ∃ wm, wm = wr := ⟨_, rfl⟩
      go_loopw [7, 8] (NumBack wm k x) (fun _ t _ => (intOf t).toNat)
      case atStart => exact ⟨k, 0, Nul, rfl, rfl, Sl.nil _ _ _, Adv.refl _ _⟩
      case round =>
        obtain ⟨i, j, G, hij, rfl, hG, hB⟩ := hrel
        obtain ⟨a7, c7, rfl, _, _⟩ := hG.form0
        have hown := hG.own
        have HG := Lib.hid hG
        have HB := Lib.hid hB
        have HIJ := Lib.hid hij
        clear hG hB hij
        by_cases hlt : 0 < i
        · have hjn : j < k := by have := HIJ.out; omega
          have hat : (be k x)[j]'(by rw [be_length]; omega) = (be k x)[j]'(by rw [be_length]; omega) := rfl
          obtain ⟨z, hz⟩ : ∃ z, z = (be k x)[j]'(by rw [be_length]; omega) := ⟨_, rfl⟩
          have hrd := HS.out.rd.below HB.out.toBelow (fun _ _ _ h => h)
          obtain ⟨bo, oo, eo, _, hc⟩ := hrd.cells HN0.out (by decide)
          injection eo with eo
          injection eo with e1 e2
          subst e1 e2
          have c1 : wr.cell? ⟨go, i - 1, none⟩ = some (.int .u8 (z : Int)) := by
            have h := hc (k - 1 - j) (u8 z) (by rw [List.getElem?_map, be_rev_at hjn, List.getElem?_eq_getElem (by rw [be_length]; omega), ← hz]; rfl)
            rw [Nat.zero_add, show k - 1 - j = i - 1 by have := HIJ.out; omega] at h
            exact h
          have hbn : (be k x).take (j + 1) = (be k x).take j ++ [z] := by rw [List.take_succ_eq_append_getElem (by rw [be_length]; omega), hz]
          have HBN := Lib.hid hbn
          have HLT := Lib.hid hlt
          have hiI : (0 : Int) < (i : Int) := by omega
          have hikI : (i : Int) ≤ (k : Int) := by have := HIJ.out; omega
          have HJN := Lib.hid hjn
          clear hat hz hrd hc hbn hlt hjn
          go_wp2_with (first
            | (at_builtin; refine wpList_append_own_at _ rfl (.tmp 27) (.tmp 33) 53 rfl 0 5 i0 (.int .u8 0) 1 1 Tryz.underlying53 hi hz0 hz1 hz2 rfl (by decide) (.slice a7 j c7) j _ rfl (hown.alloc _) ⟨wr.heap.size, 0, none⟩ 1 1 [_] rfl rfl (cell_one_new _ _ _) ?d2 ?d3 ?d4 (Nat.zero_le _) ?d5)
            | fail)
          case d2 => first | rfl | (intro u hu; simp at hu; subst hu; rfl)
          case d3 => have := HJN.out; have := HN.out; unfold maxLen; omega
          case d4 => have := HJN.out; have := HN.out; omega
          case d5 =>
            intro v' w1 hown1 hg1 _ hat1
            obtain ⟨h1, h2⟩ := one_grown HG.out HB.out hown1 hg1 hat1 (by omega)
            obtain ⟨a6, c6, rfl, _, _⟩ := h1.form0
            have H1 := Lib.hid h1
            have H2 := Lib.hid h2
            clear h1 h2 hown1 hg1 hat1 hown
            go_wp2
            have hlt := HLT.out
            refine ⟨⟨i - 1, j + 1, _, by have := HIJ.out; omega, by simp; omega, ?_, H2.out⟩, by simp [intOf]; omega⟩
            have h := H1.out
            simp only [HBN.out, List.map_append, List.map_cons, List.map_nil, List.map_take]
            exact h
        · obtain rfl : i = 0 := by omega
          obtain rfl : j = k := by have := HIJ.out; omega
          clear hlt
          go_wp2_with fail
          go_ret
          have h := HG.out
          rw [List.take_of_length_le (by rw [be_length]; omega)] at h
          have hA := HA.out.trans (HB.out.weak (fun _ h => h.elim))
          first
            | exact ⟨_, G, rfl, h, hA⟩
            | exact ⟨_, rfl, G, h, hA⟩
end Go.Proofs.YtbdjlmdbnoghnaaGreat
namespace Go.Proofs.YtbdjlmdbnoghnaaGreat
open Go.RowKit

set_option maxRecDepth 3000 in
set_option maxHeartbeats 800000 in
theorem lsame_any (v1 v2 : Value) (n1 n2 : Nat) (l1 l2 : List Nat) (w : World) (h1 : Rd w 1 v1 n1 (l1.map u8)) (h2 : Rd w 1 v2 n2 (l2.map u8)) :
    Calls Tryz.prog 24 #[v1, v2] w fun e w' => e = .returned (.bool (decide (l1 = l2))) ∧ (∃ k, w' = w.drewN k) := by
  have hl1 : l1.length = n1 := by obtain ⟨_, _, _, _, _, h, _⟩ := h1; simpa using h
  have hl2 : l2.length = n2 := by obtain ⟨_, _, _, _, _, h, _⟩ := h2; simpa using h
  by_cases hn : n1 = n2
  · subst hn
    obtain ⟨A1, c1, rfl, _, _⟩ := h1.form
    obtain ⟨A2, c2, rfl, _, hc2⟩ := h2.form
    unfold maxLen at hc2
    have H1 := Lib.hid h1
    have H2 := Lib.hid h2
    have HL1 := Lib.hid hl1
    have HL2 := Lib.hid hl2
    clear h1 h2 hl1 hl2
    go_enter Tryz.func24, Tryz.ntmps24
    go_wp2_with fail
    go_loopw [5] (fun t wr => ∃ k : Nat, t = .int .i64 ((k : Nat) : Int) ∧ k ≤ n1 ∧ l1.take k = l2.take k ∧ ∃ j, wr = w.drewN j) (fun t _ => n1 - (intOf t).toNat)
    case atStart => exact ⟨0, rfl, Nat.zero_le _, rfl, 0, rfl⟩
    case round =>
      obtain ⟨k, rfl, hk, htk, j, rfl⟩ := hrel
      have HT := Lib.hid htk
      clear htk
      by_cases hlt : k < n1
      · obtain ⟨b1, o1, rfl, _, g1⟩ := H1.out.cells (by omega) (by decide)
        obtain ⟨b2, o2, rfl, _, g2⟩ := H2.out.cells (by omega) (by decide)
        have hk1 : k < l1.length := by have := HL1.out; omega
        have hk2 : k < l2.length := by have := HL2.out; omega
        have c1' : w.cell? ⟨b1, o1 + k, none⟩ = some (.int .u8 (l1[k] : Int)) := g1 k _ (by rw [List.getElem?_map, List.getElem?_eq_getElem hk1]; rfl)
        have c2' : w.cell? ⟨b2, o2 + k, none⟩ = some (.int .u8 (l2[k] : Int)) := g2 k _ (by rw [List.getElem?_map, List.getElem?_eq_getElem hk2]; rfl)
        have hnext : l1[k] = l2[k] → l1.take (k + 1) = l2.take (k + 1) := fun e => by
          rw [List.take_succ_eq_append_getElem hk1, List.take_succ_eq_append_getElem hk2, HT.out, e]
        have hdiff : l1[k] ≠ l2[k] → l1 ≠ l2 := fun e h => by subst h; exact e rfl
        obtain ⟨x, hx⟩ : ∃ x, x = l1[k] := ⟨_, rfl⟩
        obtain ⟨y, hy⟩ : ∃ y, y = l2[k] := ⟨_, rfl⟩
        rw [← hx] at c1' hnext hdiff
        rw [← hy] at c2' hnext hdiff
        have HN := Lib.hid hnext
        have HD := Lib.hid hdiff
        clear g1 g2 hx hy hk1 hk2 hnext hdiff
        by_cases hxy : x = y
        · have HX := Lib.hid (HN.out hxy)
          subst hxy
          go_wp2_with fail
          go_quiet (fail)
          go_wp2
          exact ⟨⟨k + 1, by simp, by omega, HX.out, _, rfl⟩, by simp [intOf]; omega⟩
        · have HX := Lib.hid (HD.out hxy)
          have hne : ((x : Int) != (y : Int)) = true := by rw [bne_iff_ne]; omega
          clear hxy
          go_wp2_with fail
          go_quiet (fail)
          go_wp2
          go_ret
          rw [decide_eq_false HX.out]
          exact ⟨rfl, j + nq, World.drewN_drewN _ _ _⟩
      · obtain rfl : k = n1 := by omega
        have e : l1 = l2 := by
          have h := HT.out
          rwa [List.take_of_length_le (by have := HL1.out; omega), List.take_of_length_le (by have := HL2.out; omega)] at h
        have HE := Lib.hid e
        clear e
        go_wp2
        go_ret
        rw [decide_eq_true HE.out]
        exact ⟨rfl, _, rfl⟩
  · obtain ⟨A1, c1, rfl, _, _⟩ := h1.form
    obtain ⟨A2, c2, rfl, _, hc2⟩ := h2.form
    have hne : ((n1 : Int) != (n2 : Int)) = true := by rw [bne_iff_ne]; omega
    have HD : Hid (l1 ≠ l2) := by intro h; subst h; omega
    clear h1 h2 hl1 hl2
    go_enter Tryz.func24, Tryz.ntmps24
    go_wp2_with fail
    go_ret
    rw [decide_eq_false HD.out]
    exact ⟨rfl, 0, rfl⟩

theorem lmade_one (z : Value) (hz : z.cells = #[z]) (n : Nat) : (madeCells z.cells (n * 1)).toList = List.replicate n z := by
  rw [hz, Nat.mul_one]
  apply List.ext_getElem?
  intro k
  rw [List.getElem?_replicate]
  by_cases hk : k < n
  · rw [if_pos hk, Array.getElem?_toList]
    have h1 : (Array.range n)[k]? = some k := by rw [Array.getElem?_eq_getElem (by simpa using hk)]; simp
    simp only [madeCells, Array.getElem?_map, h1, Option.map_some]
    have : k % (#[z] : Array Value).size = 0 := by simp [Nat.mod_one]
    rw [this]; rfl
  · rw [if_neg hk, Array.getElem?_toList, Array.getElem?_eq_none (by rw [size_madeCells]; omega)]

theorem lsetCells_heap (b : Nat) {k : Nat} (hk : k ≠ b) : ∀ (vs : List Value) (o : Nat) (w : World), (w.setCells b o vs).heap[k]? = w.heap[k]?
  | [], _, _ => rfl
  | v :: r, o, w => by
    rw [World.setCells, lsetCells_heap b hk r]
    exact heap_setCell_other w ⟨b, o, none⟩ k v hk
theorem Adv.lsetCells {F F' : Nat → Prop} {w : World} {g : Nat} : ∀ (vs : List Value) (o : Nat) (w' : World), Adv F w F' w' → (F g ∨ w.heap.size ≤ g) → Adv F w F' (w'.setCells g o vs)
  | [], _, _, h, _ => h
  | v :: r, o, w', h, hg => by
    rw [World.setCells]
    exact Adv.lsetCells r (o + 1) _ (h.setCell (p := ⟨g, o, none⟩) hg v) hg
theorem lstep_copy_cells {P : Program} {w : World} {ops : Array Oper} {o : Oper} {a : Act} {K : Act → World → Prop} {Q : Exit → Act → World → Prop} {E : Prop} (hgd : o.guard = none) (d s : Operand) (dT sT : TypeId)
    (ho : o.op = .call { callee := .builtin .copy, args := #[d, s], argTypes := #[dT, sT] }) (elem : TypeId) (hu : P.underlying dT = some (.slice elem)) (hsz : (P.info? elem).map (·.size) = some 1)
    (b off dLen dCap sLen sCap : Nat) (ad : Addr) (hd : a.eval d = .slice (some ⟨b, off, none⟩) dLen dCap) (hs : a.eval s = .slice (some ad) sLen sCap)
    (cs : List Value) (hn : cs.length = Nat.min sLen dLen) (hsrc : ∀ j v, cs[j]? = some v → w.cell? (ad.add j) = some v) (ht : w.there b off cs.length) (h1 : ∀ v ∈ cs, v.oneCell' = true)
    (h : K (a.put o.dst (goInt cs.length)) (w.setCells b off cs)) :
    if Region.wanted o (yielded ops a.tmps) = true then Oper.wp P o a w K Q else E := by
  have hw : Region.wanted o (yielded ops a.tmps) = true := by simp [Region.wanted, hgd]
  rw [if_pos hw]
  have hrun := run_copy_cells (P := P) w dT sT o.type elem b off dLen dCap ad sLen sCap cs hu hsz hn hsrc (fun j hj => (ht j hj).1) (fun j hj => (ht j hj).2) h1
  unfold Oper.wp
  simp [execOp, ho, resolve, invoke, builtin, hd, hs, hrun, Result.andThen]
  exact h

theorem linfoU8s : (Tryz.prog.info? 5).map (·.size) = some 1 := by kernel_rfl

/-- the slice from n on -/
def cutAt (A : Option Addr) (n c : Nat) : Option Addr := if c = n then A else A.map (·.add (n * 1))
theorem Rd.front {w : World} {A : Option Addr} {m n c : Nat} {l : List Nat} (h : Rd w 1 (.slice A m c) m (l.map u8)) (hn : n ≤ m) : Rd w 1 (.slice A n c) n ((l.take n).map u8) := by
  obtain ⟨A', c', e, h1, h2, h3, h4, h5⟩ := h
  injection e with e1 _ e3
  subst e1 e3
  simp at h3
  refine ⟨A, c, rfl, by omega, h2, by simp; omega, h4, fun h0 => ?_⟩
  obtain ⟨ad, rfl, hb, hc⟩ := h5 (by omega)
  refine ⟨ad, rfl, hb, fun j u hu => hc j u ?_⟩
  rw [List.map_take, List.getElem?_take] at hu
  split at hu
  · exact hu
  · cases hu
theorem Rd.back {w : World} {A : Option Addr} {m n c : Nat} {l : List Nat} (h : Rd w 1 (.slice A m c) m (l.map u8)) (hn : n ≤ m) : Rd w 1 (.slice (cutAt A n c) (m - n) (c - n)) (m - n) ((l.drop n).map u8) := by
  obtain ⟨A', c', e, h1, h2, h3, h4, h5⟩ := h
  injection e with e1 _ e3
  subst e1 e3
  simp at h3
  refine ⟨_, c - n, rfl, by omega, by omega, by simp; omega, fun e => ?_, fun h0 => ?_⟩
  · unfold cutAt at e
    split at e
    · omega
    · have := h4 (by cases A with | none => rfl | some a => cases e)
      omega
  · obtain ⟨ad, rfl, hb, hc⟩ := h5 (by omega)
    have h0c := hc 0 _ (List.getElem?_eq_getElem (by simp; omega))
    obtain ⟨b, o, spot⟩ := ad
    have hspot : spot = none := by simpa [Addr.add] using World.cell?_spot h0c
    subst hspot
    refine ⟨⟨b, o + n * 1, none⟩, by unfold cutAt; rw [if_neg (by omega)]; simp [add_none], hb, fun j u hu => ?_⟩
    have h := hc (n + j) u (by rw [List.map_drop, List.getElem?_drop] at hu; exact hu)
    rw [add_none] at h ⊢
    rw [Nat.mul_one, Nat.add_assoc]; exact h
set_option maxRecDepth 3000 in
theorem lclone_any (v : Value) (n : Nat) (xs : List Value) (w : World) (hv : Rd w 1 v n xs) (h1 : ∀ u ∈ xs, u.oneCell' = true) (hl : n ≤ 1000000000) :
    Calls Tryz.prog 107 #[v] w fun e w' => ∃ v' F', e = .returned v' ∧ Sl w' F' 5 1 v' n xs ∧ Adv Nul w F' w' := by
  obtain ⟨A, c, rfl, hnc, hcm, hxl, hA, hr⟩ := hv
  obtain ⟨i0, hi, hz0, hz1, hz2⟩ := info_parts Tryz.infoU8
  rcases A with _ | a
  · obtain rfl : c = 0 := hA rfl
    obtain rfl : n = 0 := by omega
    obtain rfl : xs = [] := List.eq_nil_of_length_eq_zero (by simpa using hxl)
    have he := fun wx => Lib.run_eql_slice_nil (P := Tryz.prog) wx 53 5 none 0 0 0 0 Tryz.underlying53
    clear hnc hcm hxl hA hr h1
    go_enter Tryz.func107, Tryz.ntmps107
    go_wp2
    go_ret
    exact ⟨_, _, rfl, Sl.nil _ _ _, Adv.refl _ _⟩
  · have he := fun wx => Lib.run_eql_slice_nil (P := Tryz.prog) wx 53 5 (some a) n c 0 0 Tryz.underlying53
    have hcells : ∀ j u, xs[j]? = some u → (w.alloc (.cells #[] 5)).cell? (a.add j) = some u := by
      intro j u hu
      have hj : j < xs.length := (List.getElem?_eq_some_iff.1 hu).1
      obtain ⟨ad, e, hb, hc⟩ := hr (by omega)
      injection e with e
      subst e
      rw [World.cell?_of_block (w := w) (by rw [add_block]; exact Below.heap_alloc _ _ _ hb)]
      exact hc j u hu
    have hown : (w.alloc (.cells #[] 5)).ownsRow w.heap.size 5 1 (.slice (some ⟨w.heap.size, 0, none⟩) 0 0) 0 [] := World.ownsRow_made w #[] 0 (Nat.le_refl _) (Nat.zero_le _) rfl
    have HR := Lib.hid hr
    have HC := Lib.hid hcells
    have HL := Lib.hid hxl
    clear hr hcells hA hxl hnc hcm
    go_enter Tryz.func107, Tryz.ntmps107
    go_wp2_with (first
      | (at_builtin; refine wpList_append_own_at _ rfl (.tmp 5) (.tmp 6) 53 rfl w.heap.size 5 i0 (.int .u8 0) 1 1 Tryz.underlying53 hi hz0 hz1 hz2 rfl (by decide) (.slice (some ⟨w.heap.size, 0, none⟩) 0 0) 0 [] rfl hown a n c xs rfl HL.out HC.out h1 ?c3 ?c4 (by simp) ?c5)
      | fail)
    case c3 => unfold maxLen; omega
    case c4 => omega
    case c5 =>
      intro v' w1 hown1 hg1 _ hat1
      go_wp2
      go_ret
      have hb : Below w.heap.size w w1 := ((Below.refl w.heap.size w).alloc (Nat.le_refl _) _).grown hg1 (by simp) (fun k hk => by simp [Value.ownBlock] at hk; omega)
      have hlt := hown1.lt
      exact ⟨v', (fun k => v'.ownBlock = some k), rfl, ⟨own_base hown1, fun k hk => hk, fun k hk => (hlt k hk).2⟩, Adv.new_ hb (fun k hk => (hlt k hk).1)⟩

theorem Rd.up {w : World} {v : Value} {n : Nat} {xs : List Value} (h : Rd w 1 v n xs) (o : Obj) : Rd (w.alloc o) 1 v n xs := h.far (fun _ _ _ hk => Below.heap_alloc _ _ _ hk) (by simp)
end Go.Proofs.YtbdjlmdbnoghnaaGreat
