/- The first document answer's plain words: Within, Same, Cut, Copy. -/
import Derived.Test.YtpgeebhepegpaaaBase
import Derived.Deep.QuietTactic
import Derived.BigQuiet
namespace Go.Proofs.Ytpgeebhepegpaaa
open Go.ChangeShapes Go.WideShapes Go.ChangeAt Go.RowKit

set_option maxRecDepth 3000 in
theorem within_any (x a b : Int) (w : World) (hab : a ≤ b) :
    Calls Try.prog 19 #[.int .i64 x, .int .i64 a, .int .i64 b] w fun e w' => ∃ y : Int, e = .returned (.int .i64 y) ∧ a ≤ y ∧ y ≤ b ∧ (a ≤ x → x ≤ b → y = x) ∧ w = w' := by
  by_cases h1 : x < a
  · go_enter Try.func19, Try.ntmps19
    go_wp2
    go_ret
    exact ⟨a, rfl, by omega, hab, by omega, rfl⟩
  · by_cases h2 : b < x
    · go_enter Try.func19, Try.ntmps19
      go_wp2
      go_ret
      exact ⟨b, rfl, hab, by omega, by omega, rfl⟩
    · go_enter Try.func19, Try.ntmps19
      go_wp2
      go_ret
      exact ⟨x, rfl, by omega, by omega, by simp, rfl⟩

set_option maxRecDepth 3000 in
set_option maxHeartbeats 400000 in
theorem same_eq (v1 v2 : Value) (n : Nat) (l : List Nat) (w : World) (h1 : Rd w 1 v1 n (l.map u8)) (h2 : Rd w 1 v2 n (l.map u8)) :
    Calls Try.prog 23 #[v1, v2] w fun e w' => e = .returned (.bool true) ∧ ∃ k, w' = w.drewN k := by
  obtain ⟨A1, c1, rfl, _, _⟩ := h1.form
  obtain ⟨A2, c2, rfl, _, hc2⟩ := h2.form
  unfold maxLen at hc2
  have hl : l.length = n := by obtain ⟨_, _, _, _, _, h, _⟩ := h1; simpa using h
  have H1 := Lib.hid h1
  have H2 := Lib.hid h2
  have HL := Lib.hid hl
  clear h1 h2 hl
  go_enter Try.func23, Try.ntmps23
  go_wp2_with fail
  go_loopw [5] (fun t wr => ∃ k : Nat, t = .int .i64 ((k : Nat) : Int) ∧ k ≤ n ∧ ∃ j, wr = w.drewN j) (fun t _ => n - (intOf t).toNat)
  case atStart => exact ⟨0, rfl, Nat.zero_le _, 0, rfl⟩
  case round =>
    obtain ⟨k, rfl, hk, j, rfl⟩ := hrel
    by_cases hlt : k < n
    · obtain ⟨b1, o1, rfl, _, g1⟩ := H1.out.cells (by omega) (by decide)
      obtain ⟨b2, o2, rfl, _, g2⟩ := H2.out.cells (by omega) (by decide)
      have hkl : k < l.length := by have := HL.out; omega
      have c1' : w.cell? ⟨b1, o1 + k, none⟩ = some (.int .u8 (l[k] : Int)) := g1 k _ (by rw [List.getElem?_map, List.getElem?_eq_getElem hkl]; rfl)
      have c2' : w.cell? ⟨b2, o2 + k, none⟩ = some (.int .u8 (l[k] : Int)) := g2 k _ (by rw [List.getElem?_map, List.getElem?_eq_getElem hkl]; rfl)
      obtain ⟨x, hx⟩ : ∃ x, x = l[k] := ⟨_, rfl⟩
      rw [← hx] at c1' c2'
      clear g1 g2 hx hkl
      go_wp2_with fail
      go_quiet (fail)
      go_wp2
      exact ⟨⟨k + 1, by simp, by omega, _, rfl⟩, by simp [intOf]; omega⟩
    · obtain rfl : k = n := by omega
      go_wp2
      go_ret
      exact ⟨rfl, _, rfl⟩

/-- What is known of bytes that came in. -/
structure In (W : World) (v : Value) (l : List Nat) : Prop where
  rd : Rd W 1 v l.length (l.map u8)
  old : ∀ b, v.ownBlock = some b → 0 < l.length → b < W.heap.size
  lt : ∀ x ∈ l, x < 256
theorem In.below {W w : World} {v : Value} {l : List Nat} (h : In W v l) (hb : Below W.heap.size W w) : Rd w 1 v l.length (l.map u8) := h.rd.below hb (fun k hk hn _ => h.old k hk hn)
theorem In.far {W w : World} {v : Value} {l : List Nat} (h : In W v l) (hb : Below W.heap.size W w) : In w v l := ⟨h.below hb, fun b hb' hn => Nat.lt_of_lt_of_le (h.old b hb' hn) hb.size, h.lt⟩

set_option maxRecDepth 3000 in
theorem cut_any (v : Value) (l : List Nat) (n : Nat) (w : World) (h : In w v l) (hn : n ≤ 1000000000) :
    Calls Try.prog 25 #[v, .int .i64 n] w fun e w' => ∃ v', e = .returned v' ∧ In w v' (l.take n) ∧ w = w' := by
  obtain ⟨A, c, rfl, hlc, hcm⟩ := h.rd.form
  unfold maxLen at hcm
  obtain ⟨m, hm⟩ : ∃ m, m = l.length := ⟨_, rfl⟩
  by_cases hlt : n < m
  · obtain ⟨b, o, rfl, hb, hc⟩ := h.rd.cells (by omega) (by decide)
    have hin : In w (.slice (some ⟨b, o, none⟩) n c) (l.take n) := by
      have e : (l.take n).length = n := by simp; omega
      refine ⟨⟨_, c, by rw [e], by omega, by unfold maxLen; omega, by simp, fun h => (by cases h), fun _ => ⟨_, rfl, hb, fun j u hu => ?_⟩⟩, fun k hk _ => ?_, fun x hx => h.lt x (List.mem_of_mem_take hx)⟩
      · rw [add_none]
        refine hc j u ?_
        rw [List.map_take, List.getElem?_take] at hu
        split at hu
        · exact hu
        · cases hu
      · have : b = k := by simpa [Value.ownBlock] using hk
        omega
    have HI := Lib.hid hin
    have HH := Lib.hid h
    rw [← hm] at hlc ⊢
    clear hin h hc hm
    go_enter Try.func25, Try.ntmps25
    go_wp2
    go_ret
    exact ⟨_, rfl, HI.out, rfl⟩
  · have hin : In w (.slice A l.length c) (l.take n) := by
      rw [List.take_of_length_le (by omega)]; exact h
    have HI := Lib.hid hin
    rw [← hm] at hlc HI ⊢
    clear hin h hm
    go_enter Try.func25, Try.ntmps25
    go_wp2
    go_ret
    exact ⟨_, rfl, HI.out, rfl⟩

set_option maxRecDepth 3000 in
theorem copy_any (v : Value) (n : Nat) (l : List Nat) (w : World) (h : Rd w 1 v n (l.map u8)) (hn : n ≤ 1000000000) :
    Calls Try.prog 26 #[v] w fun e w' => ∃ v' F, e = .returned v' ∧ Sl w' F 5 1 v' n (l.map u8) ∧ Adv Nul w F w' := by
  have H := Lib.hid h
  clear h
  go_enter Try.func26, Try.ntmps26
  go_wp2_with (first
    | (at_builtin; refine wpList_append_rd rfl (.tmp 4) (.tmp 5) rfl rfl rfl (World.ownsRow_nil _ _ _ _) H.out (u8_one _) ?c1 ?c2)
    | fail)
  case c1 => omega
  case c2 =>
    intro v' w' hown hg hat
    go_wp2
    go_ret
    refine ⟨v', (fun k => v'.ownBlock = some k), rfl, ⟨hown, fun k hk => hk, fun k hk => (hown.lt k hk).2⟩, ?_⟩
    refine ⟨hg.os, hg.tape, hg.output, hg.size, fun k hk _ => hg.block k hk (by simp [Value.ownBlock]), fun k hk => ?_⟩
    rcases hat with e | e
    · rw [hk] at e; simp [Value.ownBlock] at e
    · rw [hk] at e; injection e with e; right; omega

theorem In.of_rd_ints {W : World} {v : Value} (h : ∃ (n : Nat) (zs : List Int), Rd W 1 v n (zs.map (Value.int .u8)) ∧ zs.length = n ∧ (∀ z ∈ zs, (Lit.int .u8 z).wf = true) ∧ (∀ b, v.ownBlock = some b → 0 < n → b < W.heap.size)) : ∃ l, In W v l := by
  obtain ⟨n, zs, h1, h2, h3, h4⟩ := h
  have hb : ∀ z ∈ zs, 0 ≤ z ∧ z < 256 := fun z hz => by have := bounds_u8 (h3 z hz); omega
  have e : (zs.map Int.toNat).map u8 = zs.map (Value.int .u8) := by
    rw [List.map_map]
    refine List.map_congr_left fun z hz => ?_
    have := hb z hz
    simp only [Function.comp, u8]
    rw [Int.toNat_of_nonneg this.1]
  refine ⟨zs.map Int.toNat, ⟨by rw [e, List.length_map, h2]; exact h1, fun b hb hn => h4 b hb (by rw [List.length_map, h2] at hn; exact hn), fun x hx => ?_⟩⟩
  obtain ⟨z, hz, rfl⟩ := List.mem_map.1 hx
  have := hb z hz
  omega

/-- Bytes that came in, with their number. -/
structure InN (W : World) (v : Value) (m : Nat) (l : List Nat) : Prop where
  len : m = l.length
  rd : Rd W 1 v m (l.map u8)
  old : ∀ b, v.ownBlock = some b → 0 < m → b < W.heap.size
  lt : ∀ x ∈ l, x < 256
theorem In.num {W : World} {v : Value} {m : Nat} {l : List Nat} (h : In W v l) (hm : m = l.length) : InN W v m l := by subst hm; exact ⟨rfl, h.rd, h.old, h.lt⟩
theorem InN.far {W w : World} {v : Value} {m : Nat} {l : List Nat} (h : InN W v m l) (hb : Below W.heap.size W w) : InN w v m l :=
  ⟨h.len, h.rd.below hb (fun k hk hn _ => h.old k hk hn), fun b hb' hn => Nat.lt_of_lt_of_le (h.old b hb' hn) hb.size, h.lt⟩
theorem InN.rdl {W : World} {v : Value} {m : Nat} {l : List Nat} (h : InN W v m l) : Rd W 1 v l.length (l.map u8) := by rw [← h.len]; exact h.rd
theorem Sl.rdl {w : World} {F : Nat → Prop} {v : Value} {m : Nat} {l : List Nat} (h : Sl w F 5 1 v m (l.map u8)) (hm : m = l.length) : Rd w 1 v l.length (l.map u8) := by rw [← hm]; exact h.rd

theorem cut_form (v : Value) (l : List Nat) (n : Nat) (w : World) (h : In w v l) (hn : n ≤ 1000000000) :
    Calls Try.prog 25 #[v, .int .i64 n] w fun e w' => ∃ k A c m, e = .returned (.slice A m c) ∧ m ≤ n ∧ InN w (.slice A m c) m k ∧ w = w' := by
  refine (cut_any v l n w h hn).mono ?_
  rintro e w0 ⟨v1, rfl, h1, rfl⟩
  obtain ⟨A1, c1, rfl, _, _⟩ := h1.rd.form
  exact ⟨_, A1, c1, _, rfl, by simp; omega, h1.num rfl, rfl⟩

/-- an own row of bytes, one of them stored anew -/
theorem Sl.set8 {w : World} {F : Nat → Prop} {g c n : Nat} {l : List Nat} (h : Sl w F 5 1 (.slice (some ⟨g, 0, none⟩) n c) n (l.map u8)) (k y : Nat) (v : Int) (hv : v = (y : Int)) :
    Sl (w.setCell ⟨g, k, none⟩ (.int .u8 v)) F 5 1 (.slice (some ⟨g, 0, none⟩) n c) n ((l.set k y).map u8) := by
  have h1 := (h.own.stored k (.int .u8 v)).1
  refine ⟨?_, h.inF, fun j hj => by have := h.bd j hj; simpa [World.setCell] using this⟩
  rw [List.map_set, show u8 y = .int .u8 v from by rw [hv]; rfl]
  exact h1
theorem Sl.at8 {w : World} {F : Nat → Prop} {g c n k : Nat} {l : List Nat} (h : Sl w F 5 1 (.slice (some ⟨g, 0, none⟩) n c) n (l.map u8)) (hk : k < n) (hl : k < l.length) : w.cell? ⟨g, k, none⟩ = some (.int .u8 (l[k] : Int)) := by
  rw [h.own.cellAt k (by omega), List.getElem?_map, List.getElem?_eq_getElem hl]; rfl
theorem InN.at8 {w : World} {v : Value} {m k : Nat} {l : List Nat} (h : InN w v m l) (hk : k < l.length) : ∃ b o c, v = .slice (some ⟨b, o, none⟩) m c ∧ b < w.heap.size ∧ ∀ j (hj : j < l.length), w.cell? ⟨b, o + j, none⟩ = some (.int .u8 (l[j] : Int)) := by
  obtain ⟨A, c, rfl, _, _⟩ := h.rd.form
  obtain ⟨b, o, rfl, hb, hc⟩ := h.rd.cells (by have := h.len; omega) (by decide)
  exact ⟨b, o, c, rfl, hb, fun j hj => hc j _ (by rw [List.getElem?_map, List.getElem?_eq_getElem hj]; rfl)⟩

set_option maxRecDepth 10000 in
theorem open_in {H : Type} {enc : TypeId × Value → H} {W : World} {base : Nat} {r : Reach} {v : Value} {d : DataW H} {p : List MemPlace} (hv : Value.okWide Try.prog W r base 38 v) (h : DataW.Trod enc Try.prog W 0 (fun _ => true) true 38 v d p) : ∃ l, In W v l :=
  In.of_rd_ints (open_rd_ints Try.underlying38 Try.underlying5 (by kernel_rfl) hv h)
end Go.Proofs.Ytpgeebhepegpaaa
