/- Entries that can be read; whether they are right: the program's areRight. -/
import Derived.Test.YtpgeebhepegpaaaDrA
namespace Go.Proofs.Ytpgeebhepegpaaa
open Go.ChangeShapes Go.WideShapes Go.ChangeAt Go.RowKit

/-- Entries that can be read. -/
structure EnR7 (w : World) (v : Value) (l : List En) : Prop where
  rd : Rd w 4 v l.length (ecs l)
  sz : ∀ e ∈ l, e.s.size ≤ maxLen
section
variable {w w' : World} {v : Value} {l : List En}
set_option maxRecDepth 3000 in
theorem EnR7.step {F : Nat → Prop} (h : EnR7 w v l) (ha : Adv Nul w F w') : EnR7 w' v l := ⟨h.rd.far (fun _ _ _ hl => ha.block _ hl (fun x => x)) ha.size, h.sz⟩
set_option maxRecDepth 3000 in
theorem EnR7.drew (h : EnR7 w v l) : EnR7 w.drew v l := ⟨h.rd, h.sz⟩
set_option maxRecDepth 3000 in
theorem EnR7.form (h : EnR7 w v l) : ∃ A c, v = .slice A l.length c ∧ l.length ≤ c ∧ c ≤ maxLen := h.rd.form
set_option maxRecDepth 3000 in
theorem EnR7.at_ {A : Option Addr} {n c i : Nat} (h : EnR7 w (.slice A n c) l) (hn : n = l.length) (hi : i < l.length) : ∃ b o, A = some ⟨b, o, none⟩ ∧ b < w.heap.size ∧ (w.cell? ⟨b, o + i * 4, none⟩ = some (.string l[i].s) ∧ w.cell? ⟨b, o + i * 4 + 1, none⟩ = some (.int .i64 l[i].i) ∧ w.cell? ⟨b, o + i * 4 + 2, none⟩ = some (.int .i64 l[i].g) ∧ w.cell? ⟨b, o + i * 4 + 3, none⟩ = some (.int .i64 l[i].k)) := by
  have hr := h.rd
  rw [← hn] at hr
  obtain ⟨b, o, rfl, hb, hc⟩ := hr.cells (by omega) (by decide)
  have H : ∀ j (hj : j < 4) u, (ec l[i])[j]? = some u → w.cell? ⟨b, o + (i * 4 + j), none⟩ = some u := fun j hj u hu => hc _ _ (by rw [ecs_at l i j hj hi]; exact hu)
  exact ⟨b, o, rfl, hb, H 0 (by decide) _ rfl, H 1 (by decide) _ rfl, H 2 (by decide) _ rfl, H 3 (by decide) _ rfl⟩
end

set_option maxRecDepth 3000 in
theorem Rd.lt4 {w : World} {v : Value} {size n k : Nat} {xs : List Value} (h : Rd w size v n xs) (hk : v.ownBlock = some k) (h0 : 0 < n) : k < w.heap.size := by
  obtain ⟨A, c, rfl, _, _, _, _, h5⟩ := h
  obtain ⟨ad, rfl, hb, _⟩ := h5 h0
  have : ad.block = k := by simpa [Value.ownBlock] using hk
  omega
def lastS (l : List En) : Nat → ByteArray
  | 0 => ⟨#[]⟩
  | k + 1 => ((l[k]?).map En.s).getD ⟨#[]⟩
set_option maxRecDepth 3000 in
theorem lastS_at {l : List En} {k : Nat} (h : k < l.length) : lastS l (k + 1) = l[k].s := by simp [lastS, h]
set_option maxRecDepth 3000 in
theorem okAt_iff {l : List En} {k : Nat} (h : k < l.length) : okAt l k ↔ ltS (lastS l k) l[k].s ∧ okE l[k] := by
  constructor
  · intro ho
    have h1 := ho _ (List.getElem?_eq_getElem h)
    refine ⟨?_, h1.1⟩
    cases k with
    | zero =>
      have := h1.1.1.1
      show ([] : List UInt8) < _
      match hd : l[0].s.data.toList with
      | [] => rw [hd] at this; exact absurd this (by decide)
      | _ :: _ => exact List.nil_lt_cons _ _
    | succ k =>
      have hk : k < l.length := by omega
      rw [lastS_at hk]
      exact h1.2 _ (by omega) (by simp [hk])
  · rintro ⟨h1, h2⟩ e he
    rw [List.getElem?_eq_getElem h] at he
    obtain rfl := Option.some.inj he
    refine ⟨h2, fun d hk hd => ?_⟩
    cases k with
    | zero => omega
    | succ k =>
      have hk : k < l.length := by omega
      rw [lastS_at hk] at h1
      rw [show k + 1 - 1 = k from rfl, List.getElem?_eq_getElem hk] at hd
      rw [← Option.some.inj hd]
      exact h1
set_option maxRecDepth 3000 in
theorem rise_of {l : List En} (h : ∀ k, k < l.length → okAt l k) : RiseL l := fun k e he => h k (List.getElem?_eq_some_iff.1 he).1 e he

set_option maxRecDepth 3000 in
set_option maxHeartbeats 1600000 in
theorem wrong_any (e : En) (hs : e.s.size ≤ maxLen) (x : ByteArray) (b : Nat) (w : World) (hB : Blk w b 9 #[.string x]) :
    Calls Try.prog 92 #[.agg (ea e), .pointer (some ⟨b, 0, none⟩)] w fun r w' => r = .returned (.bool (!(decide (ltS x e.s)) || !decide (okE e))) ∧ Blk w' b 9 #[.string e.s] ∧ Adv (· = b) w (· = b) w' := by
  obtain ⟨y, hy⟩ : ∃ y, y = w.heap.size := ⟨_, rfl⟩
  obtain ⟨V, hV⟩ : ∃ V, V = w.alloc (.cells (ea e) 54) := ⟨_, rfl⟩
  have hYV : Blk V y 54 (ea e) := by rw [hV, hy]; exact Blk.new _ _ _
  have hBV : Blk V b 9 #[.string x] := by rw [hV]; exact hB.alloc _
  obtain ⟨U, hU⟩ : ∃ U, U = V.setCell ⟨b, 0, none⟩ (.string e.s) := ⟨_, rfl⟩
  have hne : y ≠ b := by have := hB.lt; omega
  have HBU := Lib.hid (show Blk U b 9 #[.string e.s] by rw [hU]; exact hBV.set_ 0 _)
  have HYU := Lib.hid (show Blk U y 54 (ea e) by rw [hU]; exact hYV.far (p := ⟨b, 0, none⟩) hne _)
  have HA := Lib.hid (show Adv (· = b) w (· = b) U by rw [hU, hV]; exact ((Adv.refl (· = b) w).alloc _).setCell (p := ⟨b, 0, none⟩) (.inl rfl) _)
  have HIS := Lib.hid (isright_any e hs U)
  have HLE := Lib.hid (less_eq x e.s)
  have b0 : V.cell? ⟨b, 0, none⟩ = some (.string x) := hBV.cell 0
  have f0 := hBV.frozen 0
  have HV := Lib.hid hV
  have HU := Lib.hid hU
  have HYY := Lib.hid hy
  obtain ⟨s0, s1, s2, s3⟩ := hYV.e4.all
  clear hV hU hy hYV hBV hB hne
  obtain ⟨B, hB⟩ : ∃ B, B = decide (okE e) := ⟨_, rfl⟩
  rw [← hB] at HIS ⊢
  obtain ⟨L, hL⟩ : ∃ L, L = decide (ltS x e.s) := ⟨_, rfl⟩
  rw [← hL] at HLE ⊢
  clear hB hL
  obtain ⟨s, i, g, k⟩ := e
  simp only [ea] at HV ⊢
  simp only at s0 s1 s2 s3 hs HU HIS HLE
  simp only [ea] at HIS
  have hle := HLE.out
  go_enter Try.func92, Try.ntmps92
  go_upto_region 1 with (fail)
  rw [← HV.out, ← HYY.out]
  go_upto_region 3 with (fail)
  rw [← HU.out]
  clear s0 s1 s2 s3 b0 f0
  obtain ⟨s0, s1, s2, s3⟩ := HYU.out.e4.all
  simp only at s0 s1 s2 s3
  clear hle
  cases L with
  | true =>
    go_wp2_with (first
      | (go_at_call 93; refine HIS.out.mono ?_; rintro r w1 ⟨rfl, a1⟩; have HA1 := Lib.hid a1; clear a1)
      | fail)
    go_ret
    exact ⟨by cases B <;> rfl, HBU.out.keep (HA1.out.block _ HBU.out.lt (fun h => h)), HA.out.over HA1.out⟩
  | false =>
    go_wp2_with (fail)
    go_ret
    exact ⟨rfl, HBU.out, HA.out⟩

/-- so far all were right -/
def IxL7 (w : World) (b : Nat) (l : List En) (t : Value) (wr : World) : Prop := ∃ k : Nat, k ≤ l.length ∧ t = .int .i64 (k : Int) ∧ (∀ i, i < k → okAt l i) ∧ Blk wr b 9 #[.string (lastS l k)] ∧ Adv (· = b) w (· = b) wr
def IxR7 (w : World) (b : Nat) (l : List En) (x : Ending) (w' : World) : Prop := ∃ r : Int, x = .returned (.int .i64 r) ∧ (0 ≤ r ↔ ¬ RiseL l) ∧ Adv (· = b) w (· = b) w'

set_option maxRecDepth 3000 in
set_option maxHeartbeats 1600000 in
theorem indexf_any (v : Value) (l : List En) (b : Nat) (w : World) (h : EnR7 w v l) (hB : Blk w b 9 #[.string ⟨#[]⟩]) (hb : ∀ k, v.ownBlock = some k → 0 < l.length → k ≠ b) :
    Calls Try.prog 97 #[v, .func (.func 92) #[] #[.pointer (some ⟨b, 0, none⟩)]] w (IxR7 w b l) := by
  obtain ⟨A, c, rfl, hnc, hcm⟩ := h.form
  obtain ⟨n, hn⟩ : ∃ n, n = l.length := ⟨_, rfl⟩
  have hbig : (n : Int) ≤ 9223372036854775807 := by unfold maxLen at hcm; omega
  rw [← hn] at h hb hnc ⊢
  have HR := Lib.hid h
  have HN := Lib.hid hn
  have HB := Lib.hid hB
  have HNE := Lib.hid hb
  clear h hn hB hb hnc hcm
  go_enter Try.func97, Try.ntmps97
  go_wp2_with fail
  go_loopw [8] (IxL7 w b l) (fun t _ => n - (intOf t).toNat)
  case atStart => exact ⟨0, Nat.zero_le _, rfl, fun i hi => absurd hi (Nat.not_lt_zero _), HB.out, Adv.refl _ _⟩
  case round =>
    obtain ⟨k, hk, rfl, hall, hb1, ha⟩ := hrel
    rw [← HN.out] at hk
    have HALL := Lib.hid hall
    have HB1 := Lib.hid hb1
    have HA := Lib.hid ha
    clear hall hb1 ha
    by_cases hlt : k < n
    · have hkl : k < l.length := by rw [← HN.out]; exact hlt
      obtain ⟨b1, o1, rfl, hb1, g0, g1, g2, g3⟩ := HR.out.at_ HN.out hkl
      have hw : wr.heap[b1]? = w.heap[b1]? := HA.out.block b1 hb1 (fun e => HNE.out b1 rfl (by omega) e)
      replace g0 := (World.cell?_of_block (a := ⟨b1, o1 + k * 4, none⟩) hw).trans g0
      replace g1 := (World.cell?_of_block (a := ⟨b1, o1 + k * 4 + 1, none⟩) hw).trans g1
      replace g2 := (World.cell?_of_block (a := ⟨b1, o1 + k * 4 + 2, none⟩) hw).trans g2
      replace g3 := (World.cell?_of_block (a := ⟨b1, o1 + k * 4 + 3, none⟩) hw).trans g3
      obtain ⟨e, he⟩ : ∃ e, e = l[k] := ⟨_, rfl⟩
      have hsz : e.s.size ≤ maxLen := by rw [he]; exact HR.out.sz _ (List.getElem_mem _)
      have HW := Lib.hid (wrong_any e hsz (lastS l k) b wr HB1.out)
      have HOK := Lib.hid (okAt_iff hkl)
      have HE := Lib.hid (show lastS l (k + 1) = e.s by rw [lastS_at hkl, he])
      have HLT := Lib.hid hlt
      rw [← he] at g0 g1 g2 g3 HOK
      obtain ⟨B, hB⟩ : ∃ B, B = (!(decide (ltS (lastS l k) e.s)) || !decide (okE e)) := ⟨_, rfl⟩
      rw [← hB] at HW
      have HBB := Lib.hid hB
      clear hb1 hw hkl he hsz hB
      obtain ⟨s, i, g, kd⟩ := e
      simp only [ea] at HW
      simp only at g0 g1 g2 g3 HE
      go_wp2_with fail
      refine HW.out.mono ?_
      rintro x w2 ⟨rfl, hb2, ha2⟩
      have HB2 := Lib.hid hb2
      have HA2 := Lib.hid (HA.out.trans ha2)
      clear hb2 ha2 g0 g1 g2 g3
      cases B with
      | false =>
        go_wp2_with fail
        refine ⟨⟨k + 1, by have := HLT.out; have := HN.out; omega, by go_num, fun i hi => ?_, by rw [HE.out]; exact HB2.out, HA2.out⟩, by have := HLT.out; simp [intOf]; omega⟩
        by_cases e : i = k
        · rw [e, HOK.out]
          have := HBB.out
          simpa using this.symm
        · exact HALL.out i (by omega)
      | true =>
        go_wp2_with fail
        go_ret
        refine ⟨_, rfl, ⟨fun _ hr => ?_, fun _ => by omega⟩, HA2.out⟩
        have := HBB.out
        rw [decide_eq_true ((HOK.out.1 (hr k)).1), decide_eq_true ((HOK.out.1 (hr k)).2)] at this
        exact absurd this (by decide)
    · obtain rfl : k = n := by omega
      clear hlt hk
      go_wp2_with fail
      go_ret
      exact ⟨-1, rfl, ⟨fun h => absurd h (by decide), fun h => absurd (rise_of fun i hi => HALL.out i (by rw [HN.out]; exact hi)) h⟩, HA.out⟩

set_option maxRecDepth 3000 in
theorem contains_any (v : Value) (l : List En) (b : Nat) (w : World) (h : EnR7 w v l) (hB : Blk w b 9 #[.string ⟨#[]⟩]) (hb : ∀ k, v.ownBlock = some k → 0 < l.length → k ≠ b) :
    Calls Try.prog 94 #[v, .func (.func 92) #[] #[.pointer (some ⟨b, 0, none⟩)]] w fun x w' => x = .returned (.bool (decide (¬ RiseL l))) ∧ Adv (· = b) w (· = b) w' := by
  have H := Lib.hid (indexf_any v l b w h hB hb)
  clear h hB hb
  go_enter Try.func94, Try.ntmps94
  go_wp2_with (first
    | (go_at_call 97; refine H.out.mono ?_; rintro x w1 ⟨r, rfl, hr, ha⟩; have HR := Lib.hid hr; have HA := Lib.hid ha; clear hr ha)
    | fail)
  go_ret
  refine ⟨?_, HA.out⟩
  by_cases h0 : 0 ≤ r
  · rw [decide_eq_true h0, decide_eq_true (HR.out.1 h0)]; rfl
  · rw [decide_eq_false h0, decide_eq_false (fun x => h0 (HR.out.2 x))]; rfl

set_option maxRecDepth 3000 in
theorem areright_any (v : Value) (l : List En) (w : World) (h : EnR7 w v l) :
    Calls Try.prog 89 #[v] w fun x w' => x = .returned (.bool (decide (RiseL l))) ∧ Adv Nul w Nul w' := by
  obtain ⟨V, hV⟩ : ∃ V, V = w.alloc (.cells #[.string ⟨#[]⟩] 9) := ⟨_, rfl⟩
  obtain ⟨b, hb⟩ : ∃ b, b = w.heap.size := ⟨_, rfl⟩
  have hB : Blk V b 9 #[.string ⟨#[]⟩] := by rw [hV, hb]; exact Blk.new _ _ _
  have hA : Adv Nul w Nul V := by rw [hV]; exact (Adv.refl _ _).alloc _
  have HN := Lib.hid (show Adv Nul w (· = b) V from Adv.new_ hA.toBelow (fun k hk => by rw [hk, hb]; exact Nat.le_refl _))
  have H := Lib.hid (contains_any v l b V (h.step hA) hB fun k hk h0 e => by
    have := Rd.lt4 h.rd hk h0
    omega)
  have HV := Lib.hid hV
  have HB := Lib.hid hb
  clear h hV hb hB hA
  go_enter Try.func89, Try.ntmps89
  go_upto_region 2 with (fail)
  rw [← HV.out, ← HB.out]
  go_wp2_with (first
    | (go_at_call 94; refine H.out.mono ?_; rintro x w1 ⟨rfl, ha⟩; have HA1 := Lib.hid ha; clear ha)
    | fail)
  go_ret
  exact ⟨by by_cases hr : RiseL l <;> simp [hr], (HN.out.trans HA1.out).sub (fun _ h => h.elim)⟩
end Go.Proofs.Ytpgeebhepegpaaa
