/- The document's Entries. -/
import Derived.Test.YtgcbnaleajccgaaRdrH
import Derived.Test.YtgcbnaleajccgaaDrI
import Derived.Test.YtgcbnaleajccgaaDrN
namespace Go.Proofs.Ytgcbnaleajccgaa
open Go.ChangeShapes Go.WideShapes Go.ChangeAt Go.RowKit

/-- a name's bytes where an entry stands -/
def nmR (V j m : Nat) : List Nat := (List.range m).map fun i => bitsAt 128 V (172 * j + 44 + 8 * i) 8
theorem nmR_succ (V j m : Nat) : nmR V j (m + 1) = nmR V j m ++ [bitsAt 128 V (172 * j + 44 + 8 * m) 8] := by unfold nmR; rw [List.range_succ, List.map_append]; rfl
theorem nmR_take (V j m : Nat) (h : m ≤ 16) : (nmR V j 16).take m = nmR V j m := by unfold nmR; rw [← List.map_take, List.take_range, Nat.min_eq_left h]
/-- while the document reads a name's bytes -/
structure XnS (W5 : World) (G : Nat → Prop) (c V j : Nat) (m : Nat) (v : Value) (w : World) : Prop where
  x : XSt w G c 128 V (172 * j + 44 + 8 * m)
  ex : ∃ F, Sl w F 5 1 v m ((nmR V j m).map u8) ∧ ∀ q, F q → W5.heap.size ≤ q
  ad : Adv (· = c) W5 (· = c) w
  gl : ∀ q, G q → q < W5.heap.size
  gc : G c
theorem XnS.form {W5 w : World} {G : Nat → Prop} {c V j m : Nat} {v : Value} (h : XnS W5 G c V j m v w) : ∃ A k, v = .slice A m k ∧ m ≤ k := by
  obtain ⟨F, h1, _⟩ := h.ex
  obtain ⟨A, k, e, h2, _⟩ := h1.form0
  exact ⟨A, k, e, h2⟩
theorem XnS.text {W5 w : World} {G : Nat → Prop} {c V j n k : Nat} {A : Option Addr} (h : XnS W5 G c V j 16 (.slice A 16 k) w) (hn : n ≤ 16) : (convert 31 9 (.slice A n k)).run Try.prog w = .ok (.string (rdS V j n)) w := by
  obtain ⟨F, h1, _⟩ := h.ex
  have h2 := h1.rd.xfront (n := n) hn
  rw [nmR_take V j n hn] at h2
  rw [← itxt_rdS]
  exact iconvert_rd h2
theorem XnS.push {W5 w w1 w3 : World} {G : Nat → Prop} {c V j m : Nat} {v v' : Value} {o : Obj} (h : XnS W5 G c V j m v w) (hx : XSt w1 G c 128 V (172 * j + 44 + 8 * m + 8)) (ha : Adv (· = c) w (· = c) w1) :
    w1.ownsRow 0 5 1 v m ((nmR V j m).map u8) ∧ (w3.ownsRow 0 5 1 v' (m + 1) ((nmR V j m).map u8 ++ [.int .u8 ((bitsAt 128 V (172 * j + 44 + 8 * m) 8 : Nat) : Int)]) → (w1.alloc o).grownBy w3 v.ownBlock → (v'.ownBlock = v.ownBlock ∨ v'.ownBlock = some (w1.heap.size + 1)) → XnS W5 G c V j (m + 1) v' w3) := by
  obtain ⟨F, h1, h2⟩ := h.ex
  have hcW : c < W5.heap.size := h.gl c h.gc
  have hsep : Sep (· = c) F := fun q e f => by subst e; have := h2 q f; omega
  have h1' := h1.far ha hsep
  have ha' := h.ad.trans ha
  refine ⟨h1'.own, fun hown hg hat => ?_⟩
  have hF' : ∀ q, (F q ∨ v'.ownBlock = some q) → F q ∨ w1.heap.size ≤ q := by
    rintro q (h | h)
    · exact .inl h
    · rcases hat with e | e
      · exact .inl (h1'.inF q (by rw [← e]; exact h))
      · rw [e] at h; injection h with h; right; omega
  have hA : Adv F w1 (fun q => F q ∨ v'.ownBlock = some q) w3 := by
    have h5 := ((Adv.refl F w1).alloc o).grown hg (fun q hq => .inl (h1'.inF q hq))
    exact ⟨h5.os, h5.tape, h5.output, h5.size, h5.block, hF'⟩
  have hFG : Sep F G := fun q f g => by have := h2 q f; have := h.gl q g; omega
  refine ⟨?_, ⟨(fun q => F q ∨ v'.ownBlock = some q), ⟨?_, fun q hq => Or.inr hq, ?_⟩, fun q hq => ?_⟩, ?_, h.gl, h.gc⟩
  · rw [show 172 * j + 44 + 8 * (m + 1) = 172 * j + 44 + 8 * m + 8 by omega]
    exact hx.far hA hFG
  · rw [nmR_succ, List.map_append]; exact hown
  · rintro q (f | f)
    · exact Nat.lt_of_lt_of_le (h1'.bd q f) hA.size
    · exact (hown.lt q f).2
  · rcases hF' q hq with d | d
    · exact h2 q d
    · exact Nat.le_trans ha'.size d
  · exact ⟨hA.os.trans ha'.os, hA.tape.trans ha'.tape, hA.output.trans ha'.output, Nat.le_trans ha'.size hA.size, fun q hq hn => (hA.block q (Nat.lt_of_lt_of_le hq ha'.size) (fun f => by have := h2 q f; omega)).trans (ha'.block q hq hn), fun q hq => Or.inl hq⟩
def XnL (W5 : World) (G : Nat → Prop) (c V j : Nat) (t11 t12 : Value) (wr : World) : Prop := ∃ m : Nat, t12 = .int .i64 (m : Int) ∧ m ≤ 16 ∧ XnS W5 G c V j m t11 wr
/-- a row's bits -/
def BitO (w : World) (v : Value) (bl : List Nat) : Prop := w.ownsRow 0 5 1 v 1024 (bl.map u8)
theorem BitO.kept {w w' : World} {v : Value} {bl : List Nat} {row : Option Nat} {x : Value} {n : Nat} {xs : List Value} (h : BitO w v bl) (hx : w.ownsRow 0 46 4 x n xs) (hg : w.grownBy w' row) (hr : row = x.ownBlock) : BitO w' v bl := by
  subst hr
  exact World.ownsRow.kept h hg (own_apart h hx (by decide))
theorem BitO.step {w w' : World} {F : Nat → Prop} {v : Value} {bl : List Nat} (h : BitO w v bl) (ha : Adv Nul w F w') : BitO w' v bl := own_adv h ha
/-- between two entries of a row -/
def QeJ (w : World) (pre : List En) (V : Nat) (bl : List Nat) (v6 : Value) (t4 t7 : Value) (wr : World) : Prop := ∃ j : Nat, t7 = .int .i64 (j : Int) ∧ j ≤ 5 ∧ EnO w (pre ++ ptR V j) t4 wr ∧ BitO wr v6 bl
def QeL (w : World) (rs : List (List Nat)) (t4 t5 : Value) (wr : World) : Prop := ∃ i : Nat, t5 = .int .i64 (i : Int) ∧ i ≤ rs.length ∧ len128 (rs.take i) ∧ EnO w (eR (rs.take i)) t4 wr
theorem ptR_le (V n : Nat) : (ptR V n).length ≤ n := by
  have := List.length_filterMap_le (prR V) (List.range n)
  rwa [List.length_range] at this
theorem eR_le : ∀ rs : List (List Nat), (eR rs).length ≤ 5 * rs.length
  | [] => by simp [eR]
  | r :: rs => by
    have h1 := eR_le rs
    have h2 := ptR_le (byN r) 5
    simp only [eR, List.flatMap_cons, List.length_append, List.length_cons] at h1 ⊢
    omega
theorem eR_take (rs : List (List Nat)) (j : Nat) (hj : j < rs.length) : eR (rs.take (j + 1)) = eR (rs.take j) ++ ptR (byN rs[j]) 5 := by
  unfold eR; rw [List.take_succ_eq_append_getElem hj, List.flatMap_append, List.flatMap_singleton]
/-- the reader at an entry's beginning -/
theorem xst_made {w : World} {g k j V : Nat} {bl : List Nat} (h : w.ownsRow 0 5 1 (.slice (some ⟨g, 0, none⟩) 1024 k) 1024 (bl.map u8)) (hb : Bl bl V 1024) (hj : j < 5) :
    XSt (w.alloc (.cells #[.slice (some ⟨g, 172 * j, none⟩) (1024 - 172 * j) (k - 172 * j), .int .i64 0] 63)) (fun q => q = g ∨ q = w.heap.size) w.heap.size 128 V (172 * j) := by
  have hg : g < w.heap.size := (h.lt g rfl).2
  have hr := own_rd h
  have hcut : Rd w 1 (.slice (some ⟨g, 172 * j, none⟩) (1024 - 172 * j) (k - 172 * j)) (1024 - 172 * j) ((bl.drop (172 * j)).map u8) := hr.cutback (by omega)
  refine ⟨⟨_, bl.drop (172 * j), Blk.new _ _ _, ?_, ?_, fun q hq => ?_⟩, .inr rfl, fun q hq => ?_, by omega⟩
  · exact hcut.far (fun q _ _ hl => Below.heap_alloc _ _ _ hl) (by simp)
  · have := (hb.parts (n := 172 * j) (by omega)).2
    exact this
  · have : g = q := by simpa [Value.ownBlock] using hq
    exact ⟨.inl this.symm, by omega⟩
  · rcases hq with rfl | rfl
    · simp; omega
    · simp

set_option maxRecDepth 3000 in
set_option maxHeartbeats 12800000 in
theorem q9entries_any (v : Value) (rs : List (List Nat)) (w : World) (h : RwD w v rs) (h8 : All8 rs) (h7 : rs.length ≤ 7) : Calls Try.prog 15 #[v] w (EntR w rs) := by
  obtain ⟨i0, hi, hz0, hz1, hz2⟩ := info_parts Try.infoU8
  obtain ⟨A, c, rfl, hnc, hcm⟩ := h.form
  obtain ⟨N, hN⟩ : ∃ N, N = rs.length := ⟨_, rfl⟩
  rw [← hN] at h h7 ⊢
  have HR := Lib.hid h
  have HN := Lib.hid hN
  have H8 := Lib.hid h8
  have H7 := Lib.hid h7
  have h7' : (N : Int) ≤ 7 := by omega
  clear h hN h8 hnc hcm h7
  go_enter Try.func15, Try.ntmps15
  go_wp2_with fail
  go_loopw [4, 5] (QeL w rs) (fun _ t _ => N - (intOf t).toNat)
  case atStart => exact ⟨0, rfl, Nat.zero_le _, fun b hb => by simp at hb, EnO.nil w⟩
  case round =>
    obtain ⟨i, rfl, hi', hall, hE⟩ := hrel
    rw [← HN.out] at hi'
    obtain ⟨n, hn⟩ : ∃ n, n = (eR (rs.take i)).length := ⟨_, rfl⟩
    have HNL := Lib.hid (show n ≤ 35 by
      rw [hn]
      have := eR_le (rs.take i)
      rw [List.length_take] at this
      have := H7.out
      omega)
    obtain ⟨A4, c4, rfl⟩ := hE.form
    have HALL := Lib.hid hall
    have HE := Lib.hid hE
    rw [← hn] at HE ⊢
    have HNE := Lib.hid hn
    clear hall hE hn
    by_cases hlt : i < N
    · have hjr : i < rs.length := by rw [← HN.out]; exact hlt
      obtain ⟨b1, o1, a1, q1, rfl, hlb1, g1, r1⟩ := (HR.out.step HE.out.adv).at_ hjr
      have hp8 : ∀ x ∈ rs[i], x < 256 := H8.out _ (List.getElem_mem hjr)
      have HTK := Lib.hid (eR_take rs i hjr)
      have HAT := Lib.hid (show rs.take (i + 1) = rs.take i ++ [rs[i]] from List.take_succ_eq_append_getElem hjr)
      have HMEM := Lib.hid (List.getElem_mem hjr)
      obtain ⟨p, hp⟩ : ∃ p, p = rs[i] := ⟨_, rfl⟩
      rw [← hp] at g1 r1 hp8 HTK HAT HMEM
      have HLT := Lib.hid hlt
      by_cases h128 : p.length = 128
      · rw [h128] at g1 r1
        have HOF := Lib.hid (of_any _ 128 p wr ⟨h128.symm, r1, fun b hb h0 => Rd.lt4 r1 hb h0, hp8⟩ (by decide))
        have H128 := Lib.hid h128
        obtain ⟨V, hV⟩ : ∃ V, V = byN p := ⟨_, rfl⟩
        rw [← hV] at HOF HTK
        clear hjr hp8 hp r1 h128 hlb1 hV
        go_wp2_with (first
          | (go_at_call 31; refine HOF.out.mono ?_; rintro x w2 ⟨v2, F2, bl, rfl, s2, b2, a2⟩; obtain ⟨g2, k2, rfl, _, hk2⟩ := s2.form (by decide); have HBL := Lib.hid (show Bl bl V 1024 from b2); have HO2 := Lib.hid (show BitO w2 (.slice (some ⟨g2, 0, none⟩) 1024 k2) bl from s2.own); have HE2 := Lib.hid (HE.out.step a2); have HK2 := Lib.hid (show 1024 ≤ k2 from hk2); clear s2 b2 a2 hk2)
          | fail)
        try simp only [Nat.reduceMul]
        go_loopw [4, 7] (QeJ w (eR (rs.take i)) V bl (.slice (some ⟨g2, 0, none⟩) 1024 k2)) (fun _ t _ => 5 - (intOf t).toNat)
        case atStart => exact ⟨0, rfl, Nat.zero_le _, by simp only [ptR, List.range_zero, List.filterMap_nil, List.append_nil]; exact HE2.out, HO2.out⟩
        case round =>
          obtain ⟨j, rfl, hj, hEj, hOj⟩ := hrel
          obtain ⟨A5, c5, rfl⟩ := hEj.form
          obtain ⟨n5, hn5⟩ : ∃ n, n = (eR (rs.take i) ++ ptR V j).length := ⟨_, rfl⟩
          have HN5 := Lib.hid (show n5 ≤ 40 by
            rw [hn5, List.length_append]
            have h1 := ptR_le V j
            have h2 := HNL.out
            rw [HNE.out] at h2
            omega)
          rw [← hn5] at hEj ⊢
          have HNE5 := Lib.hid hn5
          have HEJ := Lib.hid hEj
          have HOJ := Lib.hid hOj
          clear hEj hOj hn5
          by_cases hlt5 : j < 5
          · have HLT5 := Lib.hid hlt5
            have hk2 : ¬ k2 = 172 * j := by have := HK2.out; omega
            have hj0 : (0 : Int) ≤ 172 * (j : Int) := by omega
            have hj1 : (172 : Int) * (j : Int) ≤ 1024 := by omega
            have HX0 := Lib.hid (xst_made HOJ.out HBL.out hlt5)
            have e0 := wrap_b64 128 V (172 * j) 5 (by decide)
            have e1 := wrap_b64 128 V (172 * j + 5) 6 (by decide)
            have e2 := wrap_b64 128 V (172 * j + 11) 31 (by decide)
            have e3 := wrap_b64 128 V (172 * j + 42) 2 (by decide)
            go_upto_region 12 with (fail)
            obtain ⟨cb, hcb⟩ : ∃ cb, cb = wr.heap.size := ⟨_, rfl⟩
            obtain ⟨W3, hW3⟩ : ∃ W, W = wr.alloc (.cells #[.slice (some ⟨g2, 172 * j, none⟩) (1024 - 172 * j) (k2 - 172 * j), .int .i64 0] 63) := ⟨_, rfl⟩
            have hA3 : Adv Nul wr (· = cb) W3 := by rw [hW3]; exact Adv.new_ ((Adv.refl Nul wr).alloc _).toBelow (fun q hq => by rw [hq, hcb]; exact Nat.le_refl _)
            have HA3 := Lib.hid hA3
            rw [← hcb, ← hW3] at HX0 ⊢
            have HCB := Lib.hid hcb
            have HG2 := Lib.hid (show g2 < wr.heap.size from (World.ownsRow.lt HOJ.out g2 rfl).2)
            clear hcb hW3 hA3
            go_upto_region 14 with (first
              | (go_at_call 32; refine (xget_c cb 128 V (172 * j) 5 _ _ HX0.out (by decide) (by have := HLT5.out; omega)).mono ?_; rintro x w4 ⟨rfl, x4, a4⟩; have HX4 := Lib.hid x4; have HA4 := Lib.hid (HA3.out.trans a4); clear x4 a4 HX0)
              | (go_at_call 32; refine (xget_c cb 128 V (172 * j + 5) 6 _ _ HX4.out (by decide) (by have := HLT5.out; omega)).mono ?_; rintro x w5 ⟨rfl, x5, a5⟩; have HX5 := Lib.hid x5; have HA5 := Lib.hid (HA4.out.trans a5); clear x5 a5 HX4)
              | (go_at_call 32; refine (xget_c cb 128 V (172 * j + 11) 31 _ _ HX5.out (by decide) (by have := HLT5.out; omega)).mono ?_; rintro x w6 ⟨rfl, x6, a6⟩; have HX6 := Lib.hid x6; have HA6 := Lib.hid (HA5.out.trans a6); clear x6 a6 HX5)
              | (go_at_call 32; refine (xget_c cb 128 V (172 * j + 42) 2 _ _ HX6.out (by decide) (by have := HLT5.out; omega)).mono ?_; rintro x w7 ⟨rfl, x7, a7⟩; have HX7 := Lib.hid x7; have HA7 := Lib.hid (HA6.out.trans a7); clear x7 a7 HX6)
              | fail)
            obtain ⟨E0, hE0⟩ : ∃ E, E = (⟨⟨#[]⟩, ((bitsAt 128 V (172 * j + 5) 6 : Nat) : Int), ((bitsAt 128 V (172 * j + 11) 31 : Nat) : Int), ((bitsAt 128 V (172 * j + 42) 2 : Nat) : Int)⟩ : En) := ⟨_, rfl⟩
            obtain ⟨u, hu⟩ : ∃ u, u = w7.heap.size := ⟨_, rfl⟩
            obtain ⟨W8, hW8⟩ : ∃ W, W = w7.alloc (.cells (ea E0) 46) := ⟨_, rfl⟩
            have HE0 := Lib.hid hE0
            have HA8 := Lib.hid (show Adv Nul wr (· = cb) W8 by rw [hW8]; exact HA7.out.alloc _)
            have HU8 := Lib.hid (show Blk W8 u 46 (ea E0) by rw [hW8, hu]; exact Blk.new _ _ _)
            have HCW := Lib.hid (show cb < w7.heap.size from HX7.out.bd cb (.inr rfl))
            have HXN := Lib.hid (show XnS W8 (fun q => q = g2 ∨ q = cb) cb V j 0 (.slice none 0 0) W8 from ⟨(by rw [hW8]; exact HX7.out.far (F := Nul) (F' := Nul) ((Adv.refl _ _).alloc _) (fun _ x _ => x)), ⟨Nul, Sl.nil _ _ _, fun _ x => x.elim⟩, Adv.refl _ _, (fun q hq => by
              have h1 := HX7.out.bd q hq
              rw [hW8]; simp; omega), .inr rfl⟩)
            have HUC := Lib.hid (show u ≠ cb by rw [hu]; exact Nat.ne_of_gt HCW.out)
            have HUW := Lib.hid (show wr.heap.size ≤ u by rw [hu]; exact HA7.out.size)
            have hW8' : W8 = w7.alloc (.cells #[.string ⟨#[]⟩, .int .i64 ((bitsAt 128 V (172 * j + 5) 6 : Nat) : Int), .int .i64 ((bitsAt 128 V (172 * j + 11) 31 : Nat) : Int), .int .i64 ((bitsAt 128 V (172 * j + 42) 2 : Nat) : Int)] 46) := by rw [hW8, hE0]; rfl
            obtain ⟨nn, hnn⟩ : ∃ n, n = bitsAt 128 V (172 * j) 5 := ⟨_, rfl⟩
            have HNN := Lib.hid hnn
            have hn32 : (nn : Int) < 32 := by have := bitsAt_lt 128 V (172 * j) 5; rw [← hnn] at this; omega
            rw [← hW8', ← hu, ← hnn]
            clear hE0 hu hW8 hW8' hnn HA3 HA4 HA5 HA6 HA7 HX7 e0 e1 e2 e3 hj0 hj1 hk2 HCB
            go_wp2_with fail
            go_loopw [11, 12] (XnL W8 (fun q => q = g2 ∨ q = cb) cb V j) (fun _ t _ => 16 - (intOf t).toNat)
            case atStart => exact ⟨0, rfl, Nat.zero_le _, HXN.out⟩
            case round =>
              obtain ⟨m, rfl, hm, hX⟩ := hrel
              obtain ⟨A16, k16, rfl, hk16⟩ := hX.form
              have HX := Lib.hid hX
              have HK16 := Lib.hid hk16
              clear hX hk16
              by_cases hltm : m < 16
              · have HLTM := Lib.hid hltm
                obtain ⟨z, hz⟩ : ∃ z, z = bitsAt 128 V (172 * j + 44 + 8 * m) 8 := ⟨_, rfl⟩
                have hz8 : z < 256 := by rw [hz]; exact bitsAt_lt _ _ _ _
                have ez : IntKind.u8.wrap (z : Int) = (z : Int) := by rw [IntKind.wrap_u8]; omega
                have HZ := Lib.hid hz
                clear hz hz8
                go_wp2_with (first
                  | (go_at_call 32; refine (xget_c cb 128 V (172 * j + 44 + 8 * m) 8 _ _ HX.out.x (by decide) (by have := HLT5.out; have := HLTM.out; omega)).mono ?_; rintro x w9 ⟨rfl, x9, a9⟩; rw [← HZ.out]; have HPU := Lib.hid (fun v' w3 => HX.out.push (v' := v') (w3 := w3) (o := .cells #[.int .u8 (z : Int)] 5) x9 a9); have hown := ((HX.out.push (v' := .slice none 0 0) (w3 := w9) (o := .cells #[] 5) x9 a9).1).alloc (.cells #[.int .u8 (z : Int)] 5); clear x9 a9)
                  | (at_builtin; refine wpList_append_own_at _ rfl (.tmp 61) (.tmp 65) 31 rfl 0 5 i0 _ 1 1 Try.underlying31 hi hz0 hz1 hz2 rfl (by decide) (.slice A16 m k16) m _ rfl hown ⟨w9.heap.size, 0, none⟩ 1 1 [.int .u8 (z : Int)] rfl rfl (cell_one_new _ _ _) (by simp [Value.oneCell']) (by have := HLTM.out; unfold maxLen; omega) (by have := HLTM.out; omega) (Nat.zero_le _) ?c9)
                  | fail)
                case c9 =>
                  intro v' w11 hown11 hg11 _ hat11
                  have hn := (HPU.out v' w11).2 (by rw [← HZ.out]; exact hown11) hg11 (by simpa using hat11)
                  obtain ⟨A11, k11, rfl, _⟩ := hn.form
                  have HN11 := Lib.hid hn
                  clear hn hown11 hg11 hat11 hown HPU
                  go_wp2_with fail
                  exact ⟨⟨m + 1, by go_num, HLTM.out, HN11.out⟩, by have := HLTM.out; simp [intOf] <;> omega⟩
              · obtain rfl : m = 16 := by omega
                clear hltm hm
                have HWR := Lib.hid ((HA8.out.trans HX.out.ad).sub (G := Nul) (fun _ h => h.elim))
                have HUB := Lib.hid (HU8.out.keep (HX.out.ad.block u HU8.out.lt HUC.out))
                have HPT := Lib.hid (ptR_succ V j)
                have HPR := Lib.hid (show prR V j = if 0 < nn ∧ nn ≤ 16 then some (rdE V j nn) else none by rw [HNN.out]; rfl)
                by_cases hyes : 0 < nn ∧ nn ≤ 16
                · obtain ⟨hy1, hy2⟩ := hyes
                  have hcw := HX.out.text (n := nn) hy2
                  have hkk : (nn : Int) ≤ (k16 : Int) := by have := HK16.out; omega
                  have hp0 : (0 : Int) < (nn : Int) := by omega
                  have hp1 : (nn : Int) ≤ 16 := by omega
                  have HCV := Lib.hid hcw
                  obtain ⟨S, hS⟩ : ∃ S, S = rdS V j nn := ⟨_, rfl⟩
                  rw [← hS] at hcw
                  have u0 : wr.cell? ⟨u, 0, none⟩ = some (.string ⟨#[]⟩) := (HUB.out.cell 0).trans (by rw [HE0.out]; rfl)
                  have uf := HUB.out.frozen 0
                  have HUS := Lib.hid (HUB.out.set_ 0 (.string S))
                  have HPT1 := Lib.hid (show ptR V (j + 1) = ptR V j ++ [rdE V j nn] by rw [HPT.out, HPR.out, if_pos ⟨hy1, hy2⟩]; rfl)
                  have HSS := Lib.hid hS
                  have HSZ := Lib.hid (show nn ≤ 16 from hy2)
                  clear hS hy1 hy2 HPT HPR
                  go_upto_region 21 with (fail)
                  obtain ⟨W10, hW10⟩ : ∃ W, W = wr.setCell ⟨u, 0, none⟩ (.string S) := ⟨_, rfl⟩
                  have HA10 := Lib.hid ((HWR.out.setCell (p := ⟨u, 0, none⟩) (.inr HUW.out)) (.string S))
                  rw [← hW10] at HUS HA10 ⊢
                  obtain ⟨Ei, Eg, Ek, hEi, hEg, hEk⟩ : ∃ a b c, a = E0.i ∧ b = E0.g ∧ c = E0.k := ⟨_, _, _, rfl, rfl, rfl⟩
                  have hU10 : Blk W10 u 46 (ea ⟨S, Ei, Eg, Ek⟩) := by rw [hEi, hEg, hEk]; exact HUS.out
                  obtain ⟨s0, s1, s2, s3⟩ := hU10.e4.all
                  simp only at s0 s1 s2 s3
                  have HFIN := Lib.hid (show (⟨S, Ei, Eg, Ek⟩ : En) = rdE V j nn by rw [hEi, hEg, hEk, HE0.out, HSS.out]; rfl)
                  have hmore := HEJ.out.more (m := [⟨S, Ei, Eg, Ek⟩]) (fun e he => by
                    rw [List.mem_singleton.1 he]
                    have h1 : S.size = nn := by
                      rw [HSS.out]
                      show (bytesAt 128 V (172 * j + 44) nn).toArray.size = _
                      rw [List.size_toArray, bytesAt_length]
                    show S.size ≤ maxLen
                    have := HSZ.out
                    rw [h1]; unfold maxLen; omega)
                  rw [← HNE5.out] at hmore
                  have hA11 := HA10.out.alloc (.cells (ea ⟨S, Ei, Eg, Ek⟩) 46)
                  have hown := own_adv hmore.1 hA11
                  have hrd := rd_one W10 ⟨S, Ei, Eg, Ek⟩
                  have HMORE := Lib.hid hmore.2
                  have HA11 := Lib.hid hA11
                  have HOWN := Lib.hid hown
                  have HB11 := Lib.hid (HOJ.out.step hA11)
                  clear hW10 hEi hEg hEk hU10 u0 uf hcw hkk hp0 hp1 hmore hA11
                  go_wp2_with (first
                    | (at_builtin; refine wpList_append_en rfl (.tmp 78) (.tmp 80) rfl rfl rfl hown hrd (ec_one _) (by have := HN5.out; omega) ?c12)
                    | fail)
                  case c12 =>
                    intro v' w12 hown12 hg12 hat12
                    have hn := HMORE.out _ v' w12 HA11.out (by rw [ecs_one_eq]; exact hown12) hg12 (by simpa [ea] using hat12)
                    have hb := HB11.out.kept HOWN.out hg12 rfl
                    rw [HFIN.out, List.append_assoc, ← HPT1.out] at hn
                    have HN12 := Lib.hid hn
                    have HB12 := Lib.hid hb
                    obtain ⟨A12, c12, rfl⟩ := hn.form
                    clear hn hb hown12 hg12 hat12 hown hrd
                    go_wp2_with fail
                    exact ⟨⟨j + 1, by go_num, HLT5.out, HN12.out, HB12.out⟩, by have := HLT5.out; simp [intOf] <;> omega⟩
                · have HPT0 := Lib.hid (show ptR V (j + 1) = ptR V j by rw [HPT.out, HPR.out, if_neg hyes]; simp)
                  have HEF := Lib.hid (HEJ.out.step HWR.out)
                  have HOF2 := Lib.hid (HOJ.out.step HWR.out)
                  by_cases h00 : nn = 0
                  · subst h00
                    go_wp2_with fail
                    exact ⟨⟨j + 1, by go_num, HLT5.out, by rw [HPT0.out]; exact HEF.out, HOF2.out⟩, by have := HLT5.out; simp [intOf] <;> omega⟩
                  · have hp0 : (0 : Int) < (nn : Int) := by omega
                    have hp1 : ¬ (nn : Int) ≤ 16 := by omega
                    clear hyes
                    go_wp2_with fail
                    exact ⟨⟨j + 1, by go_num, HLT5.out, by rw [HPT0.out]; exact HEF.out, HOF2.out⟩, by have := HLT5.out; simp [intOf] <;> omega⟩
          · obtain rfl : j = 5 := by omega
            clear hlt5 hj
            go_wp2_with fail
            refine ⟨⟨i + 1, by go_num, by rw [← HN.out]; exact HLT.out, ?_, by rw [HTK.out]; exact HEJ.out⟩, by have := HLT.out; simp [intOf] <;> omega⟩
            rw [HAT.out]
            intro b hb
            rcases List.mem_append.1 hb with h' | h'
            · exact HALL.out b h'
            · rw [List.mem_singleton.1 h']; exact H128.out
      · have hni : ((p.length : Int) == 128) = false := by rw [beq_eq_false_iff_ne]; omega
        have HNO := Lib.hid (show ¬ okP rs from fun o => h128 (o.2.1 p HMEM.out))
        clear hjr hp8 hp r1 h128 hlb1
        go_wp2_with fail
        go_ret2
        exact EntR.no HNO.out rfl HE.out.adv
    · obtain rfl : i = N := by omega
      have hall2 := HALL.out
      have he2 := HE.out
      have hne2 := HNE.out
      rw [List.take_of_length_le (by rw [← HN.out]; exact Nat.le_refl _)] at hall2 he2 hne2
      have HALL2 := Lib.hid hall2
      have HE2 := Lib.hid he2
      have HNE2 := Lib.hid hne2
      have HBK := Lib.hid (q9blocks_any _ _ wr he2.rd)
      have hbc := bE_cases (eR rs)
      clear hall2 he2 hne2 hlt hi' HALL HE HNE
      obtain ⟨E, hE⟩ : ∃ E, E = bE (eR rs) := ⟨_, rfl⟩
      have HEE := Lib.hid hE
      unfold BksR at HBK
      rw [← hE] at hbc HBK
      clear hE
      rcases hbc with rfl | rfl | rfl
      · obtain ⟨M, hM⟩ : ∃ M, M = (bL (eR rs)).length := ⟨_, rfl⟩
        have HMM := Lib.hid hM
        by_cases hMN : M = i
        · subst hMN
          go_wp2_with (first
            | (go_at_call 9; refine HBK.out.mono ?_; rintro x w6 ⟨A6, n6, c6, rfl, h6, a6⟩; have e6 := h6.len; rw [← HMM.out] at e6; subst e6; have HD6 := Lib.hid h6; have HA6 := Lib.hid (HE2.out.adv.trans a6); have HR6 := Lib.hid ((HR.out.step HE2.out.adv).step a6); have HE6 := Lib.hid (HE2.out.step a6); clear h6 a6)
            | fail)
          go_loopw [15] (fun t wr => ∃ k : Nat, k ≤ n6 ∧ t = .int .i64 (k : Int) ∧ (∀ i, i < k → (bL (eR rs))[i]? = rs[i]?) ∧ Adv Nul w6 Nul wr) (fun t _ => n6 - (intOf t).toNat)
          case atStart => exact ⟨0, Nat.zero_le _, rfl, fun i hi => absurd hi (Nat.not_lt_zero _), Adv.refl _ _⟩
          case round =>
            obtain ⟨k, hk, rfl, hpre, ha⟩ := hrel
            have HPRE := Lib.hid hpre
            have HA := Lib.hid ha
            clear hpre ha
            by_cases hlt : k < n6
            · have hkp : k < rs.length := by rw [← HN.out]; exact hlt
              have hkq : k < (bL (eR rs)).length := by rw [← HMM.out]; exact hlt
              obtain ⟨b1, o1, a1, q1, rfl, hlb1, g1, r1⟩ := (HR6.out.step HA.out).at_ hkp
              obtain ⟨b3, o3, a3, q3, rfl, hlb3, g3, r3⟩ := (HD6.out.step HA.out).at_ hkq
              have HPQ := Lib.hid (show rs[k]? = some rs[k] ∧ (bL (eR rs))[k]? = some (bL (eR rs))[k] from ⟨List.getElem?_eq_getElem hkp, List.getElem?_eq_getElem hkq⟩)
              obtain ⟨p, hp⟩ : ∃ p, p = rs[k] := ⟨_, rfl⟩
              obtain ⟨q, hq⟩ : ∃ q, q = (bL (eR rs))[k] := ⟨_, rfl⟩
              rw [← hp] at g1 r1 HPQ
              rw [← hq] at g3 r3 HPQ
              obtain ⟨n1, hn1⟩ : ∃ n, n = p.length := ⟨_, rfl⟩
              obtain ⟨n3, hn3⟩ : ∃ n, n = q.length := ⟨_, rfl⟩
              rw [← hn1] at g1 r1
              rw [← hn3] at g3 r3
              obtain ⟨B, hB⟩ : ∃ B, B = decide (q = p) := ⟨_, rfl⟩
              have HSM := Lib.hid (fun w' (a : Adv Nul wr Nul w') => show Calls Try.prog 10 #[.slice a3 n3 q3, .slice a1 n1 q1] w' fun x w'' => x = .returned (.bool B) ∧ ∃ k, w'' = w'.drewN k by rw [hB]; exact isame_any _ _ _ _ q p w' (r3.far (fun _ _ _ hl => a.block _ hl (fun x => x)) a.size) (r1.far (fun _ _ _ hl => a.block _ hl (fun x => x)) a.size))
              have HCC := Lib.hid (fun w' (a : Adv Nul wr Nul w') => show w'.cell? ⟨b3, o3 + k, none⟩ = some (.slice a3 n3 q3) ∧ w'.cell? ⟨b1, o1 + k, none⟩ = some (.slice a1 n1 q1) from ⟨(World.cell?_of_block (a := ⟨b3, o3 + k, none⟩) (a.block b3 hlb3 (fun x => x))).trans g3, (World.cell?_of_block (a := ⟨b1, o1 + k, none⟩) (a.block b1 hlb1 (fun x => x))).trans g1⟩)
              have HC0 := Lib.hid (HCC.out wr.drew (Adv.refl Nul wr).drew)
              have HBB := Lib.hid hB
              have HLT := Lib.hid hlt
              have hki : (k : Int) < (n6 : Int) := by omega
              clear hp hq hn1 hn3 hB r1 r3 hkp hkq hlb1 hlb3 hlt hk g1 g3
              go_upto_region 28 with (fail)
              refine rstart (S := (fun w' => w'.cell? ⟨b3, o3 + k, none⟩ = some (.slice a3 n3 q3) ∧ w'.cell? ⟨b1, o1 + k, none⟩ = some (.slice a1 n1 q1))) (by first | exact HC9.out | exact HC0.out) (fun hH => ?_)
              refine tk (i := 0) (oi := ⟨some 102, .move (.tmp 13), 24, "ref.go:103", #[], none⟩) hH.out (by rintro w ⟨s0, s1⟩; go_simp <;> with_reducible rfl) ?_
              simp only [Act.put, sA, sB, sC]
              refine tk (i := 1) (oi := ⟨some 103, .move (.tmp 15), 3, "ref.go:103", #[], none⟩) hH.out (by rintro w ⟨s0, s1⟩; go_simp <;> with_reducible rfl) ?_
              simp only [Act.put, sA, sB, sC]
              refine tk (i := 2) (oi := ⟨some 104, .indexAddr 24 (.tmp 102) (.tmp 103), 0, "ref.go:103", #[⟨0, .data⟩, ⟨1, .data⟩], none⟩) hH.out (by rintro w ⟨s0, s1⟩; go_simp <;> with_reducible rfl) ?_
              simp only [Act.put, sA, sB, sC]
              refine tk (i := 3) (oi := ⟨some 105, .load 31 (.tmp 104), 31, "ref.go:103", #[⟨2, .data⟩], none⟩) hH.out (by rintro w ⟨s0, s1⟩; go_simp <;> with_reducible rfl) ?_
              simp only [Act.put, sA, sB, sC]
              refine tk (i := 4) (oi := ⟨some 106, .move (.tmp 0), 24, "ref.go:103", #[], none⟩) hH.out (by rintro w ⟨s0, s1⟩; go_simp <;> with_reducible rfl) ?_
              simp only [Act.put, sA, sB, sC]
              refine tk (i := 5) (oi := ⟨some 107, .move (.tmp 15), 3, "ref.go:103", #[], none⟩) hH.out (by rintro w ⟨s0, s1⟩; go_simp <;> with_reducible rfl) ?_
              simp only [Act.put, sA, sB, sC]
              refine tk (i := 6) (oi := ⟨some 108, .indexAddr 24 (.tmp 106) (.tmp 107), 0, "ref.go:103", #[⟨4, .data⟩, ⟨5, .data⟩], none⟩) hH.out (by rintro w ⟨s0, s1⟩; go_simp <;> with_reducible rfl) ?_
              simp only [Act.put, sA, sB, sC]
              refine tk (i := 7) (oi := ⟨some 109, .load 31 (.tmp 108), 31, "ref.go:103", #[⟨6, .data⟩], none⟩) hH.out (by rintro w ⟨s0, s1⟩; go_simp <;> with_reducible rfl) ?_
              simp only [Act.put, sA, sB, sC]
              refine rdy (i := 8) (oi := ⟨some 110, .call ⟨.value (.func 10), #[.tmp 105, .tmp 109], #[31, 31]⟩, 4, "ref.go:103", #[⟨3, .data⟩, ⟨7, .data⟩], none⟩) (fun K hK => ?_)
              go_simp
              refine (HSM.out _ (Adv.refl Nul wr).drew).mono ?_
              rintro x w9 ⟨rfl, j9, hw9⟩
              have HA9 := Lib.hid (show Adv Nul wr Nul w9 by rw [hw9]; exact ((Adv.refl Nul wr).drew).drewN j9)
              have HC9 := Lib.hid (HCC.out w9 HA9.out)
              clear hw9
              go_wp2_with fail
              refine hK.out _ _ (by first | exact HC9.out | exact HC0.out) (fun hHeld => ?_)
              replace hH := Lib.hid hHeld
              clear hK K hHeld
              try simp only [Act.put, sA, sB, sC]
              refine tk (i := 9) (oi := ⟨some 111, .unOp .not 4 (.tmp 110), 4, "ref.go:103", #[⟨8, .data⟩], none⟩) hH.out (by rintro w ⟨s0, s1⟩; go_simp <;> with_reducible rfl) ?_
              simp only [Act.put, sA, sB, sC]
              refine wpAnyH_done (by kernel_rfl) ?_ _
              cases B with
              | true =>
                go_wp2_with fail
                refine ⟨⟨k + 1, HLT.out, by go_num, fun i hi => ?_, HA.out.trans HA9.out⟩, by have := HLT.out; simp [intOf] <;> omega⟩
                by_cases e : i = k
                · rw [e, HPQ.out.1, HPQ.out.2, of_decide_eq_true HBB.out.symm]
                · exact HPRE.out i (by omega)
              | false =>
                go_wp2_with fail
                go_ret2
                refine EntR.no (fun o => ?_) rfl (HA6.out.trans (HA.out.trans HA9.out))
                have ho := (ok_same rs).1.1 o
                have h1 := HPQ.out.2
                rw [bL_of HEE.out.symm, ho.2.2, HPQ.out.1] at h1
                exact of_decide_eq_false HBB.out.symm (Option.some.inj h1).symm
            · obtain rfl : k = n6 := by omega
              clear hlt hk
              go_wp2_with fail
              go_ret2
              have hbl : bL (eR rs) = rs := by
                apply List.ext_getElem?
                intro i
                by_cases hi : i < k
                · exact HPRE.out i hi
                · rw [List.getElem?_eq_none (by rw [← HMM.out]; omega), List.getElem?_eq_none (by rw [← HN.out]; omega)]
              have hok : okR rs := ⟨HALL2.out, HEE.out.symm, by rwa [bL_of HEE.out.symm] at hbl⟩
              obtain ⟨e1, e2⟩ := ent_yesR hok
              refine ⟨A4, c4, by rw [e1, e2, ← HNE2.out]; rfl, ?_, HA6.out.trans HA.out⟩
              rw [e1, ← HNE2.out]
              exact (HE6.out.step HA.out).rd
        · have HNO := Lib.hid (show ¬ okP rs from fun o => hMN (by rw [HMM.out, bL_of HEE.out.symm, ((ok_same rs).1.1 o).2.2, HN.out]))
          have hni : ((M : Int) == (i : Int)) = false := by rw [beq_eq_false_iff_ne]; omega
          clear hMN
          go_wp2_with (first
            | (go_at_call 9; refine HBK.out.mono ?_; rintro x w6 ⟨A6, n6, c6, rfl, h6, a6⟩; have e6 := h6.len; rw [← HMM.out] at e6; subst e6; have HA6 := Lib.hid (HE2.out.adv.trans a6); clear h6 a6)
            | fail)
          go_ret2
          exact EntR.no HNO.out rfl HA6.out
      · have HNO := Lib.hid (show ¬ okP rs from fun o => by have := HEE.out.trans ((ok_same rs).1.1 o).2.1; exact absurd this (by decide))
        go_wp2_with (first
          | (go_at_call 9; refine HBK.out.mono ?_; rintro x w6 ⟨A6, n6, c6, rfl, h6, a6⟩; have HA6 := Lib.hid (HE2.out.adv.trans a6); clear h6 a6)
          | fail)
        go_ret2
        exact EntR.no HNO.out rfl HA6.out
      · have HNO := Lib.hid (show ¬ okP rs from fun o => by have := HEE.out.trans ((ok_same rs).1.1 o).2.1; exact absurd this (by decide))
        go_wp2_with (first
          | (go_at_call 9; refine HBK.out.mono ?_; rintro x w6 ⟨A6, n6, c6, rfl, h6, a6⟩; have HA6 := Lib.hid (HE2.out.adv.trans a6); clear h6 a6)
          | fail)
        go_ret2
        exact EntR.no HNO.out rfl HA6.out
end Go.Proofs.Ytgcbnaleajccgaa
