/- A block of entries: the document's. -/
import Derived.Test.YtgcbnaleajccgaaRowS
import Derived.Test.YtgcbnaleajccgaaDrA
import Derived.Test.YtgcbnaleajccgaaDrB
namespace Go.Proofs.Ytgcbnaleajccgaa
open Go.ChangeShapes Go.WideShapes Go.ChangeAt Go.RowKit

/-- bits, beside an entry in its box -/
structure RowE (V : World) (y : Nat) (e : En) (N m : Nat) (v : Value) (w : World) : Prop where
  row : RowS V N m v w
  blk : Blk w y 46 (ea e)
theorem RowE.more {V w w2 : World} {y : Nat} {e : En} {N m x n : Nat} {v v2 : Value} {F2 : Nat → Prop} {l2 : List Nat} (h : RowE V y e N m v w) (s2 : Sl w2 F2 5 1 v2 n (l2.map u8)) (b2 : Bl l2 x n) (a2 : Adv Nul w F2 w2) :
    ∃ (F : Nat → Prop) (l : List Nat), Sl w2 F 5 1 v m (l.map u8) ∧ ∀ v' w3, w3.ownsRow 0 5 1 v' (m + n) (l.map u8 ++ l2.map u8) → w2.grownBy w3 v.ownBlock → (v'.ownBlock = v.ownBlock ∨ v'.ownBlock = some w2.heap.size) → RowE V y e (N * 2 ^ n + x) (m + n) v' w3 := by
  obtain ⟨F, l, h1, _, _, h4⟩ := h.row.more s2 b2 a2
  have hb := h.blk.keep (a2.block y h.blk.lt (fun x => x))
  exact ⟨F, l, h1, fun v' w3 hown hg hat => ⟨h4 v' w3 hown hg hat, hb.keep (hg.block y hb.lt (fun e => own_blk_ne h1.own hb (by decide) e.symm))⟩⟩
theorem RowE.form {V w : World} {y : Nat} {e : En} {N m : Nat} {v : Value} (h : RowE V y e N m v w) : ∃ A c, v = .slice A m c := h.row.form

def QbL (w : World) (l : List En) (t3 t4 : Value) (wr : World) : Prop := ∃ k : Nat, t4 = .int .i64 (k : Int) ∧ k ≤ l.length ∧ RowS w (bN l k) (172 * k) t3 wr
def QbJ (w : World) (y : Nat) (e : En) (N m : Nat) (t3 t6 : Value) (wr : World) : Prop := ∃ j : Nat, t6 = .int .i64 (j : Int) ∧ j ≤ 16 ∧ RowE w y e (sN N e j) (m + 44 + 8 * j) t3 wr
def QbP (w : World) (l : List En) (q : Nat) (t8 : Value) (wr : World) : Prop := ∃ (i : Nat) (F : Nat → Prop), q + i ≤ 128 ∧ Sl wr F 5 1 t8 (q + i) ((rowOf (bN l l.length) (172 * l.length) ++ List.replicate i 0).map u8) ∧ Adv Nul w F wr
def lenV (t : Value) : Nat := match t with | .slice _ n _ => 128 - n | _ => 0
/-- what a block's bytes are handed back as -/
def QbR (w : World) (l : List En) (x : Ending) (w' : World) : Prop := ∃ A k F, x = .returned (.slice A 128 k) ∧ Sl w' F 5 1 (.slice A 128 k) 128 ((blockL l).map u8) ∧ Adv Nul w F w'
theorem qpad_more {N m i : Nat} : (rowOf N m ++ List.replicate (i + 1) 0).map u8 = (rowOf N m).map u8 ++ (List.replicate i (u8 0) ++ [.int .u8 0]) := by
  rw [List.replicate_succ', List.map_append, List.map_append, List.map_replicate]; rfl

set_option maxRecDepth 3000 in
set_option maxHeartbeats 6400000 in
theorem q9block_any (v : Value) (l : List En) (w : World) (h : EnR w v l) (hok : ∀ e ∈ l, okE e) (hl : l.length ≤ 5) : Calls Try.prog 27 #[v] w (QbR w l) := by
  obtain ⟨i0, hi, hz0, hz1, hz2⟩ := info_parts Try.infoU8
  obtain ⟨A, c, rfl, hnc, hcm⟩ := h.form
  obtain ⟨n, hn⟩ : ∃ n, n = l.length := ⟨_, rfl⟩
  have hrow := row_blockL l hl
  rw [← hn] at h hnc hl hrow ⊢
  have HR := Lib.hid h
  have HN := Lib.hid hn
  have HOK := Lib.hid hok
  have HL := Lib.hid hl
  have HROW := Lib.hid hrow
  clear h hn hok hrow hcm hnc
  go_enter Try.func27, Try.ntmps27
  go_wp2_with fail
  go_loopw [3, 4] (QbL w l) (fun _ t _ => n - (intOf t).toNat)
  case atStart => exact ⟨0, rfl, Nat.zero_le _, RowS.nil w⟩
  case round =>
    obtain ⟨k, rfl, hk, h2⟩ := hrel
    rw [← HN.out] at hk
    obtain ⟨A3, c3, rfl⟩ := h2.form
    have G2 := Lib.hid h2
    clear h2
    by_cases hlt : k < n
    · have hkl : k < l.length := by rw [← HN.out]; exact hlt
      obtain ⟨b1, o1, rfl, hb1, g0, g1, g2, g3⟩ := (HR.out.step G2.out.adv).at_ HN.out hkl
      obtain ⟨e, he⟩ : ∃ e, e = l[k] := ⟨_, rfl⟩
      have hek : okE e := by rw [he]; exact HOK.out _ (List.getElem_mem _)
      have HLT := Lib.hid hlt
      have HBN := Lib.hid (show bN l (k + 1) = sN (bN l k) e 16 from bN_some (by rw [he]; exact List.getElem?_eq_getElem hkl))
      rw [← he] at g0 g1 g2 g3
      obtain ⟨y, hy⟩ : ∃ y, y = wr.heap.size := ⟨_, rfl⟩
      obtain ⟨V, hV⟩ : ∃ V, V = wr.alloc (.cells (ea e) 46) := ⟨_, rfl⟩
      have hre : RowE w y e (bN l k) (172 * k) (.slice A3 (172 * k) c3) V := ⟨G2.out.over (F' := Nul) (by rw [hV]; exact (Adv.refl _ _).alloc _), by rw [hV, hy]; exact Blk.new _ _ _⟩
      have HE0 := Lib.hid hre
      obtain ⟨h17a, h17⟩ := okE_size hek
      obtain ⟨_, i1, i2, p1, p2, k1, k2⟩ := hek
      obtain ⟨N, hNN⟩ : ∃ N, N = bN l k := ⟨_, rfl⟩
      obtain ⟨m, hm⟩ : ∃ m, m = 172 * k := ⟨_, rfl⟩
      rw [← hNN, ← hm] at HE0
      rw [← hNN] at HBN
      have HM := Lib.hid hm
      have HV := Lib.hid hV
      have HYY := Lib.hid hy
      have HMB := Lib.hid (show m + 172 ≤ 1000 by have := HL.out; omega)
      rw [← hm]
      clear hre hV hy hNN hm he hkl hb1 G2
      obtain ⟨s, i, g, kd⟩ := e
      simp only at h17 h17a i1 i2 p1 p2 k1 k2 g0 g1 g2 g3
      obtain ⟨iN, rfl⟩ := Int.eq_ofNat_of_zero_le (show 0 ≤ i by omega)
      obtain ⟨gN, rfl⟩ := Int.eq_ofNat_of_zero_le (show 0 ≤ g by omega)
      obtain ⟨kN, rfl⟩ := Int.eq_ofNat_of_zero_le (show 0 ≤ kd by omega)
      have HIN := Lib.hid (show iN < 2 ^ 6 by omega)
      have HGN := Lib.hid (show gN < 2 ^ 31 by omega)
      have HKN := Lib.hid (show kN < 2 ^ 2 by omega)
      have HSN := Lib.hid (show s.size < 2 ^ 5 by omega)
      have HS16 := Lib.hid (show s.size ≤ 16 by omega)
      have hci : IntKind.u64.wrap (iN : Int) = (iN : Int) := by rw [IntKind.wrap_u64]; omega
      have hcg : IntKind.u64.wrap (gN : Int) = (gN : Int) := by rw [IntKind.wrap_u64]; omega
      have hck : IntKind.u64.wrap (kN : Int) = (kN : Int) := by rw [IntKind.wrap_u64]; omega
      have hcs : IntKind.u64.wrap (s.size : Int) = (s.size : Int) := by rw [IntKind.wrap_u64]; omega
      simp only [ea] at HV
      clear h17a h17 i1 i2 p1 p2 k1 k2
      go_upto_region 6 with (fail)
      rw [← HV.out, ← HYY.out]
      clear g0 g1 g2 g3
      obtain ⟨s0, s1, s2, s3⟩ := HE0.out.blk.e4.all
      simp only at s0 s1 s2 s3
      go_wp2_with (first
        | (go_at_call 46; (try rw [hcs]); refine (bits_any s.size 5 _ HSN.out (by decide)).mono ?_; rintro x w2a ⟨v2, rfl, F2, l2, h2, b2, a2⟩; obtain ⟨A2, c2, rfl, _, _⟩ := h2.form0; obtain ⟨Fq, lq, q1, q4⟩ := HE0.out.more h2 b2 a2; have HMa := Lib.hid q4; have howna := q1.own; have hrda := h2.rd; clear q1 q4 b2 a2 h2)
        | (at_builtin; refine wpList_append_rd rfl (.tmp 19) (.tmp 24) rfl rfl rfl howna hrda (u8_one _) (by have := HMB.out; omega) ?ca)
        | fail)
      case ca =>
      intro v' w3a hown hg hat
      have hr := HMa.out v' w3a hown hg hat
      obtain ⟨Aa, ca, rfl⟩ := hr.form
      have HEa := Lib.hid hr
      clear hr hown hg hat howna hrda HMa s0 s1 s2 s3
      obtain ⟨s0, s1, s2, s3⟩ := HEa.out.blk.e4.all
      simp only at s0 s1 s2 s3
      go_wp2_with (first
        | (go_at_call 46; (try rw [hci]); refine (bits_any iN 6 _ HIN.out (by decide)).mono ?_; rintro x w2b ⟨v2, rfl, F2, l2, h2, b2, a2⟩; obtain ⟨A2, c2, rfl, _, _⟩ := h2.form0; obtain ⟨Fq, lq, q1, q4⟩ := HEa.out.more h2 b2 a2; have HMb := Lib.hid q4; have hownb := q1.own; have hrdb := h2.rd; clear q1 q4 b2 a2 h2)
        | (at_builtin; refine wpList_append_rd rfl (.tmp 26) (.tmp 31) rfl rfl rfl hownb hrdb (u8_one _) (by have := HMB.out; omega) ?cb)
        | fail)
      case cb =>
      intro v' w3b hown hg hat
      have hr := HMb.out v' w3b hown hg hat
      obtain ⟨Ab, cb, rfl⟩ := hr.form
      have HEb := Lib.hid hr
      clear hr hown hg hat hownb hrdb HMb s0 s1 s2 s3
      obtain ⟨s0, s1, s2, s3⟩ := HEb.out.blk.e4.all
      simp only at s0 s1 s2 s3
      go_wp2_with (first
        | (go_at_call 46; (try rw [hcg]); refine (bits_any gN 31 _ HGN.out (by decide)).mono ?_; rintro x w2c ⟨v2, rfl, F2, l2, h2, b2, a2⟩; obtain ⟨A2, c2, rfl, _, _⟩ := h2.form0; obtain ⟨Fq, lq, q1, q4⟩ := HEb.out.more h2 b2 a2; have HMc := Lib.hid q4; have hownc := q1.own; have hrdc := h2.rd; clear q1 q4 b2 a2 h2)
        | (at_builtin; refine wpList_append_rd rfl (.tmp 33) (.tmp 38) rfl rfl rfl hownc hrdc (u8_one _) (by have := HMB.out; omega) ?cc)
        | fail)
      case cc =>
      intro v' w3c hown hg hat
      have hr := HMc.out v' w3c hown hg hat
      obtain ⟨Ac, cc, rfl⟩ := hr.form
      have HEc := Lib.hid hr
      clear hr hown hg hat hownc hrdc HMc s0 s1 s2 s3
      obtain ⟨s0, s1, s2, s3⟩ := HEc.out.blk.e4.all
      simp only at s0 s1 s2 s3
      go_wp2_with (first
        | (go_at_call 46; (try rw [hck]); refine (bits_any kN 2 _ HKN.out (by decide)).mono ?_; rintro x w2d ⟨v2, rfl, F2, l2, h2, b2, a2⟩; obtain ⟨A2, c2, rfl, _, _⟩ := h2.form0; obtain ⟨Fq, lq, q1, q4⟩ := HEc.out.more h2 b2 a2; have HMd := Lib.hid q4; have hownd := q1.own; have hrdd := h2.rd; clear q1 q4 b2 a2 h2)
        | (at_builtin; refine wpList_append_rd rfl (.tmp 40) (.tmp 44) rfl rfl rfl hownd hrdd (u8_one _) (by have := HMB.out; omega) ?cd)
        | fail)
      case cd =>
      intro v' w3d hown hg hat
      have hr := HMd.out v' w3d hown hg hat
      obtain ⟨Ad, cd, rfl⟩ := hr.form
      have HEd := Lib.hid hr
      clear hr hown hg hat hownd hrdd HMd s0 s1 s2 s3
      have HJ0 := Lib.hid (show RowE w y ⟨s, (iN : Int), (gN : Int), (kN : Int)⟩ (sN N ⟨s, (iN : Int), (gN : Int), (kN : Int)⟩ 0) (m + 44 + 8 * 0) (.slice Ad (m + 5 + 6 + 31 + 2) cd) w3d from HEd.out)
      have HST := Lib.hid (fun j => show sN N ⟨s, (iN : Int), (gN : Int), (kN : Int)⟩ (j + 1) = sN N ⟨s, (iN : Int), (gN : Int), (kN : Int)⟩ j * 2 ^ 8 + nmB s j from rfl)
      clear HE0 HEa HEb HEc HEd hci hcg hck hcs
      go_wp2_with fail
      go_loopw [3, 6] (QbJ w y ⟨s, (iN : Int), (gN : Int), (kN : Int)⟩ N m) (fun _ t _ => 16 - (intOf t).toNat)
      case atStart => exact ⟨0, rfl, Nat.zero_le _, HJ0.out⟩
      case round =>
        obtain ⟨j, rfl, hj, h5⟩ := hrel
        obtain ⟨A5, c5, rfl⟩ := h5.form
        have HE5 := Lib.hid h5
        clear h5
        obtain ⟨M, hM⟩ : ∃ M, M = m + 44 + 8 * j := ⟨_, rfl⟩
        rw [← hM] at HE5 ⊢
        have HMM := Lib.hid hM
        have HMB5 := Lib.hid (show M + 8 ≤ 1100 by have := HMB.out; omega)
        clear hM
        by_cases hj16 : j < 16
        · have HJ := Lib.hid hj16
          have HNB := Lib.hid (nmB_lt s j)
          have HSJ := Lib.hid (HST.out j)
          obtain ⟨cc, hcc⟩ : ∃ cc, cc = nmB s j := ⟨_, rfl⟩
          rw [← hcc] at HNB HSJ
          have HC8 := Lib.hid (show cc < 2 ^ 8 from HNB.out)
          have hcw : IntKind.u64.wrap (cc : Int) = (cc : Int) := by rw [IntKind.wrap_u64]; have := HNB.out; omega
          by_cases hjs : j < s.size
          · have hch : ((s[j]'hjs).toNat : Int) = (cc : Int) := by rw [hcc, nmB, dif_pos hjs]
            have HCH := Lib.hid hch
            clear hcc hch
            obtain ⟨s0, s1, s2, s3⟩ := HE5.out.blk.e4.all
            simp only at s0 s1 s2 s3
            go_wp2_with (first
              | (go_at_call 46; (try rw [HCH.out]); (try rw [hcw]); refine (bits_any cc 8 _ HC8.out (by decide)).mono ?_; rintro x w2f ⟨v2, rfl, F2, l2, h2, b2, a2⟩; obtain ⟨A2, c2, rfl, _, _⟩ := h2.form0; obtain ⟨Fq, lq, q1, q4⟩ := HE5.out.more h2 b2 a2; have HMf := Lib.hid q4; have hownf := q1.own; have hrdf := h2.rd; clear q1 q4 b2 a2 h2)
              | (at_builtin; refine wpList_append_rd rfl (.tmp 59) (.tmp 62) rfl rfl rfl hownf hrdf (u8_one _) (by have := HMB5.out; omega) ?ce)
              | fail)
            case ce =>
            intro v' w3f hown hg hat
            have hr := HMf.out v' w3f hown hg hat
            obtain ⟨Af, cf, rfl⟩ := hr.form
            have HEf := Lib.hid hr
            clear hr hown hg hat hownf hrdf HMf s0 s1 s2 s3
            go_wp2_with fail
            exact ⟨⟨j + 1, by go_num, HJ.out, by rw [HSJ.out, show m + 44 + 8 * (j + 1) = M + 8 by have := HMM.out; omega]; exact HEf.out⟩, by simp [intOf] <;> omega⟩
          · obtain rfl : cc = 0 := by rw [hcc, nmB, dif_neg hjs]
            clear hcc
            obtain ⟨s0, s1, s2, s3⟩ := HE5.out.blk.e4.all
            simp only at s0 s1 s2 s3
            go_wp2_with (first
              | (go_at_call 46; (try rw [hcw]); refine (bits_any 0 8 _ HC8.out (by decide)).mono ?_; rintro x w2g ⟨v2, rfl, F2, l2, h2, b2, a2⟩; obtain ⟨A2, c2, rfl, _, _⟩ := h2.form0; obtain ⟨Fq, lq, q1, q4⟩ := HE5.out.more h2 b2 a2; have HMg := Lib.hid q4; have howng := q1.own; have hrdg := h2.rd; clear q1 q4 b2 a2 h2)
              | (at_builtin; refine wpList_append_rd rfl (.tmp 59) (.tmp 62) rfl rfl rfl howng hrdg (u8_one _) (by have := HMB5.out; omega) ?ce)
              | fail)
            case ce =>
            intro v' w3g hown hg hat
            have hr := HMg.out v' w3g hown hg hat
            obtain ⟨Ag, cg, rfl⟩ := hr.form
            have HEg := Lib.hid hr
            clear hr hown hg hat howng hrdg HMg s0 s1 s2 s3
            go_wp2_with fail
            exact ⟨⟨j + 1, by go_num, HJ.out, by rw [HSJ.out, show m + 44 + 8 * (j + 1) = M + 8 by have := HMM.out; omega]; exact HEg.out⟩, by simp [intOf] <;> omega⟩
        · obtain rfl : j = 16 := by omega
          clear hj hj16
          go_wp2_with fail
          exact ⟨⟨k + 1, by go_num, by have := HLT.out; have := HN.out; omega, by rw [HBN.out, show 172 * (k + 1) = M by have := HMM.out; have := HM.out; omega]; exact HE5.out.row⟩, by have := HLT.out; simp [intOf] <;> omega⟩
    · obtain rfl : k = n := by omega
      clear hlt hk hl
      obtain ⟨F2, l2, h2, b2, a2⟩ := G2.out
      obtain ⟨q, hq⟩ : ∃ q, q = qn (172 * k) := ⟨_, rfl⟩
      have hq8 := qn_pad (172 * k)
      have hq7 := pad_lt (172 * k)
      have hq128 : q ≤ 128 := by have := HL.out; omega
      have HQ := Lib.hid hq
      have HB2 := Lib.hid b2
      have HS2 := Lib.hid h2
      have HA2 := Lib.hid a2
      have HQ128 := Lib.hid hq128
      have HFIN := Lib.hid (show ∀ i, q + i = 128 → (rowOf (bN l k) (172 * k) ++ List.replicate i 0).map u8 = (blockL l).map u8 from fun i hi => by rw [← HROW.out, ← hq, show 128 - q = i by omega])
      clear hq hq8 hq7 h2 b2 a2 hq128
      go_wp2_with (first
        | (go_at_call 47; refine (bytes_any _ _ _ _ _ _ HS2.out HB2.out (by have := HL.out; omega)).mono ?_; rintro x w3 ⟨v3, rfl, F3, s3, a3⟩; rw [← HQ.out] at s3; obtain ⟨A4, c4, rfl, _, _⟩ := s3.form0; have HP0 := Lib.hid (show QbP w l q (.slice A4 q c4) w3 from ⟨0, F3, HQ128.out, by rw [List.replicate_zero, List.append_nil, ← HN.out]; exact s3, (HA2.out.sub (G := Nul) (fun _ h => h.elim)).trans a3⟩); clear s3 a3)
        | fail)
      go_loopw [8] (QbP w l q) (fun t _ => lenV t)
      case atStart => exact HP0.out
      case round =>
        obtain ⟨i, F5, hi5, s5, a5⟩ := hrel
        obtain ⟨A5, c5, rfl, _, _⟩ := s5.form0
        have HS5 := Lib.hid s5
        have HA5 := Lib.hid a5
        obtain ⟨T, hT⟩ : ∃ T, T = q + i := ⟨_, rfl⟩
        have HT := Lib.hid hT
        have hown := s5.own.alloc (.cells #[.int .u8 0] 5)
        rw [← hT] at hown hi5 ⊢
        clear s5 a5 hT
        by_cases hlt5 : T < 128
        · have HLT5 := Lib.hid hlt5
          go_wp2_with (first
            | (at_builtin; refine wpList_append_own_at _ rfl (.tmp 69) (.tmp 70) 31 rfl 0 5 i0 _ 1 1 Try.underlying31 hi hz0 hz1 hz2 rfl (by decide) (.slice A5 T c5) T _ rfl hown ⟨wr.heap.size, 0, none⟩ 1 1 [.int .u8 0] rfl rfl (cell_one_new _ _ _) (by simp [Value.oneCell']) (by have := HLT5.out; unfold maxLen; omega) (by have := HLT5.out; omega) (Nat.zero_le _) ?c9)
            | fail)
          case c9 =>
            intro v' w7 hown7 hg7 _ hat7
            have hs5 := HS5.out
            rw [← HT.out] at hs5
            obtain ⟨s7, a7⟩ := one_grown hs5 HA5.out hown7 hg7 hat7 (Nat.le_succ _)
            clear hs5
            obtain ⟨A7, c7, rfl, _, _⟩ := s7.form0
            have HS7 := Lib.hid s7
            have HA7 := Lib.hid a7
            clear s7 a7 hown7 hg7 hat7
            go_wp2_with fail
            exact ⟨⟨i + 1, _, by have := HLT5.out; have := HT.out; omega, by rw [qpad_more, show q + (i + 1) = T + 1 by have := HT.out; omega]; exact HS7.out, HA7.out⟩, by have := HLT5.out; have := HT.out; simp [lenV] <;> omega⟩
        · obtain rfl : T = 128 := by omega
          have HE := HFIN.out i HT.out.symm
          have hs8 := HS5.out
          rw [← HN.out, HE, ← HT.out] at hs8
          have HS8 := Lib.hid hs8
          clear hlt5 hi5 hown hs8 HE
          go_wp2_with fail
          go_ret
          exact ⟨A5, c5, F5, rfl, HS8.out, HA5.out⟩
end Go.Proofs.Ytgcbnaleajccgaa
