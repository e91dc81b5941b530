/- The document's sector of a slot. -/
import Derived.Test.YtbjenpkgcdppaaaStE
import Derived.Test.YtbjenpkgcdppaaaRowS
import Derived.Test.YtbjenpkgcdppaaaRefT
namespace Go.Proofs.Ytbjenpkgcdppaaa
open Go.ChangeShapes Go.WideShapes Go.ChangeAt Go.RowKit

def padT_ (t : Value) : Nat := match t with | .slice _ n _ => 128 - n | _ => 0
/-- while noughts are put behind: L, and i of them, of k -/
def PadT (V : World) (L : List Nat) (q k : Nat) (t6 : Value) (wr : World) : Prop := ∃ i F, i ≤ k ∧ Sl wr F 5 1 t6 (q + i) ((L ++ List.replicate i 0).map u8) ∧ Adv Nul V F wr
set_option maxRecDepth 3000 in
theorem tpad_start {w : World} {F : Nat → Prop} {v : Value} {L : List Nat} {q : Nat} (h : Sl w F 5 1 v q (L.map u8)) : Sl w F 5 1 v (q + 0) ((L ++ List.replicate 0 0).map u8) := by
  rw [List.replicate_zero, List.append_nil]
  exact h
set_option maxRecDepth 3000 in
theorem tpad_next {w : World} {F : Nat → Prop} {v : Value} {n q i : Nat} {L : List Nat} (hn : n = q + i) (h : Sl w F 5 1 v (n + 1) (L.map u8 ++ (List.replicate i (u8 0) ++ [.int .u8 0]))) : Sl w F 5 1 v (q + (i + 1)) ((L ++ List.replicate (i + 1) 0).map u8) := by
  rw [hn] at h
  rw [List.replicate_succ', List.map_append, List.map_append, List.map_replicate]
  exact h
set_option maxRecDepth 3000 in
/-- the bits of a slot that is used, as the document lays them -/
theorem rows_nm {x : Slt} {V w : World} {v : Value} {N m : Nat} (h : RowS V N m v w) (hN : N = hdT x * 2 ^ (16 + 8 * x.s.size) + tx x.s.size x.s.data.toList) (hm : m = 82 + 16 + 8 * x.s.size) : RowS V (nmT x) (82 + 16 + 8 * x.s.size) v w := by
  rw [nmT_eq, ← hN, ← hm]
  exact h
set_option maxRecDepth 3000 in
theorem bits_of {x : Slt} (h : isT x) : ∃ N m k, (okT x → N = nmT x ∧ m = 82 + 16 + 8 * x.s.size) ∧ (¬ okT x → x = zeroT ∧ N = 0 ∧ m = 0) ∧ rowOf N m ++ List.replicate k 0 = secT x ∧ qn m + k = 128 ∧ m ≤ 1000 := by
  by_cases ho : okT x
  · have hs : x.s.size ≤ 64 := ho.2.2.2.2.2
    exact ⟨_, _, 115 - x.s.size, fun _ => ⟨rfl, rfl⟩, fun h => absurd ho h, row_secT (okT_ne ho) hs, by rw [qnT]; omega, by omega⟩
  · have h0 : x = zeroT := h.elim id (fun o => absurd o ho)
    exact ⟨0, 0, 128, fun h => absurd h ho, fun _ => ⟨h0, rfl, rfl⟩, by rw [h0, secT_zero]; rfl, rfl, by decide⟩
set_option maxRecDepth 3000 in
set_option maxHeartbeats 3200000 in
theorem qsencode_any (x : Slt) (hx : WfT x) (w : World) : Calls Try.prog 10 #[.agg (tc x)] w (EncT w x) := by
  obtain ⟨i0, hi, hz0, hz1, hz2⟩ := info_parts Try.infoU8
  have HIS := Lib.hid (qis_any x hx)
  have HC := Lib.hid (fun (z : Nat) (w' : World) (h : Blk w' z 28 (tc x)) => h.c7.all)
  obtain ⟨C, hC⟩ : ∃ C, C = tc x := ⟨_, rfl⟩
  have HCS := Lib.hid (show C.size = 7 by rw [hC]; rfl)
  rw [← hC] at HC HIS ⊢
  by_cases ho : isT x
  · have HIT := Lib.hid ho
    have HD := Lib.hid (decide_eq_true ho)
    obtain ⟨N, m, k, hN1, hN2, hN3, hN4, hN5⟩ := bits_of ho
    have HN1 := Lib.hid hN1
    have HN2 := Lib.hid hN2
    have HN3 := Lib.hid hN3
    have HN4 := Lib.hid hN4
    have HN5 := Lib.hid hN5
    clear hN1 hN2 hN3 hN4 hN5 ho hC hx
    go_enter Try.func10, Try.ntmps10
    go_upto_region 4 with (first
      | (refine kop_box rfl _ rfl rfl ?_; intro z w1 hz hb ha; have HBZ := Lib.hid hb; have HA := Lib.hid ha; clear hz hb ha)
      | (refine kop_load rfl _ rfl z HBZ.out rfl Try.underlying28 rfl sizeQT HCS.out ?_)
      | (go_at_call 25; refine (HIS.out _).mono ?_; rintro e w2 ⟨rfl, a2⟩; rw [HD.out]; have HA2 := Lib.hid (HA.out.trans a2); have HBZ2 := Lib.hid (HBZ.out.over a2); clear a2)
      | fail)
    obtain ⟨s0, s1, s2, s3, s4, s5, s6⟩ := HC.out _ _ HBZ2.out
    go_upto_if 11 with (fail)
    go_cut [4] (fun t4 w9 => RowS w2 N m t4 w9)
    case first =>
      by_cases hk : okT x
      · obtain ⟨e1, e2⟩ := HN1.out hk
        have HBT := Lib.hid (okT_bits hk)
        have HSZ := Lib.hid (show x.s.size ≤ 64 from hk.2.2.2.2.2)
        have HRW := Lib.hid (fun (v : Value) (w' : World) (q : Nat) (hq : q = 82 + 16 + 8 * x.s.size) (h : RowS w2 (hdT x * 2 ^ (16 + 8 * x.s.size) + tx x.s.size x.s.data.toList) q v w') => show RowS w2 N m v w' by rw [e1, e2]; exact rows_nm h rfl hq)
        have hu : x.u = true := hk.1
        clear e1 e2 hk HN1 HN2 HN3 HN4 HN5 HIS HD
        obtain ⟨u, i, g, a, v, d, s⟩ := x
        simp only at hu
        subst hu
        obtain ⟨dn, hdn⟩ : ∃ dn, dn = d.toNat := ⟨_, rfl⟩
        have HD2 := Lib.hid (show dn < 2 by rw [hdn]; cases d <;> decide)
        have HDN := Lib.hid hdn
        simp only [hdT] at HC HBT HSZ HRW s0 s1 s2 s3 s4 s5 s6
        rw [← hdn] at HRW
        have HK := Lib.hid (fun (w' : World) (h : Adv Nul w2 Nul w') => HC.out _ _ (HBZ2.out.over h))
        have HQ1 := Lib.hid (show ∀ w, Calls Try.prog 26 #[.int .u64 1, .int .i64 1] w fun e w' => ∃ v, e = .returned v ∧ ∃ F l, Sl w' F 5 1 v 1 (l.map u8) ∧ Bl l 1 1 ∧ Adv Nul w F w' from fun w => bits_int 1 1 1 w rfl (by decide) (by decide) (by decide))
        have HQ2 := Lib.hid (show ∀ w, Calls Try.prog 26 #[.int .u64 (dn : Int), .int .i64 1] w fun e w' => ∃ v, e = .returned v ∧ ∃ F l, Sl w' F 5 1 v 1 (l.map u8) ∧ Bl l dn 1 ∧ Adv Nul w F w' from fun w => bits_int dn dn 1 w rfl (by decide) HD2.out (by decide))
        clear hdn
        go_upto_if 13 with (fail)
        go_cut [5] (fun t5 w9 => t5 = .int .u64 (dn : Int) ∧ w2 = w9)
        case first =>
          have hdn := HDN.out
          cases d
          · subst hdn
            go_wp2_with fail
            go_meet
            exact ⟨rfl, rfl⟩
          · subst hdn
            go_wp2_with fail
            go_meet
            exact ⟨rfl, rfl⟩
        case rest =>
        obtain ⟨rfl, rfl⟩ := hcut
        go_upto_region 9 with (first
          | (go_at_call 26; refine (HQ1.out _).mono ?_; clear HQ1; rintro e w3 ⟨v3, rfl, F3, l3, h3, b3, a3⟩; obtain ⟨A3, c3, rfl, _, _⟩ := h3.form0; have HR3 := Lib.hid (show RowS w2 (0 * 2 ^ 1 + 1) 1 (.slice A3 1 c3) w3 from ⟨F3, l3, h3, b3, a3⟩); clear h3 b3 a3)
          | (go_at_call 26; refine (HQ2.out _).mono ?_; clear HQ2; rintro e w4 ⟨v4, rfl, F4, l4, h4, b4, a4⟩; obtain ⟨A4, c4, rfl, _, _⟩ := h4.form0; obtain ⟨F4', l4', q1, q2, q3, q4⟩ := HR3.out.more h4 b4 a4; have HM4 := Lib.hid q4; have hown4 := q1.own; have hrd4 := h4.rd; clear q1 q2 q3 q4 b4 a4 h4)
          | (at_builtin; refine wpList_append_rd rfl (.tmp 14) (.tmp 16) rfl rfl rfl hown4 hrd4 (u8_one _) (by decide) ?c4)
          | fail)
        case c4 =>
        intro v' w5 hown hg hat
        have hr5 := HM4.out v' w5 hown hg hat
        obtain ⟨A5, c5, rfl⟩ := hr5.form
        have HR5 := Lib.hid hr5
        clear hr5 hown hg hat hown4 hrd4 s0 s1 s2 s3 s4 s5 s6 HR3
        obtain ⟨s0, s1, s2, s3, s4, s5, s6⟩ := HK.out _ HR5.out.adv
        go_wp2_with (first
          | (go_at_call 26; rw [wrap_u64n]; refine (bits_any (u64n i) 6 _ HBT.out.1 (by decide)).mono ?_; rintro e w6 ⟨v6, rfl, F6, l6, h6, b6, a6⟩; obtain ⟨A6, c6, rfl, _, _⟩ := h6.form0; obtain ⟨F6', l6', q1, q2, q3, q4⟩ := HR5.out.more h6 b6 a6; have HM6 := Lib.hid q4; have hown6 := q1.own; have hrd6 := h6.rd; clear q1 q2 q3 q4 b6 a6 h6)
          | (at_builtin; refine wpList_append_rd rfl (.tmp 18) (.tmp 24) rfl rfl rfl hown6 hrd6 (u8_one _) (by decide) ?c6)
          | fail)
        case c6 =>
        intro v' w7 hown hg hat
        have hr7 := HM6.out v' w7 hown hg hat
        obtain ⟨A7, c7, rfl⟩ := hr7.form
        have HR7 := Lib.hid hr7
        clear hr7 hown hg hat hown6 hrd6 s0 s1 s2 s3 s4 s5 s6 HR5
        obtain ⟨s0, s1, s2, s3, s4, s5, s6⟩ := HK.out _ HR7.out.adv
        go_wp2_with (first
          | (go_at_call 26; rw [wrap_u64n]; refine (bits_any (u64n g) 31 _ HBT.out.2.1 (by decide)).mono ?_; rintro e w8 ⟨v8, rfl, F8, l8, h8, b8, a8⟩; obtain ⟨A8, c8, rfl, _, _⟩ := h8.form0; obtain ⟨F8', l8', q1, q2, q3, q4⟩ := HR7.out.more h8 b8 a8; have HM8 := Lib.hid q4; have hown8 := q1.own; have hrd8 := h8.rd; clear q1 q2 q3 q4 b8 a8 h8)
          | (at_builtin; refine wpList_append_rd rfl (.tmp 26) (.tmp 32) rfl rfl rfl hown8 hrd8 (u8_one _) (by decide) ?c8)
          | fail)
        case c8 =>
        intro v' w9 hown hg hat
        have hr9 := HM8.out v' w9 hown hg hat
        obtain ⟨A9, c9, rfl⟩ := hr9.form
        have HR9 := Lib.hid hr9
        clear hr9 hown hg hat hown8 hrd8 s0 s1 s2 s3 s4 s5 s6 HR7
        obtain ⟨s0, s1, s2, s3, s4, s5, s6⟩ := HK.out _ HR9.out.adv
        go_wp2_with (first
          | (go_at_call 26; rw [wrap_u64n]; refine (bits_any (u64n a) 3 _ HBT.out.2.2.1 (by decide)).mono ?_; rintro e w10 ⟨v10, rfl, F10, l10, h10, b10, a10⟩; obtain ⟨A10, c10, rfl, _, _⟩ := h10.form0; obtain ⟨F10', l10', q1, q2, q3, q4⟩ := HR9.out.more h10 b10 a10; have HM10 := Lib.hid q4; have hown10 := q1.own; have hrd10 := h10.rd; clear q1 q2 q3 q4 b10 a10 h10)
          | (at_builtin; refine wpList_append_rd rfl (.tmp 34) (.tmp 39) rfl rfl rfl hown10 hrd10 (u8_one _) (by decide) ?c10)
          | fail)
        case c10 =>
        intro v' w11 hown hg hat
        have hr11 := HM10.out v' w11 hown hg hat
        obtain ⟨A11, c11, rfl⟩ := hr11.form
        have HR11 := Lib.hid hr11
        clear hr11 hown hg hat hown10 hrd10 s0 s1 s2 s3 s4 s5 s6 HR9
        obtain ⟨s0, s1, s2, s3, s4, s5, s6⟩ := HK.out _ HR11.out.adv
        go_wp2_with (first
          | (go_at_call 26; refine (bits_any v 40 _ HBT.out.2.2.2.1 (by decide)).mono ?_; rintro e w12 ⟨v12, rfl, F12, l12, h12, b12, a12⟩; obtain ⟨A12, c12, rfl, _, _⟩ := h12.form0; obtain ⟨F12', l12', q1, q2, q3, q4⟩ := HR11.out.more h12 b12 a12; have HM12 := Lib.hid q4; have hown12 := q1.own; have hrd12 := h12.rd; clear q1 q2 q3 q4 b12 a12 h12)
          | (at_builtin; refine wpList_append_rd rfl (.tmp 41) (.tmp 44) rfl rfl rfl hown12 hrd12 (u8_one _) (by decide) ?c12)
          | fail)
        case c12 =>
        intro v' w13 hown hg hat
        have hr13 := HM12.out v' w13 hown hg hat
        obtain ⟨A13, c13, rfl⟩ := hr13.form
        have HR13 := Lib.hid hr13
        clear hr13 hown hg hat hown12 hrd12 s0 s1 s2 s3 s4 s5 s6 HR11
        obtain ⟨s0, s1, s2, s3, s4, s5, s6⟩ := HK.out _ HR13.out.adv
        obtain ⟨sz, hsz⟩ : ∃ n, n = s.size := ⟨_, rfl⟩
        have HTX := Lib.hid (fun w => reftext_any s w (by have := HSZ.out; omega))
        rw [← hsz] at HTX HSZ HRW
        have HZZ := Lib.hid hsz
        clear hsz
        go_wp2_with (first
          | (go_at_call 27; refine (HTX.out _).mono ?_; rintro e w14 ⟨v14, rfl, F14, l14, h14, b14, a14⟩; obtain ⟨A14, c14, rfl, _, _⟩ := h14.form0; obtain ⟨F14', l14', q1, q2, q3, q4⟩ := HR13.out.more h14 b14 a14; have HM14 := Lib.hid q4; have hown14 := q1.own; have hrd14 := h14.rd; clear q1 q2 q3 q4 b14 a14 h14)
          | (at_builtin; refine wpList_append_rd rfl (.tmp 46) (.tmp 49) rfl rfl rfl hown14 hrd14 (u8_one _) (by have := HSZ.out; omega) ?c14)
          | fail)
        case c14 =>
        intro v' w15 hown hg hat
        have hr15 := HRW.out _ _ _ (by omega) (HM14.out v' w15 hown hg hat)
        obtain ⟨A15, c15, rfl⟩ := hr15.form
        have HR15 := Lib.hid hr15
        clear hr15 hown hg hat hown14 hrd14 s0 s1 s2 s3 s4 s5 s6 HR13
        go_wp2_with fail
        go_meet
        exact HR15.out
      · obtain ⟨h0, rfl, rfl⟩ := HN2.out hk
        have hu : x.u = false := by rw [h0]; rfl
        rw [hu] at s0 ⊢
        clear h0 hk HN1 HN2 HN3 HN4 HN5 HIS HD s1 s2 s3 s4 s5 s6
        go_wp2_with fail
        go_meet
        exact RowS.nil w2
    case rest =>
    obtain ⟨A4, c4, rfl⟩ := hcut.form
    have HR := Lib.hid hcut
    clear hcut s0 s1 s2 s3 s4 s5 s6 HIS HD HN1 HN2 HC HCS HBZ HBZ2
    go_wp2_with (first
      | (go_at_call 28; obtain ⟨F8, l8, q1, q2, q3⟩ := HR.out; refine (bytes_any _ _ _ _ _ _ q1 q2 (by have := HN5.out; omega)).mono ?_; rintro e w9 ⟨v9, rfl, F9, h9, a9⟩; obtain ⟨A9, c9, rfl, _, _⟩ := h9.form0; have HS9 := Lib.hid h9; have HA9 := Lib.hid ((q3.sub (G := Nul) (fun _ h => h.elim)).trans a9); clear q1 q2 q3 h9 a9)
      | fail)
    obtain ⟨L, hL⟩ : ∃ L, L = rowOf N m := ⟨_, rfl⟩
    obtain ⟨q, hq⟩ : ∃ q, q = qn m := ⟨_, rfl⟩
    rw [← hL] at HN3 HS9
    rw [← hq] at HN4 HS9 ⊢
    clear hL hq HN5 HR
    go_loopw [6] (PadT w2 L q k) (fun t _ => padT_ t)
    case atStart => exact ⟨0, F9, Nat.zero_le _, tpad_start HS9.out, HA9.out⟩
    case round =>
      obtain ⟨i, F, hik, hS, hA⟩ := hrel
      obtain ⟨A6, c6, rfl, _, _⟩ := hS.form0
      have HS := Lib.hid hS
      have HAR := Lib.hid hA
      have hown := hS.own
      clear hS hA
      by_cases hlt : i < k
      · have HLT := Lib.hid hlt
        have hqk := HN4.out
        obtain ⟨n, hn⟩ : ∃ n, n = q + i := ⟨_, rfl⟩
        have HN := Lib.hid hn
        have hn1 : n ≤ 127 := by omega
        have hn2 : (n : Int) < 128 := by omega
        rw [← hn] at hown HS ⊢
        clear hlt hik hn hqk
        go_wp2_with (first
          | (at_builtin; refine wpList_append_own_at _ rfl (.tmp 56) (.tmp 57) 30 rfl 0 5 i0 (.int .u8 0) 1 1 Try.underlying30 hi hz0 hz1 hz2 rfl (by decide) (.slice A6 n c6) n _ rfl (hown.alloc _) ⟨wr.heap.size, 0, none⟩ 1 1 [.int .u8 0] rfl rfl (cell_one_new _ _ _) ?c2 ?c3 ?c4 (Nat.zero_le _) ?c5)
          | fail)
        case c2 => intro u hu; simp at hu; subst hu; rfl
        case c3 => unfold maxLen; omega
        case c4 => omega
        case c5 =>
          intro v' w10 hown1 hg1 _ hat1
          obtain ⟨h3, a3⟩ := one_grown HS.out HAR.out hown1 hg1 hat1 (by omega)
          obtain ⟨A10, c10, rfl, _, _⟩ := h3.form0
          have H3 := Lib.hid (tpad_next HN.out h3)
          have A3 := Lib.hid a3
          have hpad : padT_ (.slice A10 (n + 1) c10) < padT_ (.slice A6 n c6) := by simp only [padT_]; omega
          clear h3 a3 hown1 hg1 hat1 hown
          go_wp2_with fail
          exact ⟨⟨i + 1, _, HLT.out, H3.out, A3.out⟩, hpad⟩
      · obtain rfl : i = k := by omega
        have hqk := HN4.out
        have s8 := HS.out
        rw [HN3.out, hqk] at s8
        rw [hqk]
        have HFIN := Lib.hid (EncT.yes HIT.out s8 (HA2.out.trans HAR.out))
        clear hlt hik hown s8 hqk
        go_wp2_with fail
        exact bodyPost_ret (v := .tuple #[.slice A6 128 c6, .int .i64 0]) (by simp [results, Try.results10, go_sem]) rfl HFIN.out
  · have HIT := Lib.hid ho
    have HD := Lib.hid (decide_eq_false ho)
    clear ho hC hx
    go_enter Try.func10, Try.ntmps10
    go_wp2_with (first
      | (refine kop_box rfl _ rfl rfl ?_; intro z w1 hz hb ha; have HBZ := Lib.hid hb; have HA := Lib.hid ha; clear hz hb ha)
      | (refine kop_load rfl _ rfl z HBZ.out rfl Try.underlying28 rfl sizeQT HCS.out ?_)
      | (go_at_call 25; refine (HIS.out _).mono ?_; rintro e w2 ⟨rfl, a2⟩; rw [HD.out]; have HA2 := Lib.hid (HA.out.trans a2); clear a2)
      | fail)
    exact bodyPost_ret (v := .tuple #[.slice none 0 0, .int .i64 2]) (by simp [results, Try.results10, go_sem]) rfl (EncT.no HIT.out HA2.out)
end Go.Proofs.Ytbjenpkgcdppaaa
