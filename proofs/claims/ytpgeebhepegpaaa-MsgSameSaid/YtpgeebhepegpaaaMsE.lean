/- The document's just: which fields a message has. (Made by mkmsj.py.) -/
import Derived.Test.YtpgeebhepegpaaaMsC
import Derived.Test.YtpgeebhepegpaaaMsD
import Derived.Test.YtpgeebhepegpaaaDrC
namespace Go.Proofs.Ytpgeebhepegpaaa
open Go.ChangeShapes Go.WideShapes Go.ChangeAt Go.RowKit

set_option maxRecDepth 3000 in
theorem rise_any (l : List En) (v : Value) (w : World) (h : EnR7 w v l) : Calls Try.prog 67 #[v] w fun e w' => e = .returned (.bool (decide (RiseL l))) ∧ Adv Nul w Nul w' := q9rise_any v l w h
set_option maxRecDepth 3000 in
theorem enB_eq (l : List En) : enB l = (decide (RiseL l) && decide ((l.length : Int) ≤ 24)) := by
  unfold enB
  rw [Bool.eq_iff_iff, Bool.and_eq_true, decide_eq_true_iff, decide_eq_true_iff, decide_eq_true_iff]
  constructor
  · rintro ⟨h1, h2⟩; exact ⟨h1, by omega⟩
  · rintro ⟨h1, h2⟩; exact ⟨h1, by omega⟩
set_option maxRecDepth 3000 in
set_option maxHeartbeats 6400000 in
theorem just_any (m : Ms) (v : Value) (T : List Nat) (hT : ∀ x ∈ T, x < 256) (hl : T.length ≤ 4) (hm : WfM m) (w : World) (hE : EnR7 w v m.en) : Calls Try.prog 34 #[.agg (mc m v), .string (txt T)] w fun e w' => e = .returned (.bool (juB m T)) ∧ Adv Nul w Nul w' := by
  obtain ⟨A, N, c, rfl, hN⟩ : ∃ A N c, v = .slice A N c ∧ N = m.en.length := by
    obtain ⟨A, c, e, _⟩ := hE.form
    exact ⟨A, _, c, e, rfl⟩
  obtain ⟨C, hC⟩ : ∃ C, C = mc m (.slice A N c) := ⟨_, rfl⟩
  have HC := Lib.hid (fun (z : Nat) (w' : World) (h : Blk w' z 28 C) => (show C18 w' z m (.slice A N c) from (show Blk w' z 28 (mc m (.slice A N c)) by rw [← hC]; exact h).c18))
  have HEN := Lib.hid hE
  have HN := Lib.hid hN
  have HM := Lib.hid hm
  have HCS := Lib.hid (show C.size = 18 by rw [hC]; rfl)
  rw [← hC]
  clear hC hE hN hm
  obtain ⟨s, hs⟩ : ∃ s, s = txt T := ⟨_, rfl⟩
  have hsz : s.size ≤ 1000 := by rw [hs]; show (T.map UInt8.ofNat).toArray.size ≤ 1000; simp; omega
  have HHAS := Lib.hid (fun (c : Nat) (w : World) => show Calls Try.prog 64 #[.string s, .int .u8 (c : Int)] w fun e w' => e = .returned (.bool (decide (c ∈ T))) ∧ w = w' by rw [← hasB_txt T hT c, ← hs]; exact has_any s hsz c w)
  rw [← hs]
  clear hs hsz hT hl
  have HFI := Lib.hid (fun w => show Calls Try.prog 65 #[.agg #[.int .i64 m.fi, .int .i64 m.fg]] w fun e w' => e = .returned (.bool (rf m 4)) ∧ Adv Nul w Nul w' from q16file_any m.fi m.fg w)
  have HDI := Lib.hid (fun w => show Calls Try.prog 65 #[.agg #[.int .i64 m.di, .int .i64 m.dg]] w fun e w' => e = .returned (.bool (rf m 5)) ∧ Adv Nul w Nul w' from q16file_any m.di m.dg w)
  have HNM := Lib.hid (fun w => show Calls Try.prog 66 #[.string m.nm] w fun e w' => e = .returned (.bool (rf m 6)) ∧ w = w' from is_any m.nm w (by have := HM.out.nm; unfold maxLen; omega))
  have HOT := Lib.hid (fun w => show Calls Try.prog 66 #[.string m.ot] w fun e w' => e = .returned (.bool (rf m 7)) ∧ w = w' from is_any m.ot w (by have := HM.out.ot; unfold maxLen; omega))
  obtain ⟨B, hB⟩ : ∃ B, B = juB m T := ⟨_, rfl⟩
  rw [← hB]
  unfold juB at hB
  obtain ⟨hf, ehf⟩ : ∃ h, h = decide (102 ∈ T) := ⟨_, rfl⟩
  have Hf := Lib.hid (fun w => show Calls Try.prog 64 #[.string s, .int .u8 102] w fun e w' => e = .returned (.bool hf) ∧ w = w' by rw [ehf]; exact HHAS.out 102 w)
  obtain ⟨rrf, erf⟩ : ∃ h, h = rf m 4 := ⟨_, rfl⟩
  obtain ⟨zzf, ezf⟩ : ∃ h, h = zf m 4 := ⟨_, rfl⟩
  have Rf := Lib.hid erf
  have Zf := Lib.hid ezf
  rw [← erf, ← ezf, ← ifd, ← ehf] at hB
  obtain ⟨Cf, eCf⟩ : ∃ h, h = !(if hf = true then rrf else zzf) := ⟨_, rfl⟩
  have Ef := Lib.hid eCf
  rw [show (if hf = true then rrf else zzf) = !Cf by rw [eCf, Bool.not_not]] at hB
  clear ehf eCf
  obtain ⟨hd, ehd⟩ : ∃ h, h = decide (100 ∈ T) := ⟨_, rfl⟩
  have Hd := Lib.hid (fun w => show Calls Try.prog 64 #[.string s, .int .u8 100] w fun e w' => e = .returned (.bool hd) ∧ w = w' by rw [ehd]; exact HHAS.out 100 w)
  obtain ⟨rrd, erd⟩ : ∃ h, h = rf m 5 := ⟨_, rfl⟩
  obtain ⟨zzd, ezd⟩ : ∃ h, h = zf m 5 := ⟨_, rfl⟩
  have Rd := Lib.hid erd
  have Zd := Lib.hid ezd
  rw [← erd, ← ezd, ← ifd, ← ehd] at hB
  obtain ⟨Cd, eCd⟩ : ∃ h, h = !(if hd = true then rrd else zzd) := ⟨_, rfl⟩
  have Ed := Lib.hid eCd
  rw [show (if hd = true then rrd else zzd) = !Cd by rw [eCd, Bool.not_not]] at hB
  clear ehd eCd
  obtain ⟨hn, ehn⟩ : ∃ h, h = decide (110 ∈ T) := ⟨_, rfl⟩
  have Hn := Lib.hid (fun w => show Calls Try.prog 64 #[.string s, .int .u8 110] w fun e w' => e = .returned (.bool hn) ∧ w = w' by rw [ehn]; exact HHAS.out 110 w)
  obtain ⟨rrn, ern⟩ : ∃ h, h = rf m 6 := ⟨_, rfl⟩
  obtain ⟨zzn, ezn⟩ : ∃ h, h = zf m 6 := ⟨_, rfl⟩
  have Rn := Lib.hid ern
  have Zn := Lib.hid ezn
  rw [← ern, ← ezn, ← ifd, ← ehn] at hB
  obtain ⟨Cn, eCn⟩ : ∃ h, h = !(if hn = true then rrn else zzn) := ⟨_, rfl⟩
  have En := Lib.hid eCn
  rw [show (if hn = true then rrn else zzn) = !Cn by rw [eCn, Bool.not_not]] at hB
  clear ehn eCn
  obtain ⟨ho, eho⟩ : ∃ h, h = decide (111 ∈ T) := ⟨_, rfl⟩
  have Ho := Lib.hid (fun w => show Calls Try.prog 64 #[.string s, .int .u8 111] w fun e w' => e = .returned (.bool ho) ∧ w = w' by rw [eho]; exact HHAS.out 111 w)
  obtain ⟨rro, ero⟩ : ∃ h, h = rf m 7 := ⟨_, rfl⟩
  obtain ⟨zzo, ezo⟩ : ∃ h, h = zf m 7 := ⟨_, rfl⟩
  have Ro := Lib.hid ero
  have Zo := Lib.hid ezo
  rw [← ero, ← ezo, ← ifd, ← eho] at hB
  obtain ⟨Co, eCo⟩ : ∃ h, h = !(if ho = true then rro else zzo) := ⟨_, rfl⟩
  have Eo := Lib.hid eCo
  rw [show (if ho = true then rro else zzo) = !Co by rw [eCo, Bool.not_not]] at hB
  clear eho eCo
  obtain ⟨hk, ehk⟩ : ∃ h, h = decide (107 ∈ T) := ⟨_, rfl⟩
  have Hk := Lib.hid (fun w => show Calls Try.prog 64 #[.string s, .int .u8 107] w fun e w' => e = .returned (.bool hk) ∧ w = w' by rw [ehk]; exact HHAS.out 107 w)
  obtain ⟨rrk, erk⟩ : ∃ h, h = rf m 8 := ⟨_, rfl⟩
  obtain ⟨zzk, ezk⟩ : ∃ h, h = zf m 8 := ⟨_, rfl⟩
  have Rk := Lib.hid erk
  have Zk := Lib.hid ezk
  rw [← erk, ← ezk, ← ifd, ← ehk] at hB
  obtain ⟨Ck, eCk⟩ : ∃ h, h = !(if hk = true then rrk else zzk) := ⟨_, rfl⟩
  have Ek := Lib.hid eCk
  rw [show (if hk = true then rrk else zzk) = !Ck by rw [eCk, Bool.not_not]] at hB
  clear ehk eCk
  obtain ⟨ha, eha⟩ : ∃ h, h = decide (97 ∈ T) := ⟨_, rfl⟩
  have Ha := Lib.hid (fun w => show Calls Try.prog 64 #[.string s, .int .u8 97] w fun e w' => e = .returned (.bool ha) ∧ w = w' by rw [eha]; exact HHAS.out 97 w)
  obtain ⟨rra, era⟩ : ∃ h, h = rf m 9 := ⟨_, rfl⟩
  obtain ⟨zza, eza⟩ : ∃ h, h = zf m 9 := ⟨_, rfl⟩
  have Ra := Lib.hid era
  have Za := Lib.hid eza
  rw [← era, ← eza, ← ifd, ← eha] at hB
  obtain ⟨Ca, eCa⟩ : ∃ h, h = !(if ha = true then rra else zza) := ⟨_, rfl⟩
  have Ea := Lib.hid eCa
  rw [show (if ha = true then rra else zza) = !Ca by rw [eCa, Bool.not_not]] at hB
  clear eha eCa
  obtain ⟨ht, eht⟩ : ∃ h, h = decide (116 ∈ T) := ⟨_, rfl⟩
  have Ht := Lib.hid (fun w => show Calls Try.prog 64 #[.string s, .int .u8 116] w fun e w' => e = .returned (.bool ht) ∧ w = w' by rw [eht]; exact HHAS.out 116 w)
  obtain ⟨rrt, ert⟩ : ∃ h, h = rf m 10 := ⟨_, rfl⟩
  obtain ⟨zzt, ezt⟩ : ∃ h, h = zf m 10 := ⟨_, rfl⟩
  have Rt := Lib.hid ert
  have Zt := Lib.hid ezt
  rw [← ert, ← ezt, ← ifd, ← eht] at hB
  obtain ⟨Ct, eCt⟩ : ∃ h, h = !(if ht = true then rrt else zzt) := ⟨_, rfl⟩
  have Et := Lib.hid eCt
  rw [show (if ht = true then rrt else zzt) = !Ct by rw [eCt, Bool.not_not]] at hB
  clear eht eCt
  obtain ⟨hv, ehv⟩ : ∃ h, h = decide (118 ∈ T) := ⟨_, rfl⟩
  have Hv := Lib.hid (fun w => show Calls Try.prog 64 #[.string s, .int .u8 118] w fun e w' => e = .returned (.bool hv) ∧ w = w' by rw [ehv]; exact HHAS.out 118 w)
  obtain ⟨rrv, erv⟩ : ∃ h, h = rf m 11 := ⟨_, rfl⟩
  obtain ⟨zzv, ezv⟩ : ∃ h, h = zf m 11 := ⟨_, rfl⟩
  have Rv := Lib.hid erv
  have Zv := Lib.hid ezv
  rw [← erv, ← ezv, ← ifd, ← ehv] at hB
  obtain ⟨Cv, eCv⟩ : ∃ h, h = !(if hv = true then rrv else zzv) := ⟨_, rfl⟩
  have Ev := Lib.hid eCv
  rw [show (if hv = true then rrv else zzv) = !Cv by rw [eCv, Bool.not_not]] at hB
  clear ehv eCv
  obtain ⟨he, ehe⟩ : ∃ h, h = decide (101 ∈ T) := ⟨_, rfl⟩
  have He := Lib.hid (fun w => show Calls Try.prog 64 #[.string s, .int .u8 101] w fun e w' => e = .returned (.bool he) ∧ w = w' by rw [ehe]; exact HHAS.out 101 w)
  obtain ⟨rre, ere⟩ : ∃ h, h = rf m 12 := ⟨_, rfl⟩
  obtain ⟨zze, eze⟩ : ∃ h, h = zf m 12 := ⟨_, rfl⟩
  have Re := Lib.hid ere
  have Ze := Lib.hid eze
  rw [← ere, ← eze, ← ifd, ← ehe] at hB
  obtain ⟨Ce, eCe⟩ : ∃ h, h = !(if he = true then rre else zze) := ⟨_, rfl⟩
  have Ee := Lib.hid eCe
  clear ehe eCe
  rw [← erf] at HFI
  rw [← erd] at HDI
  rw [← ern] at HNM
  rw [← ero] at HOT
  clear erf ezf
  clear erd ezd
  clear ern ezn
  clear ero ezo
  clear erk ezk
  clear era eza
  clear ert ezt
  clear erv ezv
  clear ere eze
  have HB := Lib.hid hB
  clear hB HHAS
  go_enter Try.func34, Try.ntmps34
  go_upto_region 1 with (first
    | (refine kop_box rfl _ rfl rfl ?_; intro z w1 hz hb ha; have HA1 := Lib.hid ha; have HB1 := Lib.hid hb; clear hz hb ha)
    | fail)
  obtain ⟨⟨s0, s1, s2, s3, s4, s5, s6⟩, ⟨s7, s8, s9, s10⟩, ⟨s11, s12, s13, s14, s15, s16, s17⟩⟩ := HC.out _ _ HB1.out
  go_cut [5] (fun t wx => t = .bool rrk ∧ w1 = wx)
  case first =>
    as_aux_lemma =>
    by_cases m1 : m.mo = 1
    · have e : rrk = true := Rk.out.trans (decide_eq_true (.inl m1))
      have E := Lib.hid e
      clear e
      go_wp2_with fail
      all_goals
        go_meet
        exact ⟨by rw [E.out], rfl⟩
    · by_cases m2 : m.mo = 2
      · have e : rrk = true := Rk.out.trans (decide_eq_true (.inr m2))
        have E := Lib.hid e
        clear e
        go_wp2_with fail
        all_goals
          go_meet
          exact ⟨by rw [E.out], rfl⟩
      · have e : rrk = false := Rk.out.trans (decide_eq_false (fun x => x.elim m1 m2))
        have E := Lib.hid e
        clear e
        go_wp2_with fail
        all_goals
          go_meet
          exact ⟨by rw [E.out]; first | rfl | simp [m1, m2], rfl⟩
  case rest =>
  obtain ⟨rfl, rfl⟩ := hcut
  go_upto_region 2 with fail
  go_cut [32] (fun t wx => t = .bool Cf ∧ Adv Nul w Nul wx ∧ Blk wx z 28 C)
  case first =>
    as_aux_lemma =>
    cases hf with
    | true =>
      cases rrf
      all_goals
        go_wp2_with (first
        | (go_at_call 64; refine (Hf.out _).mono ?_; rintro x wx ⟨rfl, rfl⟩)
        | (go_at_call 65; refine (HFI.out _).mono ?_; rintro x wx ⟨rfl, ax⟩; have HAX := Lib.hid (HA1.out.trans ax); have HBX := Lib.hid (HB1.out.over ax); clear ax)
        | fail)
        go_meet
        exact ⟨by rw [Ef.out]; rfl, HAX.out, HBX.out⟩
    | false =>
      go_wp2_with (first
        | (go_at_call 64; refine (Hf.out _).mono ?_; rintro x wx ⟨rfl, rfl⟩)
        | fail)
      all_goals
        go_meet
        exact ⟨by refine congrArg Value.bool ?_; rw [Ef.out, Zf.out]; first | rfl | (simp [zf, *]; done) | (rw [Bool.eq_iff_iff]; simp [zf]; done) | (rw [Bool.eq_iff_iff]; simp [zf]; omega), HA1.out, HB1.out⟩
  case rest =>
  obtain ⟨rfl, ha, hb⟩ := hcut
  have HA2 := Lib.hid ha
  have HB2 := Lib.hid hb
  clear ha hb s0 s1 s2 s3 s4 s5 s6 s7 s8 s9 s10 s11 s12 s13 s14 s15 s16 s17
  obtain ⟨⟨s0, s1, s2, s3, s4, s5, s6⟩, ⟨s7, s8, s9, s10⟩, ⟨s11, s12, s13, s14, s15, s16, s17⟩⟩ := HC.out _ _ HB2.out
  cases Cf with
  | true =>
    have e : B = false := by rw [HB.out]; simp
    subst e
    go_wp2_with fail
    go_ret
    exact ⟨rfl, HA2.out⟩
  | false =>
  go_upto_region 4 with fail
  go_cut [51] (fun t wx => t = .bool Cd ∧ Adv Nul w Nul wx ∧ Blk wx z 28 C)
  case first =>
    as_aux_lemma =>
    cases hd with
    | true =>
      cases rrd
      all_goals
        go_wp2_with (first
        | (go_at_call 64; refine (Hd.out _).mono ?_; rintro x wx ⟨rfl, rfl⟩)
        | (go_at_call 65; refine (HDI.out _).mono ?_; rintro x wx ⟨rfl, ax⟩; have HAX := Lib.hid (HA2.out.trans ax); have HBX := Lib.hid (HB2.out.over ax); clear ax)
        | fail)
        go_meet
        exact ⟨by rw [Ed.out]; rfl, HAX.out, HBX.out⟩
    | false =>
      go_wp2_with (first
        | (go_at_call 64; refine (Hd.out _).mono ?_; rintro x wx ⟨rfl, rfl⟩)
        | fail)
      all_goals
        go_meet
        exact ⟨by refine congrArg Value.bool ?_; rw [Ed.out, Zd.out]; first | rfl | (simp [zf, *]; done) | (rw [Bool.eq_iff_iff]; simp [zf]; done) | (rw [Bool.eq_iff_iff]; simp [zf]; omega), HA2.out, HB2.out⟩
  case rest =>
  obtain ⟨rfl, ha, hb⟩ := hcut
  have HA3 := Lib.hid ha
  have HB3 := Lib.hid hb
  clear ha hb s0 s1 s2 s3 s4 s5 s6 s7 s8 s9 s10 s11 s12 s13 s14 s15 s16 s17
  obtain ⟨⟨s0, s1, s2, s3, s4, s5, s6⟩, ⟨s7, s8, s9, s10⟩, ⟨s11, s12, s13, s14, s15, s16, s17⟩⟩ := HC.out _ _ HB3.out
  cases Cd with
  | true =>
    have e : B = false := by rw [HB.out]; simp
    subst e
    go_wp2_with fail
    go_ret
    exact ⟨rfl, HA3.out⟩
  | false =>
  go_upto_region 6 with fail
  go_cut [69] (fun t wx => t = .bool Cn ∧ Adv Nul w Nul wx ∧ Blk wx z 28 C)
  case first =>
    as_aux_lemma =>
    cases hn with
    | true =>
      cases rrn
      all_goals
        go_wp2_with (first
        | (go_at_call 64; refine (Hn.out _).mono ?_; rintro x wx ⟨rfl, rfl⟩)
        | (go_at_call 66; refine (HNM.out _).mono ?_; rintro x wx ⟨rfl, rfl⟩)
        | fail)
        go_meet
        exact ⟨by rw [En.out]; rfl, HA3.out, HB3.out⟩
    | false =>
      go_wp2_with (first
        | (go_at_call 64; refine (Hn.out _).mono ?_; rintro x wx ⟨rfl, rfl⟩)
        | fail)
      all_goals
        go_meet
        exact ⟨by refine congrArg Value.bool ?_; rw [En.out, Zn.out]; first | rfl | (simp [zf, isE, *]; done) | (rw [Bool.eq_iff_iff]; simp [zf]; done) | (rw [Bool.eq_iff_iff]; simp [zf]; omega), HA3.out, HB3.out⟩
  case rest =>
  obtain ⟨rfl, ha, hb⟩ := hcut
  have HA4 := Lib.hid ha
  have HB4 := Lib.hid hb
  clear ha hb s0 s1 s2 s3 s4 s5 s6 s7 s8 s9 s10 s11 s12 s13 s14 s15 s16 s17
  obtain ⟨⟨s0, s1, s2, s3, s4, s5, s6⟩, ⟨s7, s8, s9, s10⟩, ⟨s11, s12, s13, s14, s15, s16, s17⟩⟩ := HC.out _ _ HB4.out
  cases Cn with
  | true =>
    have e : B = false := by rw [HB.out]; simp
    subst e
    go_wp2_with fail
    go_ret
    exact ⟨rfl, HA4.out⟩
  | false =>
  go_upto_region 8 with fail
  go_cut [87] (fun t wx => t = .bool Co ∧ Adv Nul w Nul wx ∧ Blk wx z 28 C)
  case first =>
    as_aux_lemma =>
    cases ho with
    | true =>
      cases rro
      all_goals
        go_wp2_with (first
        | (go_at_call 64; refine (Ho.out _).mono ?_; rintro x wx ⟨rfl, rfl⟩)
        | (go_at_call 66; refine (HOT.out _).mono ?_; rintro x wx ⟨rfl, rfl⟩)
        | fail)
        go_meet
        exact ⟨by rw [Eo.out]; rfl, HA4.out, HB4.out⟩
    | false =>
      go_wp2_with (first
        | (go_at_call 64; refine (Ho.out _).mono ?_; rintro x wx ⟨rfl, rfl⟩)
        | fail)
      all_goals
        go_meet
        exact ⟨by refine congrArg Value.bool ?_; rw [Eo.out, Zo.out]; first | rfl | (simp [zf, isE, *]; done) | (rw [Bool.eq_iff_iff]; simp [zf]; done) | (rw [Bool.eq_iff_iff]; simp [zf]; omega), HA4.out, HB4.out⟩
  case rest =>
  obtain ⟨rfl, ha, hb⟩ := hcut
  have HA5 := Lib.hid ha
  have HB5 := Lib.hid hb
  clear ha hb s0 s1 s2 s3 s4 s5 s6 s7 s8 s9 s10 s11 s12 s13 s14 s15 s16 s17
  obtain ⟨⟨s0, s1, s2, s3, s4, s5, s6⟩, ⟨s7, s8, s9, s10⟩, ⟨s11, s12, s13, s14, s15, s16, s17⟩⟩ := HC.out _ _ HB5.out
  cases Co with
  | true =>
    have e : B = false := by rw [HB.out]; simp
    subst e
    go_wp2_with fail
    go_ret
    exact ⟨rfl, HA5.out⟩
  | false =>
  go_upto_region 10 with fail
  go_cut [103] (fun t wx => t = .bool Ck ∧ Adv Nul w Nul wx ∧ Blk wx z 28 C)
  case first =>
    as_aux_lemma =>
    cases hk with
    | true =>
      cases rrk
      all_goals
        go_wp2_with (first
        | (go_at_call 64; refine (Hk.out _).mono ?_; rintro x wx ⟨rfl, rfl⟩)
        | fail)
        go_meet
        exact ⟨by rw [Ek.out]; rfl, HA5.out, HB5.out⟩
    | false =>
      go_wp2_with (first
        | (go_at_call 64; refine (Hk.out _).mono ?_; rintro x wx ⟨rfl, rfl⟩)
        | fail)
      all_goals
        go_meet
        exact ⟨by refine congrArg Value.bool ?_; rw [Ek.out, Zk.out]; first | rfl | (simp [zf, *]; done) | (rw [Bool.eq_iff_iff]; simp [zf]; done) | (rw [Bool.eq_iff_iff]; simp [zf]; omega), HA5.out, HB5.out⟩
  case rest =>
  obtain ⟨rfl, ha, hb⟩ := hcut
  have HA6 := Lib.hid ha
  have HB6 := Lib.hid hb
  clear ha hb s0 s1 s2 s3 s4 s5 s6 s7 s8 s9 s10 s11 s12 s13 s14 s15 s16 s17
  obtain ⟨⟨s0, s1, s2, s3, s4, s5, s6⟩, ⟨s7, s8, s9, s10⟩, ⟨s11, s12, s13, s14, s15, s16, s17⟩⟩ := HC.out _ _ HB6.out
  cases Ck with
  | true =>
    have e : B = false := by rw [HB.out]; simp
    subst e
    go_wp2_with fail
    go_ret
    exact ⟨rfl, HA6.out⟩
  | false =>
  go_upto_region 12 with fail
  go_cut [125] (fun t wx => t = .bool Ca ∧ Adv Nul w Nul wx ∧ Blk wx z 28 C)
  case first =>
    as_aux_lemma =>
    cases ha with
    | true =>
      go_wp2_with (first
        | (go_at_call 64; refine (Ha.out _).mono ?_; rintro x wx ⟨rfl, rfl⟩)
        | fail)
      all_goals
        go_meet
        exact ⟨by refine congrArg Value.bool ?_; rw [Ea.out, Ra.out]; first | rfl | (simp [rf, *]; done) | (rw [Bool.eq_iff_iff]; simp [rf]; done) | (rw [Bool.eq_iff_iff]; simp [rf]; omega), HA6.out, HB6.out⟩
    | false =>
      go_wp2_with (first
        | (go_at_call 64; refine (Ha.out _).mono ?_; rintro x wx ⟨rfl, rfl⟩)
        | fail)
      all_goals
        go_meet
        exact ⟨by refine congrArg Value.bool ?_; rw [Ea.out, Za.out]; first | rfl | (simp [zf, *]; done) | (rw [Bool.eq_iff_iff]; simp [zf]; done) | (rw [Bool.eq_iff_iff]; simp [zf]; omega), HA6.out, HB6.out⟩
  case rest =>
  obtain ⟨rfl, ha, hb⟩ := hcut
  have HA7 := Lib.hid ha
  have HB7 := Lib.hid hb
  clear ha hb s0 s1 s2 s3 s4 s5 s6 s7 s8 s9 s10 s11 s12 s13 s14 s15 s16 s17
  obtain ⟨⟨s0, s1, s2, s3, s4, s5, s6⟩, ⟨s7, s8, s9, s10⟩, ⟨s11, s12, s13, s14, s15, s16, s17⟩⟩ := HC.out _ _ HB7.out
  cases Ca with
  | true =>
    have e : B = false := by rw [HB.out]; simp
    subst e
    go_wp2_with fail
    go_ret
    exact ⟨rfl, HA7.out⟩
  | false =>
  go_upto_region 14 with fail
  go_cut [143] (fun t wx => t = .bool Ct ∧ Adv Nul w Nul wx ∧ Blk wx z 28 C)
  case first =>
    as_aux_lemma =>
    cases ht with
    | true =>
      go_wp2_with (first
        | (go_at_call 64; refine (Ht.out _).mono ?_; rintro x wx ⟨rfl, rfl⟩)
        | fail)
      all_goals
        go_meet
        exact ⟨by refine congrArg Value.bool ?_; rw [Et.out, Rt.out]; first | rfl | (simp [rf, *]; done) | (rw [Bool.eq_iff_iff]; simp [rf]; done) | (rw [Bool.eq_iff_iff]; simp [rf]; omega), HA7.out, HB7.out⟩
    | false =>
      go_wp2_with (first
        | (go_at_call 64; refine (Ht.out _).mono ?_; rintro x wx ⟨rfl, rfl⟩)
        | fail)
      all_goals
        go_meet
        exact ⟨by refine congrArg Value.bool ?_; rw [Et.out, Zt.out]; first | rfl | (simp [zf, isE, *]; done) | (rw [Bool.eq_iff_iff]; simp [zf]; done) | (rw [Bool.eq_iff_iff]; simp [zf]; omega), HA7.out, HB7.out⟩
  case rest =>
  obtain ⟨rfl, ha, hb⟩ := hcut
  have HA8 := Lib.hid ha
  have HB8 := Lib.hid hb
  clear ha hb s0 s1 s2 s3 s4 s5 s6 s7 s8 s9 s10 s11 s12 s13 s14 s15 s16 s17
  obtain ⟨⟨s0, s1, s2, s3, s4, s5, s6⟩, ⟨s7, s8, s9, s10⟩, ⟨s11, s12, s13, s14, s15, s16, s17⟩⟩ := HC.out _ _ HB8.out
  cases Ct with
  | true =>
    have e : B = false := by rw [HB.out]; simp
    subst e
    go_wp2_with fail
    go_ret
    exact ⟨rfl, HA8.out⟩
  | false =>
  go_upto_region 16 with fail
  go_cut [160] (fun t wx => t = .bool Cv ∧ Adv Nul w Nul wx ∧ Blk wx z 28 C)
  case first =>
    as_aux_lemma =>
    cases hv with
    | true =>
      go_wp2_with (first
        | (go_at_call 64; refine (Hv.out _).mono ?_; rintro x wx ⟨rfl, rfl⟩)
        | fail)
      all_goals
        go_meet
        exact ⟨by refine congrArg Value.bool ?_; rw [Ev.out, Rv.out]; first | rfl | (simp [rf, *]; done) | (rw [Bool.eq_iff_iff]; simp [rf]; done) | (rw [Bool.eq_iff_iff]; simp [rf]; omega), HA8.out, HB8.out⟩
    | false =>
      go_wp2_with (first
        | (go_at_call 64; refine (Hv.out _).mono ?_; rintro x wx ⟨rfl, rfl⟩)
        | fail)
      all_goals
        go_meet
        exact ⟨by refine congrArg Value.bool ?_; rw [Ev.out, Zv.out]; first | rfl | (simp [zf, *]; done) | (rw [Bool.eq_iff_iff]; simp [zf]; done) | (rw [Bool.eq_iff_iff]; simp [zf]; omega), HA8.out, HB8.out⟩
  case rest =>
  obtain ⟨rfl, ha, hb⟩ := hcut
  have HA9 := Lib.hid ha
  have HB9 := Lib.hid hb
  clear ha hb s0 s1 s2 s3 s4 s5 s6 s7 s8 s9 s10 s11 s12 s13 s14 s15 s16 s17
  obtain ⟨⟨s0, s1, s2, s3, s4, s5, s6⟩, ⟨s7, s8, s9, s10⟩, ⟨s11, s12, s13, s14, s15, s16, s17⟩⟩ := HC.out _ _ HB9.out
  cases Cv with
  | true =>
    have e : B = false := by rw [HB.out]; simp
    subst e
    go_wp2_with fail
    go_ret
    exact ⟨rfl, HA9.out⟩
  | false =>
  have e : B = if he = true then rre else zze := by rw [HB.out]; simp
  have HBE := Lib.hid e
  clear e
  have HREN := Lib.hid (show rre = (decide (RiseL m.en) && decide ((N : Int) ≤ 24)) from by rw [HN.out, Re.out]; exact enB_eq m.en)
  obtain ⟨ri, hri⟩ : ∃ b, b = decide (RiseL m.en) := ⟨_, rfl⟩
  have HRI := Lib.hid (fun w (h : EnR7 w (.slice A N c) m.en) => show Calls Try.prog 67 #[.slice A N c] w fun e w' => e = .returned (.bool ri) ∧ Adv Nul w Nul w' by rw [hri]; exact rise_any m.en _ w h)
  rw [← hri] at HREN
  clear hri
  have HZEN := Lib.hid (show zze = ((N : Int) == 0) by rw [Ze.out, natZ, HN.out]; rfl)
  cases he with
  | true =>
    cases ri
    all_goals
      go_wp2_with (first
        | (go_at_call 64; refine (He.out _).mono ?_; rintro x wx ⟨rfl, rfl⟩)
        | (go_at_call 67; refine (HRI.out _ (HEN.out.step HA9.out)).mono ?_; rintro x wx ⟨rfl, ax⟩; have HAX := Lib.hid (HA9.out.trans ax); have HBX := Lib.hid (HB9.out.over ax); clear ax s0 s1 s2 s3 s4 s5 s6 s7 s8 s9 s10 s11 s12 s13 s14 s15 s16 s17; obtain ⟨⟨s0, s1, s2, s3, s4, s5, s6⟩, ⟨s7, s8, s9, s10⟩, ⟨s11, s12, s13, s14, s15, s16, s17⟩⟩ := HC.out _ _ HBX.out)
        | fail)
      all_goals
        go_ret
        exact ⟨by rw [HBE.out, HREN.out]; first | rfl | simp, HAX.out⟩
  | false =>
    go_wp2_with (first
      | (go_at_call 64; refine (He.out _).mono ?_; rintro x wx ⟨rfl, rfl⟩)
      | fail)
    all_goals
      go_ret
      exact ⟨by rw [HBE.out, HZEN.out]; first | rfl | simp, HA9.out⟩
end Go.Proofs.Ytpgeebhepegpaaa
