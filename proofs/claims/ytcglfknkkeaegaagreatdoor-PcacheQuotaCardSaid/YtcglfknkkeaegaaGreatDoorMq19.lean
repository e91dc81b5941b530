/- The program's cache: change. Lists of numbers: grown by one; held against each other. A set's places as a list. The program's ring: New, Used, Pinned, Hand. The program's ring: turn, Next. -/
import Derived.Test.YtcglfknkkeaegaaGreatDoorMq18
import Derived.Test.YtcglfknkkeaegaaGreatDoorMq16
import Derived.Test.YtcglfknkkeaegaaGreatDoorMq01
import Derived.Deep.RegionWith
import Derived.Test.YtcglfknkkeaegaaGreatDoorMq17
import Derived.Deep.DeepCutAuto
import Derived.Deep.LoopGhost
namespace Go.Proofs.YtcglfknkkeaegaaGreatDoor
open Go.ChangeShapes Go.WideShapes Go.ChangeAt Go.RowKit Go.Maps
/-- places, in a slice -/
def PlR (w : World) (G : Nat → Prop) (v : Value) (ps : List Plc) : Prop :=
  ∃ A k, v = .slice A ps.length k ∧ (0 < ps.length → ∃ b o, A = some ⟨b, o, none⟩ ∧ b < w.heap.size ∧ ¬ G b ∧ ∀ i (h : i < ps.length), w.rangeAt b (o + i * 8) (plcA ps[i].1 ps[i].2).toList)
set_option maxRecDepth 3000 in
theorem PlR.adv {w w' : World} {G G' : Nat → Prop} {v : Value} {ps : List Plc} (h : PlR w G v ps) (ha : Adv G w G' w') : PlR w' G' v ps := by
  obtain ⟨A, k, e, h1⟩ := h
  refine ⟨A, k, e, fun hn => ?_⟩
  obtain ⟨b, o, e2, h2, h3, h4⟩ := h1 hn
  refine ⟨b, o, e2, Nat.lt_of_lt_of_le h2 ha.size, fun x => ?_, fun i hi j u hu => ?_⟩
  · rcases ha.into b x with y | y
    · exact h3 y
    · omega
  · rw [World.cell?_of_block (ha.block b h2 h3)]
    exact h4 i hi j u hu
set_option maxRecDepth 3000 in
theorem LayAll.at_ : ∀ {ps : List Plc} {L : List Slt}, LayAll L ps → ∀ k (hk : k < ps.length), LayOk (setsL L (ps.take k)) ps[k].1 ps[k].2
  | p :: ps, L, h, 0, _ => h.1
  | p :: ps, L, h, k + 1, hk => LayAll.at_ (ps := ps) h.2 k (by simpa using hk)
set_option maxRecDepth 3000 in
theorem setsL_succ {L : List Slt} {ps : List Plc} {k : Nat} (hk : k < ps.length) : setsL L (ps.take (k + 1)) = (setsL L (ps.take k)).set ps[k].1 ps[k].2 := by
  unfold setsL
  rw [List.take_succ_eq_append_getElem hk, List.foldl_append]
  rfl
set_option maxRecDepth 3000 in
theorem LayAll.lt {ps : List Plc} {L : List Slt} (h : LayAll L ps) {k : Nat} (hk : k < ps.length) : ps[k].1 < L.length := by
  have := (h.at_ k hk).lt
  rwa [setsL_length] at this
def PutL (w : World) (P : Nat → Pt) (n : Nat) (t5 t15 : Value) (wr : World) : Prop := ∃ k A q F qs, k ≤ n ∧ t15 = .int .i64 (k : Int) ∧ t5 = .slice A k q ∧ QW w P k (.slice A k q) F qs wr
def PE.chg (E : PE) (F' : Nat → Prop) (ps : List Plc) (r : (DS × LS) × Int) : PE := (E.log F' r.1.1 r.1.2).setL (if r.2 = 0 then setsL E.L ps else E.L)
def PCh (w : World) (E : PE) (ps : List Plc) (r : (DS × LS) × Int) (e : Ending) (w' : World) : Prop := e = .returned (.int .i64 r.2) ∧ ∃ F', Pk w' (E.chg F' ps r) ∧ Adv E.V w (E.chg F' ps r).V w'
def LayW (w2 : World) (E2 : PE) (ps : List Plc) (n : Nat) (t42 : Value) (wr : World) : Prop := ∃ k, k ≤ n ∧ t42 = .int .i64 (k : Int) ∧ Pk wr (E2.setL (setsL E2.L (ps.take k))) ∧ Adv E2.V w2 E2.V wr
set_option maxRecDepth 3000 in
set_option maxHeartbeats 6400000 in
theorem change_p {w : World} {E : PE} {ps : List Plc} {v : Value} (h : Pk w E) (hw : WOk E.n E.N E.s E.g) (hp : PlR w E.V v ps) (h64 : ps.length ≤ 64) (hL : LayAll E.L ps) :
    Calls Tryz.prog 67 #[.pointer (some ⟨E.c, 0, none⟩), v] w (PCh w E ps (wrtG E.s E.n E.N E.g (putsT ps))) := by
  have HPL := Lib.hid hp
  obtain ⟨A0, k0, rfl, hp0⟩ := hp
  have HE := Lib.hid h
  have HLA := Lib.hid hL
  have HWK := Lib.hid hw
  obtain ⟨n, hn⟩ : ∃ n, n = ps.length := ⟨_, rfl⟩
  have HROW := Lib.hid (show ∀ W, Adv E.V w E.V W → ∀ k (hk : k < ps.length), ∃ b o, A0 = some ⟨b, o, none⟩ ∧ W.rangeAt b (o + k * 8) (plcA ps[k].1 ps[k].2).toList from fun W ha k hk => by
    obtain ⟨b, o, e, h2, h3, h4⟩ := hp0 (by omega)
    exact ⟨b, o, e, fun j u hu => by rw [World.cell?_of_block (ha.block b h2 h3)]; exact h4 k hk j u hu⟩)
  rw [← hn] at HPL ⊢
  have HN := Lib.hid hn
  have hn64 : (n : Int) ≤ 64 := by omega
  obtain ⟨P, hP⟩ : ∃ P : Nat → Pt, P = fun k => (putsT ps).getD k ⟨0, []⟩ := ⟨_, rfl⟩
  have HLEN := Lib.hid (show (putsT ps).length = n by rw [hn]; exact List.length_map _)
  have HPK := Lib.hid (show ∀ k (hk : k < ps.length), P k = ⟨((1 + ps[k].1 : Nat) : Int), secT ps[k].2⟩ by
    intro k hk
    rw [hP]
    simp only [putsT]
    rw [List.getD_eq_getElem?_getD, List.getElem?_map, List.getElem?_eq_getElem hk]; rfl)
  have HPR := Lib.hid (show (List.range n).map P = putsT ps by
    apply List.ext_getElem
    · rw [List.length_map, List.length_range, HLEN.out]
    · intro i h1 h2
      rw [List.getElem_map, List.getElem_range, hP]
      simp only
      rw [List.getD_eq_getElem?_getD, List.getElem?_eq_getElem h2]; rfl)
  have H8 := Lib.hid (show ∀ p ∈ putsT ps, ∀ x ∈ p.d, x < 256 from fun p hp => by
    obtain ⟨q, _, rfl⟩ := List.mem_map.1 hp
    exact secT_lt _)
  have HWR := Lib.hid (fun W (r : Pk W E) A1 M k1 (q : QRd W E.V (.slice A1 M k1) (putsT ps)) => write_p (A0 := A1) (M := M) (k0 := k1) r HWK.out q H8.out)
  obtain ⟨R, hR⟩ : ∃ R, R = wrtG E.s E.n E.N E.g (putsT ps) := ⟨_, rfl⟩
  rw [← hR] at HWR ⊢
  obtain ⟨⟨s2, g2⟩, er⟩ := R
  unfold PWr at HWR
  unfold PCh PE.chg
  simp only at HWR ⊢
  obtain ⟨LX, hLX⟩ : ∃ LX, LX = (if er = 0 then setsL E.L ps else E.L) := ⟨_, rfl⟩
  rw [← hLX]
  have HLX := Lib.hid hLX
  clear hLX
  obtain ⟨c, hc⟩ : ∃ c, c = E.c := ⟨_, rfl⟩
  have HC := Lib.hid hc
  rw [← hc] at HWR ⊢
  clear h hw hp0 h64 hL hn hP hR hc
  go_enter Tryz.func67, Tryz.ntmps67
  go_wp2_with fail
  go_loopw [5, 15] (PutL w P n) (fun _ t _ => n - (intOf t).toNat)
  case atStart => exact ⟨0, none, 0, Nul, [], Nat.zero_le _, rfl, rfl, QW.nil _ _⟩
  case round =>
    obtain ⟨k, A3, q3, F3, qs, hk, rfl, rfl, hw⟩ := hrel
    have HW := Lib.hid hw
    have HWA := Lib.hid (hw.adv.sub (G := Nul) (fun _ x => x.elim))
    by_cases hlt : k < n
    · have hkl : k < ps.length := by rw [← HN.out]; exact hlt
      obtain ⟨b, o, rfl, hrow⟩ := HROW.out wr (adv_wk HWA.out) k hkl
      have hpk := HPK.out k hkl
      have hok := HLA.out.at_ k hkl
      have hi64 : ps[k].1 < E.L.length := HLA.out.lt hkl
      obtain ⟨i, hi⟩ : ∃ i, i = ps[k].1 := ⟨_, rfl⟩
      obtain ⟨x, hx⟩ : ∃ i, i = ps[k].2 := ⟨_, rfl⟩
      rw [← hi, ← hx] at hrow hpk
      rw [← hi] at hi64
      have HIS := Lib.hid (show isT x by rw [hx]; exact hok.is)
      have HEN := Lib.hid (sencode_any x (isT_wf HIS.out))
      have HROWK := Lib.hid hrow
      have HPK2 := Lib.hid hpk
      have HLT := Lib.hid hlt
      have hlt' : (k : Int) < (n : Int) := by omega
      have hi6 : (i : Int) ≤ 64 := by have := HE.out.ln; omega
      have HK1 := Lib.hid (show k + 1 ≤ maxLen by unfold maxLen; omega)
      have HK2 := Lib.hid (show (k + 1) * 32 ≤ 140737488355328 by omega)
      have HI1 := Lib.hid (show (1 : Int) + (i : Int) = ((1 + i : Nat) : Int) by omega)
      clear hk hw hkl hi hx hpk hlt hrow hok hi64
      go_wp2_with (first
        | (refine gop_load (t := 125) rfl _ rfl b HROWK.out rfl Tryz.underlying125 rfl sizePl (plcA_size i x) ?_)
        | (refine kop_alloc (t := 125) rfl rfl infoPl ?_; intro z5 w5 hz hb ha; have HZ5 := Lib.hid hz; have HB5 := Lib.hid hb; have HA5 := Lib.hid ha; clear hz hb ha)
        | (refine kop_store (t := 125) rfl _ _ rfl z5 HB5.out rfl rfl sizePl (plcA_size i x) (plcA_size 0 zeroT) (plcA_one i x) ?_; intro w6 hb ha; have HB6 := Lib.hid hb; have HA6 := Lib.hid (HA5.out.fresh HZ5.out ha); clear hb ha)
        | (refine gop_load (t := 44) rfl _ rfl z5 HB6.out.pl1 rfl Tryz.underlying44 rfl sizeT (tc_size x) ?_)
        | (go_at_call 65; refine (HEN.out _).mono ?_; rintro e w7 ⟨A7, m7, k7, F7, rfl, a7, y7, _⟩; obtain ⟨rfl, s7⟩ := y7 HIS.out; rw [if_pos HIS.out]; have HS7 := Lib.hid s7; have HA7 := Lib.hid a7; have c70 := (HB6.out.over a7).pl0; have HWQ := Lib.hid ((HW.out.step HA6.out).step a7); have HU := Lib.hid (HWQ.out.step ((Adv.refl Nul w7).alloc (.cells #[.int .i64 ((1 : Int) + (i : Int)), .slice A7 128 k7] 133))); have HRU := Lib.hid (s7.rd.up (.cells #[.int .i64 ((1 : Int) + (i : Int)), .slice A7 128 k7] 133)); clear a7 y7 s7)
        | (at_builtin; refine lop_append_own rfl (.tmp 25) (.tmp 31) 134 133 rfl Tryz.underlying134 infoPut rfl (by decide) rfl HU.out.sl.own ⟨w7.heap.size, 0, none⟩ 1 1 rfl [.int .i64 ((1 : Int) + (i : Int)), .slice A7 128 k7] rfl qnew_at qone HK1.out HK2.out ?_; intro v' w8 hown hg2 hat; obtain ⟨a8, k8, rfl⟩ := (slice_of hown); have HOWN := Lib.hid hown; have HG2 := Lib.hid hg2; have HAT := Lib.hid hat; clear hown hg2 hat)
        | fail)
      have hnz : ∀ g, (Value.slice A7 128 k7).ownBlock = some g → 0 < 128 → ¬ F3 g ∧ w.heap.size ≤ g := fun g hg _ => by
        have h1 := HS7.out.inF g hg
        rcases HA7.out.into g h1 with y | y
        · exact y.elim
        · have h2 := HA6.out.size
          have h3 := HW.out.adv.size
          refine ⟨fun hF => ?_, by omega⟩
          have := HW.out.sl.bd g hF
          omega
      obtain ⟨F8, qs8, hpu⟩ := HU.out.push (p := ⟨(1 : Int) + (i : Int), secT x⟩) (by rw [HPK2.out, HI1.out]) (by simp only; rw [secT_length]; exact HRU.out) (by simp only; rw [secT_length]; exact hnz) (by simp only; rw [secT_length]; exact HOWN.out) HG2.out HAT.out
      have hlt := HLT.out
      exact ⟨⟨k + 1, a8, k8, F8, qs8, by omega, by go_num, rfl, hpu⟩, by simp [intOf]; omega⟩
    · obtain rfl : k = n := by omega
      have HQR := Lib.hid (show QRd wr E.V (.slice A3 k q3) (putsT ps) by
        have := HW.out.qrd (G := E.V) (fun g hg => HE.out.bd g hg)
        rw [HPR.out] at this
        exact this)
      have HEW := Lib.hid (HE.out.step HWA.out)
      have HAW := Lib.hid (adv_wk (G := E.V) HWA.out)
      clear hk hw hlt
      by_cases he : er = 0
      · subst he
        have HLX2 := Lib.hid (show LX = setsL E.L ps by rw [HLX.out, if_pos rfl])
        clear HLX
        go_wp2_with (first
          | (go_at_call 71; refine (HWR.out wr HEW.out A3 k q3 HQR.out).mono ?_; rintro e w9 ⟨rfl, F9, h9, a9⟩; have HE9 := Lib.hid h9; have HA9 := Lib.hid (HAW.out.trans a9); have HPL9 := Lib.hid (HPL.out.adv (HAW.out.trans a9)); clear h9 a9)
          | fail)
        obtain ⟨E2, hE2⟩ : ∃ E2, E2 = E.log F9 s2 g2 := ⟨_, rfl⟩
        rw [← hE2] at HE9 HA9 HPL9
        have HL2 := Lib.hid (show LayAll E2.L ps by rw [hE2]; exact HLA.out)
        have HC2 := Lib.hid (show c = E2.c by rw [hE2]; exact HC.out)
        have HFIN := Lib.hid (show ∀ W, Pk W (E2.setL (setsL E2.L (ps.take k))) → Adv E2.V w9 E2.V W → ∃ F', Pk W ((E.log F' s2 g2).setL LX) ∧ Adv E.V w ((E.log F' s2 g2).setL LX).V W from fun W hp ha => by
          rw [List.take_of_length_le (by rw [← HN.out]; exact Nat.le_refl _), hE2] at hp
          refine ⟨F9, by rw [HLX2.out]; exact hp, HA9.out.trans ?_⟩
          rw [hE2] at ha ⊢
          exact ha)
        have HROW2 := Lib.hid (show ∀ W, Adv E2.V w9 E2.V W → ∀ k (hk : k < ps.length), ∃ b o, A0 = some ⟨b, o, none⟩ ∧ W.rangeAt b (o + k * 8) (plcA ps[k].1 ps[k].2).toList from fun W ha k hk => by
          obtain ⟨AA, kk, ee, hh⟩ := HPL9.out.adv ha
          injection ee with e1 _ _
          obtain ⟨b, o, e, _, _, h4⟩ := hh (by omega)
          exact ⟨b, o, by rw [e1]; exact e, h4 k hk⟩)
        clear hE2
        go_loopw [42] (LayW w9 E2 ps k) (fun t _ => k - (intOf t).toNat)
        case atStart => exact ⟨0, Nat.zero_le _, rfl, HE9.out, Adv.refl _ _⟩
        case round =>
          obtain ⟨j, hj, rfl, hpj, haj⟩ := hrel
          have HPJ := Lib.hid hpj
          have HAJ := Lib.hid haj
          by_cases hlt : j < k
          · have hjl : j < ps.length := by rw [← HN.out]; exact hlt
            obtain ⟨b, o, rfl, hrow⟩ := HROW2.out _ haj j hjl
            have hok := HL2.out.at_ j hjl
            have hsu := setsL_succ (L := E2.L) hjl
            obtain ⟨i, hi⟩ : ∃ i, i = ps[j].1 := ⟨_, rfl⟩
            obtain ⟨x, hx⟩ : ∃ i, i = ps[j].2 := ⟨_, rfl⟩
            rw [← hi, ← hx] at hrow hok hsu
            have HLY := Lib.hid (fun W (r : Pk W (E2.setL (setsL E2.L (ps.take j)))) => show Calls Tryz.prog 96 #[.pointer (some ⟨c, 0, none⟩), .agg (plcA i x)] W fun e w' => e = .returned (.tuple #[]) ∧ Pk w' (E2.setL (setsL E2.L (ps.take (j + 1)))) ∧ Adv E2.V W E2.V w' by
              rw [hsu, HC2.out]
              exact lay_p r hok)
            have HROWK := Lib.hid hrow
            have HLT := Lib.hid hlt
            have hlt' : (j : Int) < (k : Int) := by omega
            clear hj hpj haj hjl hi hx hlt hrow hok hsu
            go_wp2_with (first
              | (refine gop_load (t := 125) rfl _ rfl b HROWK.out rfl Tryz.underlying125 rfl sizePl (plcA_size i x) ?_)
              | (refine kop_alloc (t := 125) rfl rfl infoPl ?_; intro z5 w5 hz hb ha; have HZ5 := Lib.hid hz; have HB5 := Lib.hid hb; have HA5 := Lib.hid ha; clear hz hb ha)
              | (refine kop_store (t := 125) rfl _ _ rfl z5 HB5.out rfl rfl sizePl (plcA_size i x) (plcA_size 0 zeroT) (plcA_one i x) ?_; intro w6 hb ha; have HB6 := Lib.hid hb; have HA6 := Lib.hid (HA5.out.fresh HZ5.out ha); have HP6 := Lib.hid (HPJ.out.step HA6.out); clear hb ha)
              | (refine kop_load rfl _ rfl z5 HB6.out rfl Tryz.underlying125 rfl sizePl (plcA_size i x) ?_)
              | (go_at_call 96; refine (HLY.out _ HP6.out).mono ?_; rintro e w7 ⟨rfl, h7, a7⟩; have HP7 := Lib.hid h7; have HA7 := Lib.hid ((HAJ.out.trans (adv_wk HA6.out)).trans a7); clear h7 a7)
              | fail)
            have hlt := HLT.out
            exact ⟨⟨j + 1, by omega, by go_num, HP7.out, HA7.out⟩, by simp [intOf] <;> omega⟩
          · obtain rfl : j = k := by omega
            clear hj hpj haj hlt
            go_wp2_with fail
            go_ret
            exact ⟨rfl, HFIN.out _ HPJ.out HAJ.out⟩
      · have heb : (er != 0) = true := by rw [bne_iff_ne]; exact he
        have HFIN := Lib.hid (show ∀ W F', Pk W (E.log F' s2 g2) → Adv E.V w (E.log F' s2 g2).V W → ∃ F', Pk W ((E.log F' s2 g2).setL LX) ∧ Adv E.V w ((E.log F' s2 g2).setL LX).V W from fun W F' hp ha => ⟨F', by rw [HLX.out, if_neg he]; exact hp, ha⟩)
        clear he
        go_wp2_with (first
          | (go_at_call 71; refine (HWR.out wr HEW.out A3 k q3 HQR.out).mono ?_; rintro e w9 ⟨rfl, F9, h9, a9⟩; have HF9 := Lib.hid (HFIN.out _ F9 h9 (HAW.out.trans a9)); clear h9 a9)
          | fail)
        go_ret
        exact ⟨rfl, HF9.out⟩
end Go.Proofs.YtcglfknkkeaegaaGreatDoor
namespace Go.Proofs.YtcglfknkkeaegaaGreatDoor
open Go.ChangeShapes Go.WideShapes Go.ChangeAt Go.RowKit

set_option maxRecDepth 3000 in
theorem infoInt7 : (Tryz.prog.info? 3).map (fun i => (i.zero, i.size, i.bytes)) = some (some (.int .i64 0), 1, 8) := by kernel_rfl
end Go.Proofs.YtcglfknkkeaegaaGreatDoor
namespace Go.Proofs.YtcglfknkkeaegaaGreatDoor
open Go.RowKit
end Go.Proofs.YtcglfknkkeaegaaGreatDoor
namespace Go.Proofs.YtcglfknkkeaegaaGreatDoor
open Go.RowKit

set_option maxRecDepth 3000 in
theorem cnew_yes (n : Nat) (h1 : 1 ≤ n) (h2 : n ≤ 64) (w : World) : Calls Tryz.prog 42 #[.int .i64 (n : Int)] w fun e w' => ∃ d, e = .returned (.tuple #[.pointer (some ⟨d, 0, none⟩), .int .i64 0]) ∧ Cl w' d (cNew n) ∧ Adv Nul w (One d) w' := by
  have h1' : (1 : Int) ≤ (n : Int) := by omega
  have h2' : (n : Int) ≤ 64 := by omega
  have HF := Lib.hid (show ∀ w : World, Cl (w.alloc (.cells (ccells (cNew n)) 137)) w.heap.size (cNew n) from fun w => ⟨COk.new h1 h2, Blk.new _ _ _⟩)
  have HAd := Lib.hid (show ∀ (w : World) (o : Obj), Adv Nul w (One w.heap.size) (w.alloc o) from fun w o => ⟨rfl, rfl, rfl, by simp, fun k hk _ => Below.heap_alloc _ _ _ hk, fun k hk => .inr (by rw [show k = w.heap.size from hk]; exact Nat.le_refl _)⟩)
  clear h1 h2
  go_enter Tryz.func42, Tryz.ntmps42
  go_wp2
  go_ret2
  exact ⟨_, rfl, HF.out _, HAd.out _ _⟩
end Go.Proofs.YtcglfknkkeaegaaGreatDoor
namespace Go.Proofs.YtcglfknkkeaegaaGreatDoor
open Go.RowKit

def TnR (w : World) (d : Nat) (r : Nat × RgS) (k : Nat) (_ : Value) (wr : World) : Prop := ∃ t, turnF k t = some r ∧ Cl wr d t ∧ Adv (One d) w (One d) wr
set_option maxRecDepth 3000 in
theorem cl_set4 {w : World} {d : Nat} {s t : RgS} (h : Cl w d s) (x : Nat) (ht : COk t) (e : ccells t = (ccells s).setIfInBounds 4 (.int .i64 (x : Int))) : Cl (w.setCell ⟨d, 4, none⟩ (.int .i64 (x : Int))) d t := by
  refine ⟨ht, ?_⟩
  rw [e]
  exact h.blk.set_ 4 _
set_option maxRecDepth 3000 in
theorem turn_done {k i : Nat} {s t : RgS} (hp : s.p.testBit s.h = false) (hm : s.m.testBit s.h = false) (h : turnF (k + 1) s = some (i, t)) : i = s.h ∧ t = stepP s := by
  unfold turnF at h
  rw [if_neg (by rw [hp]; decide), if_neg (by rw [hm]; decide)] at h
  injection h with h
  injection h with h1 h2
  exact ⟨h1.symm, h2.symm⟩
set_option maxRecDepth 3000 in
theorem turn_p {k : Nat} {s : RgS} {r : Nat × RgS} (hp : s.p.testBit s.h = true) (h : turnF (k + 1) s = some r) : turnF k (stepP s) = some r := by
  unfold turnF at h
  rwa [if_pos hp] at h
set_option maxRecDepth 3000 in
theorem turn_m {k : Nat} {s : RgS} {r : Nat × RgS} (hp : s.p.testBit s.h = false) (hm : s.m.testBit s.h = true) (h : turnF (k + 1) s = some r) : turnF k (stepM s) = some r := by
  unfold turnF at h
  rwa [if_neg (by rw [hp]; decide), if_pos hm] at h
set_option maxRecDepth 3000 in
set_option maxHeartbeats 1600000 in
theorem turn_any (w : World) (d i K : Nat) (s t : RgS) (h : Cl w d s) (hr : turnF K s = some (i, t)) : Calls Tryz.prog 130 #[.pointer (some ⟨d, 0, none⟩)] w fun e w' => e = .returned (.int .i64 (i : Int)) ∧ Cl w' d t ∧ Adv (One d) w (One d) w' := by
  have HI := Lib.hid (show TnR w d (i, t) K (.int .i64 0) w from ⟨s, hr, h, Adv.refl _ _⟩)
  clear h hr
  go_enter Tryz.func130, Tryz.ntmps130
  go_wp2_with fail
  go_loopg [3] K (fun k v wr => TnR w d (i, t) k v wr)
  case atStart =>
    obtain ⟨s, hr, h, a⟩ := HI.out
    exact ⟨s, hr, h, a⟩
  case round =>
    obtain ⟨x, hx, hc, ha⟩ := hrel
    clear HI
    cases gk with
    | zero => cases hx
    | succ k =>
    have c0 := hc.c0
    have c4 := hc.c4
    have f4 : wr.frozen? ⟨d, 4, none⟩ = false := hc.blk.frozen 4
    have hn := hc.ok.hi
    have hlo := hc.ok.lo
    have hh := hc.ok.h
    have hmod : ((x.h : Int) + 1) % (x.n : Int) = (nxt x : Int) := by rw [← nxt_mod hc.ok, Int.natCast_emod, Int.natCast_add]; rfl
    have hs1 : Cl (wr.setCell ⟨d, 4, none⟩ (.int .i64 (nxt x : Int))) d (stepP x) := cl_set4 hc _ hc.ok.stepP rfl
    have ha1 : Adv (One d) w (One d) (wr.setCell ⟨d, 4, none⟩ (.int .i64 (nxt x : Int))) := ha.set_one 0 4 _
    have c2 := hc.c2
    have c3 := hc.c3
    have HP := Lib.hid (fun w1 => has_any x.p x.h hc.ok.p64 (Nat.lt_of_lt_of_le hh hn) w1)
    have HM := Lib.hid (fun w1 => has_any x.m x.h hc.ok.m64 (Nat.lt_of_lt_of_le hh hn) w1)
    have HX := Lib.hid hx
    have HS1 := Lib.hid hs1
    have HA1 := Lib.hid ha1
    have HD := Lib.hid (fun w1 (h1 : Cw w1 d (stepP x)) => cdrop3 w1 d (stepP x) h1 x.h (Nat.lt_of_lt_of_le hh hn))
    have HOK := Lib.hid hc.ok
    obtain ⟨bp, hbp⟩ : ∃ bp, bp = x.p.testBit x.h := ⟨_, rfl⟩
    obtain ⟨bm, hbm⟩ : ∃ bm, bm = x.m.testBit x.h := ⟨_, rfl⟩
    rw [← hbp] at HP
    rw [← hbm] at HM
    have HBP := Lib.hid hbp
    have HBM := Lib.hid hbm
    obtain ⟨y, hy⟩ : ∃ y, y = nxt x := ⟨_, rfl⟩
    obtain ⟨n, hne⟩ : ∃ n, n = x.n := ⟨_, rfl⟩
    obtain ⟨p, hp⟩ : ∃ p, p = x.h := ⟨_, rfl⟩
    rw [← hy] at hmod HS1 HA1
    rw [← hne] at c0 hn hlo hh hmod
    rw [← hp] at c4 hh hmod HP HM HD HBP HBM
    have HPE := Lib.hid hp
    clear hx hc ha hs1 ha1 hy hne hp hbp hbm
    cases bp
    · cases bm
      · go_wp2_with (first
          | (go_at_call 120; first | (refine (HP.out _).mono ?_; rintro e w1 ⟨rfl, rfl⟩) | (refine (HM.out _).mono ?_; rintro e w1 ⟨rfl, rfl⟩))
          | fail)
        go_ret
        have hb1 := HBP.out.symm
        have hb2 := HBM.out.symm
        rw [HPE.out] at hb1 hb2
        obtain ⟨rfl, rfl⟩ := turn_done hb1 hb2 HX.out
        exact ⟨by first | rfl | (rw [HPE.out]; rfl), HS1.out, HA1.out⟩
      · go_wp2_with (first
          | (go_at_call 120; first | (refine (HP.out _).mono ?_; rintro e w1 ⟨rfl, rfl⟩) | (refine (HM.out _).mono ?_; rintro e w1 ⟨rfl, rfl⟩))
          | (go_at_call 131; refine (HD.out _ HS1.out.cw).mono ?_; rintro e w1 ⟨rfl, a1, b1⟩; have HC1 := Lib.hid a1; have HB1 := Lib.hid b1; clear a1 b1)
          | fail)
        go_roundg k
        case measure => omega
        case rel =>
          have hb1 := HBP.out.symm
          have hb2 := HBM.out.symm
          have hq := HC1.out.blk
          rw [HPE.out] at hb1 hb2 hq
          exact ⟨stepM x, turn_m hb1 hb2 HX.out, ⟨HOK.out.stepM, hq⟩, HA1.out.trans HB1.out⟩
    · go_wp2_with (first
        | (go_at_call 120; (refine (HP.out _).mono ?_; rintro e w1 ⟨rfl, rfl⟩))
        | fail)
      go_roundg k
      case measure => omega
      case rel =>
        have hb1 := HBP.out.symm
        rw [HPE.out] at hb1
        exact ⟨stepP x, turn_p hb1 HX.out, HS1.out, HA1.out⟩

set_option maxRecDepth 3000 in
set_option maxHeartbeats 1600000 in
theorem cnext_any (w : World) (d : Nat) (s : RgS) (h : Cl w d s) (hT : Tz w) : Calls Tryz.prog 95 #[.pointer (some ⟨d, 0, none⟩)] w fun e w' => e = .returned (.tuple #[.int .i64 (nextS s).i, .int .i64 (nextS s).e]) ∧ Cl w' d (nextS s).s ∧ Adv (One d) w (One d) w' := by
  have HM := Lib.hid (cmade_any w d s h)
  have HF := Lib.hid (first_any s.n h.ok.lo h.ok.hi w)
  have c0 := h.c0
  have c1 := h.c1
  have c2 := h.c2
  have hev : bits BinOp.andNot IntKind.u64 ((2 ^ s.n - 1 : Nat) : Int) (s.u : Int) = ((freeN s : Nat) : Int) := by
    have := lt64 (x := 2 ^ s.n - 1) (n := s.n) (by have := Nat.two_pow_pos s.n; omega) h.ok.hi
    rw [u64_andNot_nat _ _ this h.ok.u64]; rfl
  have HL := Lib.hid h
  have HLS := Lib.hid (fun h0 => least_any (freeN s) (freeN_lt s h.ok) h0 w hT)
  by_cases h0 : freeN s = 0
  · by_cases hp : s.p = 2 ^ s.n - 1
    · rw [next_all (all_used h.ok h0) hp]
      rw [← hp] at HF hev
      rw [h0] at hev
      clear hp h0 h hT HLS
      generalize s.n = n at *
      generalize s.u = u at *
      generalize s.p = p at *
      go_enter Tryz.func95, Tryz.ntmps95
      go_wp2_with (first
        | (go_at_call 127; refine HM.out.mono ?_; rintro e w1 ⟨rfl, rfl⟩)
        | (go_at_call 128; refine HF.out.mono ?_; rintro e w1 ⟨rfl, rfl⟩)
        | fail)
      go_ret2
      exact ⟨rfl, HL.out, Adv.refl _ _⟩
    · obtain ⟨i, t, hr, e⟩ := next_turn h.ok (all_used h.ok h0) hp
      rw [e]
      have HTN := Lib.hid (turn_any w d i _ s t h hr)
      have hq : ((s.p : Int) == ((2 ^ s.n - 1 : Nat) : Int)) = false := by
        rw [beq_eq_false_iff_ne]; intro q; exact hp (by omega)
      rw [h0] at hev
      obtain ⟨E, hE⟩ : ∃ E, E = 2 ^ s.n - 1 := ⟨_, rfl⟩
      rw [← hE] at hev hq HF
      clear hp h0 h hT HLS hr e hE
      generalize s.n = n at *
      generalize s.u = u at *
      generalize s.p = p at *
      go_enter Tryz.func95, Tryz.ntmps95
      go_wp2_with (first
        | (go_at_call 127; refine HM.out.mono ?_; rintro e w1 ⟨rfl, rfl⟩)
        | (go_at_call 128; refine HF.out.mono ?_; rintro e w1 ⟨rfl, rfl⟩)
        | (go_at_call 130; refine HTN.out.mono ?_; rintro e w1 ⟨rfl, a1, b1⟩; have HA1 := Lib.hid a1; have HB1 := Lib.hid b1; clear a1 b1)
        | fail)
      go_ret2
      exact ⟨rfl, HA1.out, HB1.out⟩
  · rw [(next_free h.ok h0).1]
    have HLS2 := Lib.hid (HLS.out h0)
    have hq : (((freeN s : Nat) : Int) == 0) = false := by rw [beq_eq_false_iff_ne]; omega
    generalize Lib.ctz 64 (freeN s) = c at HLS2 ⊢
    generalize freeN s = F at hev hq HLS2
    obtain ⟨E, hE⟩ : ∃ E, E = 2 ^ s.n - 1 := ⟨_, rfl⟩
    rw [← hE] at hev HF
    clear h0 h hT HLS hE
    go_enter Tryz.func95, Tryz.ntmps95
    go_wp2_with (first
      | (go_at_call 127; refine HM.out.mono ?_; rintro e w1 ⟨rfl, rfl⟩)
      | (go_at_call 128; refine HF.out.mono ?_; rintro e w1 ⟨rfl, rfl⟩)
      | (go_at_call 129; refine HLS2.out.mono ?_; rintro e w1 ⟨rfl, rfl⟩)
      | fail)
    go_ret2
    exact ⟨rfl, HL.out, Adv.refl _ _⟩
end Go.Proofs.YtcglfknkkeaegaaGreatDoor
