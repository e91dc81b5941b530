/- The program's reader, also where it has fallen short: one contract for bytes of any length; numbers, files. The program's reading of a message: its head. Messages as they are read, field by field. The program's parts: the entries that stand in a block. Entries in a slice of one's own, beside blocks that change. The program's reading of a message: entries, head. -/
import Derived.Test.YtpgeebhepegpaaaMwA
import Derived.Test.YtpgeebhepegpaaaRText
import Derived.Test.YtpgeebhepegpaaaMsB
import Derived.Test.YtpgeebhepegpaaaMwB
import Derived.Test.YtpgeebhepegpaaaKop
import Derived.Test.YtpgeebhepegpaaaDrJ
namespace Go.Proofs.Ytpgeebhepegpaaa
open Go.ChangeShapes Go.WideShapes Go.ChangeAt Go.RowKit

def PT (w : World) (F : Nat → Prop) (b q V a : Nat) : Prop := (a ≤ 8 * q ∧ RSt w F b q V a ∧ Bd F w) ∨ (8 * q < a ∧ RErr w F b 3)
/-- what End says -/
def endT (q V a : Nat) : Int := if a ≤ 8 * q then endOf q V a else 3
set_option maxRecDepth 3000 in
theorem endT_zero {q V a : Nat} : endT q V a = 0 ↔ a ≤ 8 * q ∧ endOf q V a = 0 := by
  unfold endT
  split
  · exact ⟨fun h => ⟨‹_›, h⟩, fun h => h.2⟩
  · exact ⟨fun h => absurd h (by decide), fun h => absurd h.1 ‹_›⟩
section
variable {w w' : World} {F F' F'' : Nat → Prop} {b q V a : Nat}
set_option maxRecDepth 3000 in
theorem RSt.farA (h : RSt w F b q V a) (ha : Adv F' w F'' w') (hs : Sep F' F) : RSt w' F b q V a := by
  obtain ⟨v, hB, hS⟩ := h.ex
  exact ⟨⟨v, hB.keep (ha.block b hB.lt (fun x => hs b x h.inF)), hS.far ha hs⟩, h.inF, h.le, h.sm⟩
set_option maxRecDepth 3000 in
theorem PT.bd (h : PT w F b q V a) : Bd F w := by
  rcases h with ⟨_, _, h⟩ | ⟨_, h⟩
  · exact h
  · exact h.bd
set_option maxRecDepth 3000 in
theorem PT.inF (h : PT w F b q V a) : F b := by
  rcases h with ⟨_, h, _⟩ | ⟨_, h⟩
  · exact h.inF
  · exact h.inF
set_option maxRecDepth 3000 in
theorem PT.far (h : PT w F b q V a) (ha : Adv F' w F'' w') (hs : Sep F' F) : PT w' F b q V a := by
  rcases h with ⟨h1, h2, h3⟩ | ⟨h1, h2⟩
  · exact .inl ⟨h1, h2.farA ha hs, ha.bd h3⟩
  · obtain ⟨v, r, hB⟩ := h2.ex
    exact .inr ⟨h1, ⟨⟨v, r, hB.keep (ha.block b hB.lt (fun x => hs b x h2.inF))⟩, h2.ne, h2.inF, ha.bd h2.bd⟩⟩
set_option maxRecDepth 3000 in
theorem PT.over (h : PT w F b q V a) (ha : Adv Nul w F'' w') : PT w' F b q V a := h.far ha (fun _ x => x.elim)
set_option maxRecDepth 3000 in
theorem PT.getx (h : PT w F b q V a) (n : Nat) (hn : n ≤ 64) :
    Calls Try.prog 74 #[.pointer (some ⟨b, 0, none⟩), .int .i64 (n : Int)] w fun e w' => e = .returned (.int .u64 (getT q V a n : Int)) ∧ PT w' F b q V (a + n) ∧ Adv F w F w' := by
  rcases h with ⟨h1, h2, h3⟩ | ⟨h1, h2⟩
  · by_cases hx : a + n ≤ 8 * q
    · refine (get_ok b q V a n F w h2 h3 hn hx).mono ?_
      rintro e w' ⟨rfl, k1, k2, k3⟩
      exact ⟨by rw [getT, if_pos hx], .inl ⟨hx, k1, k3⟩, k2⟩
    · refine (get_short b q V a n F w h2 h3 hn (by omega)).mono ?_
      rintro e w' ⟨rfl, k1, k2⟩
      exact ⟨by rw [getT, if_neg hx]; rfl, .inr ⟨by omega, k1⟩, k2⟩
  · refine (get_err b n 3 F w h2).mono ?_
    rintro e w' ⟨rfl, rfl⟩
    exact ⟨by rw [getT, if_neg (by omega)]; rfl, .inr ⟨by omega, h2⟩, Adv.refl _ _⟩
set_option maxRecDepth 3000 in
theorem PT.textp (h : PT w F b q V a) :
    Calls Try.prog 76 #[.pointer (some ⟨b, 0, none⟩)] w fun e w' => e = .returned (.string (txT q V a)) ∧ PT w' F b q V (ptT q V a) ∧ Adv F w F w' := by
  rcases h with ⟨h1, h2, h3⟩ | ⟨h1, h2⟩
  · by_cases hx : fitT q V a
    · refine (rtext_ok b q V a _ F w h2 h3 rfl hx).mono ?_
      rintro e w' ⟨rfl, k1, k2, k3⟩
      exact ⟨by rw [txT, if_pos hx], by rw [ptT, if_pos hx]; exact .inl ⟨hx, k1, k3⟩, k2⟩
    · refine (rtext_short b q V a F w h2 h3 (.inr (Nat.lt_of_not_le hx))).mono ?_
      rintro e w' ⟨rfl, k1, k2⟩
      exact ⟨by rw [txT, if_neg hx], by rw [ptT, if_neg hx]; exact .inr ⟨by omega, k1⟩, k2⟩
  · have hx : ¬ fitT q V a := by unfold fitT; omega
    refine (rtext_err b 3 F w h2).mono ?_
    rintro e w' ⟨rfl, rfl⟩
    exact ⟨by rw [txT, if_neg hx], by rw [ptT, if_neg hx]; exact .inr ⟨by omega, h2⟩, Adv.refl _ _⟩
set_option maxRecDepth 3000 in
theorem below_adv (h : Below w.heap.size w w') : Adv Nul w Nul w' := Adv.new_ h (fun _ x => x.elim)
set_option maxRecDepth 3000 in
theorem PT.endx (h : PT w F b q V a) :
    Calls Try.prog 51 #[.pointer (some ⟨b, 0, none⟩)] w fun e w' => e = .returned (.int .i64 (endT q V a)) ∧ Adv Nul w Nul w' := by
  rcases h with ⟨h1, h2, h3⟩ | ⟨h1, h2⟩
  · refine (rend_ok b q V a F w h2 h3).mono ?_
    rintro e w' ⟨rfl, k1⟩
    exact ⟨by rw [endT, if_pos h1], below_adv k1⟩
  · refine (rend_err b 3 F w h2).mono ?_
    rintro e w' ⟨rfl, rfl⟩
    exact ⟨by rw [endT, if_neg (by omega)], Adv.refl _ _⟩
set_option maxRecDepth 3000 in
theorem wrap_getT (q V a n : Nat) (hn : n ≤ 62) : wrap64 ((getT q V a n : Nat) : Int) = ((getT q V a n : Nat) : Int) := by
  have h := getT_lt q V a n
  have h2 : 2 ^ n ≤ 2 ^ 62 := Nat.pow_le_pow_right (by decide) hn
  unfold wrap64; omega
set_option maxRecDepth 3000 in
theorem PT.num (h : PT w F b q V a) (n : Nat) (hn : n ≤ 62) :
    Calls Try.prog 73 #[.pointer (some ⟨b, 0, none⟩), .int .i64 (n : Int)] w fun e w' => e = .returned (.int .i64 (getT q V a n : Int)) ∧ PT w' F b q V (a + n) ∧ Adv F w F w' := by
  have HG := Lib.hid (h.getx n (by omega))
  have he := wrap_getT q V a n hn
  obtain ⟨p, hp⟩ : ∃ p, p = getT q V a n := ⟨_, rfl⟩
  rw [← hp] at he HG ⊢
  clear hp h hn
  go_enter Try.func73, Try.ntmps73
  go_wp2_with (first
    | (go_at_call 74; refine HG.out.mono ?_; rintro e w1 ⟨rfl, h1, a1⟩; have H1 := Lib.hid h1; have A1 := Lib.hid a1; clear h1 a1)
    | fail)
  go_ret
  refine ⟨?_, H1.out, A1.out⟩
  show Ending.returned (Value.int IntKind.i64 (wrap64 (p : Int))) = _
  rw [he]
end
set_option maxRecDepth 3000 in
theorem infoFile7 : (Try.prog.info? 25).map (fun i => (i.zero, i.size, i.bytes)) = some (some (.agg #[.int .i64 0, .int .i64 0]), 2, 16) := by kernel_rfl
set_option maxRecDepth 3000 in
theorem sizeFile7 : (Try.prog.info? 25).map (·.size) = some 2 := by kernel_rfl
set_option maxRecDepth 3000 in
theorem built_file7 (i g : Int) : Try.prog.built 25 [(0, .int .i64 i), (1, .int .i64 g)] = some #[.int .i64 i, .int .i64 g] := by kernel_rfl
/-- a file as it is read -/
def flV (q V a : Nat) : Array Value := #[.int .i64 (getT q V a 6 : Nat), .int .i64 (getT q V (a + 6) 31 : Nat)]
set_option maxRecDepth 3000 in
set_option maxHeartbeats 1600000 in
theorem PT.file {w : World} {F : Nat → Prop} {b q V a : Nat} (h : PT w F b q V a) :
    Calls Try.prog 75 #[.pointer (some ⟨b, 0, none⟩)] w fun e w' => e = .returned (.agg (flV q V a)) ∧ PT w' F b q V (a + 37) ∧ Adv F w F w' := by
  obtain ⟨p, hp⟩ : ∃ p, p = getT q V a 6 := ⟨_, rfl⟩
  obtain ⟨r, hr⟩ : ∃ r, r = getT q V (a + 6) 31 := ⟨_, rfl⟩
  have G0 := Lib.hid (fun (w : World) (h : PT w F b q V a) => h.num 6 (by decide))
  have G1 := Lib.hid (fun (w : World) (h : PT w F b q V (a + 6)) => h.num 31 (by decide))
  have HBU := Lib.hid (built_file7 (p : Int) (r : Int))
  obtain ⟨Z, hZ⟩ : ∃ Z : Array Value, Z = #[.int .i64 0, .int .i64 0] := ⟨_, rfl⟩
  have HI := Lib.hid infoFile7
  have HZS := Lib.hid (show Z.size = 2 by rw [hZ]; rfl)
  obtain ⟨C, hC⟩ : ∃ C : Array Value, C = #[.int .i64 (p : Int), .int .i64 (r : Int)] := ⟨_, rfl⟩
  have HCS := Lib.hid (show C.size = 2 by rw [hC]; rfl)
  have HC1 := Lib.hid (show C.all (·.oneCell') = true by rw [hC]; simp [Value.oneCell'])
  have HCV := Lib.hid (show C = flV q V a by rw [hC, hp, hr]; rfl)
  rw [← hp] at G0
  rw [← hr] at G1
  rw [← hZ] at HI
  rw [← hC] at HBU
  have H := Lib.hid h
  clear hp hr hZ hC h
  go_enter Try.func75, Try.ntmps75
  go_wp2_with (first
    | (refine kop_alloc rfl rfl HI.out ?_; intro z w1 hz hb ha; have HB1 := Lib.hid hb; have H1 := Lib.hid (H.out.over ha); have HZF := Lib.hid (show ¬ F z from fun x => by have := H.out.bd z x; omega); have HA1 := Lib.hid (show Adv F w F w1 from (Adv.refl F w).over ha); have HLZ := Lib.hid hz; clear hz hb ha)
    | (go_at_call 73; refine (G0.out _ H1.out).mono ?_; rintro e w2 ⟨rfl, h2, a2⟩; have H2 := Lib.hid h2; have HA2 := Lib.hid (HA1.out.trans a2); have HB2 := Lib.hid (HB1.out.keep (a2.block z HB1.out.lt HZF.out)); clear h2 a2 G0)
    | (go_at_call 73; refine (G1.out _ H2.out).mono ?_; rintro e w3 ⟨rfl, h3, a3⟩; have H3 := Lib.hid h3; have HA3 := Lib.hid (HA2.out.trans a3); have HB3 := Lib.hid (HB2.out.keep (a3.block z HB2.out.lt HZF.out)); clear h3 a3 G1)
    | (refine kop_built rfl rfl (by kernel_rfl) HBU.out ?_)
    | (refine kop_store rfl _ _ rfl z HB3.out rfl rfl sizeFile7 HCS.out HZS.out HC1.out ?_; intro w4 hb ha; have HB4 := Lib.hid hb; have H4 := Lib.hid (H3.out.far ha (fun i hi hg => HZF.out (by rw [← show i = z from hi]; exact hg))); have HA4 := Lib.hid ha; clear hb ha)
    | fail)
  refine bodyPost_ret (kresM rfl _ _ rfl HB4.out Try.underlying25 rfl (by rw [sizeFile7, HCS.out])) rfl ⟨by rw [HCV.out], H4.out, ?_⟩
  have h3 := HA3.out
  have h4 := HA4.out
  refine ⟨h4.os.trans h3.os, h4.tape.trans h3.tape, h4.output.trans h3.output, Nat.le_trans h3.size h4.size, fun i hi hn => ?_, h3.into⟩
  exact (h4.block i (Nat.lt_of_lt_of_le hi h3.size) (fun e => by have := HLZ.out; have : i = z := e; omega)).trans (h3.block i hi hn)
end Go.Proofs.Ytpgeebhepegpaaa
namespace Go.Proofs.Ytpgeebhepegpaaa
open Go.ChangeShapes Go.WideShapes Go.ChangeAt Go.RowKit

/-- the head of what is read -/
def hdW (q V : Nat) : Ms := { ms0 with ty := (getT q V 0 2 : Nat), cl := (getT q V 2 3 : Nat), ss := getT q V 5 40, sq := getT q V 45 40, bo := getT q V 85 40, kd := (getT q V 125 4 : Nat), er := (getT q V 129 5 : Nat) }
set_option maxRecDepth 3000 in
theorem built_head (ty cl ss sq bo kd er : Int) : Try.prog.built 28 [(0, .int .i64 ty), (1, .int .i64 cl), (2, .int .u64 ss), (3, .int .u64 sq), (4, .int .u64 bo), (5, .int .i64 kd), (6, .int .i64 er)] = some #[.int .i64 ty, .int .i64 cl, .int .u64 ss, .int .u64 sq, .int .u64 bo, .int .i64 kd, .int .i64 er, .int .i64 0, .int .i64 0, .int .i64 0, .int .i64 0, .string ⟨#[]⟩, .string ⟨#[]⟩, .int .i64 0, .int .i64 0, .string ⟨#[]⟩, .int .u64 0, nilV] := by kernel_rfl
set_option maxRecDepth 3000 in
set_option maxHeartbeats 3200000 in
theorem PT.head {w : World} {F : Nat → Prop} {b q V : Nat} (h : PT w F b q V 0) :
    Calls Try.prog 49 #[.pointer (some ⟨b, 0, none⟩)] w fun e w' => e = .returned (.agg (mc (hdW q V) nilV)) ∧ PT w' F b q V 134 ∧ Adv F w F w' := by
  obtain ⟨p0, hp0⟩ : ∃ p, p = getT q V 0 2 := ⟨_, rfl⟩
  obtain ⟨p1, hp1⟩ : ∃ p, p = getT q V 2 3 := ⟨_, rfl⟩
  obtain ⟨p2, hp2⟩ : ∃ p, p = getT q V 5 40 := ⟨_, rfl⟩
  obtain ⟨p3, hp3⟩ : ∃ p, p = getT q V 45 40 := ⟨_, rfl⟩
  obtain ⟨p4, hp4⟩ : ∃ p, p = getT q V 85 40 := ⟨_, rfl⟩
  obtain ⟨p5, hp5⟩ : ∃ p, p = getT q V 125 4 := ⟨_, rfl⟩
  obtain ⟨p6, hp6⟩ : ∃ p, p = getT q V 129 5 := ⟨_, rfl⟩
  have e6 := wrap_getT q V 129 5 (by decide)
  rw [← hp6] at e6
  have G0 := Lib.hid (fun (w : World) (h : PT w F b q V 0) => h.num 2 (by decide))
  have G1 := Lib.hid (fun (w : World) (h : PT w F b q V 2) => h.num 3 (by decide))
  have G2 := Lib.hid (fun (w : World) (h : PT w F b q V 5) => h.getx 40 (by decide))
  have G3 := Lib.hid (fun (w : World) (h : PT w F b q V 45) => h.getx 40 (by decide))
  have G4 := Lib.hid (fun (w : World) (h : PT w F b q V 85) => h.getx 40 (by decide))
  have G5 := Lib.hid (fun (w : World) (h : PT w F b q V 125) => h.num 4 (by decide))
  have G6 := Lib.hid (fun (w : World) (h : PT w F b q V 129) => h.getx 5 (by decide))
  rw [← hp0] at G0
  rw [← hp1] at G1
  rw [← hp2] at G2
  rw [← hp3] at G3
  rw [← hp4] at G4
  rw [← hp5] at G5
  rw [← hp6] at G6
  have HBU := Lib.hid (built_head (p0 : Int) (p1 : Int) (p2 : Int) (p3 : Int) (p4 : Int) (p5 : Int) (wrap64 (p6 : Int)))
  obtain ⟨C, hC⟩ : ∃ C, C = mc (hdW q V) nilV := ⟨_, rfl⟩
  have HCE := Lib.hid (show (#[.int .i64 (p0 : Int), .int .i64 (p1 : Int), .int .u64 (p2 : Int), .int .u64 (p3 : Int), .int .u64 (p4 : Int), .int .i64 (p5 : Int), .int .i64 (wrap64 (p6 : Int)), .int .i64 0, .int .i64 0, .int .i64 0, .int .i64 0, .string ⟨#[]⟩, .string ⟨#[]⟩, .int .i64 0, .int .i64 0, .string ⟨#[]⟩, .int .u64 0, nilV] : Array Value) = C by rw [e6, hC, hp0, hp1, hp2, hp3, hp4, hp5, hp6]; rfl)
  have HCS := Lib.hid (show C.size = 18 by rw [hC]; rfl)
  have HC1 := Lib.hid (show C.all (·.oneCell') = true by rw [hC]; exact mc_one _ _ _ _)
  rw [HCE.out] at HBU
  obtain ⟨Z, hZ⟩ : ∃ C, C = mc ms0 nilV := ⟨_, rfl⟩
  have HI := Lib.hid infoM
  have HZS := Lib.hid (show Z.size = 18 by rw [hZ]; rfl)
  rw [← hZ] at HI
  rw [← hC]
  have H := Lib.hid h
  clear hp0 hp1 hp2 hp3 hp4 hp5 hp6 hC hZ h HCE e6
  go_enter Try.func49, Try.ntmps49
  go_wp2_with (first
    | (refine kop_alloc rfl rfl HI.out ?_; intro z w1 hz hb ha; have HB1 := Lib.hid hb; have H1 := Lib.hid (H.out.over ha); have HZF := Lib.hid (show ¬ F z from fun x => by have := H.out.bd z x; omega); have HA1 := Lib.hid (show Adv F w F w1 from (Adv.refl F w).over ha); have HLZ := Lib.hid hz; clear hz hb ha)
    | (go_at_call 73; refine (G0.out _ H1.out).mono ?_; rintro e w2 ⟨rfl, h2, a2⟩; have H2 := Lib.hid h2; have HA2 := Lib.hid (HA1.out.trans a2); have HB2 := Lib.hid (HB1.out.keep (a2.block z HB1.out.lt HZF.out)); clear h2 a2 G0)
    | (go_at_call 73; refine (G1.out _ H2.out).mono ?_; rintro e w3 ⟨rfl, h3, a3⟩; have H3 := Lib.hid h3; have HA3 := Lib.hid (HA2.out.trans a3); have HB3 := Lib.hid (HB2.out.keep (a3.block z HB2.out.lt HZF.out)); clear h3 a3 G1)
    | (go_at_call 74; refine (G2.out _ H3.out).mono ?_; rintro e w4 ⟨rfl, h4, a4⟩; have H4 := Lib.hid h4; have HA4 := Lib.hid (HA3.out.trans a4); have HB4 := Lib.hid (HB3.out.keep (a4.block z HB3.out.lt HZF.out)); clear h4 a4 G2)
    | (go_at_call 74; refine (G3.out _ H4.out).mono ?_; rintro e w5 ⟨rfl, h5, a5⟩; have H5 := Lib.hid h5; have HA5 := Lib.hid (HA4.out.trans a5); have HB5 := Lib.hid (HB4.out.keep (a5.block z HB4.out.lt HZF.out)); clear h5 a5 G3)
    | (go_at_call 74; refine (G4.out _ H5.out).mono ?_; rintro e w6 ⟨rfl, h6, a6⟩; have H6 := Lib.hid h6; have HA6 := Lib.hid (HA5.out.trans a6); have HB6 := Lib.hid (HB5.out.keep (a6.block z HB5.out.lt HZF.out)); clear h6 a6 G4)
    | (go_at_call 73; refine (G5.out _ H6.out).mono ?_; rintro e w7 ⟨rfl, h7, a7⟩; have H7 := Lib.hid h7; have HA7 := Lib.hid (HA6.out.trans a7); have HB7 := Lib.hid (HB6.out.keep (a7.block z HB6.out.lt HZF.out)); clear h7 a7 G5)
    | (go_at_call 74; refine (G6.out _ H7.out).mono ?_; rintro e w8 ⟨rfl, h8, a8⟩; have H8 := Lib.hid h8; have HA8 := Lib.hid (HA7.out.trans a8); have HB8 := Lib.hid (HB7.out.keep (a8.block z HB7.out.lt HZF.out)); clear h8 a8 G6)
    | (refine kop_built rfl rfl ?hbb HBU.out ?_; case hbb => kernel_rfl)
    | (refine kop_store rfl _ _ rfl z HB8.out rfl rfl sizeM HCS.out HZS.out HC1.out ?_; intro w9 hb ha; have HB9 := Lib.hid hb; have H9 := Lib.hid (H8.out.far ha (fun i hi hg => HZF.out (by rw [← show i = z from hi]; exact hg))); have HA9 := Lib.hid ha; clear hb ha)
    | fail)
  refine bodyPost_ret (kresM rfl _ _ rfl HB9.out Try.underlying28 rfl (by rw [sizeM, HCS.out])) rfl ⟨rfl, H9.out, ?_⟩
  have h3 := HA8.out
  have h4 := HA9.out
  refine ⟨h4.os.trans h3.os, h4.tape.trans h3.tape, h4.output.trans h3.output, Nat.le_trans h3.size h4.size, fun i hi hn => ?_, h3.into⟩
  exact (h4.block i (Nat.lt_of_lt_of_le hi h3.size) (fun e => by have := HLZ.out; have : i = z := e; omega)).trans (h3.block i hi hn)
end Go.Proofs.Ytpgeebhepegpaaa
namespace Go.Proofs.Ytpgeebhepegpaaa
open Go.ChangeShapes Go.WideShapes Go.ChangeAt Go.RowKit

section
variable {ops : Array Oper} {rest : List Oper} {o : Oper} {a : Act} {w : World} {Q : Exit → Act → World → Prop}
set_option maxRecDepth 3000 in
/-- a file stored inside a block -/
theorem kop_storeF {t : TypeId} {C : Array Value} {i g : Value} (hgd : o.guard = none) (x y : Operand) (ho : o.op = .store 25 x y) (z k : Nat) (hB : Blk w z t C) (hx : a.eval x = .pointer (some ⟨z, k, none⟩)) (hy : a.eval y = .agg #[i, g]) (hk : k + 2 ≤ C.size) (h1 : i.oneCell' = true ∧ g.oneCell' = true)
    (h : ∀ w', Blk w' z t ((C.setIfInBounds k i).setIfInBounds (k + 1) g) → Adv (One z) w (One z) w' → wpList Try.prog ops Q rest (a.put o.dst undef) w') : wpList Try.prog ops Q (o :: rest) a w := by
  refine wpList_store_mid hgd 25 x y ho z k #[i, g] hx hy (fun j hj => ⟨?_, hB.frozen _⟩) sizeFile7 (by simp [h1.1, h1.2]) ?_
  · rw [hB.cell (k + j), Array.getElem?_eq_getElem (by have : j < 2 := hj; omega)]; rfl
  · refine h ((w.setCell ⟨z, k, none⟩ i).setCell ⟨z, k + 1, none⟩ g) ((hB.set_ k i).set_ (k + 1) g) ?_
    exact ((Adv.refl (One z) w).setCell (p := ⟨z, k, none⟩) (.inl rfl) _).setCell (p := ⟨z, k + 1, none⟩) (.inl rfl) _
end
/-! what has been read behind each field -/
def mw1 (q V : Nat) (s : List Nat) : Ms := { hdW q V with fi := if 102 ∈ s then (getT q V 134 6 : Nat) else 0, fg := if 102 ∈ s then (getT q V 140 31 : Nat) else 0 }
def mw2 (q V : Nat) (s : List Nat) : Ms := { mw1 q V s with di := if 100 ∈ s then (getT q V (pw1 s) 6 : Nat) else 0, dg := if 100 ∈ s then (getT q V (pw1 s + 6) 31 : Nat) else 0 }
def mw3 (q V : Nat) (s : List Nat) : Ms := { mw2 q V s with nm := if 110 ∈ s then txT q V (pw2 s) else ⟨#[]⟩ }
def mw4 (q V : Nat) (s : List Nat) : Ms := { mw3 q V s with ot := if 111 ∈ s then txT q V (pw3 q V s) else ⟨#[]⟩ }
def mw5 (q V : Nat) (s : List Nat) : Ms := { mw4 q V s with mo := if 107 ∈ s then (getT q V (pw4 q V s) 2 : Nat) else 0 }
def mw6 (q V : Nat) (s : List Nat) : Ms := { mw5 q V s with at_ := if 97 ∈ s then (getT q V (pw5 q V s) 3 : Nat) else 0 }
def mw7 (q V : Nat) (s : List Nat) : Ms := { mw6 q V s with da := if 116 ∈ s then txT q V (pw6 q V s) else ⟨#[]⟩ }
def mw8 (q V : Nat) (s : List Nat) : Ms := { mw7 q V s with ve := if 118 ∈ s then getT q V (pw7 q V s) 40 else 0 }
set_option maxRecDepth 3000 in
theorem mw_all (q V : Nat) (s : List Nat) (v : Value) : mc (mw8 q V s) v = mc (rdW q V s) v := rfl
set_option maxRecDepth 3000 in
theorem mw1_yes {q V : Nat} {s : List Nat} (hc : 102 ∈ s) : ((mc (hdW q V) nilV).setIfInBounds 7 (.int .i64 (getT q V (134) 6 : Nat))).setIfInBounds 8 (.int .i64 (getT q V (134 + 6) 31 : Nat)) = mc (mw1 q V s) nilV := by
  unfold mw1
  rw [if_pos hc, if_pos hc]
  rfl
set_option maxRecDepth 3000 in
theorem mw1_no {q V : Nat} {s : List Nat} (hc : ¬ 102 ∈ s) : mc (hdW q V) nilV = mc (mw1 q V s) nilV := by
  unfold mw1
  rw [if_neg hc, if_neg hc]
  rfl
set_option maxRecDepth 3000 in
theorem pw1_yes {s : List Nat} (hc : 102 ∈ s) : pw1 s = 134 + 37 := by unfold pw1; rw [if_pos hc]
set_option maxRecDepth 3000 in
theorem pw1_no {s : List Nat} (hc : ¬ 102 ∈ s) : pw1 s = 134 := by unfold pw1; rw [if_neg hc] <;> rfl
set_option maxRecDepth 3000 in
theorem mw2_yes {q V : Nat} {s : List Nat} (hc : 100 ∈ s) : ((mc (mw1 q V s) nilV).setIfInBounds 9 (.int .i64 (getT q V (pw1 s) 6 : Nat))).setIfInBounds 10 (.int .i64 (getT q V (pw1 s + 6) 31 : Nat)) = mc (mw2 q V s) nilV := by
  unfold mw2
  rw [if_pos hc, if_pos hc]
  rfl
set_option maxRecDepth 3000 in
theorem mw2_no {q V : Nat} {s : List Nat} (hc : ¬ 100 ∈ s) : mc (mw1 q V s) nilV = mc (mw2 q V s) nilV := by
  unfold mw2
  rw [if_neg hc, if_neg hc]
  rfl
set_option maxRecDepth 3000 in
theorem pw2_yes {s : List Nat} (hc : 100 ∈ s) : pw2 s = pw1 s + 37 := by unfold pw2; rw [if_pos hc]
set_option maxRecDepth 3000 in
theorem pw2_no {s : List Nat} (hc : ¬ 100 ∈ s) : pw2 s = pw1 s := by unfold pw2; rw [if_neg hc] <;> rfl
set_option maxRecDepth 3000 in
theorem mw3_yes {q V : Nat} {s : List Nat} (hc : 110 ∈ s) : (mc (mw2 q V s) nilV).setIfInBounds 11 (.string (txT q V (pw2 s))) = mc (mw3 q V s) nilV := by
  unfold mw3
  rw [if_pos hc]
  rfl
set_option maxRecDepth 3000 in
theorem mw3_no {q V : Nat} {s : List Nat} (hc : ¬ 110 ∈ s) : mc (mw2 q V s) nilV = mc (mw3 q V s) nilV := by
  unfold mw3
  rw [if_neg hc]
  rfl
set_option maxRecDepth 3000 in
theorem pw3_yes {q V : Nat} {s : List Nat} (hc : 110 ∈ s) : pw3 q V s = ptT q V (pw2 s) := by unfold pw3; rw [if_pos hc]
set_option maxRecDepth 3000 in
theorem pw3_no {q V : Nat} {s : List Nat} (hc : ¬ 110 ∈ s) : pw3 q V s = pw2 s := by unfold pw3; rw [if_neg hc] <;> rfl
set_option maxRecDepth 3000 in
theorem mw4_yes {q V : Nat} {s : List Nat} (hc : 111 ∈ s) : (mc (mw3 q V s) nilV).setIfInBounds 12 (.string (txT q V (pw3 q V s))) = mc (mw4 q V s) nilV := by
  unfold mw4
  rw [if_pos hc]
  rfl
set_option maxRecDepth 3000 in
theorem mw4_no {q V : Nat} {s : List Nat} (hc : ¬ 111 ∈ s) : mc (mw3 q V s) nilV = mc (mw4 q V s) nilV := by
  unfold mw4
  rw [if_neg hc]
  rfl
set_option maxRecDepth 3000 in
theorem pw4_yes {q V : Nat} {s : List Nat} (hc : 111 ∈ s) : pw4 q V s = ptT q V (pw3 q V s) := by unfold pw4; rw [if_pos hc]
set_option maxRecDepth 3000 in
theorem pw4_no {q V : Nat} {s : List Nat} (hc : ¬ 111 ∈ s) : pw4 q V s = pw3 q V s := by unfold pw4; rw [if_neg hc] <;> rfl
set_option maxRecDepth 3000 in
theorem mw5_yes {q V : Nat} {s : List Nat} (hc : 107 ∈ s) : (mc (mw4 q V s) nilV).setIfInBounds 13 (.int .i64 (getT q V (pw4 q V s) 2 : Nat)) = mc (mw5 q V s) nilV := by
  unfold mw5
  rw [if_pos hc]
  rfl
set_option maxRecDepth 3000 in
theorem mw5_no {q V : Nat} {s : List Nat} (hc : ¬ 107 ∈ s) : mc (mw4 q V s) nilV = mc (mw5 q V s) nilV := by
  unfold mw5
  rw [if_neg hc]
  rfl
set_option maxRecDepth 3000 in
theorem pw5_yes {q V : Nat} {s : List Nat} (hc : 107 ∈ s) : pw5 q V s = pw4 q V s + 2 := by unfold pw5; rw [if_pos hc]
set_option maxRecDepth 3000 in
theorem pw5_no {q V : Nat} {s : List Nat} (hc : ¬ 107 ∈ s) : pw5 q V s = pw4 q V s := by unfold pw5; rw [if_neg hc] <;> rfl
set_option maxRecDepth 3000 in
theorem mw6_yes {q V : Nat} {s : List Nat} (hc : 97 ∈ s) : (mc (mw5 q V s) nilV).setIfInBounds 14 (.int .i64 (getT q V (pw5 q V s) 3 : Nat)) = mc (mw6 q V s) nilV := by
  unfold mw6
  rw [if_pos hc]
  rfl
set_option maxRecDepth 3000 in
theorem mw6_no {q V : Nat} {s : List Nat} (hc : ¬ 97 ∈ s) : mc (mw5 q V s) nilV = mc (mw6 q V s) nilV := by
  unfold mw6
  rw [if_neg hc]
  rfl
set_option maxRecDepth 3000 in
theorem pw6_yes {q V : Nat} {s : List Nat} (hc : 97 ∈ s) : pw6 q V s = pw5 q V s + 3 := by unfold pw6; rw [if_pos hc]
set_option maxRecDepth 3000 in
theorem pw6_no {q V : Nat} {s : List Nat} (hc : ¬ 97 ∈ s) : pw6 q V s = pw5 q V s := by unfold pw6; rw [if_neg hc] <;> rfl
set_option maxRecDepth 3000 in
theorem mw7_yes {q V : Nat} {s : List Nat} (hc : 116 ∈ s) : (mc (mw6 q V s) nilV).setIfInBounds 15 (.string (txT q V (pw6 q V s))) = mc (mw7 q V s) nilV := by
  unfold mw7
  rw [if_pos hc]
  rfl
set_option maxRecDepth 3000 in
theorem mw7_no {q V : Nat} {s : List Nat} (hc : ¬ 116 ∈ s) : mc (mw6 q V s) nilV = mc (mw7 q V s) nilV := by
  unfold mw7
  rw [if_neg hc]
  rfl
set_option maxRecDepth 3000 in
theorem pw7_yes {q V : Nat} {s : List Nat} (hc : 116 ∈ s) : pw7 q V s = ptT q V (pw6 q V s) := by unfold pw7; rw [if_pos hc]
set_option maxRecDepth 3000 in
theorem pw7_no {q V : Nat} {s : List Nat} (hc : ¬ 116 ∈ s) : pw7 q V s = pw6 q V s := by unfold pw7; rw [if_neg hc] <;> rfl
set_option maxRecDepth 3000 in
theorem mw8_yes {q V : Nat} {s : List Nat} (hc : 118 ∈ s) : (mc (mw7 q V s) nilV).setIfInBounds 16 (.int .u64 (getT q V (pw7 q V s) 40 : Nat)) = mc (mw8 q V s) nilV := by
  unfold mw8
  rw [if_pos hc]
  rfl
set_option maxRecDepth 3000 in
theorem mw8_no {q V : Nat} {s : List Nat} (hc : ¬ 118 ∈ s) : mc (mw7 q V s) nilV = mc (mw8 q V s) nilV := by
  unfold mw8
  rw [if_neg hc]
  rfl
set_option maxRecDepth 3000 in
theorem pw8_yes {q V : Nat} {s : List Nat} (hc : 118 ∈ s) : pw8 q V s = pw7 q V s + 40 := by unfold pw8; rw [if_pos hc]
set_option maxRecDepth 3000 in
theorem pw8_no {q V : Nat} {s : List Nat} (hc : ¬ 118 ∈ s) : pw8 q V s = pw7 q V s := by unfold pw8; rw [if_neg hc] <;> rfl
end Go.Proofs.Ytpgeebhepegpaaa
namespace Go.Proofs.Ytpgeebhepegpaaa
open Go.ChangeShapes Go.WideShapes Go.ChangeAt Go.RowKit

set_option maxRecDepth 3000 in
theorem Adv.newF {W w w' : World} {F F' : Nat → Prop} (h : Adv Nul W Nul w) (ha : Adv F w F' w') (fn : ∀ q, F q → W.heap.size ≤ q) : Adv Nul W Nul w' :=
  ⟨ha.os.trans h.os, ha.tape.trans h.tape, ha.output.trans h.output, Nat.le_trans h.size ha.size, fun k hk _ => (ha.block k (Nat.lt_of_lt_of_le hk h.size) (fun hf => absurd (fn k hf) (by omega))).trans (h.block k hk (fun x => x)), fun k hk => hk.elim⟩
/-- between two entries that are read -/
structure PaS (W : World) (b V j : Nat) (F : Nat → Prop) (l : List En) (v : Value) (w : World) : Prop where
  rs : RSt w F b 128 V (172 * j)
  bd : Bd F w
  ex : ∃ F2, Sl w F2 54 4 v l.length (ecs l) ∧ Sep F F2 ∧ ∀ q, F2 q → W.heap.size ≤ q
  ad : Adv Nul W Nul w
  fn : ∀ q, F q → W.heap.size ≤ q
section
variable {W w w' : World} {b V j : Nat} {F : Nat → Prop} {l : List En} {v : Value}
set_option maxRecDepth 3000 in
theorem PaS.alloc (h : PaS W b V j F l v w) (o : Obj) : PaS W b V j F l v (w.alloc o) := by
  obtain ⟨F2, h1, h2, h3⟩ := h.ex
  exact ⟨h.rs.alloc h.bd o, fun q hq => Nat.lt_of_lt_of_le (h.bd q hq) (by simp), ⟨F2, h1.far (F' := Nul) ((Adv.refl Nul w).alloc o) (fun _ x _ => x), h2, h3⟩, h.ad.alloc o, h.fn⟩
set_option maxRecDepth 3000 in
theorem PaS.form (h : PaS W b V j F l v w) : ∃ A c, v = .slice A l.length c := by
  obtain ⟨F2, h1, _⟩ := h.ex
  obtain ⟨A, c, e, _⟩ := h1.form0
  exact ⟨A, c, e⟩
set_option maxRecDepth 3000 in
theorem PaS.read (h : PaS W b V j F l v w) (hr : RSt w' F b 128 V (172 * (j + 1))) (ha : Adv F w F w') (hb : Bd F w') : PaS W b V (j + 1) F l v w' := by
  obtain ⟨F2, h1, h2, h3⟩ := h.ex
  exact ⟨hr, hb, ⟨F2, h1.far ha h2, h2, h3⟩, h.ad.newF ha h.fn, h.fn⟩
set_option maxRecDepth 3000 in
theorem PaS.own (h : PaS W b V j F l v w) : w.ownsRow 0 54 4 v l.length (ecs l) := by
  obtain ⟨F2, h1, _⟩ := h.ex
  exact h1.own
set_option maxRecDepth 3000 in
theorem PaS.push {e : En} {v' : Value} (h : PaS W b V j F l v w) (hown : w'.ownsRow 0 54 4 v' (l.length + 1) (ecs l ++ ec e)) (hg : w.grownBy w' v.ownBlock) (hat : v'.ownBlock = v.ownBlock ∨ v'.ownBlock = some w.heap.size) : PaS W b V j F (l ++ [e]) v' w' := by
  obtain ⟨F2, h1, h2, h3⟩ := h.ex
  have hF' : ∀ q, (F2 q ∨ v'.ownBlock = some q) → F2 q ∨ w.heap.size ≤ q := by
    rintro q (h | h)
    · exact .inl h
    · rcases hat with e | e
      · exact .inl (h1.inF q (by rw [← e]; exact h))
      · rw [e] at h; injection h with h; right; omega
  have hA : Adv F2 w (fun q => F2 q ∨ v'.ownBlock = some q) w' := by
    have h5 := (Adv.refl F2 w).grown hg (fun q hq => .inl (h1.inF q hq))
    exact ⟨h5.os, h5.tape, h5.output, h5.size, h5.block, hF'⟩
  have hsep : Sep F (fun q => F2 q ∨ v'.ownBlock = some q) := fun q a c => by
    rcases hF' q c with d | d
    · exact h2 q a d
    · have := h.bd q a; omega
  obtain ⟨rv, hB, hS⟩ := h.rs.ex
  have hb := hA.block b hB.lt (fun f => h2 b h.rs.inF f)
  refine ⟨⟨⟨rv, hB.keep hb, hS.far hA h2.symm⟩, h.rs.inF, h.rs.le, h.rs.sm⟩, hA.bd h.bd, ⟨_, ⟨by rw [List.length_append, ecs_append, ecs_one_eq]; exact hown, fun q hq => .inr hq, ?_⟩, hsep, fun q hq => ?_⟩, h.ad.newF hA h3, h.fn⟩
  · rintro q (c | c)
    · exact Nat.lt_of_lt_of_le (h1.bd q c) hA.size
    · exact (hown.lt q c).2
  · rcases hF' q hq with d | d
    · exact h3 q d
    · exact Nat.le_trans h.ad.size d
end
set_option maxRecDepth 3000 in
theorem rd_one2 (w : World) (o : Obj) (e : En) : Rd ((w.alloc o).alloc (.cells (ea e) 54)) 4 (.slice (some ⟨w.heap.size + 1, 0, none⟩) 1 1) 1 (ec e) := by
  have := rd_one (w.alloc o) e
  rwa [World.size_alloc] at this
set_option maxRecDepth 3000 in
theorem rdE_size (V k : Nat) : (rdE V k (min (rdN V k) 16)).s.size = min (rdN V k) 16 := by
  show (bytesAt 128 V (172 * k + 44) (min (rdN V k) 16)).toArray.size = _
  rw [List.size_toArray, bytesAt_length]
set_option maxRecDepth 3000 in
theorem size0 {s : ByteArray} (h : s.size = 0) : s = ⟨#[]⟩ := by
  apply data_ext
  rw [List.eq_nil_of_length_eq_zero (show s.data.toList.length = 0 from h)]
set_option maxRecDepth 3000 in
theorem ne_nil {s : ByteArray} (h : s.size ≠ 0) : (s.toList == []) = false := by
  rw [beq_eq_false_iff_ne, ByteArray.toList_eq]
  intro e
  exact h (by show s.data.size = 0; rw [← Array.length_toList, e]; rfl)
def PaL (W : World) (b V : Nat) (F : Nat → Prop) (t4 t8 : Value) (wr : World) : Prop := ∃ j : Nat, t8 = .int .i64 (j : Int) ∧ j ≤ 5 ∧ PaS W b V j F (ptP V j) t4 wr
end Go.Proofs.Ytpgeebhepegpaaa
namespace Go.Proofs.Ytpgeebhepegpaaa
open Go.ChangeShapes Go.WideShapes Go.ChangeAt Go.RowKit

/-- entries in a slice of one's own, new since W, apart from the blocks of G -/
structure EnG (W : World) (G : Nat → Prop) (l : List En) (v : Value) (w : World) : Prop where
  ex : ∃ F2, Sl w F2 54 4 v l.length (ecs l) ∧ Sep G F2 ∧ ∀ q, F2 q → W.heap.size ≤ q
  bd : Bd G w
  le : W.heap.size ≤ w.heap.size
  sz : ∀ e ∈ l, e.s.size ≤ maxLen
section
variable {W w w' : World} {G F F' : Nat → Prop} {l : List En} {v : Value}
set_option maxRecDepth 3000 in
theorem EnG.nil (hb : Bd G w) (hl : W.heap.size ≤ w.heap.size) : EnG W G [] (.slice none 0 0) w := ⟨⟨Nul, Sl.nil _ _ _, fun _ _ x => x, fun _ x => x.elim⟩, hb, hl, fun _ h => by simp at h⟩
set_option maxRecDepth 3000 in
theorem EnG.form (h : EnG W G l v w) : ∃ A c, v = .slice A l.length c := by
  obtain ⟨F2, h1, _⟩ := h.ex
  obtain ⟨A, c, e, _⟩ := h1.form0
  exact ⟨A, c, e⟩
set_option maxRecDepth 3000 in
theorem EnG.rd (h : EnG W G l v w) : EnR7 w v l := by
  obtain ⟨F2, h1, _⟩ := h.ex
  exact ⟨h1.rd, h.sz⟩
set_option maxRecDepth 3000 in
theorem EnG.far (h : EnG W G l v w) (ha : Adv F w F' w') (hs : ∀ q, F q → G q) : EnG W G l v w' := by
  obtain ⟨F2, h1, h2, h3⟩ := h.ex
  exact ⟨⟨F2, h1.far ha (fun q a c => h2 q (hs q a) c), h2, h3⟩, fun q hq => Nat.lt_of_lt_of_le (h.bd q hq) ha.size, Nat.le_trans h.le ha.size, h.sz⟩
set_option maxRecDepth 3000 in
theorem EnG.over (h : EnG W G l v w) (ha : Adv Nul w F' w') : EnG W G l v w' := h.far ha (fun _ x => x.elim)
set_option maxRecDepth 3000 in
/-- one block more, a new one -/
theorem EnG.grow (h : EnG W G l v w) {y : Nat} (hy : w.heap.size ≤ y) (ha : Adv Nul w F' w') (hyw : y < w'.heap.size) : EnG W (fun q => G q ∨ q = y) l v w' := by
  obtain ⟨F2, h1, h2, h3⟩ := h.ex
  refine ⟨⟨F2, h1.far ha (fun _ x _ => x), fun q a c => ?_, h3⟩, fun q hq => ?_, Nat.le_trans h.le ha.size, h.sz⟩
  · rcases a with a | a
    · exact h2 q a c
    · have := h1.bd q c; omega
  · rcases hq with a | a
    · exact Nat.lt_of_lt_of_le (h.bd q a) ha.size
    · omega
set_option maxRecDepth 3000 in
theorem EnG.less (h : EnG W G l v w) {G' : Nat → Prop} (hs : ∀ q, G' q → G q) : EnG W G' l v w := by
  obtain ⟨F2, h1, h2, h3⟩ := h.ex
  exact ⟨⟨F2, h1, fun q a c => h2 q (hs q a) c, h3⟩, fun q hq => h.bd q (hs q hq), h.le, h.sz⟩
set_option maxRecDepth 3000 in
theorem EnG.own (h : EnG W G l v w) : w.ownsRow 0 54 4 v l.length (ecs l) := by
  obtain ⟨F2, h1, _⟩ := h.ex
  exact h1.own
set_option maxRecDepth 3000 in
theorem EnG.push {e : En} {v' : Value} (h : EnG W G l v w) (he : e.s.size ≤ maxLen) (hown : w'.ownsRow 0 54 4 v' (l.length + 1) (ecs l ++ ec e)) (hg : w.grownBy w' v.ownBlock) (hat : v'.ownBlock = v.ownBlock ∨ v'.ownBlock = some w.heap.size) :
    EnG W G (l ++ [e]) v' w' ∧ ∃ F2 F3, Adv F2 w F3 w' ∧ Sep F2 G ∧ ∀ q, F2 q → W.heap.size ≤ q := by
  obtain ⟨F2, h1, h2, h3⟩ := h.ex
  have hF' : ∀ q, (F2 q ∨ v'.ownBlock = some q) → F2 q ∨ w.heap.size ≤ q := by
    rintro q (h | h)
    · exact .inl h
    · rcases hat with e | e
      · exact .inl (h1.inF q (by rw [← e]; exact h))
      · rw [e] at h; injection h with h; right; omega
  have hA : Adv F2 w (fun q => F2 q ∨ v'.ownBlock = some q) w' := by
    have h5 := (Adv.refl F2 w).grown hg (fun q hq => .inl (h1.inF q hq))
    exact ⟨h5.os, h5.tape, h5.output, h5.size, h5.block, hF'⟩
  have hsep : Sep G (fun q => F2 q ∨ v'.ownBlock = some q) := fun q a c => by
    rcases hF' q c with d | d
    · exact h2 q a d
    · have := h.bd q a; omega
  refine ⟨⟨⟨_, ⟨by rw [List.length_append, ecs_append, ecs_one_eq]; exact hown, fun q hq => .inr hq, ?_⟩, hsep, fun q hq => ?_⟩, fun q hq => Nat.lt_of_lt_of_le (h.bd q hq) hA.size, Nat.le_trans h.le hA.size, ?_⟩, F2, _, hA, h2.symm, h3⟩
  · rintro q (c | c)
    · exact Nat.lt_of_lt_of_le (h1.bd q c) hA.size
    · exact (hown.lt q c).2
  · rcases hF' q hq with d | d
    · exact h3 q d
    · exact Nat.le_trans h.le d
  · intro x hx
    rcases List.mem_append.1 hx with h' | h'
    · exact h.sz x h'
    · rw [List.mem_singleton.1 h']; exact he
end
end Go.Proofs.Ytpgeebhepegpaaa
namespace Go.Proofs.Ytpgeebhepegpaaa
open Go.ChangeShapes Go.WideShapes Go.ChangeAt Go.RowKit

set_option maxRecDepth 3000 in
theorem txT_lt (q V a : Nat) : (txT q V a).size < 65536 := by
  by_cases h : fitT q V a
  · rw [txT_size h]; exact bitsAt_lt q V a 16
  · unfold txT; rw [if_neg h]; decide
set_option maxRecDepth 3000 in
theorem txT_le (q V a : Nat) : (txT q V a).size ≤ q := by
  by_cases h : fitT q V a
  · rw [txT_size h]; unfold fitT at h; omega
  · unfold txT; rw [if_neg h]; exact Nat.zero_le _
set_option maxRecDepth 3000 in
theorem enW_len (q V p n : Nat) : (enW q V p n).length = n := by simp [enW]
set_option maxRecDepth 3000 in
theorem advFx {W w w' : World} {F F2 F3 : Nat → Prop} (h : Adv F W F w) (ha : Adv F2 w F3 w') (h3 : ∀ q, F2 q → W.heap.size ≤ q) : Adv F W F w' :=
  ⟨ha.os.trans h.os, ha.tape.trans h.tape, ha.output.trans h.output, Nat.le_trans h.size ha.size, fun k hk hn => (ha.block k (Nat.lt_of_lt_of_le hk h.size) (fun hf => absurd (h3 k hf) (by omega))).trans (h.block k hk hn), fun _ hk => .inl hk⟩
def PeL (W : World) (F : Nat → Prop) (b q V p n : Nat) (t3 t6 : Value) (wr : World) : Prop := ∃ k : Nat, t6 = .int .i64 (k : Int) ∧ k ≤ n ∧ EnG W F (enW q V p k) t3 wr ∧ PT wr F b q V (pwE q V p k) ∧ Adv F W F wr
set_option maxRecDepth 3000 in
set_option maxHeartbeats 3200000 in
theorem PT.ens {w : World} {F : Nat → Prop} {b q V p : Nat} (h : PT w F b q V p) :
    Calls Try.prog 77 #[.pointer (some ⟨b, 0, none⟩)] w fun e w' => ∃ v, e = .returned v ∧ EnG w F (enW q V (p + 5) (getT q V p 5)) v w' ∧ PT w' F b q V (pwE q V (p + 5) (getT q V p 5)) ∧ Adv F w F w' := by
  obtain ⟨n, hn⟩ : ∃ n, n = getT q V p 5 := ⟨_, rfl⟩
  have HN := Lib.hid (show n < 32 by rw [hn]; exact getT_lt q V p 5)
  have g0 := h.num 5 (by decide)
  obtain ⟨p5, hp5⟩ : ∃ p5, p5 = p + 5 := ⟨_, rfl⟩
  rw [← hn, ← hp5] at g0
  have G0 := Lib.hid g0
  rw [← hn, ← hp5]
  clear hn h g0 hp5
  go_enter Try.func77, Try.ntmps77
  go_wp2_with (first
    | (go_at_call 73; refine G0.out.mono ?_; clear G0; rintro e w1 ⟨rfl, h1, a1⟩; have H1 := Lib.hid h1; have A1 := Lib.hid a1; clear h1 a1)
    | fail)
  go_loopw [3, 6] (PeL w F b q V p5 n) (fun _ t _ => n - (intOf t).toNat)
  case atStart => exact ⟨0, rfl, Nat.zero_le _, EnG.nil H1.out.bd A1.out.size, H1.out, A1.out⟩
  case round =>
    obtain ⟨k, rfl, hk, hE, hP, hA⟩ := hrel
    have hf := hE.form
    rw [enW_len] at hf
    obtain ⟨A3, c3, rfl⟩ := hf
    have HE := Lib.hid hE
    have HP := Lib.hid hP
    have HA := Lib.hid hA
    clear hE hP hA
    by_cases hlt : k < n
    · obtain ⟨P, hP⟩ : ∃ P, P = pwE q V p5 k := ⟨_, rfl⟩
      obtain ⟨sz, hsz⟩ : ∃ s, s = txT q V P := ⟨_, rfl⟩
      obtain ⟨Q, hQ⟩ : ∃ Q, Q = ptT q V P := ⟨_, rfl⟩
      obtain ⟨i, hi⟩ : ∃ i, i = getT q V Q 6 := ⟨_, rfl⟩
      obtain ⟨g, hg⟩ : ∃ g, g = getT q V (Q + 6) 31 := ⟨_, rfl⟩
      obtain ⟨d, hd⟩ : ∃ d, d = getT q V (Q + 37) 2 := ⟨_, rfl⟩
      have HNX := Lib.hid (show enW q V p5 (k + 1) = enW q V p5 k ++ [⟨sz, (i : Int), (g : Int), (d : Int)⟩] by rw [enW_succ, ← hP, hsz, hi, hg, hd, hQ]; rfl)
      have HPX := Lib.hid (show pwE q V p5 (k + 1) = Q + 39 by show ptT q V (pwE q V p5 k) + 39 = _; rw [← hP, hQ])
      have T0 := Lib.hid (fun (w : World) (h : PT w F b q V P) => h.textp)
      have T1 := Lib.hid (fun (w : World) (h : PT w F b q V Q) => h.file)
      have T2 := Lib.hid (fun (w : World) (h : PT w F b q V (Q + 37)) => h.num 2 (by decide))
      have HSZ := Lib.hid (show sz.size ≤ maxLen by rw [hsz]; have := txT_lt q V P; unfold maxLen; omega)
      rw [← hsz, ← hQ] at T0
      unfold flV at T1
      rw [← hi, ← hg] at T1
      rw [← hd] at T2
      rw [← hP] at HP
      have HLT := Lib.hid hlt
      have HLEN := Lib.hid (enW_len q V p5 k)
      obtain ⟨L, hL⟩ : ∃ L, L = enW q V p5 k := ⟨_, rfl⟩
      rw [← hL] at HE HNX HLEN
      have hki : (k : Int) < (n : Int) := by omega
      have hn31 : (n : Int) ≤ 31 := by have := HN.out; omega
      clear hP hsz hQ hi hg hd hlt hL hk
      go_wp2_with (first
        | (go_at_call 76; refine (T0.out _ HP.out).mono ?_; rintro e w2 ⟨rfl, h2, a2⟩; have HP2 := Lib.hid h2; have HE2 := Lib.hid (HE.out.far a2 (fun _ x => x)); have HA2 := Lib.hid (HA.out.trans a2); clear h2 a2 T0)
        | (go_at_call 75; refine (T1.out _ HP2.out).mono ?_; rintro e w3 ⟨rfl, h3, a3⟩; have HP3 := Lib.hid h3; have HE3 := Lib.hid (HE2.out.far a3 (fun _ x => x)); have HA3 := Lib.hid (HA2.out.trans a3); clear h3 a3 T1)
        | (go_at_call 73; refine (T2.out _ HP3.out).mono ?_; rintro e w4 ⟨rfl, h4, a4⟩; have HB4 := Lib.hid ((Adv.refl Nul w4).alloc (.cells #[.string sz, .int .i64 (i : Int), .int .i64 (g : Int), .int .i64 (d : Int)] 54)); have HP4 := Lib.hid (h4.over HB4.out); have HE4 := Lib.hid ((HE3.out.far a4 (fun _ x => x)).over HB4.out); have HA4 := Lib.hid ((HA3.out.trans a4).over HB4.out); have hown := HE4.out.own; rw [HLEN.out] at hown; have hrd := rd_one w4 ⟨sz, (i : Int), (g : Int), (d : Int)⟩; clear h4 a4 T2)
        | (at_builtin; refine wpList_append_en rfl (.tmp 8) (.tmp 16) rfl rfl rfl hown hrd (ec_one _) (by have := HLT.out; have := HN.out; omega) ?c5)
        | fail)
      case c5 =>
        intro v' w5 hown5 hg5 hat5
        obtain ⟨hp, F2, F3, k1, k2, k3⟩ := HE4.out.push (e := ⟨sz, (i : Int), (g : Int), (d : Int)⟩) HSZ.out (by rw [HLEN.out]; exact hown5) hg5 (by rw [World.size_alloc]; exact hat5)
        rw [← HNX.out] at hp
        have hf := hp.form
        rw [enW_len] at hf
        obtain ⟨A5, c5, rfl⟩ := hf
        have HE5 := Lib.hid hp
        have HP5 := Lib.hid (HP4.out.far k1 k2)
        have HA5 := Lib.hid (advFx HA4.out k1 k3)
        clear hp hown5 hg5 hat5 hown hrd k1 k2 k3
        go_wp2_with fail
        exact ⟨⟨k + 1, by go_num, HLT.out, HE5.out, by rw [HPX.out]; exact HP5.out, HA5.out⟩, by have := HLT.out; simp [intOf] <;> omega⟩
    · obtain rfl : k = n := by omega
      clear hlt hk
      go_wp2_with fail
      go_ret
      exact ⟨_, rfl, HE.out, HP.out, HA.out⟩
end Go.Proofs.Ytpgeebhepegpaaa
