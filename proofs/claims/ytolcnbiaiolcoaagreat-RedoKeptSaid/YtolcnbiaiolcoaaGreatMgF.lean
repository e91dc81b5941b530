/- RedoKept: sectors, torn writes of pieces (arithmetic). RedoKept: records of any epochs (arithmetic). RedoKept: what a crash leaves of the pending transactions (arithmetic). What a crash leaves of a sector, as numbers. RedoKept: what a crash leaves of a ring (arithmetic). What is known of what lasts of a log's disk; what is opened of it. What a crash leaves of a log: pieces that wait. What a crash leaves of a log: homes that wait, a head that waits. -/
import Derived.Test.YtolcnbiaiolcoaaGreatMgDa
import Derived.Test.YtolcnbiaiolcoaaGreatDkM
namespace Go.Proofs.YtolcnbiaiolcoaaGreat
open Go.RowKit Go.Maps

/-- a sector of heads or of the ring, written in epochs below E -/
structure RSec (E : Nat) (X : List Nat) : Prop where
  len : X.length = 128
  b : ∀ x ∈ X, x < 256
  x0 : X[0]? = some 0
  x1 : X[1]? = some 0
  x2 : ∃ y, X[2]? = some y ∧ y < E
  y0 : X[120]? = some 0
  y1 : X[121]? = some 0
  y2 : ∃ y, X[122]? = some y ∧ y < E
theorem RSec.old {E : Nat} {X : List Nat} (h : RSec E X) : Old E X := ⟨h.len, h.b, h.x0, h.x1, h.y2⟩
theorem RSec.mono {E E' : Nat} {X : List Nat} (h : RSec E X) (he : E ≤ E') : RSec E' X := by
  obtain ⟨y, k1, k2⟩ := h.x2
  obtain ⟨z, k3, k4⟩ := h.y2
  exact ⟨h.len, h.b, h.x0, h.x1, ⟨y, k1, by omega⟩, h.y0, h.y1, ⟨z, k3, by omega⟩⟩
theorem RSec.nou : RSec 1 Go.Proofs.YtolcnbiaiolcoaaGreat.nou := ⟨by kernel_rfl, fun x hx => by rw [List.eq_of_mem_replicate hx]; decide, by kernel_rfl, by kernel_rfl, ⟨0, by kernel_rfl, by decide⟩, by kernel_rfl, by kernel_rfl, ⟨0, by kernel_rfl, by decide⟩⟩
theorem RSec.seal {p : Pc} (h : p.ok) (he : p.e < 256) (hd : ∀ x ∈ p.d, x < 256) : RSec (p.e + 1) (sealL p) := by
  have f : ∀ i, i < 3 → (sealL p)[i]? = some (if i = 2 then p.e else 0) ∧ (sealL p)[120 + i]? = some (if i = 2 then p.e else 0) := fun i hi => by
    rw [seal_front (by omega), seal_back h.2.2]
    exact ⟨stamp_byte he h.2.1 hi, stamp_byte he h.2.1 hi⟩
  exact ⟨sealL_length h.2.2, sealL_lt h.2.2 hd, (f 0 (by decide)).1, (f 1 (by decide)).1, ⟨p.e, (f 2 (by decide)).1, Nat.lt_succ_self _⟩, (f 0 (by decide)).2, (f 1 (by decide)).2, ⟨p.e, (f 2 (by decide)).2, Nat.lt_succ_self _⟩⟩
theorem RSec.torn {E m : Nat} {N X : List Nat} (hN : RSec E N) (hX : RSec E X) (hm : m ≤ 128) : RSec E (tornL N X m) := by
  have g : ∀ (i : Nat) (P : Option Nat → Prop), P N[i]? → P X[i]? → P (tornL N X m)[i]? := fun i P h1 h2 => by
    rw [tornL_at hN.len hm]
    split
    · exact h1
    · exact h2
  refine ⟨?_, fun x hx => ?_, g 0 (· = some 0) hN.x0 hX.x0, g 1 (· = some 0) hN.x1 hX.x1, g 2 (fun o => ∃ y, o = some y ∧ y < E) hN.x2 hX.x2, g 120 (· = some 0) hN.y0 hX.y0, g 121 (· = some 0) hN.y1 hX.y1, g 122 (fun o => ∃ y, o = some y ∧ y < E) hN.y2 hX.y2⟩
  · have h1 := hN.len; have h2 := hX.len
    simp only [tornL, List.length_append, List.length_take, List.length_drop]
    omega
  · rcases List.mem_append.mp hx with h | h
    · exact hN.b x (List.mem_of_mem_take h)
    · exact hX.b x (List.mem_of_mem_drop h)
theorem val_three {l : List Nat} {a b c : Nat} (h0 : l[0]? = some a) (h1 : l[1]? = some b) (h2 : l[2]? = some c) : val (l.take 3) = (a * 256 + b) * 256 + c := by
  match l, h0, h1, h2 with
  | x :: y :: z :: r, h0, h1, h2 =>
    simp only [List.getElem?_cons_zero, List.getElem?_cons_succ, Option.some.injEq] at h0 h1 h2
    subst h0 h1 h2
    simp [val]
theorem RSec.ends {E : Nat} {X : List Nat} (h : RSec E X) : endX X < E ∧ endY X < E := by
  obtain ⟨y, k1, k2⟩ := h.x2
  obtain ⟨z, k3, k4⟩ := h.y2
  constructor
  · unfold endX
    rw [val_three h.x0 h.x1 k1]; omega
  · unfold endY
    rw [val_three (by rw [List.getElem?_drop]; exact h.y0) (by rw [List.getElem?_drop]; exact h.y1) (by rw [List.getElem?_drop]; exact k3)]; omega
theorem RSec.under {E E' : Nat} {X : List Nat} (h : RSec E X) (h1 : endX X < E') (h2 : endY X < E') : RSec E' X := by
  obtain ⟨y, k1, k2⟩ := h.x2
  obtain ⟨z, k3, k4⟩ := h.y2
  unfold endX at h1
  unfold endY at h2
  rw [val_three h.x0 h.x1 k1] at h1
  rw [val_three (by rw [List.getElem?_drop]; exact h.y0) (by rw [List.getElem?_drop]; exact h.y1) (by rw [List.getElem?_drop]; exact k3)] at h2
  exact ⟨h.len, h.b, h.x0, h.x1, ⟨y, k1, by omega⟩, h.y0, h.y1, ⟨z, k3, by omega⟩⟩
/-- a whole sector of older epochs is a piece of an older epoch -/
theorem RSec.whole {E : Nat} {X : List Nat} (h : RSec E X) (hw : Whole X) : (dec X).e < E := by
  have ho := dec_ok hw.1 hw.2.1 h.b
  have e := (end_seal ho).1
  rw [hw.2.2] at e
  have := h.ends.1
  omega
/-- what a place of the ring may have, ahead of a piece's write -/
def PCls (E : Nat) (X : List Nat) (p : Pc) : Prop := RSec E X ∨ ∃ q : Pc, q.ok ∧ X = sealL q ∧ q.c ≠ p.c
theorem torn_piece {m : Nat} {p : Pc} {X : List Nat} (h : p.ok) (he : p.e < 256) (hd : ∀ x ∈ p.d, x < 256) (hX : PCls p.e X p) (hm : m ≤ 128) :
    ¬ Whole (tornL (sealL p) X m) ∨ tornL (sealL p) X m = sealL p ∨ tornL (sealL p) X m = X := by
  by_cases hw : Whole (tornL (sealL p) X m)
  · right
    rcases hX with hX | ⟨q, hq, rfl, hne⟩
    · have hN := RSec.seal h he hd
      have hNl := hN.len
      have hb : ∀ x ∈ tornL (sealL p) X m, x < 256 := fun x hx => by
        rcases List.mem_append.mp hx with a | a
        · exact hN.b x (List.mem_of_mem_take a)
        · exact hX.b x (List.mem_of_mem_drop a)
      by_cases h3 : m < 3
      · right
        apply List.ext_getElem?
        intro i
        rw [tornL_at hNl hm]
        split
        · next hi =>
          have : i = 0 ∨ i = 1 := by omega
          rcases this with rfl | rfl
          · rw [hN.x0, hX.x0]
          · rw [hN.x1, hX.x1]
        · rfl
      · by_cases h122 : m ≤ 122
        · have h2 := whole_ends hw hb (i := 2) (by decide)
          rw [tornL_at hNl hm, tornL_at hNl hm, if_pos (by omega), if_neg (by omega), seal_front (by decide), stamp_byte he h.2.1 (by decide)] at h2
          obtain ⟨y, hy, hlt⟩ := hX.y2
          rw [show 120 + 2 = 122 from rfl, hy] at h2
          injection h2 with h2
          simp at h2
          omega
        · left
          have ht : (tornL (sealL p) X m).take 120 = (sealL p).take 120 := by
            unfold tornL
            rw [List.take_append_of_le_length (by rw [List.length_take]; omega), List.take_take, Nat.min_eq_left (by omega)]
          have hS := seal_whole h
          have e1 := dec_front ht hS.2.1
          have e2 := hw.2.2
          rw [e1] at e2
          exact e2.symm.trans hS.2.2
    · exact torn_one h hq (.inr (fun e => hne e.symm)) m hm hw
  · exact .inl hw
end Go.Proofs.YtolcnbiaiolcoaaGreat
namespace Go.Proofs.YtolcnbiaiolcoaaGreat
open Go.RowKit Go.Maps

def Vw (s : DS) (N : Nat) (V : Nat → List Nat) : Prop := ∀ j, j < N → isS s j = V j
/-- a transaction of epoch e lies at its place -/
structure TxE (V : Nat → List Nat) (n : Nat) (H : Int) (e t : Nat) (ps : List Pt) : Prop where
  tx : isTx ps H
  b : ∀ p ∈ ps, ∀ x ∈ p.d, x < 256
  cut : cutE e t (recB ps).length = 0
  at_ : ∀ p ∈ cutP e t (recB ps), V (2 + p.c % n) = sealL p
/-- transactions from count t on, epochs that rise from fl on, up to count u and epoch fu -/
def ChE (V : Nat → List Nat) (n : Nat) (H : Int) : Nat → Nat → List (Nat × List Pt) → Nat → Nat → Prop
  | t, fl, [], u, fu => t = u ∧ fl = fu
  | t, fl, x :: r, u, fu => (fl ≤ x.1 ∧ TxE V n H x.1 t x.2) ∧ ChE V n H (t + needT x.2) x.1 r u fu
theorem ChE.le {V : Nat → List Nat} {n : Nat} {H : Int} : ∀ {l : List (Nat × List Pt)} {t fl u fu : Nat}, ChE V n H t fl l u fu → t + l.length ≤ u ∧ fl ≤ fu
  | [], t, fl, u, fu, h => by obtain ⟨h1, h2⟩ := h; simp [h1, h2]
  | x :: r, t, fl, u, fu, h => by
    have h1 := ChE.le h.2
    have h2 := h.1.1
    have := needT_pos x.2
    simp only [List.length_cons]
    omega
theorem TxE.frame {V V' : Nat → List Nat} {n e t : Nat} {H : Int} {ps : List Pt} (h : TxE V n H e t ps) (hv : ∀ c, t ≤ c → c < t + needT ps → V' (2 + c % n) = V (2 + c % n)) : TxE V' n H e t ps :=
  ⟨h.tx, h.b, h.cut, fun p hp => by
    obtain ⟨_, i, hi, e⟩ := cutP_mem hp
    rw [hv p.c (by omega) (by unfold needT; omega)]
    exact h.at_ p hp⟩
theorem ChE.frame {V V' : Nat → List Nat} {n : Nat} {H : Int} : ∀ {l : List (Nat × List Pt)} {t fl u fu : Nat}, ChE V n H t fl l u fu → (∀ c, t ≤ c → c < u → V' (2 + c % n) = V (2 + c % n)) → ChE V' n H t fl l u fu
  | [], _, _, _, _, h, _ => h
  | x :: r, t, fl, u, fu, h, hv => by
    have h1 := ChE.le h.2
    exact ⟨⟨h.1.1, h.1.2.frame (fun c h1 h2 => hv c h1 (by omega))⟩, ChE.frame h.2 (fun c h1 h2 => hv c (by omega) h2)⟩
theorem ChE.snoc {V : Nat → List Nat} {n e : Nat} {H : Int} {ps : List Pt} : ∀ {l : List (Nat × List Pt)} {t fl u fu : Nat}, ChE V n H t fl l u fu → fu ≤ e → TxE V n H e u ps → ChE V n H t fl (l ++ [(e, ps)]) (u + needT ps) e
  | [], t, fl, u, fu, h, he, hp => by
    obtain ⟨rfl, rfl⟩ := h
    exact ⟨⟨he, hp⟩, rfl, rfl⟩
  | x :: r, t, fl, u, fu, h, he, hp => ⟨h.1, ChE.snoc h.2 he hp⟩

section
variable {s : DS} {N n : Nat} {V : Nat → List Nat} {H : Int}
theorem rdP_vw (ho : Vw s N V) (hn : 1 ≤ n) (hN : n + 2 ≤ N) (c : Nat) : rdP s n c = V (2 + c % n) := ho _ (by have := Nat.mod_lt c hn; omega)
theorem TxE.ok {e t : Nat} {ps : List Pt} (h : TxE V n H e t ps) : ∀ p ∈ cutP e t (recB ps), p.ok := cutP_ok h.cut
theorem TxE.scan {e t : Nat} {ps : List Pt} (ho : Vw s N V) (hn : 1 ≤ n) (hN : n + 2 ≤ N) (h : TxE V n H e t ps) : ∀ (m i f : Nat), i + m + 1 = needT ps → m + 1 ≤ f →
    scan s n f (t + i) = some ((List.range (m + 1)).map (fun j => pieceAt e t (recB ps) (i + j))) := by
  intro m
  induction m with
  | zero =>
    intro i f hi hf
    obtain ⟨f, rfl⟩ : ∃ g, f = g + 1 := ⟨f - 1, by omega⟩
    have hm := piece_mem (e := e) (c := t) (i := i) (l := recB ps) (by unfold needT at hi; omega)
    have hok := h.ok _ hm
    have hr : rdP s n (t + i) = sealL (pieceAt e t (recB ps) i) := (rdP_vw ho hn hN _).trans (h.at_ _ hm)
    have hg : goodP s n (t + i) := ⟨by rw [hr]; exact seal_whole hok, by rw [hr, dec_seal hok]; rfl⟩
    rw [scan_last hg (by rw [hr, dec_seal hok]; show (i == needN (recB ps).length - 1) = true; unfold needT at hi; rw [beq_iff_eq]; omega), hr, dec_seal hok]
    rfl
  | succ m ih =>
    intro i f hi hf
    obtain ⟨f, rfl⟩ : ∃ g, f = g + 1 := ⟨f - 1, by omega⟩
    have hm := piece_mem (e := e) (c := t) (i := i) (l := recB ps) (by unfold needT at hi; omega)
    have hok := h.ok _ hm
    have hr : rdP s n (t + i) = sealL (pieceAt e t (recB ps) i) := (rdP_vw ho hn hN _).trans (h.at_ _ hm)
    have hg : goodP s n (t + i) := ⟨by rw [hr]; exact seal_whole hok, by rw [hr, dec_seal hok]; rfl⟩
    rw [scan_more hg (by rw [hr, dec_seal hok]; show (i == needN (recB ps).length - 1) = false; unfold needT at hi; rw [beq_eq_false_iff_ne]; omega), hr, dec_seal hok, Nat.add_assoc t i 1, ih (i + 1) f (by omega) (by omega)]
    rw [List.range_succ_eq_map (n := m + 1), List.map_cons, List.map_map, Option.map_some]
    congr 2
    apply List.map_congr_left
    intro j _
    show pieceAt e t (recB ps) (i + 1 + j) = pieceAt e t (recB ps) (i + (j + 1))
    rw [show i + 1 + j = i + (j + 1) by omega]
theorem TxE.scanV {e t : Nat} {ps : List Pt} (ho : Vw s N V) (hn : 1 ≤ n) (hN : n + 2 ≤ N) (h : TxE V n H e t ps) (hl : needT ps ≤ n) : scanV s n t = cutP e t (recB ps) := by
  have h1 := needT_pos ps
  have h2 := h.scan ho hn hN (needT ps - 1) 0 (n + 1) (by omega) (by omega)
  unfold Go.Proofs.YtolcnbiaiolcoaaGreat.scanV
  rw [show t + 0 = t from rfl] at h2
  rw [h2, show needT ps - 1 + 1 = needT ps by omega]
  show (List.range (needT ps)).map (fun j => pieceAt e t (recB ps) (0 + j)) = _
  unfold cutP needT
  apply List.map_congr_left
  intro j _
  rw [Nat.zero_add]
theorem TxE.rec_ {e t : Nat} {ps : List Pt} (ho : Vw s N V) (hn : 1 ≤ n) (hN : n + 2 ≤ N) (hH : H ≤ 4096) (h : TxE V n H e t ps) (hl : needT ps ≤ n) (A : Nat → Option (List Nat)) (fl : Nat) (hf : fl ≤ e) :
    RecOk s n H ⟨t, fl, A⟩ ∧ nextR s n ⟨t, fl, A⟩ = ⟨t + needT ps, e, putA A ps⟩ := by
  have e1 := h.scanV ho hn hN hl
  have hj := joinP_cut h.cut
  have hb := rec_back h.tx hH h.b
  have hhd : (hdP (cutP e t (recB ps))).e = e := by
    obtain ⟨p, r, e1⟩ : ∃ p r, cutP e t (recB ps) = p :: r := List.exists_cons_of_length_pos (by rw [cutP_length]; exact needN_pos _)
    rw [e1]
    exact (cutP_mem (e := e) (c := t) (l := recB ps) (p := p) (by rw [e1]; simp)).1
  unfold RecOk nextR
  simp only
  rw [e1, allD_cut, hb.1, hhd, cutP_length]
  exact ⟨⟨(join_iff _).mp hj, hf, hb.2, h.tx⟩, rfl⟩
def putE (A : Nat → Option (List Nat)) (l : List (Nat × List Pt)) : Nat → Option (List Nat) := l.foldl (fun A x => putA A x.2) A
theorem chE_says (ho : Vw s N V) (hn : 1 ≤ n) (hN : n + 2 ≤ N) (hH : H ≤ 4096) : ∀ (l : List (Nat × List Pt)) (t fl u fu f : Nat) (A : Nat → Option (List Nat)), ChE V n H t fl l u fu → u ≤ t + n → l.length < f → (∀ A, ¬ RecOk s n H ⟨u, fu, A⟩) →
    saysR s n H f ⟨t, fl, A⟩ = ⟨u, fu, putE A l⟩
  | [], t, fl, u, fu, f, A, h, _, hf, hno => by
    obtain ⟨rfl, rfl⟩ := h
    obtain ⟨f, rfl⟩ : ∃ g, f = g + 1 := ⟨f - 1, by simp at hf; omega⟩
    unfold saysR
    rw [if_neg (hno A)]
    rfl
  | x :: r, t, fl, u, fu, f, A, h, hu, hf, hno => by
    obtain ⟨f, rfl⟩ : ∃ g, f = g + 1 := ⟨f - 1, by simp at hf; omega⟩
    have h1 := ChE.le h.2
    have h2 := needT_pos x.2
    obtain ⟨k1, k2⟩ := h.1.2.rec_ ho hn hN hH (by omega) A fl h.1.1
    have e := chE_says ho hn hN hH r (t + needT x.2) x.1 u fu f (putA A x.2) h.2 (by omega) (by simp at hf; omega) hno
    unfold saysR
    rw [if_pos k1, k2, e]
    rfl
/-- what is read depends on the sectors that are read alone -/
theorem scan_same {s' : DS} : ∀ {f c : Nat} {ps : List Pc}, scan s n f c = some ps → (∀ i, i < ps.length → rdP s' n (c + i) = rdP s n (c + i)) → scan s' n f c = some ps
  | 0, c, ps, h, _ => by cases h
  | f + 1, c, ps, h, hr => by
    unfold scan at h
    split at h
    · rename_i hg
      split at h
      · rename_i hl
        injection h with h
        subst h
        have e := hr 0 (by simp)
        rw [Nat.add_zero] at e
        have hg' : goodP s' n c := by unfold goodP at hg ⊢; rw [e]; exact hg
        rw [scan_last hg' (by rw [e]; exact hl), e]
      · rename_i hl
        rw [Option.map_eq_some_iff] at h
        obtain ⟨qs, hq, rfl⟩ := h
        have e := hr 0 (by simp)
        rw [Nat.add_zero] at e
        have hg' : goodP s' n c := by unfold goodP at hg ⊢; rw [e]; exact hg
        rw [scan_more hg' (by rw [e]; simpa using hl), e, scan_same hq (fun i hi => by
          have := hr (i + 1) (by simp; omega)
          rwa [show c + (i + 1) = c + 1 + i by omega] at this)]
        rfl
    · cases h
theorem recOk_some {r : Rp} (h : RecOk s n H r) : scan s n (n + 1) r.next = some (Go.Proofs.YtolcnbiaiolcoaaGreat.scanV s n r.next) := by
  have h1 := h.1.pos
  unfold Go.Proofs.YtolcnbiaiolcoaaGreat.scanV at h1 ⊢
  cases e : scan s n (n + 1) r.next with
  | none => rw [e] at h1; simp at h1
  | some ps => rfl
theorem recOk_same {s' : DS} {r : Rp} (h : RecOk s n H r) (hr : ∀ i, i < (Go.Proofs.YtolcnbiaiolcoaaGreat.scanV s n r.next).length → rdP s' n (r.next + i) = rdP s n (r.next + i)) : RecOk s' n H r := by
  have h1 := scan_same (recOk_some h) hr
  have e : Go.Proofs.YtolcnbiaiolcoaaGreat.scanV s' n r.next = Go.Proofs.YtolcnbiaiolcoaaGreat.scanV s n r.next := by
    conv => lhs; unfold Go.Proofs.YtolcnbiaiolcoaaGreat.scanV
    rw [h1]; rfl
  unfold RecOk at h ⊢
  rw [e]
  exact h
end
end Go.Proofs.YtolcnbiaiolcoaaGreat
namespace Go.Proofs.YtolcnbiaiolcoaaGreat
open Go.RowKit Go.Maps

/-- the ring behind a crash, from count u on: whole sectors are this log's pieces (P: by their counts), or as they lasted (B) and of older epochs -/
structure Left (s B : DS) (n E t u : Nat) (P : Nat → Option Pc) : Prop where
  mine : ∀ c, u ≤ c → c < t + n → goodP s n c → (dec (rdP s n c)).e = E → ∃ p, P c = some p ∧ p.ok ∧ rdP s n c = sealL p
  old : ∀ c, u ≤ c → c < t + n → goodP s n c → (dec (rdP s n c)).e ≠ E → rdP B n c = rdP s n c ∧ (dec (rdP s n c)).e < E
set_option maxRecDepth 3000 in
theorem Left.mono {s B : DS} {n E t u u' : Nat} {P : Nat → Option Pc} (h : Left s B n E t u P) (hu : u ≤ u') : Left s B n E t u' P :=
  ⟨fun c h1 => h.mine c (by omega), fun c h1 => h.old c (by omega)⟩
/-- the pending transactions' pieces; behind them none that is last -/
def PendAt (P : Nat → Option Pc) (H : Int) (E : Nat) : Nat → List (List Pt) → Prop
  | u, [] => ∀ c p, u ≤ c → P c = some p → p.g = false
  | u, qs :: r => (isTx qs H ∧ (∀ p ∈ qs, ∀ x ∈ p.d, x < 256) ∧ cutE E u (recB qs).length = 0 ∧ ∀ i, i < needT qs → P (u + i) = some (pieceAt E u (recB qs) i)) ∧ PendAt P H E (u + needT qs) r
section
variable {s B : DS} {n E t : Nat} {H : Int} {P : Nat → Option Pc}
set_option maxRecDepth 3000 in
theorem rec_at {r : Rp} (_h : RecOk s n H r) (hn : 1 ≤ n) (hg : ∀ c, t ≤ c → c < r.next → goodP s n c) (_ht : t ≤ r.next) :
    r.next + (scanV s n r.next).length ≤ t + n ∧ ∀ i (hi : i < (scanV s n r.next).length), goodP s n (r.next + i) ∧ (scanV s n r.next)[i] = dec (rdP s n (r.next + i)) := by
  have hs := scanV_good (s := s) (n := n) (c := r.next)
  refine ⟨good_le (s := s) hn (fun c h1 h2 => ?_), fun i hi => ⟨hs.2 i hi, ?_⟩⟩
  · by_cases c1 : c < r.next
    · exact hg c h1 c1
    · have := hs.2 (c - r.next) (by omega)
      rwa [show r.next + (c - r.next) = c by omega] at this
  · have e := hs.1
    have : (scanV s n r.next)[i]? = (preP s n r.next (scanV s n r.next).length)[i]? := by rw [← e]
    rw [List.getElem?_eq_getElem hi] at this
    unfold preP at this
    rw [List.getElem?_map, List.getElem?_range hi] at this
    simpa using this
set_option maxRecDepth 3000 in
theorem hdP_zero {ps : List Pc} (h : 0 < ps.length) : hdP ps = ps[0] := by
  cases ps with
  | nil => simp at h
  | cons p r => rfl
set_option maxRecDepth 3000 in
/-- what is accepted behind a crash is this log's -/
theorem rec_epoch {u fu : Nat} {A : Nat → Option (List Nat)} (h : RecOk s n H ⟨u, fu, A⟩) (hn : 1 ≤ n) (hg : ∀ c, t ≤ c → c < u → goodP s n c) (ht : t ≤ u) (hl : Left s B n E t u P) (hr : fu = E ∨ ∀ A, ¬ RecOk B n H ⟨u, fu, A⟩) : (hdP (scanV s n u)).e = E := by
  obtain ⟨h1, h2⟩ := rec_at h hn hg ht
  simp only at h1 h2
  have hj := h.1
  simp only at hj
  have hep : ∀ i (hi : i < (scanV s n u).length), (dec (rdP s n (u + i))).e = (hdP (scanV s n u)).e := fun i hi => by
    rw [← (h2 i hi).2]
    exact (hj.2.1 i hi).2.1
  by_cases c : (hdP (scanV s n u)).e = E
  · exact c
  · exfalso
    have ho : ∀ i (hi : i < (scanV s n u).length), rdP B n (u + i) = rdP s n (u + i) ∧ (dec (rdP s n (u + i))).e < E := fun i hi => hl.old (u + i) (by omega) (by omega) (h2 i hi).1 (by rw [hep i hi]; exact c)
    rcases hr with hr | hr
    · have h3 := h.2.1
      simp only at h3
      have h4 := (ho 0 hj.1).2
      rw [hep 0 hj.1] at h4
      omega
    · exact hr A (recOk_same h (fun i hi => (ho i hi).1))
set_option maxRecDepth 3000 in
theorem rec_pieces {u fu : Nat} {A : Nat → Option (List Nat)} (h : RecOk s n H ⟨u, fu, A⟩) (hn : 1 ≤ n) (hg : ∀ c, t ≤ c → c < u → goodP s n c) (ht : t ≤ u) (hl : Left s B n E t u P) (he : (hdP (scanV s n u)).e = E) :
    ∀ i, i < (scanV s n u).length → ∃ p, P (u + i) = some p ∧ p.ok ∧ rdP s n (u + i) = sealL p ∧ p.g = (i == (scanV s n u).length - 1) := fun i hi => by
  obtain ⟨h1, h2⟩ := rec_at h hn hg ht
  simp only at h1 h2
  have hj := h.1
  simp only at hj
  obtain ⟨j1, j2, j3, j4, j5, j6, j7⟩ := hj.2.1 i hi
  rw [(h2 i hi).2] at j2 j6
  obtain ⟨p, k1, k2, k3⟩ := hl.mine (u + i) (by omega) (by omega) (h2 i hi).1 (by rw [j2, he])
  refine ⟨p, k1, k2, k3, ?_⟩
  rw [k3, dec_seal k2] at j6
  exact j6
set_option maxRecDepth 3000 in
theorem rec_whole {u fu : Nat} {A : Nat → Option (List Nat)} {qs : List Pt} {r : List (List Pt)} (h : RecOk s n H ⟨u, fu, A⟩) (hn : 1 ≤ n) (hg : ∀ c, t ≤ c → c < u → goodP s n c) (ht : t ≤ u) (hl : Left s B n E t u P) (he : (hdP (scanV s n u)).e = E) (hp : PendAt P H E u (qs :: r)) : TxE (isS s) n H E u qs := by
  obtain ⟨⟨p1, p2, p3, p4⟩, -⟩ := hp
  have hx := rec_pieces h hn hg ht hl he
  have hpos := h.1.1
  simp only at hpos
  have hneed := needT_pos qs
  have hlen : needT qs ≤ (scanV s n u).length := by
    rcases Nat.lt_or_ge (scanV s n u).length (needT qs) with c | c
    · exfalso
      obtain ⟨p, k1, k2, k3, k4⟩ := hx ((scanV s n u).length - 1) (by omega)
      rw [p4 _ (by omega)] at k1
      have k1 := Option.some.inj k1
      rw [← k1] at k4
      have e : (pieceAt E u (recB qs) ((scanV s n u).length - 1)).g = ((scanV s n u).length - 1 == needN (recB qs).length - 1) := rfl
      rw [e] at k4
      have h5 : ((scanV s n u).length - 1 == needN (recB qs).length - 1) = false := by rw [beq_eq_false_iff_ne]; unfold needT at c; omega
      rw [h5] at k4
      simp at k4
    · exact c
  refine ⟨p1, p2, p3, fun p hp => ?_⟩
  obtain ⟨i, hi, rfl⟩ := List.mem_map.mp hp
  have hi' := List.mem_range.mp hi
  obtain ⟨p', k1, k2, k3, -⟩ := hx i (by unfold needT at hlen; omega)
  rw [p4 i hi'] at k1
  have k1 := Option.some.inj k1
  rw [← k1] at k3
  exact k3
set_option maxRecDepth 3000 in
/-- a prefix of the pending transactions is read -/
theorem pend_says (hn : 1 ≤ n) : ∀ (pend : List (List Pt)) (u fu : Nat), t ≤ u → (∀ c, t ≤ c → c < u → goodP s n c) → Left s B n E t u P → PendAt P H E u pend → fu ≤ E → (fu = E ∨ ∀ A, ¬ RecOk B n H ⟨u, fu, A⟩) →
    ∃ (j u' fu' : Nat), j ≤ pend.length ∧ ChE (isS s) n H u fu ((pend.take j).map (fun qs => (E, qs))) u' fu' ∧ ∀ A, ¬ RecOk s n H ⟨u', fu', A⟩
  | [], u, fu, ht, hg, hl, hp, hfu, hr => by
    refine ⟨0, u, fu, Nat.le_refl _, ⟨rfl, rfl⟩, fun A h => ?_⟩
    have he := rec_epoch h hn hg ht hl hr
    have hpos := h.1.1
    simp only at hpos
    obtain ⟨p, k1, -, -, k4⟩ := rec_pieces h hn hg ht hl he ((scanV s n u).length - 1) (by omega)
    have := hp _ p (by omega) k1
    rw [this] at k4
    simp at k4
  | qs :: r, u, fu, ht, hg, hl, hp, hfu, hr => by
    by_cases hok : ∃ A, RecOk s n H ⟨u, fu, A⟩
    · obtain ⟨A, h⟩ := hok
      have he := rec_epoch h hn hg ht hl hr
      have htx := rec_whole h hn hg ht hl he hp
      have hneed := needT_pos qs
      have hg' : ∀ c, t ≤ c → c < u + needT qs → goodP s n c := fun c h1 h2 => by
        by_cases c1 : c < u
        · exact hg c h1 c1
        · have hm := piece_mem (e := E) (c := u) (i := c - u) (l := recB qs) (by unfold needT at h2; omega)
          have hk := htx.ok _ hm
          have hr : rdP s n c = sealL (pieceAt E u (recB qs) (c - u)) := by
            have := htx.at_ _ hm
            unfold rdP
            rw [← this]
            show isS s (2 + c % n) = isS s (2 + (u + (c - u)) % n)
            rw [show u + (c - u) = c by omega]
          exact ⟨by rw [hr]; exact seal_whole hk, by rw [hr, dec_seal hk]; show u + (c - u) = c; omega⟩
      obtain ⟨j, u', fu', k1, k2, k3⟩ := pend_says hn r (u + needT qs) E (by omega) hg' (hl.mono (by omega)) hp.2 (Nat.le_refl _) (.inl rfl)
      exact ⟨j + 1, u', fu', by simp; omega, ⟨⟨hfu, htx⟩, k2⟩, k3⟩
    · exact ⟨0, u, fu, Nat.zero_le _, ⟨rfl, rfl⟩, fun A h => hok ⟨A, h⟩⟩
end
end Go.Proofs.YtolcnbiaiolcoaaGreat
namespace Go.Proofs.YtolcnbiaiolcoaaGreat

/-- as it lasted, or as one of the first k writes -/
def Plain (L : List (List Nat)) (Q : List (Nat × List Nat)) (i k : Nat) (r : List Nat) : Prop := r = L.getD i [] ∨ ∃ j, j < k ∧ (Q.getD j (0, [])).1 = i ∧ r = (Q.getD j (0, [])).2
theorem Plain.mono {L : List (List Nat)} {Q : List (Nat × List Nat)} {i k m : Nat} {r : List Nat} (h : Plain L Q i k r) (hk : k ≤ m) : Plain L Q i m r := by
  rcases h with h | ⟨j, h1, h2, h3⟩
  · exact .inl h
  · exact .inr ⟨j, by omega, h2, h3⟩

theorem layN_ne {L : List (List Nat)} {q : Nat × List Nat} {m i : Nat} (h : q.1 ≠ i) : (layN L q m).getD i [] = L.getD i [] := by
  rw [layN, List.getD_eq_getElem?_getD, List.getElem?_set_ne h, ← List.getD_eq_getElem?_getD]
theorem layN_eq {L : List (List Nat)} {q : Nat × List Nat} {m : Nat} (h : q.1 < L.length) : (layN L q m).getD q.1 [] = q.2.take m ++ (L.getD q.1 []).drop m := by
  rw [layN, List.getD_eq_getElem?_getD, List.getElem?_set_self h]; rfl

theorem plain_laysBy (c : Nat → Nat) (Q : List (Nat × List Nat)) (L : List (List Nat)) (hL : ∀ r ∈ L, r.length = 128) (hQ : ∀ q ∈ Q, q.1 < L.length ∧ q.2.length = 128) (i : Nat) : ∀ k, k ≤ Q.length → (∀ j, j < k → c j = 0 ∨ c j = 128) → Plain L Q i k ((laysBy c Q L k).getD i [])
  | 0, _, _ => .inl rfl
  | k + 1, hk, hc => by
    have ih := plain_laysBy c Q L hL hQ i k (by omega) (fun j hj => hc j (by omega))
    have hm := hQ _ (getD_mem (show k < Q.length by omega))
    obtain ⟨q, hq⟩ : ∃ q, q = Q.getD k (0, []) := ⟨_, rfl⟩
    rw [laysBy, ← hq]
    rw [← hq] at hm
    have hlen : q.1 < (laysBy c Q L k).length := by rw [laysBy_length]; exact hm.1
    by_cases hi : q.1 = i
    · subst hi
      rw [layN_eq hlen]
      rcases hc k (by omega) with h0 | h0
      · rw [h0, List.take_zero, List.nil_append, List.drop_zero]
        exact ih.mono (by omega)
      · have hr := row_at (laysBy_row c Q L hL hQ k (by omega)) hlen
        rw [h0, List.take_of_length_le (by omega), List.drop_of_length_le (by omega), List.append_nil]
        exact .inr ⟨k, by omega, by rw [← hq], by rw [← hq]⟩
    · rw [layN_ne hi]
      exact ih.mono (by omega)

/-- what became of sector i -/
theorem crash_cases (ks : List Int) (torn : Int) (Q : List (Nat × List Nat)) (L : List (List Nat)) (hL : ∀ r ∈ L, r.length = 128) (hQ : ∀ q ∈ Q, q.1 < L.length ∧ q.2.length = 128) (i : Nat) (r : List Nat) (hr : r = (laysBy (kept ks torn Q.length) Q L Q.length).getD i []) :
    Plain L Q i Q.length r ∨ (0 < Q.length ∧ (Q.getD (Q.length - 1) (0, [])).1 = i ∧ 0 < torn ∧ torn < 128 ∧ r.take torn.toNat = ((Q.getD (Q.length - 1) (0, [])).2).take torn.toNat ∧ ∃ p, Plain L Q i Q.length p ∧ r.drop torn.toNat = p.drop torn.toNat) := by
  have hkept : ∀ j, ¬ (0 < torn ∧ torn < 128 ∧ j + 1 = Q.length) → kept ks torn Q.length j = 0 ∨ kept ks torn Q.length j = 128 := fun j hj => by
    unfold kept
    rw [if_neg hj]
    split
    · exact .inr rfl
    · exact .inl rfl
  by_cases ht : 0 < torn ∧ torn < 128 ∧ 0 < Q.length
  · obtain ⟨t0, t1, hq⟩ := ht
    obtain ⟨k, hk⟩ : ∃ k, Q.length = k + 1 := ⟨Q.length - 1, by omega⟩
    have hp := plain_laysBy (kept ks torn Q.length) Q L hL hQ i k (by omega) (fun j hj => hkept j (by omega))
    have hm := hQ _ (getD_mem (show k < Q.length by omega))
    have e : laysBy (kept ks torn Q.length) Q L Q.length = layN (laysBy (kept ks torn Q.length) Q L k) (Q.getD k (0, [])) torn.toNat := by
      have hkt : kept ks torn Q.length k = torn.toNat := by unfold kept; rw [if_pos ⟨t0, t1, hk.symm⟩]
      conv => lhs; arg 4; rw [hk]
      rw [laysBy, hkt]
    rw [e] at hr
    have hlen : (Q.getD k (0, [])).1 < (laysBy (kept ks torn Q.length) Q L k).length := by rw [laysBy_length]; exact hm.1
    have hk1 : Q.length - 1 = k := by omega
    rw [hk1]
    by_cases hi : (Q.getD k (0, [])).1 = i
    · right
      rw [← hi, layN_eq hlen] at hr
      have hl : (((Q.getD k (0, [])).2).take torn.toNat).length = torn.toNat := by rw [List.length_take, hm.2]; omega
      refine ⟨by omega, hi, t0, t1, ?_, _, hp.mono (by omega), ?_⟩
      · rw [hr, List.take_append_of_le_length (by omega), List.take_of_length_le (by omega)]
      · rw [hr, ← hi]
        have h2 := List.drop_left (l₁ := ((Q.getD k (0, [])).2).take torn.toNat) (l₂ := ((laysBy (kept ks torn Q.length) Q L k).getD (Q.getD k (0, [])).1 []).drop torn.toNat)
        rw [hl] at h2
        exact h2
    · left
      rw [hr, layN_ne hi]
      exact hp.mono (by omega)
  · left
    rw [hr]
    exact plain_laysBy _ Q L hL hQ i _ (Nat.le_refl _) (fun j hj => hkept j (by omega))

/-- what the statement reckons -/
def fitsB (L : List (List Nat)) (Q : List (Nat × List Nat)) (i : Nat) (r : List Nat) : Nat → Bool
  | 0 => decide (r = L.getD i [])
  | k + 1 => fitsB L Q i r k || (decide ((Q.getD k (0, [])).1 = i) && decide (r = (Q.getD k (0, [])).2))
theorem fitsB_plain (L : List (List Nat)) (Q : List (Nat × List Nat)) (i : Nat) (r : List Nat) : ∀ k, Plain L Q i k r → fitsB L Q i r k = true
  | 0, h => by
    rcases h with h | ⟨j, h, _⟩
    · simpa [fitsB] using h
    · omega
  | k + 1, h => by
    rw [fitsB, Bool.or_eq_true]
    rcases h with h | ⟨j, h1, h2, h3⟩
    · exact .inl (fitsB_plain L Q i r k (.inl h))
    · by_cases hj : j = k
      · subst hj
        right
        rw [decide_eq_true h2, decide_eq_true h3]; rfl
      · exact .inl (fitsB_plain L Q i r k (.inr ⟨j, by omega, h2, h3⟩))
end Go.Proofs.YtolcnbiaiolcoaaGreat
namespace Go.Proofs.YtolcnbiaiolcoaaGreat
open Go.RowKit Go.Maps

def bare (s : DS) : DS := { s with Q := [] }
set_option maxRecDepth 3000 in
theorem bare_at (s : DS) (i : Nat) : isS (bare s) i = s.L.getD i [] := rfl
set_option maxRecDepth 3000 in
theorem crash_at (s : DS) (ks : List Int) (torn : Int) (i : Nat) : isS (crashS s ks torn) i = (laysBy (kept ks torn s.Q.length) s.Q s.L s.Q.length).getD i [] := rfl
/-- what a place of the ring may have of what lasts -/
def BCls (E u : Nat) (X : List Nat) : Prop := RSec E X ∨ ∃ q : Pc, q.ok ∧ q.e = E ∧ (∀ x ∈ q.d, x < 256) ∧ X = sealL q ∧ q.c < u
set_option maxRecDepth 3000 in
theorem BCls.sec {E u : Nat} {X : List Nat} (h : BCls E u X) (hE : E < 256) : RSec (E + 1) X := by
  rcases h with h | ⟨q, h1, h2, h3, rfl, _⟩
  · exact h.mono (Nat.le_succ _)
  · have := RSec.seal h1 (by omega) h3
    rwa [h2] at this
def qOf (n : Nat) (p : Pc) : Nat × List Nat := (2 + p.c % n, sealL p)
def byC (u : Nat) (PL : List Pc) (c : Nat) : Option Pc := if u ≤ c then PL[c - u]? else none
/-- pieces that wait -/
structure Wait (PL : List Pc) (E u : Nat) : Prop where
  at_ : ∀ i (h : i < PL.length), PL[i].c = u + i ∧ PL[i].e = E ∧ PL[i].ok ∧ ∀ x ∈ PL[i].d, x < 256
set_option maxRecDepth 3000 in
theorem same_mod {n a b t : Nat} (ha : t ≤ a) (ha2 : a < t + n) (hb : t ≤ b) (hb2 : b < t + n) (h : a % n = b % n) : a = b := by
  rcases Nat.lt_trichotomy a b with c | c | c
  · exact absurd h (mod_apart c (by omega))
  · exact c
  · exact absurd h.symm (mod_apart c (by omega))
section
variable {s : DS} {n N E t u : Nat} {PL : List Pc}
set_option maxRecDepth 3000 in
theorem getD_map {j : Nat} (h : j < PL.length) : (PL.map (qOf n)).getD j (0, []) = qOf n PL[j] := by
  rw [List.getD_eq_getElem?_getD, List.getElem?_map, List.getElem?_eq_getElem h]; rfl
set_option maxRecDepth 3000 in
/-- a sector that lasts plainly -/
theorem plain_ring (hQ : s.Q = PL.map (qOf n)) (hw : Wait PL E u) (hlen : u + PL.length ≤ t + n) (htu : t ≤ u) {c : Nat} (hc : t ≤ c) (hc2 : c < t + n) {X : List Nat} (h : Plain s.L s.Q (2 + c % n) s.Q.length X) :
    X = s.L.getD (2 + c % n) [] ∨ ∃ p, byC u PL c = some p ∧ X = sealL p := by
  rcases h with h | ⟨j, h1, h2, h3⟩
  · exact .inl h
  · right
    rw [hQ, List.length_map] at h1
    rw [hQ, getD_map h1] at h2 h3
    have k := (hw.at_ j h1).1
    have e : PL[j].c = c := same_mod (t := t) (n := n) (by omega) (by omega) hc hc2 (by have h2 : 2 + PL[j].c % n = 2 + c % n := h2; omega)
    refine ⟨PL[j], ?_, h3⟩
    unfold byC
    rw [if_pos (by omega), show c - u = j by omega, List.getElem?_eq_getElem h1]
set_option maxRecDepth 3000 in
theorem byC_at (hw : Wait PL E u) {c : Nat} {p : Pc} (h : byC u PL c = some p) : u ≤ c ∧ c - u < PL.length ∧ p.c = c ∧ p.e = E ∧ p.ok ∧ ∀ x ∈ p.d, x < 256 := by
  unfold byC at h
  split at h
  · rename_i hc
    obtain ⟨hl, rfl⟩ := List.getElem?_eq_some_iff.1 h
    obtain ⟨k1, k2, k3, k4⟩ := hw.at_ _ hl
    exact ⟨hc, hl, by omega, k2, k3, k4⟩
  · cases h
set_option maxRecDepth 3000 in
theorem crash_ring (hok : s.ok N) (hQ : s.Q = PL.map (qOf n)) (hw : Wait PL E u) (hlen : u + PL.length ≤ t + n) (htu : t ≤ u) (hE : E < 256) (hB : ∀ j, j < n → BCls E u (s.L.getD (2 + j) [])) (ks : List Int) (torn : Int) {c : Nat} (hc : t ≤ c) (hc2 : c < t + n) {X : List Nat} (hX : X = isS (crashS s ks torn) (2 + c % n)) :
    X = s.L.getD (2 + c % n) [] ∨ (∃ p, byC u PL c = some p ∧ (X = sealL p ∨ ¬ Whole X)) ∧ RSec (E + 1) X := by
  have hn : 0 < n := by omega
  have hm := Nat.mod_lt c hn
  have hcl := hB (c % n) hm
  rw [crash_at] at hX
  have hsec : ∀ p, byC u PL c = some p → RSec (E + 1) (sealL p) := fun p hp => by
    obtain ⟨_, _, k1, k2, k3, k4⟩ := byC_at hw hp
    have := RSec.seal k3 (by omega) k4
    rwa [k2] at this
  rcases crash_cases ks torn s.Q s.L hok.row (fun q hq => by rw [hok.len]; exact hok.at_ q hq) (2 + c % n) X hX with h | ⟨h1, h2, h3, h4, h5, Y, h6, h7⟩
  · rcases plain_ring hQ hw hlen htu hc hc2 h with h | ⟨p, h1, h2⟩
    · exact .inl h
    · exact .inr ⟨⟨p, h1, .inl h2⟩, by rw [h2]; exact hsec p h1⟩
  · have hl : s.Q.length = PL.length := by rw [hQ, List.length_map]
    have hlast : PL.length - 1 < PL.length := by omega
    have hq : s.Q.getD (s.Q.length - 1) (0, []) = qOf n (PL[PL.length - 1]'hlast) := by
      rw [hl]
      conv => lhs; rw [hQ]
      exact getD_map hlast
    rw [hq] at h2 h5
    have k := (hw.at_ _ hlast).1
    have e : (PL[PL.length - 1]'hlast).c = c := same_mod (t := t) (n := n) (by omega) (by omega) hc hc2 (by have h2 : 2 + (PL[PL.length - 1]'hlast).c % n = 2 + c % n := h2; omega)
    have hp : byC u PL c = some (PL[PL.length - 1]'hlast) := by
      unfold byC
      rw [if_pos (by omega), show c - u = PL.length - 1 by omega, List.getElem?_eq_getElem hlast]
    obtain ⟨p, hpe⟩ : ∃ p, p = PL[PL.length - 1]'hlast := ⟨_, rfl⟩
    rw [← hpe] at h5 hp
    obtain ⟨_, _, k1, k2, k3, k4⟩ := byC_at hw hp
    have h5' : X.take torn.toNat = (sealL p).take torn.toNat := h5
    have ex : X = tornL (sealL p) Y torn.toNat := by
      unfold tornL
      rw [← h5', ← h7, List.take_append_drop]
    have hm128 : torn.toNat ≤ 128 := by omega
    have hself : tornL (sealL p) (sealL p) torn.toNat = sealL p := List.take_append_drop _ _
    rcases plain_ring hQ hw hlen htu hc hc2 h6 with hy | ⟨p', hp', hy⟩
    · have hys : RSec (E + 1) Y := by rw [hy]; exact hcl.sec hE
      have hxs : RSec (E + 1) X := by rw [ex]; exact (hsec p hp).torn hys hm128
      have hcls : PCls p.e Y p := by
        rw [hy, k2]
        rcases hcl with h | ⟨q, q1, q2, q3, q4, q5⟩
        · exact .inl h
        · exact .inr ⟨q, q1, q4, by omega⟩
      rcases torn_piece k3 (by omega) k4 hcls hm128 with h | h | h
      · exact .inr ⟨⟨p, hp, .inr (by rw [ex]; exact h)⟩, hxs⟩
      · exact .inr ⟨⟨p, hp, .inl (by rw [ex]; exact h)⟩, hxs⟩
      · exact .inl (by rw [ex, h, hy])
    · rw [hp] at hp'
      have hp' := Option.some.inj hp'
      subst hp'
      rw [hy, hself] at ex
      exact .inr ⟨⟨p, hp, .inl ex⟩, by rw [ex]; exact hsec p hp⟩
set_option maxRecDepth 3000 in
/-- behind a crash: this log's pieces, or as it lasted -/
theorem crash_left (hok : s.ok N) (hQ : s.Q = PL.map (qOf n)) (hw : Wait PL E u) (hlen : u + PL.length ≤ t + n) (htu : t ≤ u) (hE : E < 256) (hB : ∀ j, j < n → BCls E u (s.L.getD (2 + j) [])) (ks : List Int) (torn : Int) :
    Left (crashS s ks torn) (bare s) n E t u (byC u PL) := by
  have H : ∀ c, u ≤ c → c < t + n → goodP (crashS s ks torn) n c → (rdP (crashS s ks torn) n c = s.L.getD (2 + c % n) [] ∧ (dec (rdP (crashS s ks torn) n c)).e < E) ∨ ∃ p, byC u PL c = some p ∧ p.ok ∧ p.e = E ∧ rdP (crashS s ks torn) n c = sealL p := fun c h1 h2 hg => by
    rcases crash_ring hok hQ hw hlen htu hE hB ks torn (by omega) h2 (X := rdP (crashS s ks torn) n c) rfl with h | ⟨⟨p, hp, h⟩, _⟩
    · left
      refine ⟨h, ?_⟩
      rcases hB (c % n) (Nat.mod_lt _ (by omega)) with k | ⟨q, q1, q2, q3, q4, q5⟩
      · rw [← h] at k
        exact k.whole hg.1
      · exfalso
        have h3 := hg.2
        rw [h, q4, dec_seal q1] at h3
        omega
    · right
      obtain ⟨_, _, k1, k2, k3, k4⟩ := byC_at hw hp
      rcases h with h | h
      · exact ⟨p, hp, k3, k2, h⟩
      · exact absurd hg.1 h
  refine ⟨fun c h1 h2 hg he => ?_, fun c h1 h2 hg he => ?_⟩
  · rcases H c h1 h2 hg with ⟨_, h⟩ | ⟨p, k1, k2, k3, k4⟩
    · omega
    · exact ⟨p, k1, k2, k4⟩
  · rcases H c h1 h2 hg with ⟨h, h'⟩ | ⟨p, k1, k2, k3, k4⟩
    · exact ⟨h.symm, h'⟩
    · rw [k4, dec_seal k2] at he
      exact absurd k3 he
set_option maxRecDepth 3000 in
/-- what is not pending is as it lasted -/
theorem crash_kept (hok : s.ok N) (hQ : s.Q = PL.map (qOf n)) (hw : Wait PL E u) (hlen : u + PL.length ≤ t + n) (htu : t ≤ u) (hE : E < 256) (hB : ∀ j, j < n → BCls E u (s.L.getD (2 + j) [])) (ks : List Int) (torn : Int) {c : Nat} (hc : t ≤ c) (hc2 : c < u) :
    rdP (crashS s ks torn) n c = rdP (bare s) n c := by
  rcases crash_ring hok hQ hw hlen htu hE hB ks torn hc (by omega) (X := rdP (crashS s ks torn) n c) rfl with h | ⟨⟨p, hp, _⟩, _⟩
  · exact h
  · have := (byC_at hw hp).1
    omega
end
end Go.Proofs.YtolcnbiaiolcoaaGreat
namespace Go.Proofs.YtolcnbiaiolcoaaGreat
open Go.RowKit Go.Maps

theorem stepS_dead {s : DS} (h : s.fuse = some 0) : stepS s = ({ s with dead := true }, false) := by unfold stepS; rw [h]
theorem stepS_no {s : DS} (h : (stepS s).2 = false) : s.fuse = some 0 := by
  unfold stepS at h
  split at h
  · simp at h
  · next hf => exact hf
  · simp at h
theorem stepS_live {s : DS} (h : (stepS s).2 = true) : (stepS s).1.dead = s.dead := by
  unfold stepS at h ⊢
  split
  · rfl
  · next hf => rw [hf] at h; simp at h
  · rfl
theorem kept_le128 (ks : List Int) (torn : Int) (n i : Nat) : kept ks torn n i ≤ 128 := by
  unfold kept
  split
  · omega
  · split <;> omega
/-- a sector of a head -/
def HCls (E : Nat) (X : List Nat) (g : Nat) : Prop := RSec E X ∨ ∃ h, hOk E h ∧ X = hSec E h ∧ h.g < g
theorem HCls.cls {E g : Nat} {X : List Nat} (h : HCls E X g) : Cls E X g := h.imp RSec.old id
theorem hSec_sec {E : Nat} {h : Hd} (k : hOk E h) (he : E < 256) : RSec (E + 1) (hSec E h) := RSec.seal (hPc_ok k) he (hdata_lt h)
theorem HCls.sec {E g : Nat} {X : List Nat} (h : HCls E X g) (hE : E < 256) : RSec (E + 1) X := by
  rcases h with h | ⟨h, k, rfl, _⟩
  · exact h.mono (by omega)
  · exact hSec_sec k hE
theorem HCls.mono {E g g' : Nat} {X : List Nat} (h : HCls E X g) (hg : g ≤ g') : HCls E X g' := by
  rcases h with h | ⟨h, k, e, l⟩
  · exact .inl h
  · exact .inr ⟨h, k, e, by omega⟩
/-- the head that a sector says has a floor not above the sector's epoch -/
def FlOk (X : List Nat) : Prop := ∀ k h, unO X k = some h → h.f ≤ endX X
theorem FlOk.nou : FlOk Go.Proofs.YtolcnbiaiolcoaaGreat.nou := fun k h e => by rw [unO_nou] at e; cases e
theorem FlOk.not {X : List Nat} (h : ¬ Whole X) : FlOk X := fun k h' e => by rw [unO_none_of h] at e; cases e
theorem FlOk.head {E : Nat} {h : Hd} (k : hOk E h) (hf : h.f ≤ E) : FlOk (hSec E h) := by
  intro j h' e
  have : unO (hSec E h) j = if h.g % 2 = j then some h else none := by rw [unO, unHd_hSec k]; rfl
  rw [this] at e
  split at e
  · obtain rfl := Option.some.inj e
    unfold hSec
    rw [(end_seal (hPc_ok k)).1]
    exact hf
  · cases e

theorem topE_ge {s : DS} {j : Nat} : ∀ {k : Nat}, j < k → endX (isS s j) ≤ topE s k ∧ endY (isS s j) ≤ topE s k
  | 0, h => absurd h (by omega)
  | k + 1, h => by
    unfold topE
    by_cases e : j = k
    · subst e; omega
    · have := topE_ge (s := s) (j := j) (k := k) (by omega)
      omega
theorem end_piece {e c i : Nat} {l : List Nat} (h : cutE e c l.length = 0) (hi : i < needN l.length) : endX (sealL (pieceAt e c l i)) = e := by
  have := (end_seal (cutP_ok h _ (piece_mem (e := e) (c := c) hi))).1
  rw [this]
  rfl
/-- the last record's epoch is one of the ring's -/
theorem ChE.top {V : Nat → List Nat} {n T : Nat} {H : Int} (hT : ∀ j, j < n → endX (V (2 + j)) ≤ T) (hn : 1 ≤ n) : ∀ {l : List (Nat × List Pt)} {t fl u fu : Nat}, ChE V n H t fl l u fu → fl ≤ T → fu ≤ T
  | [], _, _, _, _, h, hf => by rw [← h.2]; exact hf
  | x :: r, t, fl, u, fu, h, hf => by
    obtain ⟨⟨_, htx⟩, hr⟩ := h
    refine ChE.top hT hn hr ?_
    have hp := needT_pos x.2
    have hm := piece_mem (e := x.1) (c := t) (i := 0) (l := recB x.2) (by unfold needT at hp; omega)
    have h1 := htx.at_ _ hm
    have h2 := hT ((pieceAt x.1 t (recB x.2) 0).c % n) (Nat.mod_lt _ (by omega))
    rw [h1, end_piece htx.cut (by unfold needT at hp; omega)] at h2
    exact h2

/-- the homes, by what is not home -/
def hmL (s : DS) (n M : Nat) (A : Nat → Option (List Nat)) : List (List Nat) := (List.range M).map (fun i => (A i).getD (isS s (2 + n + i)))
theorem homesL_hm (s : DS) (n : Nat) (g : LS) (M : Nat) : homesL s n g M = hmL s n M g.A := rfl
def nA : Nat → Option (List Nat) := fun _ => none

/-- What is known of what lasts. h: the newest head. E: the log's epoch. fls: the transactions that last, from h's Tail up to count u; fu: the last one's epoch. -/
structure Base (s : DS) (n N : Nat) (h : Hd) (E : Nat) (fls : List (Nat × List Pt)) (u fu : Nat) : Prop where
  ok : s.ok N
  sb : ∀ j, j < N → ∀ x ∈ isS (bare s) j, x < 256
  e1 : 1 ≤ E
  e2 : E < 256
  c0 : HCls E (isS (bare s) 0) (h.g + 1)
  c1 : HCls E (isS (bare s) 1) (h.g + 1)
  f0 : FlOk (isS (bare s) 0)
  f1 : FlOk (isS (bare s) 1)
  hd : HeadV (isS (bare s)) h
  ring : ∀ j, j < n → BCls E u (isS (bare s) (2 + j))
  ch : ChE (isS (bare s)) n ((N - 2 - n : Nat) : Int) h.t h.f fls u fu
  fe : fu ≤ E
  fr : u ≤ h.t + n
  stop : fu = E ∨ ∀ A, ¬ RecOk (bare s) n ((N - 2 - n : Nat) : Int) ⟨u, fu, A⟩
  aok : AOk (N - 2 - n) (putE nA fls)

section
variable {s : DS} {n N E u fu : Nat} {h : Hd} {fls : List (Nat × List Pt)}
theorem bare_bare (s : DS) : bare (bare s) = bare s := rfl
theorem bare_self {s : DS} (h : s.Q = []) : bare s = s := by cases s; unfold bare; simp at h; rw [h]
theorem HeadV.f {T : Nat} {V : Nat → List Nat} {h : Hd} (hv : HeadV V h) (h0 : FlOk (V 0)) (h1 : FlOk (V 1)) (e0 : endX (V 0) ≤ T) (e1 : endX (V 1) ≤ T) (hT : 1 ≤ T + 1) : h.f ≤ T + 1 ∧ (h.f ≤ T ∨ h = ⟨0, 0, 1⟩) := by
  obtain ⟨sure, has, hs, rfl⟩ := hv
  cases has with
  | false => exact ⟨by show 1 ≤ T + 1; omega, .inr rfl⟩
  | true =>
    have e : two (V 0) (V 1) = some sure := hs.1
    unfold two nx at e
    rw [if_pos rfl]
    have key : sure.f ≤ T := by
      rcases hb : unO (V 1) 1 with _ | b
      · rw [hb] at e
        have := h0 _ _ e
        omega
      · rw [hb] at e
        simp only at e
        split at e
        · obtain rfl := Option.some.inj e
          have := h1 _ _ hb
          omega
        · have := h0 _ _ e
          omega
    exact ⟨by omega, .inl key⟩
theorem headO_vw {V : Nat → List Nat} (hv : HeadV V h) (ho : Vw s N V) (hN : 2 ≤ N) : Go.Proofs.YtolcnbiaiolcoaaGreat.headO s = h := by
  obtain ⟨sure, has, hs, rfl⟩ := hv
  have e : curAt s 0 2 = two (V 0) (V 1) := by
    rw [curAt2]
    show nx (unO (isS s 0) 0) (unO (isS s (0 + 1)) 1) = _
    rw [ho 0 (by omega), ho (0 + 1) (by omega)]
    rfl
  unfold Go.Proofs.YtolcnbiaiolcoaaGreat.headO
  rw [e, hs.1]
  cases has <;> rfl

/-- What is opened, where nothing waits. -/
structure Opened (s : DS) (n N : Nat) (h : Hd) (E : Nat) (fls : List (Nat × List Pt)) (u fu : Nat) : Prop where
  base : Base s n N h E fls u fu
  is : openS s n N = ⟨h, u, E, putE nA fls, 0⟩
/-- Where nothing waits: heads and ring of epochs below E + 1, a chain, and a stop behind it: so it is opened. -/
theorem opened (hn : 2 ≤ n ∧ n + 3 ≤ N ∧ N ≤ 4096) (ok : s.ok N) (hQ : s.Q = []) (sb : ∀ j, j < N → ∀ x ∈ isS s j, x < 256) (hE : E < 255) (sec : ∀ j, j < 2 + n → RSec (E + 1) (isS s j)) (f0 : FlOk (isS s 0)) (f1 : FlOk (isS s 1)) (hd : HeadV (isS s) h)
    (ch : ChE (isS s) n ((N - 2 - n : Nat) : Int) h.t h.f fls u fu) (fr : u ≤ h.t + n) (stop : ∀ A, ¬ RecOk s n ((N - 2 - n : Nat) : Int) ⟨u, fu, A⟩) (aok : AOk (N - 2 - n) (putE nA fls)) :
    ∃ E', E' ≤ E + 1 ∧ Opened s n N h E' fls u fu := by
  have hb := bare_self hQ
  have htop : topE s (2 + n) ≤ E := topE_le _ fun j hj => by have := (sec j hj).ends; omega
  have hsec : ∀ j, j < 2 + n → RSec (topE s (2 + n) + 1) (isS s j) := fun j hj => by
    have := topE_ge (s := s) (j := j) (k := 2 + n) hj
    exact (sec j hj).under (by omega) (by omega)
  have hff := hd.f (T := topE s (2 + n)) f0 f1 (topE_ge (by omega)).1 (topE_ge (by omega)).1 (by omega)
  have hfu : fu ≤ topE s (2 + n) + 1 := ChE.top (T := topE s (2 + n) + 1) (fun j hj => by have := (topE_ge (s := s) (j := 2 + j) (k := 2 + n) (by omega)).1; omega) (by omega) ch hff.1
  have hle := ch.le
  refine ⟨topE s (2 + n) + 1, by omega, ⟨ok, ?_, by omega, by omega, ?_, ?_, ?_, ?_, ?_, ?_, ?_, hfu, fr, .inr ?_, aok⟩, ?_⟩
  · rw [hb]; exact sb
  · rw [hb]; exact .inl (hsec 0 (by omega))
  · rw [hb]; exact .inl (hsec 1 (by omega))
  · rw [hb]; exact f0
  · rw [hb]; exact f1
  · rw [hb]; exact hd
  · rw [hb]; exact fun j hj => .inl (hsec (2 + j) (by omega))
  · rw [hb]; exact ch
  · rw [hb]; exact stop
  · have hh := headO_vw (s := s) (N := N) hd (fun _ _ => rfl) (by omega)
    have e := chE_says (s := s) (N := N) (V := isS s) (n := n) (H := ((N - 2 - n : Nat) : Int)) (fun _ _ => rfl) (by omega) (by omega) (by omega) fls h.t h.f u fu (n + 1) nA ch fr (by omega) stop
    have e0 : r0G (openL s n) = ⟨h.t, h.f, nA⟩ := by
      unfold r0G openL
      rw [hh]
      rfl
    unfold openS LS.at_
    rw [e0, e]
    unfold openL
    rw [hh]
end
end Go.Proofs.YtolcnbiaiolcoaaGreat
namespace Go.Proofs.YtolcnbiaiolcoaaGreat
open Go.RowKit Go.Maps

/-- where a crash leads: a log that is opened, whose homes are among SL -/
def After (s : DS) (n N E X G : Nat) (SL : List (List (List Nat))) : Prop :=
  ∀ (ks : List Int) (torn : Int), ∃ (h : Hd) (E' : Nat) (fls : List (Nat × List Pt)) (u fu : Nat), E' ≤ E + 1 ∧ u ≤ X ∧ h.g ≤ G ∧ Opened (crashS s ks torn) n N h E' fls u fu ∧ hmL (crashS s ks torn) n (N - 2 - n) (putE nA fls) ∈ SL
theorem After.mono {s : DS} {n N E E' X X' G G' : Nat} {SL SL' : List (List (List Nat))} (h : After s n N E X G SL) (hE : E ≤ E') (hX : X ≤ X') (hG : G ≤ G') (hS : ∀ x ∈ SL, x ∈ SL') : After s n N E' X' G' SL' := fun ks torn => by
  obtain ⟨h, e, fls, u, fu, h1, h2, h3, h4, h5⟩ := h ks torn
  exact ⟨h, e, fls, u, fu, by omega, by omega, by omega, h4, hS _ h5⟩

theorem crash_far {s : DS} (ks : List Int) (torn : Int) {i : Nat} (h : ∀ q ∈ s.Q, q.1 ≠ i) : isS (crashS s ks torn) i = isS (bare s) i := by
  rw [crash_at, bare_at, List.getD_eq_getElem?_getD, List.getD_eq_getElem?_getD, laysBy_other _ _ _ _ _ (Nat.le_refl _) h]
theorem crashS_Q (s : DS) (ks : List Int) (torn : Int) : (crashS s ks torn).Q = [] := rfl
theorem laysBy_bytes (c : Nat → Nat) (Q : List (Nat × List Nat)) (L : List (List Nat)) (hL : ∀ r ∈ L, ∀ x ∈ r, x < 256) (hQ : ∀ q ∈ Q, ∀ x ∈ q.2, x < 256) : ∀ k, k ≤ Q.length → ∀ r ∈ laysBy c Q L k, ∀ x ∈ r, x < 256
  | 0, _ => hL
  | k + 1, hk => by
    have ih := laysBy_bytes c Q L hL hQ k (by omega)
    intro r hr
    unfold laysBy layN at hr
    rcases List.mem_or_eq_of_mem_set hr with h | h
    · exact ih r h
    · subst h
      intro x hx
      rcases List.mem_append.mp hx with h | h
      · exact hQ _ (getD_mem (by omega)) x (List.mem_of_mem_take h)
      · have h := List.mem_of_mem_drop h
        rw [List.getD_eq_getElem?_getD] at h
        rcases hg : (laysBy c Q L k)[(Q.getD k (0, [])).1]? with _ | y
        · rw [hg] at h; simp at h
        · rw [hg] at h
          exact ih y (List.mem_of_getElem? hg) x h
theorem crash_bytes {s : DS} {N : Nat} (hok : s.ok N) (hb : ∀ j, j < N → ∀ x ∈ isS (bare s) j, x < 256) (hQ : ∀ q ∈ s.Q, ∀ x ∈ q.2, x < 256) (ks : List Int) (torn : Int) : ∀ j, j < N → ∀ x ∈ isS (crashS s ks torn) j, x < 256 := by
  have hL : ∀ r ∈ s.L, ∀ x ∈ r, x < 256 := fun r hr => by
    obtain ⟨j, hj, rfl⟩ := List.getElem_of_mem hr
    have := hb j (by rw [← hok.len]; exact hj)
    rw [bare_at, List.getD_eq_getElem?_getD, List.getElem?_eq_getElem hj] at this
    exact this
  intro j _ x hx
  rw [crash_at, List.getD_eq_getElem?_getD] at hx
  rcases hg : (laysBy (kept ks torn s.Q.length) s.Q s.L s.Q.length)[j]? with _ | y
  · rw [hg] at hx; simp at hx
  · rw [hg] at hx
    exact laysBy_bytes _ _ _ hL hQ _ (Nat.le_refl _) y (List.mem_of_getElem? hg) x hx

/-- nobody of the log's own epoch has a count from u on -/
theorem stop_E {s : DS} {n E u : Nat} {A : Nat → Option (List Nat)} {H : Int} (hn : 1 ≤ n) (h : ∀ j, j < n → BCls E u (isS s (2 + j))) : ¬ RecOk s n H ⟨u, E, A⟩ := by
  intro hr
  obtain ⟨hj, hf, _⟩ := hr
  simp only at hf
  have hpos := JoinOk.pos hj
  simp only at hpos
  obtain ⟨e1, hg⟩ := scanV_good (s := s) (n := n) (c := u)
  have h0 := hg 0 hpos
  rw [Nat.add_zero] at h0
  have hd : hdP (scanV s n u) = dec (rdP s n u) := by
    rw [hdP_zero hpos]
    have : (scanV s n u)[0]? = some (dec (rdP s n u)) := by
      rw [e1]
      unfold preP
      rw [List.getElem?_map, List.getElem?_range hpos]
      rfl
    rw [List.getElem?_eq_getElem hpos] at this
    exact Option.some.inj this
  rw [hd] at hf
  rcases h (u % n) (Nat.mod_lt _ (by omega)) with k | ⟨q, q1, q2, q3, q4, q5⟩
  · have := k.whole (X := rdP s n u) h0.1
    omega
  · have h1 := h0.2
    have q4' : rdP s n u = sealL q := q4
    rw [q4', dec_seal q1] at h1
    omega
section
variable {s : DS} {n N E u fu : Nat} {h : Hd} {fls : List (Nat × List Pt)}
theorem Base.halt (b : Base s n N h E fls u fu) (hn : 1 ≤ n) : ∀ A, ¬ RecOk (bare s) n ((N - 2 - n : Nat) : Int) ⟨u, fu, A⟩ := by
  intro A
  rcases b.stop with e | e
  · rw [e]; exact stop_E hn b.ring
  · exact e A
theorem halt_same {s' : DS} {H : Int} (hh : ∀ A, ¬ RecOk s n H ⟨u, fu, A⟩) (hr : ∀ c, rdP s' n c = rdP s n c) : ∀ A, ¬ RecOk s' n H ⟨u, fu, A⟩ := fun A h => hh A (recOk_same h fun _ _ => (hr _).symm)
end

theorem TxE.good {s : DS} {n e t : Nat} {H : Int} {ps : List Pt} (h : TxE (isS s) n H e t ps) {c : Nat} (h1 : t ≤ c) (h2 : c < t + needT ps) : goodP s n c := by
  have hm := piece_mem (e := e) (c := t) (i := c - t) (l := recB ps) (by unfold needT at h2; omega)
  have hk := h.ok _ hm
  have hr : rdP s n c = sealL (pieceAt e t (recB ps) (c - t)) := by
    have := h.at_ _ hm
    unfold rdP
    rw [← this]
    show isS s (2 + c % n) = isS s (2 + (t + (c - t)) % n)
    rw [show t + (c - t) = c by omega]
  exact ⟨by rw [hr]; exact seal_whole hk, by rw [hr, dec_seal hk]; show t + (c - t) = c; omega⟩
theorem ChE.good {s : DS} {n : Nat} {H : Int} : ∀ {l : List (Nat × List Pt)} {t fl u fu : Nat}, ChE (isS s) n H t fl l u fu → ∀ c, t ≤ c → c < u → goodP s n c
  | [], t, fl, u, fu, h, c, h1, h2 => by have := h.1; omega
  | x :: r, t, fl, u, fu, h, c, h1, h2 => by
    by_cases hc : c < t + needT x.2
    · exact h.1.2.good h1 hc
    · exact h.2.good c (by omega) h2
theorem ChE.append {V : Nat → List Nat} {n : Nat} {H : Int} : ∀ {l : List (Nat × List Pt)} {m : List (Nat × List Pt)} {t fl u fu v fv : Nat}, ChE V n H t fl l u fu → ChE V n H u fu m v fv → ChE V n H t fl (l ++ m) v fv
  | [], m, t, fl, u, fu, v, fv, h, k => by obtain ⟨rfl, rfl⟩ := h; exact k
  | x :: r, m, t, fl, u, fu, v, fv, h, k => ⟨h.1, h.2.append k⟩
theorem pend_len {V : Nat → List Nat} {n E u0 : Nat} {H : Int} {PL : List Pc} : ∀ (pend : List (List Pt)) (j u fu u' fu' : Nat), PendAt (byC u0 PL) H E u pend → u ≤ u0 + PL.length → ChE V n H u fu ((pend.take j).map (fun qs => (E, qs))) u' fu' → u' ≤ u0 + PL.length
  | [], j, u, fu, u', fu', _, hu, hc => by rw [List.take_nil] at hc; have := hc.1; omega
  | qs :: r, 0, u, fu, u', fu', _, hu, hc => by have := hc.1; omega
  | qs :: r, j + 1, u, fu, u', fu', hp, hu, hc => by
    have hneed := needT_pos qs
    have h1 := hp.1.2.2.2 (needT qs - 1) (by omega)
    have h2 : u + (needT qs - 1) - u0 < PL.length ∧ u0 ≤ u + (needT qs - 1) := by
      unfold byC at h1
      split at h1
      · next hc => exact ⟨(List.getElem?_eq_some_iff.1 h1).1, hc⟩
      · cases h1
    exact pend_len r j (u + needT qs) E u' fu' hp.2 (by omega) hc.2
theorem AOk.pend {P : Nat → Option Pc} {E M : Nat} {H : Int} (hH : H.toNat ≤ M) : ∀ (pend : List (List Pt)) (u j : Nat) (A : Nat → Option (List Nat)), AOk M A → PendAt P H E u pend → AOk M ((pend.take j).foldl Go.Proofs.YtolcnbiaiolcoaaGreat.putA A)
  | [], u, j, A, h, _ => by rw [List.take_nil]; exact h
  | qs :: r, u, 0, A, h, _ => h
  | qs :: r, u, j + 1, A, h, hp => AOk.pend hH r (u + needT qs) j (Go.Proofs.YtolcnbiaiolcoaaGreat.putA A qs) (h.putA hp.1.1.row hp.1.2.1 hH) hp.2
theorem putE_append (A : Nat → Option (List Nat)) (l m : List (Nat × List Pt)) : putE A (l ++ m) = putE (putE A l) m := List.foldl_append
theorem putE_map (A : Nat → Option (List Nat)) (E : Nat) (l : List (List Pt)) : putE A (l.map (fun qs => (E, qs))) = l.foldl putA A := by unfold putE; rw [List.foldl_map]
theorem ring_c {n t i : Nat} (hi : i < n) : ∃ c, t ≤ c ∧ c < t + n ∧ c % n = i := by
  have h1 := Nat.mod_lt t (by omega : 0 < n)
  have h2 := Nat.div_add_mod t n
  by_cases h : t % n ≤ i
  · refine ⟨n * (t / n) + i, by omega, by omega, ?_⟩
    rw [Nat.mul_add_mod, Nat.mod_eq_of_lt hi]
  · refine ⟨n * (t / n + 1) + i, by rw [Nat.mul_add]; omega, by rw [Nat.mul_add]; omega, ?_⟩
    rw [Nat.mul_add_mod, Nat.mod_eq_of_lt hi]

theorem pend_crash {s : DS} {n N E u fu : Nat} {h : Hd} {fls : List (Nat × List Pt)} {PL : List Pc} {pend : List (List Pt)} {SL : List (List (List Nat))} (hn : 2 ≤ n ∧ n + 3 ≤ N ∧ N ≤ 4096) (b : Base s n N h E fls u fu) (hE : E < 255) (hQ : s.Q = PL.map (qOf n)) (hw : Wait PL E u) (hlen : u + PL.length ≤ h.t + n)
    (hp : PendAt (byC u PL) ((N - 2 - n : Nat) : Int) E u pend) (st : ∀ j, j ≤ pend.length → hmL (bare s) n (N - 2 - n) ((pend.take j).foldl putA (putE nA fls)) ∈ SL) : After s n N E (u + PL.length) h.g SL := by
  intro ks torn
  have hle := b.ch.le
  have htu : h.t ≤ u := by omega
  have hB : ∀ j, j < n → BCls E u (s.L.getD (2 + j) []) := fun j hj => by rw [← bare_at]; exact b.ring j hj
  have hql : ∀ q ∈ s.Q, 2 ≤ q.1 ∧ q.1 < 2 + n := fun q hq => by
    rw [hQ] at hq
    obtain ⟨p, _, rfl⟩ := List.mem_map.1 hq
    have := Nat.mod_lt p.c (by omega : 0 < n)
    exact ⟨Nat.le_add_right _ _, by show 2 + p.c % n < 2 + n; omega⟩
  have hqb : ∀ q ∈ s.Q, ∀ x ∈ q.2, x < 256 := fun q hq => by
    rw [hQ] at hq
    obtain ⟨p, hm, rfl⟩ := List.mem_map.1 hq
    obtain ⟨i, hi, rfl⟩ := List.getElem_of_mem hm
    obtain ⟨_, _, k3, k4⟩ := hw.at_ i hi
    exact sealL_lt k3.2.2 k4
  have far0 : isS (crashS s ks torn) 0 = isS (bare s) 0 := crash_far ks torn fun q hq => by have := hql q hq; omega
  have far1 : isS (crashS s ks torn) 1 = isS (bare s) 1 := crash_far ks torn fun q hq => by have := hql q hq; omega
  have farH : ∀ i, isS (crashS s ks torn) (2 + n + i) = isS (bare s) (2 + n + i) := fun i => crash_far ks torn fun q hq => by have := hql q hq; omega
  have left := crash_left b.ok hQ hw hlen htu b.e2 hB ks torn
  have kept_ := fun c (h1 : h.t ≤ c) (h2 : c < u) => crash_kept b.ok hQ hw hlen htu b.e2 hB ks torn h1 h2
  have ch1 : ChE (isS (crashS s ks torn)) n ((N - 2 - n : Nat) : Int) h.t h.f fls u fu := b.ch.frame fun c h1 h2 => kept_ c h1 h2
  obtain ⟨j, u', fu', hj, ch2, stop⟩ := pend_says (t := h.t) (by omega) pend u fu htu ch1.good left hp b.fe (.inr (b.halt (by omega)))
  have hu' := pend_len pend j u fu u' fu' hp (by omega) ch2
  have eA : putE nA (fls ++ (pend.take j).map (fun qs => (E, qs))) = (pend.take j).foldl putA (putE nA fls) := by rw [putE_append, putE_map]
  have sec : ∀ j, j < 2 + n → RSec (E + 1) (isS (crashS s ks torn) j) := fun i hi => by
    by_cases i0 : i = 0
    · subst i0; rw [far0]; exact b.c0.sec b.e2
    · by_cases i1 : i = 1
      · subst i1; rw [far1]; exact b.c1.sec b.e2
      · obtain ⟨c, c1, c2, c3⟩ := ring_c (n := n) (t := h.t) (i := i - 2) (by omega)
        have ei : 2 + c % n = i := by omega
        rcases crash_ring b.ok hQ hw hlen htu b.e2 hB ks torn c1 c2 (X := isS (crashS s ks torn) i) (by rw [ei]) with k | ⟨_, k⟩
        · rw [k]; exact (hB (c % n) (Nat.mod_lt _ (by omega))).sec b.e2
        · exact k
  obtain ⟨E', hE', op⟩ := opened (s := crashS s ks torn) (h := h) (fls := fls ++ (pend.take j).map (fun qs => (E, qs))) (u := u') (fu := fu') hn (crashS_ok b.ok ks torn) rfl (crash_bytes b.ok b.sb hqb ks torn) hE sec (by rw [far0]; exact b.f0) (by rw [far1]; exact b.f1) (b.hd.frame far0 far1)
    (ch1.append ch2) (by omega) stop (by rw [eA]; exact AOk.pend (by simp) pend u j _ b.aok hp)
  refine ⟨h, E', _, u', fu', hE', hu', Nat.le_refl _, op, ?_⟩
  rw [eA]
  have e : hmL (crashS s ks torn) n (N - 2 - n) ((pend.take j).foldl putA (putE nA fls)) = hmL (bare s) n (N - 2 - n) ((pend.take j).foldl putA (putE nA fls)) := by
    unfold hmL
    exact List.map_congr_left fun i _ => by rw [farH]
  rw [e]
  exact st j hj
end Go.Proofs.YtolcnbiaiolcoaaGreat
namespace Go.Proofs.YtolcnbiaiolcoaaGreat
open Go.RowKit Go.Maps

section
variable {s : DS} {n N E u fu : Nat} {h : Hd} {fls : List (Nat × List Pt)} {SL : List (List (List Nat))}
/-- the ring and the heads are as they lasted: so the same is opened -/
theorem Base.again {s' : DS} (b : Base s n N h E fls u fu) (hn : 2 ≤ n ∧ n + 3 ≤ N ∧ N ≤ 4096) (hE : E < 255) (hok : s'.ok N) (hQ : s'.Q = []) (hb : ∀ j, j < N → ∀ x ∈ isS s' j, x < 256) (hr : ∀ j, 2 ≤ j → j < 2 + n → isS s' j = isS (bare s) j)
    (sec0 : RSec (E + 1) (isS s' 0)) (sec1 : RSec (E + 1) (isS s' 1)) (f0 : FlOk (isS s' 0)) (f1 : FlOk (isS s' 1)) (hd : HeadV (isS s') h) : ∃ E', E' ≤ E + 1 ∧ Opened s' n N h E' fls u fu := by
  have hm : ∀ c, 2 + c % n < 2 + n := fun c => by have := Nat.mod_lt c (by omega : 0 < n); omega
  refine opened hn hok hQ hb hE ?_ f0 f1 hd (b.ch.frame fun c _ _ => hr _ (by omega) (hm c)) b.fr (halt_same (b.halt (by omega)) fun c => hr _ (by omega) (hm c)) b.aok
  intro j hj
  by_cases i0 : j = 0
  · subst i0; exact sec0
  · by_cases i1 : j = 1
    · subst i1; exact sec1
    · rw [hr j (by omega) hj]
      have := b.ring (j - 2) (by omega)
      rw [show 2 + (j - 2) = j by omega] at this
      exact this.sec b.e2

/-- homes that are in the ring wait -/
theorem homes_crash (hn : 2 ≤ n ∧ n + 3 ≤ N ∧ N ≤ 4096) (b : Base s n N h E fls u fu) (hE : E < 255) (hQ : ∀ q ∈ s.Q, ∃ i, i < N - 2 - n ∧ q.1 = 2 + n + i ∧ (putE nA fls i).isSome = true ∧ ∀ x ∈ q.2, x < 256)
    (st : hmL (bare s) n (N - 2 - n) (putE nA fls) ∈ SL) : After s n N E u h.g SL := by
  intro ks torn
  have far : ∀ j, j < 2 + n → isS (crashS s ks torn) j = isS (bare s) j := fun j hj => crash_far ks torn fun q hq => by
    obtain ⟨i, _, e, _⟩ := hQ q hq
    omega
  obtain ⟨E', hE', op⟩ := b.again (s' := crashS s ks torn) hn hE (crashS_ok b.ok ks torn) rfl (crash_bytes b.ok b.sb (fun q hq => by obtain ⟨_, _, _, _, k⟩ := hQ q hq; exact k) ks torn) (fun j _ hj => far j hj)
    (by rw [far 0 (by omega)]; exact b.c0.sec b.e2) (by rw [far 1 (by omega)]; exact b.c1.sec b.e2) (by rw [far 0 (by omega)]; exact b.f0) (by rw [far 1 (by omega)]; exact b.f1) (b.hd.frame (far 0 (by omega)) (far 1 (by omega)))
  refine ⟨h, E', fls, u, fu, hE', Nat.le_refl _, Nat.le_refl _, op, ?_⟩
  have e : hmL (crashS s ks torn) n (N - 2 - n) (putE nA fls) = hmL (bare s) n (N - 2 - n) (putE nA fls) := by
    unfold hmL
    refine List.map_congr_left fun i _ => ?_
    cases hA : putE nA fls i with
    | some x => rfl
    | none =>
      show isS (crashS s ks torn) (2 + n + i) = isS (bare s) (2 + n + i)
      refine crash_far ks torn fun q hq => ?_
      obtain ⟨i', _, e1, e2, _⟩ := hQ q hq
      intro e3
      obtain rfl : i' = i := by omega
      rw [hA] at e2; cases e2
  rw [e]
  exact st

/-- one head waits, all homes lie at their places -/
theorem head_crash (hn : 2 ≤ n ∧ n + 3 ≤ N ∧ N ≤ 4096) (b : Base s n N h E fls u fu) (hE : E < 255) {x : Hd} (hQ : s.Q = [(x.g % 2, hSec E x)]) (k : hOk E x) (hg : x.g = h.g + 1) (ht : x.t = u) (hf : x.f = E)
    (hh : ∀ i, i < N - 2 - n → ∀ v, putE nA fls i = some v → isS (bare s) (2 + n + i) = v) (st : hmL (bare s) n (N - 2 - n) (putE nA fls) ∈ SL) : After s n N E u (h.g + 1) SL := by
  intro ks torn
  have hx2 : x.g % 2 < 2 := Nat.mod_lt _ (by decide)
  have far : ∀ j, j ≠ x.g % 2 → isS (crashS s ks torn) j = isS (bare s) j := fun j hj => crash_far ks torn fun q hq => by
    rw [hQ] at hq
    obtain rfl := List.mem_singleton.1 hq
    exact fun e => hj e.symm
  obtain ⟨m, hm⟩ : ∃ m, m = kept ks torn 1 0 := ⟨_, rfl⟩
  have hm128 : m ≤ 128 := by rw [hm]; exact kept_le128 _ _ _ _
  have hlen := b.ok.len
  obtain ⟨X, hX⟩ : ∃ X, X = if x.g % 2 = 0 then isS (bare s) 0 else isS (bare s) 1 := ⟨_, rfl⟩
  have hXx : isS (bare s) (x.g % 2) = X := by
    rw [hX]
    by_cases h0 : x.g % 2 = 0
    · rw [if_pos h0, h0]
    · rw [if_neg h0, show x.g % 2 = 1 by omega]
  have hY : isS (crashS s ks torn) (x.g % 2) = tornL (hSec E x) X m := by
    rw [crash_at, hQ]
    show (layN s.L (x.g % 2, hSec E x) (kept ks torn 1 0)).getD (x.g % 2) [] = _
    rw [layN_eq (q := (x.g % 2, hSec E x)) (by rw [hlen]; show x.g % 2 < N; omega), ← hm]
    show (hSec E x).take m ++ (s.L.getD (x.g % 2) []).drop m = _
    rw [← bare_at, hXx]
    rfl
  have hXc : HCls E X x.g := by rw [hX, hg]; split; exact b.c0; exact b.c1
  have hXf : FlOk X := by rw [hX]; split; exact b.f0; exact b.f1
  have hYs : RSec (E + 1) (tornL (hSec E x) X m) := (hSec_sec k b.e2).torn (hXc.sec b.e2) hm128
  have hYf : FlOk (tornL (hSec E x) X m) := by
    rcases torn_head k b.e2 hXc.cls hm128 with e | e | e
    · exact .not e
    · rw [e]; exact .head k (by omega)
    · rw [e]; exact hXf
  have sec : ∀ j, j < 2 → RSec (E + 1) (isS (crashS s ks torn) j) ∧ FlOk (isS (crashS s ks torn) j) := fun j hj => by
    by_cases e : j = x.g % 2
    · subst e; rw [hY]; exact ⟨hYs, hYf⟩
    · rw [far j e]
      have : j = 0 ∨ j = 1 := by omega
      rcases this with rfl | rfl
      · exact ⟨b.c0.sec b.e2, b.f0⟩
      · exact ⟨b.c1.sec b.e2, b.f1⟩
  have hok := crashS_ok b.ok ks torn
  have hbts := crash_bytes b.ok b.sb (fun q hq => by rw [hQ] at hq; obtain rfl := List.mem_singleton.1 hq; exact hSec_lt k) ks torn
  have hring : ∀ j, 2 ≤ j → isS (crashS s ks torn) j = isS (bare s) j := fun j hj => far j (by omega)
  obtain ⟨sure, has, hs, hhd⟩ := b.hd
  have hsg : h.g = sure.g := by
    rw [hhd]
    cases has with
    | true => rfl
    | false => rw [hs.2 rfl]; rfl
  have tw : two (isS (crashS s ks torn) 0) (isS (crashS s ks torn) 1) = two (putP2 (isS (bare s) 0) (isS (bare s) 1) (x.g % 2) (tornL (hSec E x) X m)).1 (putP2 (isS (bare s) 0) (isS (bare s) 1) (x.g % 2) (tornL (hSec E x) X m)).2 := by
    unfold putP2
    by_cases h0 : x.g % 2 = 0
    · rw [if_pos h0, far 1 (by omega)]
      rw [h0] at hY
      rw [hY]
    · have h1 : x.g % 2 = 1 := by omega
      rw [if_neg h0, far 0 (by omega)]
      rw [h1] at hY
      rw [hY]
  have hst := says_torn hs k b.e2 (by omega) (by rw [hg]; exact b.c0.cls) (by rw [hg]; exact b.c1.cls) hm128
  rw [← hX, ← tw] at hst
  have homes : ∀ i, isS (crashS s ks torn) (2 + n + i) = isS (bare s) (2 + n + i) := fun i => hring _ (by omega)
  rcases hst with hst | hst
  · -- the elder head
    obtain ⟨E', hE', op⟩ := b.again (s' := crashS s ks torn) hn hE hok rfl hbts (fun j h2 _ => hring j h2) (sec 0 (by omega)).1 (sec 1 (by omega)).1 (sec 0 (by omega)).2 (sec 1 (by omega)).2 ⟨sure, has, ⟨hst.trans hs.1, hs.2⟩, hhd⟩
    refine ⟨h, E', fls, u, fu, hE', Nat.le_refl _, Nat.le_succ _, op, ?_⟩
    have e : hmL (crashS s ks torn) n (N - 2 - n) (putE nA fls) = hmL (bare s) n (N - 2 - n) (putE nA fls) := by
      unfold hmL
      exact List.map_congr_left fun i _ => by rw [homes]
    rw [e]
    exact st
  · -- the new head
    have hm' : ∀ c, 2 + c % n < 2 + n := fun c => by have := Nat.mod_lt c (by omega : 0 < n); omega
    obtain ⟨E', hE', op⟩ := opened (s := crashS s ks torn) (h := x) (fls := []) (u := u) (fu := E) hn hok rfl hbts hE (fun j hj => by
        by_cases h2 : j < 2
        · exact (sec j h2).1
        · rw [hring j (by omega)]
          have := b.ring (j - 2) (by omega)
          rw [show 2 + (j - 2) = j by omega] at this
          exact this.sec b.e2) (sec 0 (by omega)).2 (sec 1 (by omega)).2 ⟨x, true, ⟨hst, fun e => by (cases e)⟩, rfl⟩ ⟨ht, hf⟩ (by omega)
      (fun A => halt_same (fun A => stop_E (s := bare s) (by omega) b.ring) (fun c => hring _ (by omega)) A) (AOk.none _)
    refine ⟨x, E', [], u, E, hE', Nat.le_refl _, by omega, op, ?_⟩
    have e : hmL (crashS s ks torn) n (N - 2 - n) (putE nA []) = hmL (bare s) n (N - 2 - n) (putE nA fls) := by
      unfold hmL
      refine List.map_congr_left fun i hi => ?_
      show isS (crashS s ks torn) (2 + n + i) = _
      rw [homes]
      cases hA : putE nA fls i with
      | none => rfl
      | some v => exact hh i (List.mem_range.1 hi) v hA
    rw [e]
    exact st
end
end Go.Proofs.YtolcnbiaiolcoaaGreat
