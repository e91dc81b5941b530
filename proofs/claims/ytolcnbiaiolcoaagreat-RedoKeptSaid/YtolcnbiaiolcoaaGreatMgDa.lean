/- The ring goes around: a log while the power stays (arithmetic): disks. The ring goes around (arithmetic): what a ring says. The ring goes around (arithmetic): the log's states. -/
import Derived.Test.YtolcnbiaiolcoaaGreatMgRg
import Derived.Test.YtolcnbiaiolcoaaGreatMgCb
import Derived.Test.YtolcnbiaiolcoaaGreatMgQ
namespace Go.Proofs.YtolcnbiaiolcoaaGreat
open Go.RowKit Go.Maps

theorem step_on {s : DS} (h : s.fuse = none) : stepS s = (s, true) := by unfold stepS; rw [h]
def putV (V : Nat → List Nat) (i : Nat) (b : List Nat) : Nat → List Nat := fun j => if j = i then b else V j
/-- the power stays; what each sector is -/
structure On (s : DS) (N : Nat) (V : Nat → List Nat) : Prop where
  fz : s.fuse = none
  len : s.L.length = N
  at_ : ∀ j, j < N → isS s j = V j
theorem On.write {s : DS} {N i : Nat} {V : Nat → List Nat} {b : List Nat} (h : On s N V) (hi : i < N) (hb : b.length = 128) : (writeS s (i : Int) b).2 = 0 ∧ On (writeS s (i : Int) b).1 N (putV V i b) := by
  have e : writeS s (i : Int) b = ({ s with Q := s.Q ++ [(i, b)] }, 0) := by
    unfold writeS
    rw [if_neg (by rw [h.len]; omega), step_on h.fz, if_pos rfl]
    rfl
  rw [e]
  refine ⟨rfl, h.fz, h.len, fun j hj => ?_⟩
  have h1 := h.at_ j hj
  unfold isS at h1 ⊢
  show (lays s.L (s.Q ++ [(i, b)])).getD j [] = _
  rw [lays_snoc]
  unfold putV
  by_cases c : j = i
  · subst c
    rw [if_pos rfl]
    have hl : j < (lays s.L s.Q).length := by rw [lays_length, h.len]; exact hj
    simp [List.getD_eq_getElem?_getD, hl]
  · rw [if_neg c, ← h1]
    have c' : i ≠ j := fun e => c e.symm
    simp [List.getD_eq_getElem?_getD, List.getElem?_set_ne c']
theorem On.flush {s : DS} {N : Nat} {V : Nat → List Nat} (h : On s N V) : (flushS s).2 = 0 ∧ On (flushS s).1 N V := by
  have e : flushS s = ({ s with L := lays s.L s.Q, Q := [] }, 0) := by
    unfold flushS
    rw [step_on h.fz, if_pos rfl]
  rw [e]
  exact ⟨rfl, h.fz, by show (lays s.L s.Q).length = N; rw [lays_length, h.len], fun j hj => h.at_ j hj⟩
def layV (V : Nat → List Nat) (n : Nat) (P : List Pc) : Nat → List Nat := P.foldl (fun V p => putV V (2 + p.c % n) (sealL p)) V
theorem On.layP {n N : Nat} (hn : 1 ≤ n) (hN : n + 2 ≤ N) : ∀ {P : List Pc} {s : DS} {V : Nat → List Nat}, On s N V → (∀ p ∈ P, p.d.length ≤ 106) → (layAll s n P).2 = 0 ∧ On (layAll s n P).1 N (layV V n P)
  | [], _, _, h, _ => ⟨rfl, h⟩
  | p :: P, s, V, h, hp => by
    obtain ⟨h1, h2⟩ := h.write (i := 2 + p.c % n) (b := sealL p) (by have := Nat.mod_lt p.c hn; omega) (sealL_length (hp p (by simp)))
    unfold layAll
    rw [if_pos h1]
    exact On.layP hn hN h2 (fun q hq => hp q (by simp [hq]))
theorem layV_out (n : Nat) : ∀ (P : List Pc) (V : Nat → List Nat) {j : Nat}, (∀ p ∈ P, 2 + p.c % n ≠ j) → layV V n P j = V j
  | [], _, _, _ => rfl
  | p :: P, V, j, h => by
    show layV (putV V (2 + p.c % n) (sealL p)) n P j = V j
    rw [layV_out n P _ (fun q hq => h q (by simp [hq]))]
    unfold putV
    rw [if_neg (fun e => h p (by simp) e.symm)]
theorem layV_in (n : Nat) : ∀ (P : List Pc) (V : Nat → List Nat) {p : Pc}, P.Pairwise (fun a b => 2 + a.c % n ≠ 2 + b.c % n) → p ∈ P → layV V n P (2 + p.c % n) = sealL p
  | [], _, _, _, h => absurd h (by simp)
  | q :: P, V, p, hP, h => by
    obtain ⟨h1, h2⟩ := List.pairwise_cons.mp hP
    show layV (putV V (2 + q.c % n) (sealL q)) n P (2 + p.c % n) = sealL p
    rcases List.mem_cons.mp h with rfl | h
    · rw [layV_out n P _ (fun r hr e => h1 r hr e.symm)]
      unfold putV
      rw [if_pos rfl]
    · exact layV_in n P _ h2 h
theorem layV_or (n : Nat) (j : Nat) : ∀ (P : List Pc) (V : Nat → List Nat), layV V n P j = V j ∨ ∃ p ∈ P, layV V n P j = sealL p
  | [], _ => .inl rfl
  | p :: P, V => by
    rcases layV_or n j P (putV V (2 + p.c % n) (sealL p)) with h | ⟨q, hq, h⟩
    · by_cases c : j = 2 + p.c % n
      · right
        refine ⟨p, by simp, ?_⟩
        show layV (putV V (2 + p.c % n) (sealL p)) n P j = sealL p
        rw [h]
        unfold putV
        rw [if_pos c]
      · left
        show layV (putV V (2 + p.c % n) (sealL p)) n P j = V j
        rw [h]
        unfold putV
        rw [if_neg c]
    · exact .inr ⟨q, by simp [hq], h⟩
theorem mod_apart {n a b : Nat} (h : a < b) (hb : b < a + n) : a % n ≠ b % n := fun e => by
  have hn : 0 < n := by omega
  have h1 := Nat.div_add_mod a n
  have h2 := Nat.div_add_mod b n
  rw [e] at h1
  have h3 : n * (a / n) < n * (b / n) := by omega
  have h4 : a / n < b / n := Nat.lt_of_mul_lt_mul_left h3
  have h5 : n * (a / n + 1) ≤ n * (b / n) := Nat.mul_le_mul_left n h4
  rw [Nat.mul_add, Nat.mul_one] at h5
  omega
theorem cut_apart {n e c : Nat} {l : List Nat} (h : needN l.length ≤ n) : (cutP e c l).Pairwise (fun a b => 2 + a.c % n ≠ 2 + b.c % n) := by
  unfold cutP
  rw [List.pairwise_map]
  refine List.Pairwise.imp_of_mem (fun {a b} ha hb hab => ?_) (List.pairwise_lt_range (n := needN l.length))
  have hb' := List.mem_range.mp hb
  show 2 + (c + a) % n ≠ 2 + (c + b) % n
  have := mod_apart (n := n) (a := c + a) (b := c + b) (by omega) (by omega)
  omega
theorem cutP_mem {e c : Nat} {l : List Nat} {p : Pc} (h : p ∈ cutP e c l) : p.e = e ∧ ∃ i, i < needN l.length ∧ p.c = c + i := by
  unfold cutP at h
  obtain ⟨i, hi, rfl⟩ := List.mem_map.mp h
  exact ⟨rfl, i, List.mem_range.mp hi, rfl⟩

/-- noughts -/
def nou : List Nat := List.replicate 128 0
theorem dec_nou : (dec nou).c = 0 ∧ (dec nou).g = false := by constructor <;> kernel_rfl
theorem unO_nou (k : Nat) : unO nou k = none := unO_none (by kernel_rfl)
theorem end_nou : endX nou = 0 ∧ endY nou = 0 := by constructor <;> kernel_rfl
theorem end_seal {p : Pc} (h : p.ok) : endX (sealL p) = p.e ∧ endY (sealL p) = p.e := by
  have hv : val (be 8 (stamp p.e p.c)) / 1099511627776 = p.e := by
    rw [val_be]
    have h8 : (256 : Nat) ^ 8 = 18446744073709551616 := by decide
    have h1 := h.1
    have h2 := h.2.1
    rw [h8]
    unfold stamp
    omega
  have e3 : val ((be 8 (stamp p.e p.c)).take 3) = p.e := (val3 (by rw [be_length]) (fun x hx => be_lt _ _ x hx)).symm.trans hv
  constructor
  · have e4 : (sealL p).take 3 = (be 8 (stamp p.e p.c)).take 3 := by rw [← sealL_take8, List.take_take]; rfl
    unfold endX
    rw [e4, e3]
  · unfold endY
    rw [sealL_drop120 h.2.2, e3]
theorem topE_le {s : DS} {m : Nat} : ∀ k, (∀ j, j < k → endX (isS s j) ≤ m ∧ endY (isS s j) ≤ m) → topE s k ≤ m
  | 0, _ => Nat.zero_le _
  | k + 1, h => by
    have h1 := topE_le (s := s) (m := m) k (fun j hj => h j (by omega))
    have h2 := h k (by omega)
    unfold topE
    omega
end Go.Proofs.YtolcnbiaiolcoaaGreat
namespace Go.Proofs.YtolcnbiaiolcoaaGreat
open Go.RowKit Go.Maps

/-- a transaction lies at its place -/
structure TxAt (V : Nat → List Nat) (n : Nat) (H : Int) (t : Nat) (ps : List Pt) : Prop where
  tx : isTx ps H
  b : ∀ p ∈ ps, ∀ x ∈ p.d, x < 256
  cut : cutE 1 t (recB ps).length = 0
  at_ : ∀ p ∈ cutP 1 t (recB ps), V (2 + p.c % n) = sealL p
def Chain (V : Nat → List Nat) (n : Nat) (H : Int) : Nat → List (List Pt) → Nat → Prop
  | t, [], u => t = u
  | t, ps :: r, u => TxAt V n H t ps ∧ Chain V n H (t + needT ps) r u
theorem needT_pos (ps : List Pt) : 1 ≤ needT ps := needN_pos _
theorem Chain.le {V : Nat → List Nat} {n : Nat} {H : Int} : ∀ {l : List (List Pt)} {t u : Nat}, Chain V n H t l u → t + l.length ≤ u
  | [], t, u, h => by have h : t = u := h; simp [h]
  | ps :: r, t, u, h => by
    have h1 := Chain.le h.2
    have := needT_pos ps
    simp only [List.length_cons]
    omega
theorem TxAt.frame {V V' : Nat → List Nat} {n t : Nat} {H : Int} {ps : List Pt} (h : TxAt V n H t ps) (hv : ∀ c, t ≤ c → c < t + needT ps → V' (2 + c % n) = V (2 + c % n)) : TxAt V' n H t ps :=
  ⟨h.tx, h.b, h.cut, fun p hp => by
    obtain ⟨_, i, hi, e⟩ := cutP_mem hp
    rw [hv p.c (by omega) (by unfold needT; omega)]
    exact h.at_ p hp⟩
theorem Chain.frame {V V' : Nat → List Nat} {n : Nat} {H : Int} : ∀ {l : List (List Pt)} {t u : Nat}, Chain V n H t l u → (∀ c, t ≤ c → c < u → V' (2 + c % n) = V (2 + c % n)) → Chain V' n H t l u
  | [], _, _, h, _ => h
  | ps :: r, t, u, h, hv => by
    have h1 := Chain.le h.2
    exact ⟨h.1.frame (fun c h1 h2 => hv c h1 (by omega)), Chain.frame h.2 (fun c h1 h2 => hv c (by omega) h2)⟩
theorem Chain.snoc {V : Nat → List Nat} {n : Nat} {H : Int} {ps : List Pt} : ∀ {l : List (List Pt)} {t u : Nat}, Chain V n H t l u → TxAt V n H u ps → Chain V n H t (l ++ [ps]) (u + needT ps)
  | [], t, u, h, hp => by
    have h : t = u := h
    subst h
    exact ⟨hp, rfl⟩
  | qs :: r, t, u, h, hp => ⟨h.1, Chain.snoc h.2 hp⟩

section
variable {s : DS} {N n : Nat} {V : Nat → List Nat} {H : Int}
theorem rdP_at (ho : On s N V) (hn : 1 ≤ n) (hN : n + 2 ≤ N) (c : Nat) : rdP s n c = V (2 + c % n) := ho.at_ _ (by have := Nat.mod_lt c hn; omega)
theorem TxAt.ok {t : Nat} {ps : List Pt} (h : TxAt V n H t ps) : ∀ p ∈ cutP 1 t (recB ps), p.ok := cutP_ok h.cut
theorem piece_mem {e c i : Nat} {l : List Nat} (h : i < needN l.length) : pieceAt e c l i ∈ cutP e c l := List.mem_map.mpr ⟨i, List.mem_range.mpr h, rfl⟩
theorem TxAt.scan {t : Nat} {ps : List Pt} (ho : On s N V) (hn : 1 ≤ n) (hN : n + 2 ≤ N) (h : TxAt V n H t ps) : ∀ (m i f : Nat), i + m + 1 = needT ps → m + 1 ≤ f →
    scan s n f (t + i) = some ((List.range (m + 1)).map (fun j => pieceAt 1 t (recB ps) (i + j))) := by
  intro m
  induction m with
  | zero =>
    intro i f hi hf
    obtain ⟨f, rfl⟩ : ∃ g, f = g + 1 := ⟨f - 1, by omega⟩
    have hm := piece_mem (e := 1) (c := t) (i := i) (l := recB ps) (by unfold needT at hi; omega)
    have hok := h.ok _ hm
    have hr : rdP s n (t + i) = sealL (pieceAt 1 t (recB ps) i) := (rdP_at ho hn hN _).trans (h.at_ _ hm)
    have hg : goodP s n (t + i) := ⟨by rw [hr]; exact seal_whole hok, by rw [hr, dec_seal hok]; rfl⟩
    rw [scan_last hg (by rw [hr, dec_seal hok]; show (i == needN (recB ps).length - 1) = true; unfold needT at hi; rw [beq_iff_eq]; omega), hr, dec_seal hok]
    rfl
  | succ m ih =>
    intro i f hi hf
    obtain ⟨f, rfl⟩ : ∃ g, f = g + 1 := ⟨f - 1, by omega⟩
    have hm := piece_mem (e := 1) (c := t) (i := i) (l := recB ps) (by unfold needT at hi; omega)
    have hok := h.ok _ hm
    have hr : rdP s n (t + i) = sealL (pieceAt 1 t (recB ps) i) := (rdP_at ho hn hN _).trans (h.at_ _ hm)
    have hg : goodP s n (t + i) := ⟨by rw [hr]; exact seal_whole hok, by rw [hr, dec_seal hok]; rfl⟩
    rw [scan_more hg (by rw [hr, dec_seal hok]; show (i == needN (recB ps).length - 1) = false; unfold needT at hi; rw [beq_eq_false_iff_ne]; omega), hr, dec_seal hok, Nat.add_assoc t i 1, ih (i + 1) f (by omega) (by omega)]
    rw [List.range_succ_eq_map (n := m + 1), List.map_cons, List.map_map, Option.map_some]
    congr 2
    apply List.map_congr_left
    intro j _
    show pieceAt 1 t (recB ps) (i + 1 + j) = pieceAt 1 t (recB ps) (i + (j + 1))
    rw [show i + 1 + j = i + (j + 1) by omega]
theorem TxAt.scanV {t : Nat} {ps : List Pt} (ho : On s N V) (hn : 1 ≤ n) (hN : n + 2 ≤ N) (h : TxAt V n H t ps) (hl : needT ps ≤ n) : scanV s n t = cutP 1 t (recB ps) := by
  have h1 := needT_pos ps
  have h2 := h.scan ho hn hN (needT ps - 1) 0 (n + 1) (by omega) (by omega)
  unfold Go.Proofs.YtolcnbiaiolcoaaGreat.scanV
  rw [show t + 0 = t from rfl] at h2
  rw [h2, show needT ps - 1 + 1 = needT ps by omega]
  show (List.range (needT ps)).map (fun j => pieceAt 1 t (recB ps) (0 + j)) = _
  unfold cutP needT
  apply List.map_congr_left
  intro j _
  rw [Nat.zero_add]
theorem TxAt.rec_ {t : Nat} {ps : List Pt} (ho : On s N V) (hn : 1 ≤ n) (hN : n + 2 ≤ N) (hH : H ≤ 4096) (h : TxAt V n H t ps) (hl : needT ps ≤ n) (A : Nat → Option (List Nat)) (fl : Nat) (hf : fl ≤ 1) :
    RecOk s n H ⟨t, fl, A⟩ ∧ nextR s n ⟨t, fl, A⟩ = ⟨t + needT ps, 1, putA A ps⟩ := by
  have e := h.scanV ho hn hN hl
  have hj := joinP_cut h.cut
  have hb := rec_back h.tx hH h.b
  have hhd : (hdP (cutP 1 t (recB ps))).e = 1 := by
    obtain ⟨p, r, e1⟩ : ∃ p r, cutP 1 t (recB ps) = p :: r := List.exists_cons_of_length_pos (by rw [cutP_length]; exact needN_pos _)
    rw [e1]
    exact (cutP_mem (e := 1) (c := t) (l := recB ps) (p := p) (by rw [e1]; simp)).1
  unfold RecOk nextR
  simp only
  rw [e, allD_cut, hb.1, hhd, cutP_length]
  exact ⟨⟨(join_iff _).mp hj, hf, hb.2, h.tx⟩, rfl⟩
theorem chain_says (ho : On s N V) (hn : 1 ≤ n) (hN : n + 2 ≤ N) (hH : H ≤ 4096) : ∀ (l : List (List Pt)) (t u f fl : Nat) (A : Nat → Option (List Nat)), Chain V n H t l u → u ≤ t + n → l.length < f → fl ≤ 1 → (∀ A fl, fl ≤ 1 → ¬ RecOk s n H ⟨u, fl, A⟩) →
    ∃ fl', saysR s n H f ⟨t, fl, A⟩ = ⟨u, fl', l.foldl putA A⟩
  | [], t, u, f, fl, A, h, _, hf, hfl, hno => by
    have h : t = u := h
    subst h
    obtain ⟨f, rfl⟩ : ∃ g, f = g + 1 := ⟨f - 1, by simp at hf; omega⟩
    refine ⟨fl, ?_⟩
    unfold saysR
    rw [if_neg (hno A fl hfl)]
    rfl
  | ps :: r, t, u, f, fl, A, h, hu, hf, hfl, hno => by
    obtain ⟨f, rfl⟩ : ∃ g, f = g + 1 := ⟨f - 1, by simp at hf; omega⟩
    have h1 := Chain.le h.2
    have h2 := needT_pos ps
    obtain ⟨k1, k2⟩ := h.1.rec_ ho hn hN hH (by omega) A fl hfl
    obtain ⟨fl', e⟩ := chain_says ho hn hN hH r (t + needT ps) u f 1 (putA A ps) h.2 (by omega) (by simp at hf; omega) (Nat.le_refl _) hno
    refine ⟨fl', ?_⟩
    unfold saysR
    rw [if_pos k1, k2, e]
    rfl
/-- nobody else has a count from u on -/
def OldV (V : Nat → List Nat) (n u : Nat) : Prop := ∀ j, j < n → V (2 + j) = nou ∨ ∃ p : Pc, p.ok ∧ V (2 + j) = sealL p ∧ p.c < u
theorem OldV.stop {u fl : Nat} {A : Nat → Option (List Nat)} (h : OldV V n u) (ho : On s N V) (hn : 2 ≤ n) (hN : n + 2 ≤ N) : ¬ RecOk s n H ⟨u, fl, A⟩ := by
  have hc : ∀ c, u ≤ c → goodP s n c → V (2 + c % n) = nou ∧ c = 0 := fun c hcu hg => by
    have hr := rdP_at ho (by omega) hN c
    rcases h (c % n) (Nat.mod_lt c (by omega)) with e | ⟨p, hp, e, hpc⟩
    · have h2 := hg.2
      rw [hr, e, dec_nou.1] at h2
      exact ⟨e, h2.symm⟩
    · have h2 := hg.2
      rw [hr, e, dec_seal hp] at h2
      omega
  have hs : scanV s n u = [] := by
    unfold scanV
    by_cases hg : goodP s n u
    · obtain ⟨e, h0⟩ := hc u (Nat.le_refl _) hg
      have hr := rdP_at ho (by omega) hN u
      rw [scan_more hg (by rw [hr, e]; exact dec_nou.2)]
      have hg1 : ¬ goodP s n (u + 1) := fun hg1 => by
        have := (hc (u + 1) (by omega) hg1).2
        omega
      rw [scan_no hg1]
      rfl
    · rw [scan_no hg]; rfl
  intro hk
  have := hk.1.1
  simp only at this
  rw [hs] at this
  simp at this
theorem OldV.mono {u u' : Nat} (h : OldV V n u) (hu : u ≤ u') : OldV V n u' := fun j hj => by
  rcases h j hj with e | ⟨p, hp, e, hpc⟩
  · exact .inl e
  · exact .inr ⟨p, hp, e, by omega⟩
theorem OldV.lay {u : Nat} {l : List Nat} (h : OldV V n u) (hc : cutE 1 u l.length = 0) : OldV (layV V n (cutP 1 u l)) n (u + needN l.length) := fun j hj => by
  rcases layV_or n (2 + j) (cutP 1 u l) V with e | ⟨p, hp, e⟩
  · rw [e]
    exact h.mono (by omega) j hj
  · obtain ⟨_, i, hi, ec⟩ := cutP_mem hp
    exact .inr ⟨p, cutP_ok hc p hp, e, by omega⟩
end
end Go.Proofs.YtolcnbiaiolcoaaGreat
namespace Go.Proofs.YtolcnbiaiolcoaaGreat
open Go.RowKit Go.Maps

def HeadV (V : Nat → List Nat) (h : Hd) : Prop := ∃ (sure : Hd) (has : Bool), Says (V 0) (V 1) sure has ∧ h = (if has = true then sure else ⟨0, 0, 1⟩)
theorem HeadV.headO {s : DS} {N : Nat} {V : Nat → List Nat} {h : Hd} (hv : HeadV V h) (ho : On s N V) (hN : 2 ≤ N) : Go.Proofs.YtolcnbiaiolcoaaGreat.headO s = h := by
  obtain ⟨sure, has, hs, rfl⟩ := hv
  have e : curAt s 0 2 = two (V 0) (V 1) := by
    rw [curAt2]
    show nx (unO (isS s 0) 0) (unO (isS s (0 + 1)) 1) = _
    rw [ho.at_ 0 (by omega), ho.at_ (0 + 1) (by omega)]
    rfl
  unfold Go.Proofs.YtolcnbiaiolcoaaGreat.headO
  rw [e, hs.1]
  cases has <;> rfl
theorem HeadV.frame {V V' : Nat → List Nat} {h : Hd} (hv : HeadV V h) (h0 : V' 0 = V 0) (h1 : V' 1 = V 1) : HeadV V' h := by
  obtain ⟨sure, has, hs, e⟩ := hv
  exact ⟨sure, has, by rw [h0, h1]; exact hs, e⟩
theorem HeadV.save {V : Nat → List Nat} {h x : Hd} {e : Nat} (hv : HeadV V h) (k : hOk e x) (hg : x.g = h.g + 1) : HeadV (putV V (x.g % 2) (hSec e x)) x := by
  obtain ⟨sure, has, hs, rfl⟩ := hv
  have hg' : x.g = sure.g + 1 := by
    cases has with
    | true => exact hg
    | false => rw [hs.2 rfl]; exact hg
  refine ⟨x, true, ⟨?_, fun e => by cases e⟩, rfl⟩
  have h2 := says_new hs k hg'
  rw [if_pos rfl, ← h2]
  unfold putP2 putV
  by_cases c : x.g % 2 = 0
  · rw [c]; rfl
  · have c1 : x.g % 2 = 1 := by omega
    rw [c1]; rfl

/-- the homes -/
def homesL (s : DS) (n : Nat) (g : LS) (M : Nat) : List (List Nat) := (List.range M).map (homeG s n g)
def overL (hs : List (List Nat)) (ps : List Pt) : List (List Nat) := ps.foldl (fun hs p => hs.set p.a.toNat p.d) hs
theorem over_one (A : Nat → Option (List Nat)) (B : Nat → List Nat) (M k : Nat) (d : List Nat) : (List.range M).map (fun i => (setA A k d i).getD (B i)) = ((List.range M).map (fun i => (A i).getD (B i))).set k d := by
  apply List.ext_getElem
  · simp
  · intro i h1 h2
    rw [List.getElem_set]
    simp only [List.getElem_map, List.getElem_range]
    unfold setA
    by_cases c : i = k
    · rw [if_pos c, if_pos c.symm]; rfl
    · rw [if_neg c, if_neg (fun e => c e.symm)]
theorem over_all (B : Nat → List Nat) (M : Nat) : ∀ (ps : List Pt) (A : Nat → Option (List Nat)), (List.range M).map (fun i => (putA A ps i).getD (B i)) = overL ((List.range M).map (fun i => (A i).getD (B i))) ps
  | [], _ => rfl
  | p :: ps, A => by
    show (List.range M).map (fun i => (putA (setA A p.a.toNat p.d) ps i).getD (B i)) = overL (((List.range M).map (fun i => (A i).getD (B i))).set p.a.toNat p.d) ps
    rw [over_all B M ps, over_one]
def putHV (V : Nat → List Nat) (n : Nat) (T : List (Nat × List Nat)) : Nat → List Nat := T.foldl (fun V q => putV V (2 + n + q.1) q.2) V
theorem On.homes {N n : Nat} : ∀ {T : List (Nat × List Nat)} {s : DS} {V : Nat → List Nat}, On s N V → (∀ q ∈ T, 2 + n + q.1 < N ∧ q.2.length = 128) → (putHomes s n T).2 = 0 ∧ On (putHomes s n T).1 N (putHV V n T)
  | [], _, _, h, _ => ⟨rfl, h⟩
  | q :: T, s, V, h, hq => by
    obtain ⟨h1, h2⟩ := h.write (i := 2 + n + q.1) (b := q.2) (hq q (by simp)).1 (hq q (by simp)).2
    unfold putHomes
    rw [if_pos h1]
    exact On.homes h2 (fun r hr => hq r (by simp [hr]))
theorem putHV_low {n j : Nat} (hj : j < 2 + n) : ∀ (T : List (Nat × List Nat)) (V : Nat → List Nat), putHV V n T j = V j
  | [], _ => rfl
  | q :: T, V => by
    show putHV (putV V (2 + n + q.1) q.2) n T j = V j
    rw [putHV_low hj T]
    unfold putV
    rw [if_neg (by omega)]
theorem putHV_at {n : Nat} (f : Nat → List Nat) (i : Nat) : ∀ (T : List (Nat × List Nat)) (V : Nat → List Nat), (∀ q ∈ T, q.2 = f q.1) → putHV V n T (2 + n + i) = if (∃ q ∈ T, q.1 = i) then f i else V (2 + n + i)
  | [], V, _ => by simp [putHV]
  | q :: T, V, h => by
    show putHV (putV V (2 + n + q.1) q.2) n T (2 + n + i) = _
    rw [putHV_at f i T _ (fun r hr => h r (by simp [hr]))]
    unfold putV
    by_cases c1 : ∃ r ∈ T, r.1 = i
    · rw [if_pos c1, if_pos (by obtain ⟨r, hr, e⟩ := c1; exact ⟨r, by simp [hr], e⟩)]
    · rw [if_neg c1]
      by_cases c2 : q.1 = i
      · rw [if_pos (by omega), if_pos ⟨q, by simp, c2⟩, h q (by simp), c2]
      · rw [if_neg (by omega), if_neg (fun ⟨r, hr, e⟩ => by
          rcases List.mem_cons.mp hr with rfl | hr
          · exact c2 e
          · exact c1 ⟨r, hr, e⟩)]
theorem putHV_away {n M i : Nat} (A : Nat → Option (List Nat)) (V : Nat → List Nat) (hi : i < M) : putHV V n (awayL A M) (2 + n + i) = (A i).getD (V (2 + n + i)) := by
  rw [putHV_at (fun i => (A i).getD (List.replicate 128 0)) i (awayL A M) V (fun q hq => by
    unfold awayL at hq
    obtain ⟨k, _, rfl⟩ := List.mem_map.mp hq
    rfl)]
  cases h : A i with
  | none =>
    rw [if_neg]
    · rfl
    · rintro ⟨q, hq, e⟩
      unfold awayL keysL at hq
      obtain ⟨k, hk, rfl⟩ := List.mem_map.mp hq
      have h1 := (List.mem_filter.mp hk).2
      have e : k = i := e
      rw [e, h] at h1
      cases h1
  | some x =>
    rw [if_pos]
    · simp
    · refine ⟨(i, (A i).getD (List.replicate 128 0)), ?_, rfl⟩
      unfold awayL keysL
      exact List.mem_map.mpr ⟨i, List.mem_filter.mpr ⟨List.mem_range.mpr hi, by rw [h]; rfl⟩, rfl⟩
theorem On.bring {s : DS} {N n M : Nat} {V : Nat → List Nat} {A : Nat → Option (List Nat)} (h : On s N V) (hM : 2 + n + M ≤ N) (hA : AOk M A) : (bringS s n M A).2 = 0 ∧ On (bringS s n M A).1 N (putHV V n (awayL A M)) := by
  obtain ⟨h1, h2⟩ := h.flush
  obtain ⟨h3, h4⟩ := h2.homes (n := n) (T := awayL A M) (fun q hq => by
    unfold awayL at hq
    obtain ⟨k, hk, rfl⟩ := List.mem_map.mp hq
    unfold keysL at hk
    have hk' := List.mem_filter.mp hk
    have hkM := List.mem_range.mp hk'.1
    refine ⟨by show 2 + n + k < N; omega, ?_⟩
    show ((A k).getD (List.replicate 128 0)).length = 128
    cases e : A k with
    | none => simp
    | some x => exact (hA k x e).2.1)
  obtain ⟨h5, h6⟩ := h4.flush
  unfold bringS
  rw [if_pos h1, if_pos h3]
  exact ⟨h5, h6⟩
theorem On.save {s : DS} {N e : Nat} {V : Nat → List Nat} {x : Hd} (h : On s N V) (hN : 2 ≤ N) (k : hOk e x) : (saveG s N e x).2 = 0 ∧ On (saveG s N e x).1 N (putV V (x.g % 2) (hSec e x)) := by
  have hm : x.g % 2 < 2 := Nat.mod_lt _ (by decide)
  obtain ⟨h1, h2⟩ := h.write (i := x.g % 2) (b := hSec e x) (by omega) (hSec_length k)
  obtain ⟨h3, h4⟩ := h2.flush
  have hk := k.1.2
  unfold saveG saveS
  rw [if_neg (by omega), if_pos ⟨⟨by decide, by omega⟩, k⟩, show (0 : Int) + ((x.g % 2 : Nat) : Int) = ((x.g % 2 : Nat) : Int) by omega, if_pos h1]
  exact ⟨h3, h4⟩

/-- the log while the power stays -/
structure Ar (s : DS) (n N : Nat) (V : Nat → List Nat) (g : LS) (txs : List (List Pt)) : Prop where
  on : On s N V
  err : g.err = 0
  ep : g.ep = 1
  fl : g.h.f = 1
  ch : Chain V n ((N - 2 - n : Nat) : Int) g.h.t txs g.next
  fr : g.next ≤ g.h.t + n
  A : g.A = txs.foldl putA (fun _ => none)
  ok : AOk (N - 2 - n) g.A
  old : OldV V n g.next
  hd : HeadV V g.h
  ends : ∀ j, j < 2 + n → endX (V j) ≤ 1 ∧ endY (V j) ≤ 1
  sb : ∀ i, i < N → ∀ x ∈ V i, x < 256
section
variable {s : DS} {n N : Nat} {V : Nat → List Nat} {g : LS} {txs : List (List Pt)}
theorem Ar.home (h : Ar s n N V g txs) {i : Nat} (hi : i < N - 2 - n) : homeG s n g i = (g.A i).getD (V (2 + n + i)) := by
  unfold homeG
  rw [h.on.at_ _ (by omega)]
theorem Ar.homes (h : Ar s n N V g txs) : homesL s n g (N - 2 - n) = (List.range (N - 2 - n)).map (fun i => (g.A i).getD (V (2 + n + i))) := by
  unfold homesL
  apply List.map_congr_left
  intro i hi
  exact h.home (List.mem_range.mp hi)
theorem Ar.le (h : Ar s n N V g txs) : g.h.t + txs.length ≤ g.next := h.ch.le
theorem needT_le {ps : List Pt} {H : Int} (k : isTx ps H) : needT ps ≤ 30 := needN_le (by decide) (by have := recB_small k; omega)
theorem Ar.write (h : Ar s n N V g txs) (hn : 2 ≤ n ∧ n + 3 ≤ N ∧ N ≤ 4096) {ps : List Pt} (ht : isTx ps ((N - 2 - n : Nat) : Int)) (hb : ∀ p ∈ ps, ∀ x ∈ p.d, x < 256) (hf : needT ps ≤ freeG n g) (hs : g.next ≤ 1000000) :
    (writeG s n N g ps).2 = 0 ∧ Ar (writeG s n N g ps).1.1 n N (layV V n (cutP 1 g.next (recB ps))) (writeG s n N g ps).1.2 (txs ++ [ps]) ∧ (writeG s n N g ps).1.2 = g.putAll ps (needT ps) ∧
    homesL (writeG s n N g ps).1.1 n (writeG s n N g ps).1.2 (N - 2 - n) = overL (homesL s n g (N - 2 - n)) ps := by
  have h30 := needT_le ht
  have hle := h.le
  have hcut : cutE 1 g.next (recB ps).length = 0 := cutE_zero.mpr ⟨by decide, by omega, by unfold needT at h30; omega, by have := recB_small ht; omega⟩
  have hfree : g.next + needT ps ≤ g.h.t + n := by unfold freeG at hf; have := h.fr; have := needT_pos ps; omega
  have hpk := cutP_ok hcut
  obtain ⟨l1, l2⟩ := h.on.layP (n := n) (P := cutP 1 g.next (recB ps)) (by omega) (by omega) (fun p hp => (hpk p hp).2.2)
  have e : writeG s n N g ps = (((layAll s n (cutP 1 g.next (recB ps))).1, g.putAll ps (needT ps)), 0) := by
    unfold writeG
    rw [if_pos h.err, if_pos ht, h.ep, if_pos ⟨hcut, hf⟩, if_pos l1]
  have hhome : ∀ j, 2 + n ≤ j → layV V n (cutP 1 g.next (recB ps)) j = V j := fun j hj => layV_out n _ _ (fun p _ => by
    have := Nat.mod_lt p.c (show 0 < n by omega); omega)
  have har : Ar (layAll s n (cutP 1 g.next (recB ps))).1 n N (layV V n (cutP 1 g.next (recB ps))) (g.putAll ps (needT ps)) (txs ++ [ps]) := by
    refine ⟨l2, h.err, h.ep, h.fl, ?_, ?_, ?_, ?_, ?_, ?_, ?_, ?_⟩
    · refine (h.ch.frame (fun c h1 h2 => layV_out n _ _ (fun p hp => ?_))).snoc ⟨ht, hb, hcut, fun p hp => layV_in n _ _ (cut_apart (by unfold needT at hfree; omega)) hp⟩
      obtain ⟨_, i, hi, ec⟩ := cutP_mem hp
      have := mod_apart (n := n) (a := c) (b := p.c) (by omega) (by unfold needT at hfree; omega)
      omega
    · exact hfree
    · show putA g.A ps = _
      rw [List.foldl_append, ← h.A]; rfl
    · exact h.ok.putA (fun p hp => ht.row p hp) hb (by omega)
    · exact h.old.lay hcut
    · exact h.hd.frame (layV_out n _ _ (fun p _ => by omega)) (layV_out n _ _ (fun p _ => by omega))
    · intro j hj
      rcases layV_or n j (cutP 1 g.next (recB ps)) V with e | ⟨p, hp, e⟩
      · rw [e]; exact h.ends j hj
      · rw [e, (end_seal (hpk p hp)).1, (end_seal (hpk p hp)).2, (cutP_mem hp).1]
        exact ⟨Nat.le_refl _, Nat.le_refl _⟩
    · intro i hi
      rcases layV_or n i (cutP 1 g.next (recB ps)) V with e | ⟨p, hp, e⟩
      · rw [e]; exact h.sb i hi
      · rw [e]; exact sealL_lt (hpk p hp).2.2 (cutP_bytes (recB_lt ps) p hp)
  rw [e]
  refine ⟨rfl, har, rfl, ?_⟩
  rw [har.homes, h.homes, ← over_all]
  apply List.map_congr_left
  intro i _
  rw [hhome _ (by omega)]
  rfl
theorem Ar.check (h : Ar s n N V g txs) (hn : 2 ≤ n ∧ n + 3 ≤ N ∧ N ≤ 4096) (hs : g.next ≤ 1000000) (hg : g.h.g ≤ 1000000) :
    (checkG s n N g).2 = 0 ∧ (∃ V', Ar (checkG s n N g).1.1 n N V' (checkG s n N g).1.2 []) ∧ (checkG s n N g).1.2 = { g with h := hNew g, A := fun _ => none } ∧
    homesL (checkG s n N g).1.1 n (checkG s n N g).1.2 (N - 2 - n) = homesL s n g (N - 2 - n) := by
  obtain ⟨b1, b2⟩ := h.on.bring (n := n) (M := N - 2 - n) (by omega) h.ok
  have hk : hOk g.ep (hNew g) := by
    refine ⟨⟨by rw [h.ep]; decide, ?_⟩, ?_, ?_⟩
    · show g.h.g + 1 ≤ _; omega
    · show g.next < _; omega
    · show g.ep < _; rw [h.ep]; decide
  obtain ⟨c1, c2⟩ := b2.save (by omega) hk
  have e : checkG s n N g = (((saveG (bringS s n (N - 2 - n) g.A).1 N g.ep (hNew g)).1, { g with h := hNew g, A := fun _ => none }), 0) := by
    unfold checkG
    rw [if_pos h.err, if_pos b1, if_pos c1]
  have hm : (hNew g).g % 2 < 2 := Nat.mod_lt _ (by decide)
  have hlow : ∀ j, 2 ≤ j → j < 2 + n → putV (putHV V n (awayL g.A (N - 2 - n))) ((hNew g).g % 2) (hSec g.ep (hNew g)) j = V j := fun j h1 h2 => by
    unfold putV
    rw [if_neg (by omega), putHV_low h2]
  have hhm : ∀ i, i < N - 2 - n → putV (putHV V n (awayL g.A (N - 2 - n))) ((hNew g).g % 2) (hSec g.ep (hNew g)) (2 + n + i) = (g.A i).getD (V (2 + n + i)) := fun i hi => by
    unfold putV
    rw [if_neg (by omega), putHV_away _ _ hi]
  have hst : endX (hSec g.ep (hNew g)) ≤ 1 ∧ endY (hSec g.ep (hNew g)) ≤ 1 := by
    unfold hSec
    rw [(end_seal (hPc_ok hk)).1, (end_seal (hPc_ok hk)).2]
    show g.ep ≤ 1 ∧ g.ep ≤ 1
    rw [h.ep]
    exact ⟨Nat.le_refl _, Nat.le_refl _⟩
  have har : Ar (saveG (bringS s n (N - 2 - n) g.A).1 N g.ep (hNew g)).1 n N (putV (putHV V n (awayL g.A (N - 2 - n))) ((hNew g).g % 2) (hSec g.ep (hNew g))) { g with h := hNew g, A := fun _ => none } [] := by
    refine ⟨c2, h.err, h.ep, h.ep, rfl, Nat.le_add_right _ _, rfl, AOk.none _, ?_, ?_, ?_, ?_⟩
    · intro j hj
      rw [hlow _ (by omega) (by omega)]
      exact h.old j hj
    · exact (h.hd.frame (V' := putHV V n (awayL g.A (N - 2 - n))) (putHV_low (by omega) _ _) (putHV_low (by omega) _ _)).save hk rfl
    · intro j hj
      by_cases c : j < 2
      · unfold putV
        by_cases c2 : j = (hNew g).g % 2
        · rw [if_pos c2]; exact hst
        · rw [if_neg c2, putHV_low (by omega)]; exact h.ends j hj
      · rw [hlow j (by omega) hj]; exact h.ends j hj
    · intro i hi
      by_cases c : i < 2 + n
      · unfold putV
        by_cases c2 : i = (hNew g).g % 2
        · rw [if_pos c2]; exact hSec_lt hk
        · rw [if_neg c2, putHV_low c]; exact h.sb i hi
      · obtain ⟨k, rfl⟩ : ∃ k, i = 2 + n + k := ⟨i - (2 + n), by omega⟩
        rw [hhm k (by omega)]
        cases hA : g.A k with
        | none => exact h.sb _ hi
        | some x => exact (h.ok k x hA).2.2
  rw [e]
  refine ⟨rfl, ⟨_, har⟩, rfl, ?_⟩
  rw [har.homes, h.homes]
  apply List.map_congr_left
  intro i hi
  exact hhm i (List.mem_range.mp hi)
theorem Ar.sync (h : Ar s n N V g txs) : (syncG s g).2 = 0 ∧ Ar (syncG s g).1.1 n N V (syncG s g).1.2 txs ∧ homesL (syncG s g).1.1 n (syncG s g).1.2 (N - 2 - n) = homesL s n g (N - 2 - n) := by
  obtain ⟨f1, f2⟩ := h.on.flush
  have e : syncG s g = (((flushS s).1, { g with err := 0 }), 0) := by
    unfold syncG
    rw [if_pos h.err, f1]
  have har : Ar (flushS s).1 n N V { g with err := 0 } txs := ⟨f2, rfl, h.ep, h.fl, h.ch, h.fr, h.A, h.ok, h.old, h.hd, h.ends, h.sb⟩
  rw [e]
  exact ⟨rfl, har, by rw [har.homes, h.homes]⟩
theorem Ar.top (h : Ar s n N V g txs) (hn : 2 ≤ n ∧ n + 3 ≤ N ∧ N ≤ 4096) : topE s (2 + n) ≤ 1 := topE_le _ (fun j hj => by
  rw [h.on.at_ j (by omega)]
  exact h.ends j hj)
theorem Ar.says (h : Ar s n N V g txs) (hn : 2 ≤ n ∧ n + 3 ≤ N ∧ N ≤ 4096) : (openS s n N).A = g.A ∧ (openS s n N).next = g.next ∧ (openS s n N).h = g.h ∧ (openS s n N).err = 0 ∧ (openS s n N).ep = topE s (2 + n) + 1 := by
  have hh := h.hd.headO h.on (by omega)
  have hle := h.le
  obtain ⟨fl', e⟩ := chain_says h.on (by omega) (by omega) (H := ((N - 2 - n : Nat) : Int)) (by omega) txs g.h.t g.next (n + 1) 1 (fun _ => none) h.ch h.fr (by have := h.fr; omega) (Nat.le_refl _) (fun A fl _ => h.old.stop h.on (by omega) (by omega))
  have e0 : r0G (openL s n) = ⟨g.h.t, 1, fun _ => none⟩ := by
    unfold r0G openL
    rw [hh]
    show (⟨g.h.t, g.h.f, fun _ => none⟩ : Rp) = _
    rw [h.fl]
  unfold openS LS.at_
  rw [e0, e]
  exact ⟨h.A.symm, rfl, hh, rfl, rfl⟩
theorem Ar.again (h : Ar s n N V g txs) (hn : 2 ≤ n ∧ n + 3 ≤ N ∧ N ≤ 4096) : homesL s n (openS s n N) (N - 2 - n) = homesL s n g (N - 2 - n) := by
  unfold homesL homeG
  rw [(h.says hn).1]
theorem Ar.sb_ (h : Ar s n N V g txs) : SB s N := fun i hi x hx => by
  rw [h.on.at_ i hi] at hx
  exact h.sb i hi x hx
end
theorem new_nou {N i : Nat} (h : i < N) : isS (newS N) i = nou := by
  unfold isS newS lays nou
  simp [List.getD_eq_getElem?_getD, h]
theorem Ar.new {n N : Nat} (hn : 2 ≤ n ∧ n + 3 ≤ N ∧ N ≤ 4096) : Ar (newS N) n N (fun _ => nou) (openS (newS N) n N) [] ∧ (openS (newS N) n N).next = 0 ∧ (openS (newS N) n N).h.g = 0 := by
  have on : On (newS N) N (fun _ => nou) := ⟨rfl, by simp [newS], fun j hj => new_nou hj⟩
  have hd : HeadV (fun _ => nou) ⟨0, 0, 1⟩ := ⟨hZ, false, ⟨by unfold two; rw [unO_nou, unO_nou]; rfl, fun _ => rfl⟩, rfl⟩
  have old : ∀ u, OldV (fun _ => nou) n u := fun u j hj => .inl rfl
  have ends : ∀ j, j < 2 + n → endX nou ≤ 0 ∧ endY nou ≤ 0 := fun j _ => by rw [end_nou.1, end_nou.2]; exact ⟨Nat.le_refl _, Nat.le_refl _⟩
  have sb : ∀ i, i < N → ∀ x ∈ nou, x < 256 := fun i _ x hx => by rw [List.eq_of_mem_replicate hx]; decide
  have h0 : Ar (newS N) n N (fun _ => nou) ⟨⟨0, 0, 1⟩, 0, 1, fun _ => none, 0⟩ [] :=
    ⟨on, rfl, rfl, rfl, rfl, Nat.zero_le _, rfl, AOk.none _, old 0, hd, fun j hj => by have := ends j hj; omega, sb⟩
  have ht : topE (newS N) (2 + n) ≤ 0 := topE_le _ (fun j hj => by
    rw [new_nou (by omega)]
    exact ends j hj)
  obtain ⟨s1, s2, s3, s4, s5⟩ := h0.says hn
  have e : openS (newS N) n N = ⟨⟨0, 0, 1⟩, 0, 1, fun _ => none, 0⟩ := by
    have s5' : (openS (newS N) n N).ep = 1 := by rw [s5]; omega
    generalize openS (newS N) n N = x at s1 s2 s3 s4 s5'
    obtain ⟨x1, x2, x3, x4, x5⟩ := x
    simp only at s1 s2 s3 s4 s5'
    subst s1 s2 s3 s4 s5'
    rfl
  rw [e]
  exact ⟨h0, rfl, rfl⟩
end Go.Proofs.YtolcnbiaiolcoaaGreat
