/- Messages as bits: the items of a message, what is read of any bytes; there and back. Messages as bits: what is read of a message's bits is the message. Messages as bits: there and back. Messages as bytes: which message any bytes are. Messages as bytes: bytes whose parts are read just to their end are the bytes of what is read; letters by masks of fields. -/
import Derived.Test.YtpgeebhepegpaaaMsM
import Derived.Test.YtpgeebhepegpaaaMwA
import Derived.Test.YtpgeebhepegpaaaInM
namespace Go.Proofs.Ytpgeebhepegpaaa
open Go.RowKit

def itD (n x : Nat) : Do := ⟨0, x, (n : Int), ⟨#[]⟩⟩
def txD (s : ByteArray) : Do := ⟨1, 0, 0, s⟩
theorem itD_bits (n x : Nat) : (itD n x).bits = n := by simp [itD, Do.bits]
theorem itD_num (n x : Nat) : (itD n x).num = x := by simp [itD, Do.num]
theorem txD_bits (s : ByteArray) : (txD s).bits = 16 + 8 * s.size := by simp [txD, Do.bits]
theorem txD_num (s : ByteArray) : (txD s).num = tx s.size s.data.toList := by simp [txD, Do.num]
/-- which letters a message's fields have -/
def letM (ty kd er : Int) : List Nat := if ty = 3 then [102] else if er ≠ 0 then [] else if ty = 2 then tolT kd else askT kd
def wiH (m : Ms) : List Do := [itD 2 (u64n m.ty), itD 3 (u64n m.cl), itD 40 m.ss, itD 40 m.sq, itD 40 m.bo, itD 4 (u64n m.kd), itD 5 (u64n m.er)]
def wiE (e : En) : List Do := [txD e.s, itD 6 (u64n e.i), itD 31 (u64n e.g), itD 2 (u64n e.k)]
def wf1 (m : Ms) (s : List Nat) : List Do := if 102 ∈ s then [itD 6 (u64n m.fi), itD 31 (u64n m.fg)] else []
def wf2 (m : Ms) (s : List Nat) : List Do := if 100 ∈ s then [itD 6 (u64n m.di), itD 31 (u64n m.dg)] else []
def wf3 (m : Ms) (s : List Nat) : List Do := if 110 ∈ s then [txD m.nm] else []
def wf4 (m : Ms) (s : List Nat) : List Do := if 111 ∈ s then [txD m.ot] else []
def wf5 (m : Ms) (s : List Nat) : List Do := if 107 ∈ s then [itD 2 (u64n m.mo)] else []
def wf6 (m : Ms) (s : List Nat) : List Do := if 97 ∈ s then [itD 3 (u64n m.at_)] else []
def wf7 (m : Ms) (s : List Nat) : List Do := if 116 ∈ s then [txD m.da] else []
def wf8 (m : Ms) (s : List Nat) : List Do := if 118 ∈ s then [itD 40 m.ve] else []
def wf9 (m : Ms) (s : List Nat) : List Do := if 101 ∈ s then itD 5 m.en.length :: m.en.flatMap wiE else []
def wi8 (m : Ms) (s : List Nat) : List Do := wiH m ++ wf1 m s ++ wf2 m s ++ wf3 m s ++ wf4 m s ++ wf5 m s ++ wf6 m s ++ wf7 m s ++ wf8 m s
/-- a message's items -/
def wiL (m : Ms) : List Do := wi8 m (letM m.ty m.kd m.er) ++ wf9 m (letM m.ty m.kd m.er)
/-- a message's bytes -/
def wiB (m : Ms) : List Nat := rowOf (numOf (wiL m)) (lenOf (wiL m))
def FitD (l : List Do) : Prop := ∀ d ∈ l, d.fits ∧ d.s.size ≤ 65535
theorem FitD.nil : FitD [] := fun d h => by simp at h
theorem FitD.app {l k : List Do} (h : FitD l) (h' : FitD k) : FitD (l ++ k) := fun d hd => (List.mem_append.1 hd).elim (h d) (h' d)
theorem FitD.it {n x : Nat} (hn : n ≤ 64) (hx : x < 2 ^ n) {l : List Do} (h : FitD l) : FitD (itD n x :: l) := fun d hd => by
  rcases List.mem_cons.1 hd with rfl | hd
  · exact ⟨fun _ => ⟨by show (0 : Int) ≤ n; omega, by show (n : Int) ≤ 64; omega, by show x < 2 ^ ((n : Int).toNat); simpa using hx⟩, Nat.zero_le _⟩
  · exact h d hd
theorem FitD.tx {s : ByteArray} (hs : s.size ≤ 65535) {l : List Do} (h : FitD l) : FitD (txD s :: l) := fun d hd => by
  rcases List.mem_cons.1 hd with rfl | hd
  · exact ⟨fun e => by simp [txD] at e, hs⟩
  · exact h d hd
theorem FitD.ite {p : Prop} [Decidable p] {l : List Do} (h : p → FitD l) : FitD (if p then l else []) := by
  split
  · exact h ‹_›
  · exact FitD.nil
theorem u64n_of {z : Int} (h0 : 0 ≤ z) (h1 : z < 18446744073709551616) : ((u64n z : Nat) : Int) = z := by unfold u64n; omega
theorem lenOf_app (l k : List Do) : lenOf (l ++ k) = lenOf l + lenOf k := by
  unfold lenOf
  have h : ∀ (k : List Do) (a b : Nat), k.foldl (fun a d => a + d.bits) (a + b) = a + k.foldl (fun a d => a + d.bits) b := by
    intro k
    induction k with
    | nil => intro a b; rfl
    | cons d k ih => intro a b; simp only [List.foldl_cons]; rw [Nat.add_assoc, ih]
  rw [List.foldl_append]
  have := h k (l.foldl (fun a d => a + d.bits) 0) 0
  simpa using this
theorem lenOf_one (d : Do) : lenOf [d] = d.bits := by simp [lenOf]
/-- an item read where it stands -/
theorem at_item {l A C : List Do} {d : Do} (h : FitD l) (e : l = A ++ d :: C) : bitsAt (qn (lenOf l)) (numOf l * 2 ^ pad (lenOf l)) (lenOf A) d.bits = d.num ∧ lenOf A + d.bits ≤ 8 * qn (lenOf l) := by
  have hj : A.length < l.length := by rw [e]; simp
  have := item_at l A.length hj h
  have e1 : l.take A.length = A := by rw [e]; simp
  have e2 : l[A.length] = d := by simp [e]
  rw [e1, e2] at this
  exact this
section
variable {l A C : List Do}
theorem at_it {n x : Nat} (h : FitD l) (e : l = A ++ itD n x :: C) : getT (qn (lenOf l)) (numOf l * 2 ^ pad (lenOf l)) (lenOf A) n = x := by
  have := at_item h e
  rw [itD_bits, itD_num] at this
  unfold getT
  rw [if_pos this.2, this.1]
theorem at_tx {s : ByteArray} (h : FitD l) (e : l = A ++ txD s :: C) : txT (qn (lenOf l)) (numOf l * 2 ^ pad (lenOf l)) (lenOf A) = s ∧ ptT (qn (lenOf l)) (numOf l * 2 ^ pad (lenOf l)) (lenOf A) = lenOf A + (16 + 8 * s.size) := by
  have hi := at_item h e
  rw [txD_bits, txD_num] at hi
  obtain ⟨h1, h2⟩ := text_back _ _ _ s hi.1 hi.2
  have hf : fitT (qn (lenOf l)) (numOf l * 2 ^ pad (lenOf l)) (lenOf A) := by unfold fitT; rw [h1]; omega
  refine ⟨?_, ?_⟩
  · unfold txT
    rw [if_pos hf, h1]; exact h2
  · unfold ptT
    rw [if_pos hf, h1]; omega
end
/-! what is read of q bytes of number V -/
def pw1 (s : List Nat) : Nat := 134 + if 102 ∈ s then 37 else 0
def pw2 (s : List Nat) : Nat := pw1 s + if 100 ∈ s then 37 else 0
def pw3 (q V : Nat) (s : List Nat) : Nat := if 110 ∈ s then ptT q V (pw2 s) else pw2 s
def pw4 (q V : Nat) (s : List Nat) : Nat := if 111 ∈ s then ptT q V (pw3 q V s) else pw3 q V s
def pw5 (q V : Nat) (s : List Nat) : Nat := pw4 q V s + if 107 ∈ s then 2 else 0
def pw6 (q V : Nat) (s : List Nat) : Nat := pw5 q V s + if 97 ∈ s then 3 else 0
def pw7 (q V : Nat) (s : List Nat) : Nat := if 116 ∈ s then ptT q V (pw6 q V s) else pw6 q V s
def pw8 (q V : Nat) (s : List Nat) : Nat := pw7 q V s + if 118 ∈ s then 40 else 0
/-- where the n-th entry stands, from p on -/
def pwE (q V p : Nat) : Nat → Nat
  | 0 => p
  | n + 1 => ptT q V (pwE q V p n) + 39
def enE (q V p : Nat) : En := ⟨txT q V p, (getT q V (ptT q V p) 6 : Nat), (getT q V (ptT q V p + 6) 31 : Nat), (getT q V (ptT q V p + 37) 2 : Nat)⟩
def enW (q V p n : Nat) : List En := (List.range n).map fun k => enE q V (pwE q V p k)
theorem enW_succ (q V p n : Nat) : enW q V p (n + 1) = enW q V p n ++ [enE q V (pwE q V p n)] := by unfold enW; rw [List.range_succ, List.map_append]; rfl
/-- the letters of what is read -/
def sW (q V : Nat) : List Nat := letM (getT q V 0 2 : Nat) (getT q V 125 4 : Nat) (getT q V 129 5 : Nat)
def cntW (q V : Nat) (s : List Nat) : Nat := if 101 ∈ s then getT q V (pw8 q V s) 5 else 0
def rdW (q V : Nat) (s : List Nat) : Ms where
  ty := (getT q V 0 2 : Nat)
  cl := (getT q V 2 3 : Nat)
  ss := getT q V 5 40
  sq := getT q V 45 40
  bo := getT q V 85 40
  kd := (getT q V 125 4 : Nat)
  er := (getT q V 129 5 : Nat)
  fi := if 102 ∈ s then (getT q V 134 6 : Nat) else 0
  fg := if 102 ∈ s then (getT q V 140 31 : Nat) else 0
  di := if 100 ∈ s then (getT q V (pw1 s) 6 : Nat) else 0
  dg := if 100 ∈ s then (getT q V (pw1 s + 6) 31 : Nat) else 0
  nm := if 110 ∈ s then txT q V (pw2 s) else ⟨#[]⟩
  ot := if 111 ∈ s then txT q V (pw3 q V s) else ⟨#[]⟩
  mo := if 107 ∈ s then (getT q V (pw4 q V s) 2 : Nat) else 0
  at_ := if 97 ∈ s then (getT q V (pw5 q V s) 3 : Nat) else 0
  da := if 116 ∈ s then txT q V (pw6 q V s) else ⟨#[]⟩
  ve := if 118 ∈ s then getT q V (pw7 q V s) 40 else 0
  en := enW q V (pw8 q V s + 5) (cntW q V s)
/-- what is read, and where the reader stands then -/
def rdM (q V : Nat) : Ms := rdW q V (sW q V)
def endW (q V : Nat) : Nat := if 101 ∈ sW q V then pwE q V (pw8 q V (sW q V) + 5) (cntW q V (sW q V)) else pw8 q V (sW q V)
/-- numbers that fit, sizes likewise -/
structure OkW (m : Ms) : Prop where
  h : u64n m.ty < 4 ∧ u64n m.cl < 8 ∧ m.ss < 2 ^ 40 ∧ m.sq < 2 ^ 40 ∧ m.bo < 2 ^ 40 ∧ u64n m.kd < 16 ∧ u64n m.er < 32
  i : ((u64n m.ty : Nat) : Int) = m.ty ∧ ((u64n m.cl : Nat) : Int) = m.cl ∧ ((u64n m.kd : Nat) : Int) = m.kd ∧ ((u64n m.er : Nat) : Int) = m.er
  ju : juB m (letM m.ty m.kd m.er) = true
theorem isM_okW {m : Ms} (h : isM m = true) : OkW m := by
  unfold isM at h
  by_cases hc : 0 ≤ m.cl ∧ m.cl < 8 ∧ ctP m.ss
  · rw [if_neg (fun x => x hc)] at h
    obtain ⟨c1, c2, c3⟩ := hc
    by_cases t3 : m.ty = 3
    · rw [if_pos t3] at h
      simp only [Bool.and_eq_true] at h
      obtain ⟨⟨⟨⟨a0, a1⟩, a2⟩, a3⟩, aj⟩ := h
      have b0 : m.sq = 0 := of_decide_eq_true a0
      have b1 : ctP m.bo := of_decide_eq_true a1
      have b2 : m.kd = 0 := of_decide_eq_true a2
      have b3 : m.er = 0 := of_decide_eq_true a3
      unfold ctP at b1 c3
      refine ⟨⟨by rw [t3]; decide, by unfold u64n; omega, by omega, by omega, by omega, by rw [b2]; decide, by rw [b3]; decide⟩, ⟨u64n_of (by omega) (by omega), u64n_of (by omega) (by omega), u64n_of (by omega) (by omega), u64n_of (by omega) (by omega)⟩, ?_⟩
      unfold letM
      rw [if_pos t3]; exact aj
    · rw [if_neg t3] at h
      by_cases h4 : rf m 0 = true ∧ rf m 2 = true ∧ 1 ≤ m.ty ∧ m.ty ≤ 2
      · rw [if_neg (fun x => x h4)] at h
        obtain ⟨a0, a2, t1, t2⟩ := h4
        have b0 : ctP m.sq := of_decide_eq_true a0
        have b2 : 1 ≤ m.kd ∧ m.kd ≤ 14 := of_decide_eq_true a2
        unfold ctP at b0 c3
        by_cases y1 : m.ty = 1
        · rw [if_pos y1] at h
          simp only [Bool.and_eq_true] at h
          obtain ⟨⟨a3, a1⟩, aj⟩ := h
          have b3 : m.er = 0 := of_decide_eq_true a3
          have b1 : m.bo ≤ 1099511627775 := by
            by_cases k1 : m.kd = 1
            · rw [if_pos k1] at a1
              have : m.bo = 0 := of_decide_eq_true a1
              omega
            · rw [if_neg k1] at a1
              have : ctP m.bo := of_decide_eq_true a1
              exact this.2
          refine ⟨⟨by unfold u64n; omega, by unfold u64n; omega, by omega, by omega, by omega, by unfold u64n; omega, by rw [b3]; decide⟩, ⟨u64n_of (by omega) (by omega), u64n_of (by omega) (by omega), u64n_of (by omega) (by omega), u64n_of (by omega) (by omega)⟩, ?_⟩
          unfold letM
          rw [if_neg t3, if_neg (fun x => x b3), if_neg (by omega)]; exact aj
        · rw [if_neg y1] at h
          by_cases h5 : rf m 3 = true ∧ rf m 1 = true
          · rw [if_neg (fun x => x h5)] at h
            have b3 : 0 ≤ m.er ∧ m.er ≤ 25 := of_decide_eq_true h5.1
            have b1 : ctP m.bo := of_decide_eq_true h5.2
            unfold ctP at b1
            refine ⟨⟨by unfold u64n; omega, by unfold u64n; omega, by omega, by omega, by omega, by unfold u64n; omega, by unfold u64n; omega⟩, ⟨u64n_of (by omega) (by omega), u64n_of (by omega) (by omega), u64n_of (by omega) (by omega), u64n_of (by omega) (by omega)⟩, ?_⟩
            unfold letM
            rw [if_neg t3]
            by_cases e0 : m.er = 0
            · rw [if_pos e0] at h
              rw [if_neg (fun x => x e0), if_pos (by omega)]; exact h
            · rw [if_neg e0] at h
              rw [if_pos e0]; exact h
          · rw [if_pos h5] at h; cases h
      · rw [if_pos h4] at h; cases h
  · rw [if_pos hc] at h; cases h
end Go.Proofs.Ytpgeebhepegpaaa
namespace Go.Proofs.Ytpgeebhepegpaaa
open Go.RowKit

/-- which fields are right, which are zero -/
structure JuW (m : Ms) (s : List Nat) : Prop where
  f : if 102 ∈ s then flP m.fi m.fg else m.fi = 0 ∧ m.fg = 0
  d : if 100 ∈ s then flP m.di m.dg else m.di = 0 ∧ m.dg = 0
  n : if 110 ∈ s then m.nm.size ≤ 16 else m.nm = ⟨#[]⟩
  o : if 111 ∈ s then m.ot.size ≤ 16 else m.ot = ⟨#[]⟩
  k : if 107 ∈ s then moP m.mo else m.mo = 0
  a : if 97 ∈ s then 0 ≤ m.at_ ∧ m.at_ < 8 else m.at_ = 0
  t : if 116 ∈ s then m.da.size ≤ 64 else m.da = ⟨#[]⟩
  v : if 118 ∈ s then m.ve ≤ 1099511627775 else m.ve = 0
  e : if 101 ∈ s then (∀ x ∈ m.en, okE x) ∧ m.en.length ≤ 24 else m.en = []
theorem empty_of {s : ByteArray} (h : s.size = 0) : s = ⟨#[]⟩ := by
  obtain ⟨d⟩ := s
  have : d.size = 0 := h
  rw [Array.eq_empty_of_size_eq_zero this]
theorem nam_size {s : ByteArray} (h : Nam s) : s.size ≤ 16 := by have := ((nam_iff s).1 h).2.1; omega
open Classical in
theorem juW_of {m : Ms} {s : List Nat} (h : juB m s = true) : JuW m s := by
  unfold juB at h
  simp only [Bool.and_eq_true] at h
  obtain ⟨⟨⟨⟨⟨⟨⟨⟨hf, hd⟩, hn⟩, ho⟩, hk⟩, ha⟩, ht⟩, hv⟩, he⟩ := h
  refine ⟨?_, ?_, ?_, ?_, ?_, ?_, ?_, ?_, ?_⟩
  · split <;> rename_i x
    · rw [if_pos x] at hf; exact of_decide_eq_true hf
    · rw [if_neg x] at hf; exact of_decide_eq_true hf
  · split <;> rename_i x
    · rw [if_pos x] at hd; exact of_decide_eq_true hd
    · rw [if_neg x] at hd; exact of_decide_eq_true hd
  · split <;> rename_i x
    · rw [if_pos x] at hn; exact nam_size (of_decide_eq_true hn)
    · rw [if_neg x] at hn; exact empty_of (of_decide_eq_true hn)
  · split <;> rename_i x
    · rw [if_pos x] at ho; exact nam_size (of_decide_eq_true ho)
    · rw [if_neg x] at ho; exact empty_of (of_decide_eq_true ho)
  · split <;> rename_i x
    · rw [if_pos x] at hk; exact of_decide_eq_true hk
    · rw [if_neg x] at hk; exact of_decide_eq_true hk
  · split <;> rename_i x
    · rw [if_pos x] at ha; exact of_decide_eq_true ha
    · rw [if_neg x] at ha; exact of_decide_eq_true ha
  · split <;> rename_i x
    · rw [if_pos x] at ht; exact of_decide_eq_true ht
    · rw [if_neg x] at ht; exact empty_of (of_decide_eq_true ht)
  · split <;> rename_i x
    · rw [if_pos x] at hv; exact of_decide_eq_true hv
    · rw [if_neg x] at hv; exact of_decide_eq_true hv
  · split <;> rename_i x
    · rw [if_pos x] at he
      have h2 : RiseL m.en ∧ m.en.length ≤ 24 := of_decide_eq_true (show decide (RiseL m.en ∧ m.en.length ≤ 24) = true from he)
      exact ⟨h2.1.all, h2.2⟩
    · rw [if_neg x] at he
      have h2 : m.en.length = 0 := of_decide_eq_true he
      exact List.eq_nil_of_length_eq_zero h2
theorem u64n_lt_of {z : Int} {n : Nat} (h0 : 0 ≤ z) (h1 : z < (n : Int)) (hn : n ≤ 18446744073709551616) : u64n z < n := by unfold u64n; omega
theorem fit_file {i g : Int} (h : flP i g) {l : List Do} (hl : FitD l) : FitD (itD 6 (u64n i) :: itD 31 (u64n g) :: l) := by
  unfold flP at h
  exact FitD.it (by decide) (u64n_lt_of (n := 64) (by omega) (by omega) (by decide)) (FitD.it (by decide) (u64n_lt_of (n := 2147483648) (by omega) (by omega) (by decide)) hl)
theorem fit_en {e : En} (h : okE e) : FitD (wiE e) := by
  have hs := (okE_size h).2
  obtain ⟨_, h1, h2, h3, h4, h5, h6⟩ := h
  exact FitD.tx (by omega) (FitD.it (by decide) (u64n_lt_of (n := 64) (by omega) (by omega) (by decide)) (FitD.it (by decide) (u64n_lt_of (n := 2147483648) (by omega) (by omega) (by decide)) (FitD.it (by decide) (u64n_lt_of (n := 4) (by omega) (by omega) (by decide)) FitD.nil)))
theorem fit_ens {l : List En} (h : ∀ e ∈ l, okE e) : FitD (l.flatMap wiE) := fun d hd => by
  obtain ⟨e, he, hd⟩ := List.mem_flatMap.1 hd
  exact fit_en (h e he) d hd
theorem fit_wiL {m : Ms} (h : isM m = true) : FitD (wiL m) := by
  obtain ⟨⟨a1, a2, a3, a4, a5, a6, a7⟩, _, hj⟩ := isM_okW h
  have J := juW_of hj
  unfold wiL
  obtain ⟨s, hs⟩ : ∃ s, s = letM m.ty m.kd m.er := ⟨_, rfl⟩
  rw [← hs] at J ⊢
  refine FitD.app (FitD.app (FitD.app (FitD.app (FitD.app (FitD.app (FitD.app (FitD.app (FitD.app ?_ ?_) ?_) ?_) ?_) ?_) ?_) ?_) ?_) ?_
  · exact FitD.it (by decide) a1 (FitD.it (by decide) a2 (FitD.it (by decide) a3 (FitD.it (by decide) a4 (FitD.it (by decide) a5 (FitD.it (by decide) a6 (FitD.it (by decide) a7 FitD.nil))))))
  · exact FitD.ite fun x => by have := J.f; rw [if_pos x] at this; exact fit_file this FitD.nil
  · exact FitD.ite fun x => by have := J.d; rw [if_pos x] at this; exact fit_file this FitD.nil
  · exact FitD.ite fun x => by have := J.n; rw [if_pos x] at this; exact FitD.tx (by omega) FitD.nil
  · exact FitD.ite fun x => by have := J.o; rw [if_pos x] at this; exact FitD.tx (by omega) FitD.nil
  · exact FitD.ite fun x => by
      have := J.k
      rw [if_pos x] at this
      unfold moP at this
      exact FitD.it (by decide) (u64n_lt_of (n := 4) (by omega) (by omega) (by decide)) FitD.nil
  · exact FitD.ite fun x => by have := J.a; rw [if_pos x] at this; exact FitD.it (by decide) (u64n_lt_of (n := 8) (by omega) (by omega) (by decide)) FitD.nil
  · exact FitD.ite fun x => by have := J.t; rw [if_pos x] at this; exact FitD.tx (by omega) FitD.nil
  · exact FitD.ite fun x => by have := J.v; rw [if_pos x] at this; exact FitD.it (by decide) (by omega) FitD.nil
  · exact FitD.ite fun x => by have := J.e; rw [if_pos x] at this; exact FitD.it (by decide) (by omega) (fit_ens this.1)
end Go.Proofs.Ytpgeebhepegpaaa
namespace Go.Proofs.Ytpgeebhepegpaaa
open Go.RowKit

theorem Ms.ext_ {a b : Ms} (h1 : a.ty = b.ty) (h2 : a.cl = b.cl) (h3 : a.ss = b.ss) (h4 : a.sq = b.sq) (h5 : a.bo = b.bo) (h6 : a.kd = b.kd) (h7 : a.er = b.er) (h8 : a.fi = b.fi ∧ a.fg = b.fg) (h9 : a.di = b.di ∧ a.dg = b.dg) (h10 : a.nm = b.nm) (h11 : a.ot = b.ot) (h12 : a.mo = b.mo) (h13 : a.at_ = b.at_) (h14 : a.da = b.da) (h15 : a.ve = b.ve) (h16 : a.en = b.en) : a = b := by
  cases a
  cases b
  simp only at h1 h2 h3 h4 h5 h6 h7 h8 h9 h10 h11 h12 h13 h14 h15 h16
  obtain ⟨h8, h8'⟩ := h8
  obtain ⟨h9, h9'⟩ := h9
  subst h1 h2 h3 h4 h5 h6 h7 h8 h8' h9 h9' h10 h11 h12 h13 h14 h15 h16
  rfl
theorem len_wiH (m : Ms) : lenOf (wiH m) = 134 := by simp [wiH, lenOf, itD_bits]
/-! a message's parts, one behind the other -/
def wq1 (m : Ms) (s : List Nat) : List Do := wiH m ++ wf1 m s
def wq2 (m : Ms) (s : List Nat) : List Do := wq1 m s ++ wf2 m s
def wq3 (m : Ms) (s : List Nat) : List Do := wq2 m s ++ wf3 m s
def wq4 (m : Ms) (s : List Nat) : List Do := wq3 m s ++ wf4 m s
def wq5 (m : Ms) (s : List Nat) : List Do := wq4 m s ++ wf5 m s
def wq6 (m : Ms) (s : List Nat) : List Do := wq5 m s ++ wf6 m s
def wq7 (m : Ms) (s : List Nat) : List Do := wq6 m s ++ wf7 m s
def wq8 (m : Ms) (s : List Nat) : List Do := wq7 m s ++ wf8 m s
theorem wq_all (m : Ms) (s : List Nat) : wi8 m s = wq8 m s := rfl
section
variable {l A C : List Do}
/-- two numbers, one behind the other -/
theorem at_it2 {n x k y : Nat} (h : FitD l) (e : l = A ++ ([itD n x, itD k y] ++ C)) : getT (qn (lenOf l)) (numOf l * 2 ^ pad (lenOf l)) (lenOf A) n = x ∧ getT (qn (lenOf l)) (numOf l * 2 ^ pad (lenOf l)) (lenOf A + n) k = y := by
  refine ⟨at_it h (A := A) (C := itD k y :: C) (by rw [e]; rfl), ?_⟩
  have := at_it h (A := A ++ [itD n x]) (C := C) (x := y) (n := k) (by rw [e]; simp)
  rwa [lenOf_app, lenOf_one, itD_bits] at this
/-- entries read where they stand -/
theorem at_ens {q V : Nat} (h : FitD l) (hq : q = qn (lenOf l)) (hV : V = numOf l * 2 ^ pad (lenOf l)) : ∀ (es : List En) (A : List Do), (∀ e ∈ es, okE e) → l = A ++ (es.flatMap wiE ++ C) → ∀ (n : Nat), n ≤ es.length → pwE q V (lenOf A) n = lenOf (A ++ (es.take n).flatMap wiE) ∧ enW q V (lenOf A) n = es.take n := by
  intro es A hok e n
  induction n with
  | zero => intro _; exact ⟨by simp [pwE], by simp [enW]⟩
  | succ n ih =>
    intro hn
    have hn' : n < es.length := by omega
    obtain ⟨i1, i2⟩ := ih (by omega)
    obtain ⟨x, hx⟩ : ∃ x, x = es[n] := ⟨_, rfl⟩
    have hsp : es = es.take n ++ x :: es.drop (n + 1) := by rw [hx, List.getElem_cons_drop, List.take_append_drop]
    have htk : es.take (n + 1) = es.take n ++ [x] := by rw [hx, List.take_succ_eq_append_getElem hn']
    have e2 : l = (A ++ (es.take n).flatMap wiE) ++ txD x.s :: ([itD 6 (u64n x.i), itD 31 (u64n x.g), itD 2 (u64n x.k)] ++ ((es.drop (n + 1)).flatMap wiE ++ C)) := by
      rw [e]
      conv => lhs; rw [hsp]
      simp [wiE]
    obtain ⟨t1, t2⟩ := at_tx h e2
    rw [← hq, ← hV, ← i1] at t1 t2
    obtain ⟨B, hB⟩ : ∃ B, B = (A ++ (es.take n).flatMap wiE) ++ [txD x.s] := ⟨_, rfl⟩
    have lB : lenOf B = ptT q V (pwE q V (lenOf A) n) := by rw [hB, lenOf_app, lenOf_one, txD_bits, t2, ← i1]
    have g1 := at_it h (A := B) (n := 6) (x := u64n x.i) (C := itD 31 (u64n x.g) :: itD 2 (u64n x.k) :: ((es.drop (n + 1)).flatMap wiE ++ C)) (by rw [e2, hB]; simp)
    have g2 := at_it h (A := B ++ [itD 6 (u64n x.i)]) (n := 31) (x := u64n x.g) (C := itD 2 (u64n x.k) :: ((es.drop (n + 1)).flatMap wiE ++ C)) (by rw [e2, hB]; simp)
    have g3 := at_it h (A := B ++ [itD 6 (u64n x.i), itD 31 (u64n x.g)]) (n := 2) (x := u64n x.k) (C := (es.drop (n + 1)).flatMap wiE ++ C) (by rw [e2, hB]; simp)
    have l2 : lenOf (B ++ [itD 6 (u64n x.i)]) = ptT q V (pwE q V (lenOf A) n) + 6 := by rw [lenOf_app, lenOf_one, itD_bits, lB]
    have l3 : lenOf (B ++ [itD 6 (u64n x.i), itD 31 (u64n x.g)]) = ptT q V (pwE q V (lenOf A) n) + 37 := by
      rw [lenOf_app, lB]; simp [lenOf, itD_bits]
    rw [← hq, ← hV, lB] at g1
    rw [← hq, ← hV, l2] at g2
    rw [← hq, ← hV, l3] at g3
    have ho := hok x (by rw [hx]; exact List.getElem_mem _)
    obtain ⟨_, o1, o2, o3, o4, o5, o6⟩ := ho
    have hen : enE q V (pwE q V (lenOf A) n) = x := by
      unfold enE
      rw [t1, g1, g2, g3, u64n_of (by omega) (by omega), u64n_of (by omega) (by omega), u64n_of (by omega) (by omega)]
    refine ⟨?_, ?_⟩
    · show ptT q V (pwE q V (lenOf A) n) + 39 = _
      rw [htk, List.flatMap_append, ← List.append_assoc, lenOf_app, ← i1, t2]
      simp [wiE, lenOf, itD_bits, txD_bits]
      omega
    · rw [enW_succ, i2, htk, hen]
end
theorem len_file (c : Prop) [Decidable c] (x y : Nat) : lenOf (if c then [itD 6 x, itD 31 y] else []) = if c then 37 else 0 := by
  split
  · simp [lenOf, itD_bits]
  · rfl
theorem len_num (c : Prop) [Decidable c] (n x : Nat) : lenOf (if c then [itD n x] else []) = if c then n else 0 := by
  split
  · simp [lenOf, itD_bits]
  · rfl
/-- a text's field: read, and passed -/
theorem pass_tx {l A T : List Do} {c : Prop} [Decidable c] {t : ByteArray} {q V p : Nat} (h : FitD l) (hq : q = qn (lenOf l)) (hV : V = numOf l * 2 ^ pad (lenOf l)) (e : l = A ++ ((if c then [txD t] else []) ++ T)) (hp : p = lenOf A) :
    (if c then ptT q V p else p) = lenOf (A ++ (if c then [txD t] else [])) ∧ (c → txT q V p = t) := by
  by_cases x : c
  · rw [if_pos x] at e ⊢
    rw [if_pos x]
    obtain ⟨h1, h2⟩ := at_tx (A := A) (s := t) (C := T) h (by rw [e]; rfl)
    rw [← hq, ← hV, ← hp] at h1 h2
    exact ⟨by rw [h2, lenOf_app, lenOf_one, txD_bits, hp], fun _ => h1⟩
  · rw [if_neg x, if_neg x, List.append_nil]
    exact ⟨hp, fun y => absurd y x⟩
theorem pass_it {l A T : List Do} {c : Prop} [Decidable c] {n x q V p : Nat} (h : FitD l) (hq : q = qn (lenOf l)) (hV : V = numOf l * 2 ^ pad (lenOf l)) (e : l = A ++ ((if c then [itD n x] else []) ++ T)) (hp : p = lenOf A) :
    (p + if c then n else 0) = lenOf (A ++ (if c then [itD n x] else [])) ∧ (c → getT q V p n = x) := by
  refine ⟨by rw [lenOf_app, len_num, hp], fun y => ?_⟩
  rw [if_pos y] at e
  rw [hq, hV, hp]
  exact at_it h (A := A) (C := T) (by rw [e]; rfl)
theorem pass_fl {l A T : List Do} {c : Prop} [Decidable c] {x y q V p : Nat} (h : FitD l) (hq : q = qn (lenOf l)) (hV : V = numOf l * 2 ^ pad (lenOf l)) (e : l = A ++ ((if c then [itD 6 x, itD 31 y] else []) ++ T)) (hp : p = lenOf A) :
    (p + if c then 37 else 0) = lenOf (A ++ (if c then [itD 6 x, itD 31 y] else [])) ∧ (c → getT q V p 6 = x ∧ getT q V (p + 6) 31 = y) := by
  refine ⟨by rw [lenOf_app, len_file, hp], fun z => ?_⟩
  rw [if_pos z] at e
  rw [hq, hV, hp]
  exact at_it2 h e
set_option maxHeartbeats 1600000 in
/-- what is read of a message's bits is the message, to its end -/
theorem rd_back {m : Ms} (hi : isM m = true) {q V : Nat} (hq : q = qn (lenOf (wiL m))) (hV : V = numOf (wiL m) * 2 ^ pad (lenOf (wiL m))) : rdM q V = m ∧ endW q V = lenOf (wiL m) := by
  have hf := fit_wiL hi
  obtain ⟨⟨a1, a2, a3, a4, a5, a6, a7⟩, ⟨i1, i2, i3, i4⟩, hj⟩ := isM_okW hi
  have J := juW_of hj
  obtain ⟨s, hs⟩ : ∃ s, s = letM m.ty m.kd m.er := ⟨_, rfl⟩
  rw [← hs] at J
  have l8 : wiL m = wq8 m s ++ wf9 m s := by unfold wiL; rw [← hs, wq_all]
  have l7 : wiL m = wq7 m s ++ (wf8 m s ++ wf9 m s) := by rw [l8, wq8, List.append_assoc]
  have l6 : wiL m = wq6 m s ++ (wf7 m s ++ (wf8 m s ++ wf9 m s)) := by rw [l7, wq7, List.append_assoc]
  have l5 : wiL m = wq5 m s ++ (wf6 m s ++ (wf7 m s ++ (wf8 m s ++ wf9 m s))) := by rw [l6, wq6, List.append_assoc]
  have l4 : wiL m = wq4 m s ++ (wf5 m s ++ (wf6 m s ++ (wf7 m s ++ (wf8 m s ++ wf9 m s)))) := by rw [l5, wq5, List.append_assoc]
  have l3 : wiL m = wq3 m s ++ (wf4 m s ++ (wf5 m s ++ (wf6 m s ++ (wf7 m s ++ (wf8 m s ++ wf9 m s))))) := by rw [l4, wq4, List.append_assoc]
  have l2 : wiL m = wq2 m s ++ (wf3 m s ++ (wf4 m s ++ (wf5 m s ++ (wf6 m s ++ (wf7 m s ++ (wf8 m s ++ wf9 m s)))))) := by rw [l3, wq3, List.append_assoc]
  have l1 : wiL m = wq1 m s ++ (wf2 m s ++ (wf3 m s ++ (wf4 m s ++ (wf5 m s ++ (wf6 m s ++ (wf7 m s ++ (wf8 m s ++ wf9 m s))))))) := by rw [l2, wq2, List.append_assoc]
  have l0 : wiL m = wiH m ++ (wf1 m s ++ (wf2 m s ++ (wf3 m s ++ (wf4 m s ++ (wf5 m s ++ (wf6 m s ++ (wf7 m s ++ (wf8 m s ++ wf9 m s)))))))) := by rw [l1, wq1, List.append_assoc]
  obtain ⟨l, hl⟩ : ∃ l, l = wiL m := ⟨_, rfl⟩
  rw [← hl] at hf hq hV l0 l1 l2 l3 l4 l5 l6 l7 l8 ⊢
  have h0 := at_it (A := []) (n := 2) (x := u64n m.ty) hf (l0.trans rfl)
  have h1 := at_it (A := [itD 2 (u64n m.ty)]) (n := 3) (x := u64n m.cl) hf (l0.trans rfl)
  have h2 := at_it (A := [itD 2 (u64n m.ty), itD 3 (u64n m.cl)]) (n := 40) (x := m.ss) hf (l0.trans rfl)
  have h3 := at_it (A := [itD 2 (u64n m.ty), itD 3 (u64n m.cl), itD 40 m.ss]) (n := 40) (x := m.sq) hf (l0.trans rfl)
  have h4 := at_it (A := [itD 2 (u64n m.ty), itD 3 (u64n m.cl), itD 40 m.ss, itD 40 m.sq]) (n := 40) (x := m.bo) hf (l0.trans rfl)
  have h5 := at_it (A := [itD 2 (u64n m.ty), itD 3 (u64n m.cl), itD 40 m.ss, itD 40 m.sq, itD 40 m.bo]) (n := 4) (x := u64n m.kd) hf (l0.trans rfl)
  have h6 := at_it (A := [itD 2 (u64n m.ty), itD 3 (u64n m.cl), itD 40 m.ss, itD 40 m.sq, itD 40 m.bo, itD 4 (u64n m.kd)]) (n := 5) (x := u64n m.er) hf (l0.trans rfl)
  simp only [lenOf, List.foldl_cons, List.foldl_nil, itD_bits] at h0 h1 h2 h3 h4 h5 h6
  rw [show List.foldl (fun a d => a + d.bits) 0 l = lenOf l from rfl, ← hq, ← hV] at h0 h1 h2 h3 h4 h5 h6
  have hsW : sW q V = s := by unfold sW; rw [h0, h5, h6, i1, i3, i4, hs]
  obtain ⟨p1, r1⟩ := pass_fl (A := wiH m) hf hq hV l0 (len_wiH m).symm
  obtain ⟨p2, r2⟩ := pass_fl (A := wq1 m s) hf hq hV l1 p1
  obtain ⟨p3, r3⟩ := pass_tx (A := wq2 m s) hf hq hV l2 p2
  obtain ⟨p4, r4⟩ := pass_tx (A := wq3 m s) hf hq hV l3 p3
  obtain ⟨p5, r5⟩ := pass_it (A := wq4 m s) hf hq hV l4 p4
  obtain ⟨p6, r6⟩ := pass_it (A := wq5 m s) hf hq hV l5 p5
  obtain ⟨p7, r7⟩ := pass_tx (A := wq6 m s) hf hq hV l6 p6
  obtain ⟨p8, r8⟩ := pass_it (A := wq7 m s) hf hq hV l7 p7
  have P8 : pw8 q V s = lenOf (wq8 m s) := p8
  have hent : enW q V (pw8 q V s + 5) (cntW q V s) = m.en ∧ (if 101 ∈ s then pwE q V (pw8 q V s + 5) (cntW q V s) else pw8 q V s) = lenOf l := by
    have je := J.e
    unfold cntW
    by_cases x : 101 ∈ s
    · rw [if_pos x] at je
      rw [if_pos x, if_pos x, P8]
      have e9 : l = wq8 m s ++ (itD 5 m.en.length :: (m.en.flatMap wiE ++ [])) := by rw [l8, wf9, if_pos x, List.append_nil]
      have hc := at_it hf e9
      rw [← hq, ← hV] at hc
      have hen := at_ens (A := wq8 m s ++ [itD 5 m.en.length]) (C := []) hf hq hV m.en je.1 (by rw [e9]; simp) m.en.length (Nat.le_refl _)
      rw [lenOf_app, lenOf_one, itD_bits, List.take_length] at hen
      rw [hc]
      refine ⟨hen.2, hen.1.trans ?_⟩
      rw [e9]
      simp
    · rw [if_neg x] at je
      rw [if_neg x, if_neg x, je]
      exact ⟨rfl, by rw [P8, l8, wf9, if_neg x, List.append_nil]⟩
  refine ⟨?_, by unfold endW; rw [hsW]; exact hent.2⟩
  unfold rdM
  rw [hsW]
  refine Ms.ext_ (by show ((getT q V 0 2 : Nat) : Int) = _; rw [h0, i1]) (by show ((getT q V 2 3 : Nat) : Int) = _; rw [h1, i2]) h2 h3 h4 (by show ((getT q V 125 4 : Nat) : Int) = _; rw [h5, i3]) (by show ((getT q V 129 5 : Nat) : Int) = _; rw [h6, i4]) ?_ ?_ ?_ ?_ ?_ ?_ ?_ ?_ hent.1
  · show (if 102 ∈ s then ((getT q V 134 6 : Nat) : Int) else 0) = _ ∧ (if 102 ∈ s then ((getT q V 140 31 : Nat) : Int) else 0) = _
    have j := J.f
    by_cases x : 102 ∈ s
    · rw [if_pos x] at j
      unfold flP at j
      rw [if_pos x, if_pos x, (r1 x).1, show getT q V 140 31 = u64n m.fg from (r1 x).2]
      exact ⟨u64n_of (by omega) (by omega), u64n_of (by omega) (by omega)⟩
    · rw [if_neg x] at j
      rw [if_neg x, if_neg x]
      exact ⟨j.1.symm, j.2.symm⟩
  · show (if 100 ∈ s then ((getT q V (pw1 s) 6 : Nat) : Int) else 0) = _ ∧ (if 100 ∈ s then ((getT q V (pw1 s + 6) 31 : Nat) : Int) else 0) = _
    have j := J.d
    by_cases x : 100 ∈ s
    · rw [if_pos x] at j
      unfold flP at j
      rw [if_pos x, if_pos x, show getT q V (pw1 s) 6 = u64n m.di from (r2 x).1, show getT q V (pw1 s + 6) 31 = u64n m.dg from (r2 x).2]
      exact ⟨u64n_of (by omega) (by omega), u64n_of (by omega) (by omega)⟩
    · rw [if_neg x] at j
      rw [if_neg x, if_neg x]
      exact ⟨j.1.symm, j.2.symm⟩
  · show (if 110 ∈ s then txT q V (pw2 s) else ⟨#[]⟩) = _
    have j := J.n
    by_cases x : 110 ∈ s
    · rw [if_pos x]; exact r3 x
    · rw [if_neg x] at j ⊢; exact j.symm
  · show (if 111 ∈ s then txT q V (pw3 q V s) else ⟨#[]⟩) = _
    have j := J.o
    by_cases x : 111 ∈ s
    · rw [if_pos x]; exact r4 x
    · rw [if_neg x] at j ⊢; exact j.symm
  · show (if 107 ∈ s then ((getT q V (pw4 q V s) 2 : Nat) : Int) else 0) = _
    have j := J.k
    by_cases x : 107 ∈ s
    · rw [if_pos x] at j
      unfold moP at j
      rw [if_pos x, show getT q V (pw4 q V s) 2 = u64n m.mo from r5 x]
      exact u64n_of (by omega) (by omega)
    · rw [if_neg x] at j ⊢; exact j.symm
  · show (if 97 ∈ s then ((getT q V (pw5 q V s) 3 : Nat) : Int) else 0) = _
    have j := J.a
    by_cases x : 97 ∈ s
    · rw [if_pos x] at j
      rw [if_pos x, show getT q V (pw5 q V s) 3 = u64n m.at_ from r6 x]
      exact u64n_of (by omega) (by omega)
    · rw [if_neg x] at j ⊢; exact j.symm
  · show (if 116 ∈ s then txT q V (pw6 q V s) else ⟨#[]⟩) = _
    have j := J.t
    by_cases x : 116 ∈ s
    · rw [if_pos x]; exact r7 x
    · rw [if_neg x] at j ⊢; exact j.symm
  · show (if 118 ∈ s then getT q V (pw7 q V s) 40 else 0) = _
    have j := J.v
    by_cases x : 118 ∈ s
    · rw [if_pos x]; exact r8 x
    · rw [if_neg x] at j ⊢; exact j.symm
end Go.Proofs.Ytpgeebhepegpaaa
namespace Go.Proofs.Ytpgeebhepegpaaa
open Go.RowKit

theorem numOf_lt {l : List Do} (h : FitD l) : numOf l < 2 ^ lenOf l := by
  obtain ⟨r, k, hr, h1, h2⟩ := numOf_append [] l h
  rw [List.nil_append] at h1 h2
  have e1 : numOf [] = 0 := rfl
  have e2 : lenOf [] = 0 := rfl
  rw [e1] at h1
  rw [e2] at h2
  rw [h1, h2]
  simpa using hr
theorem wiB_len (m : Ms) : (wiB m).length = qn (lenOf (wiL m)) := by unfold wiB rowOf; exact be_length _ _
theorem wiB_byN {m : Ms} (h : isM m = true) : byN (wiB m) = numOf (wiL m) * 2 ^ pad (lenOf (wiL m)) := by
  have h1 := numOf_lt (fit_wiL h)
  have h2 := qn_pad (lenOf (wiL m))
  unfold wiB rowOf
  refine byN_be _ _ ?_
  rw [show (256 : Nat) = 2 ^ 8 from rfl, ← Nat.pow_mul, h2, Nat.pow_add]
  exact Nat.mul_lt_mul_of_pos_right h1 (Nat.two_pow_pos _)
theorem len_tx1 (c : Prop) [Decidable c] (t : ByteArray) {b : Nat} (h : c → t.size ≤ b) : lenOf (if c then [txD t] else []) ≤ 16 + 8 * b := by
  split
  · rw [lenOf_one, txD_bits]; have := h ‹_›; omega
  · exact Nat.zero_le _
theorem len_ens : ∀ (l : List En), (∀ e ∈ l, okE e) → lenOf (l.flatMap wiE) ≤ 183 * l.length
  | [], _ => Nat.le_refl _
  | e :: l, h => by
    have h1 := len_ens l (fun x hx => h x (List.mem_cons_of_mem _ hx))
    have h2 := (okE_size (h e (List.mem_cons_self ..))).2
    rw [List.flatMap_cons, lenOf_app, List.length_cons]
    have h3 : lenOf (wiE e) = 55 + 8 * e.s.size := by simp [wiE, lenOf, itD_bits, txD_bits]; omega
    omega
theorem wiL_len {m : Ms} (h : isM m = true) : lenOf (wiL m) ≤ 5600 := by
  have J := juW_of (isM_okW h).ju
  unfold wiL wi8
  obtain ⟨s, hs⟩ : ∃ s, s = letM m.ty m.kd m.er := ⟨_, rfl⟩
  rw [← hs] at J ⊢
  rw [lenOf_app, lenOf_app, lenOf_app, lenOf_app, lenOf_app, lenOf_app, lenOf_app, lenOf_app, lenOf_app, len_wiH]
  have b1 : lenOf (wf1 m s) ≤ 37 := by unfold wf1; rw [len_file]; split <;> omega
  have b2 : lenOf (wf2 m s) ≤ 37 := by unfold wf2; rw [len_file]; split <;> omega
  have b3 : lenOf (wf3 m s) ≤ 16 + 8 * 16 := len_tx1 _ _ fun x => by have := J.n; rwa [if_pos x] at this
  have b4 : lenOf (wf4 m s) ≤ 16 + 8 * 16 := len_tx1 _ _ fun x => by have := J.o; rwa [if_pos x] at this
  have b5 : lenOf (wf5 m s) ≤ 2 := by unfold wf5; rw [len_num]; split <;> omega
  have b6 : lenOf (wf6 m s) ≤ 3 := by unfold wf6; rw [len_num]; split <;> omega
  have b7 : lenOf (wf7 m s) ≤ 16 + 8 * 64 := len_tx1 _ _ fun x => by have := J.t; rwa [if_pos x] at this
  have b8 : lenOf (wf8 m s) ≤ 40 := by unfold wf8; rw [len_num]; split <;> omega
  have b9 : lenOf (wf9 m s) ≤ 5 + 183 * 24 := by
    unfold wf9
    split
    · have := J.e
      rw [if_pos ‹_›] at this
      have h1 := len_ens m.en this.1
      rw [show itD 5 m.en.length :: m.en.flatMap wiE = [itD 5 m.en.length] ++ m.en.flatMap wiE from rfl, lenOf_app, lenOf_one, itD_bits]
      omega
    · exact Nat.zero_le _
  omega
theorem wiB_short {m : Ms} (h : isM m = true) : (wiB m).length ≤ 700 := by
  rw [wiB_len]
  have := wiL_len h
  unfold qn
  omega
/-- the message that bytes are -/
noncomputable def decM (l : List Nat) : Option Ms := if isM (rdM l.length (byN l)) = true ∧ wiB (rdM l.length (byN l)) = l then some (rdM l.length (byN l)) else none
theorem decM_back {m : Ms} (h : isM m = true) : decM (wiB m) = some m := by
  unfold decM
  have := (rd_back h (wiB_len m) (wiB_byN h)).1
  rw [this, if_pos ⟨h, rfl⟩]
theorem decM_some {l : List Nat} {m : Ms} (h : decM l = some m) : isM m = true ∧ wiB m = l ∧ rdM l.length (byN l) = m := by
  unfold decM at h
  by_cases x : isM (rdM l.length (byN l)) = true ∧ wiB (rdM l.length (byN l)) = l
  · rw [if_pos x] at h
    obtain rfl := Option.some.inj h
    exact ⟨x.1, x.2, rfl⟩
  · rw [if_neg x] at h; cases h
/-- of bytes that are a message's: the reader stands at their end -/
theorem decM_end {l : List Nat} {m : Ms} (h : decM l = some m) : endW l.length (byN l) ≤ 8 * l.length ∧ endOf l.length (byN l) (endW l.length (byN l)) = 0 ∧ 134 ≤ 8 * l.length := by
  obtain ⟨h1, h2, h3⟩ := decM_some h
  have hb := (rd_back h1 (wiB_len m) (wiB_byN h1)).2
  rw [h2] at hb
  have e1 : l.length = qn (lenOf (wiL m)) := by rw [← h2]; exact wiB_len m
  have e2 : byN l = numOf (wiL m) * 2 ^ pad (lenOf (wiL m)) := by rw [← h2]; exact wiB_byN h1
  have h5 := qn_pad (lenOf (wiL m))
  refine ⟨by rw [hb, e1]; omega, ?_, ?_⟩
  · rw [hb, e1, e2]; exact all_read _
  · have h6 : 134 ≤ lenOf (wiL m) := by
      unfold wiL wi8
      rw [lenOf_app, lenOf_app, lenOf_app, lenOf_app, lenOf_app, lenOf_app, lenOf_app, lenOf_app, lenOf_app, len_wiH]
      omega
    rw [e1]; omega
theorem decM_one {l k : List Nat} {m : Ms} (h : decM l = some m) (h' : decM k = some m) : l = k := by rw [← (decM_some h).2.1, ← (decM_some h').2.1]
end Go.Proofs.Ytpgeebhepegpaaa
namespace Go.Proofs.Ytpgeebhepegpaaa
open Go.RowKit

theorem wit_items (A : List Do) (n x : Nat) : numOf (A ++ [itD n x]) = numOf A * 2 ^ n + x ∧ lenOf (A ++ [itD n x]) = lenOf A + n := by
  rw [numOf_snoc, lenOf_app, lenOf_one, itD_bits, itD_num]
  exact ⟨rfl, rfl⟩
theorem wtx_items (A : List Do) (s : ByteArray) : numOf (A ++ [txD s]) = numOf A * 2 ^ (16 + 8 * s.size) + tx s.size s.data.toList ∧ lenOf (A ++ [txD s]) = lenOf A + (16 + 8 * s.size) := by
  rw [numOf_snoc, lenOf_app, lenOf_one, txD_bits, txD_num]
  exact ⟨rfl, rfl⟩
/-- items are just the first a bits -/
structure PreW (q V : Nat) (A : List Do) (a : Nat) : Prop where
  len : lenOf A = a
  le : a ≤ 8 * q
  num : numOf A = V / 2 ^ (8 * q - a)
theorem div_nextW (V e n : Nat) : V / 2 ^ (e + n) * 2 ^ n + V / 2 ^ e % 2 ^ n = V / 2 ^ e := by
  rw [Nat.pow_add, ← Nat.div_div_eq_div_mul]
  exact Nat.div_add_mod' _ _
section
variable {q V a : Nat} {A : List Do}
theorem PreW.more {B : List Do} {n : Nat} (h : PreW q V A a) (hn : a + n ≤ 8 * q) (hl : lenOf (A ++ B) = lenOf A + n) (hb : numOf (A ++ B) = numOf A * 2 ^ n + bitsAt q V a n) : PreW q V (A ++ B) (a + n) := by
  refine ⟨by rw [hl, h.len], hn, ?_⟩
  obtain ⟨k, hk⟩ : ∃ k, k = 8 * q - a - n := ⟨_, rfl⟩
  rw [hb, h.num]
  unfold bitsAt
  rw [← hk, show 8 * q - a = k + n from by omega, show 8 * q - (a + n) = k from by omega]
  exact div_nextW V k n
theorem PreW.it (h : PreW q V A a) {n : Nat} (hn : a + n ≤ 8 * q) : PreW q V (A ++ [itD n (getT q V a n)]) (a + n) :=
  h.more hn (wit_items _ _ _).2 (by rw [(wit_items _ _ _).1, getT, if_pos hn])
theorem tx_bytesAt (q V p n : Nat) (h : p + 8 * n ≤ 8 * q) : tx 0 (bytesAt q V p n) = bitsAt q V p (8 * n) := by
  induction n with
  | zero => rw [Nat.mul_zero, bitsAt_zero]; rfl
  | succ n ih =>
    rw [show bytesAt q V p (n + 1) = bytesAt q V p n ++ [byteAt q V (p + 8 * n)] from by simp [bytesAt, List.range_succ], tx_snoc, ih (by omega), byteAt_toNat, Nat.mul_add, Nat.mul_one, bitsAt_split q V p (8 * n) 8 (by omega)]
theorem txT_size (h : fitT q V a) : (txT q V a).size = bitsAt q V a 16 := by
  unfold txT
  rw [if_pos h]
  show (bytesAt q V (a + 16) (bitsAt q V a 16)).toArray.size = _
  rw [List.size_toArray, bytesAt_length]
theorem PreW.tx (h : PreW q V A a) (hf : fitT q V a) : PreW q V (A ++ [txD (txT q V a)]) (ptT q V a) := by
  have hs := txT_size hf
  obtain ⟨n, hn⟩ : ∃ n, n = bitsAt q V a 16 := ⟨_, rfl⟩
  have hle : a + (16 + 8 * n) ≤ 8 * q := by unfold fitT at hf; omega
  have hp : ptT q V a = a + (16 + 8 * n) := by unfold ptT; rw [if_pos hf, hn]; omega
  rw [← hn] at hs
  rw [hp]
  refine h.more hle (by rw [(wtx_items _ _).2, hs]) ?_
  rw [(wtx_items _ _).1, hs]
  congr 1
  have hd : (txT q V a).data.toList = bytesAt q V (a + 16) n := by unfold txT; rw [if_pos hf, hn]
  rw [hd, tx_eq, bytesAt_length, tx_bytesAt _ _ _ _ (by omega), bitsAt_split q V a 16 (8 * n) (by omega), ← hn]
theorem fit_pt (h : ptT q V a ≤ 8 * q) : fitT q V a := by
  by_cases hf : fitT q V a
  · exact hf
  · unfold ptT at h; rw [if_neg hf] at h; omega
theorem le_pt (q V a : Nat) : a ≤ ptT q V a := by unfold ptT; split <;> omega
theorem PreW.ito {c : Prop} [Decidable c] {n x : Nat} (h : PreW q V A a) (hn : (a + if c then n else 0) ≤ 8 * q) (hx : c → x = getT q V a n) : PreW q V (A ++ if c then [itD n x] else []) (a + if c then n else 0) := by
  by_cases hc : c
  · rw [if_pos hc] at hn
    rw [if_pos hc, if_pos hc, hx hc]
    exact h.it hn
  · rw [if_neg hc, if_neg hc, List.append_nil]
    exact h
theorem PreW.filo {c : Prop} [Decidable c] {x y : Nat} (h : PreW q V A a) (hn : (a + if c then 37 else 0) ≤ 8 * q) (hx : c → x = getT q V a 6 ∧ y = getT q V (a + 6) 31) : PreW q V (A ++ if c then [itD 6 x, itD 31 y] else []) (a + if c then 37 else 0) := by
  by_cases hc : c
  · rw [if_pos hc] at hn
    rw [if_pos hc, if_pos hc, (hx hc).1, (hx hc).2]
    have h1 := (h.it (n := 6) (by omega)).it (n := 31) (by omega)
    rw [List.append_assoc] at h1
    exact h1
  · rw [if_neg hc, if_neg hc, List.append_nil]
    exact h
theorem PreW.txo {c : Prop} [Decidable c] {t : ByteArray} (h : PreW q V A a) (hn : (if c then ptT q V a else a) ≤ 8 * q) (ht : c → t = txT q V a) : PreW q V (A ++ if c then [txD t] else []) (if c then ptT q V a else a) := by
  by_cases hc : c
  · rw [if_pos hc] at hn
    rw [if_pos hc, if_pos hc, ht hc]
    exact h.tx (fit_pt hn)
  · rw [if_neg hc, if_neg hc, List.append_nil]
    exact h
theorem u64n_getT (q V a n : Nat) (hn : n ≤ 62) : u64n ((getT q V a n : Nat) : Int) = getT q V a n := by
  have h1 := getT_lt q V a n
  have h2 : 2 ^ n ≤ 2 ^ 62 := Nat.pow_le_pow_right (by decide) hn
  unfold u64n
  omega
theorem pwE_le (q V p : Nat) : ∀ n, p ≤ pwE q V p n
  | 0 => Nat.le_refl _
  | n + 1 => by
    have h1 := pwE_le q V p n
    have h2 := le_pt q V (pwE q V p n)
    show p ≤ ptT q V (pwE q V p n) + 39
    omega
theorem PreW.ens {p : Nat} (h : PreW q V A p) : ∀ n, pwE q V p n ≤ 8 * q → PreW q V (A ++ (enW q V p n).flatMap wiE) (pwE q V p n) := by
  intro n
  induction n with
  | zero => intro _; simpa [enW, pwE] using h
  | succ n ih =>
    intro hn
    have hn' : ptT q V (pwE q V p n) + 39 ≤ 8 * q := hn
    have h2 := le_pt q V (pwE q V p n)
    have h3 := ih (by omega)
    have h4 := (((h3.tx (fit_pt (by omega))).it (n := 6) (by omega)).it (n := 31) (by omega)).it (n := 2) (by omega)
    rw [enW_succ, List.flatMap_append, ← List.append_assoc]
    have e : [enE q V (pwE q V p n)].flatMap wiE = [txD (txT q V (pwE q V p n))] ++ [itD 6 (getT q V (ptT q V (pwE q V p n)) 6)] ++ [itD 31 (getT q V (ptT q V (pwE q V p n) + 6) 31)] ++ [itD 2 (getT q V (ptT q V (pwE q V p n) + 37) 2)] := by
      rw [List.flatMap_singleton]
      unfold wiE enE
      simp only [u64n_getT _ _ _ 6 (by decide), u64n_getT _ _ _ 31 (by decide), u64n_getT _ _ _ 2 (by decide)]
      rfl
    rw [e]
    simp only [← List.append_assoc]
    exact h4
theorem PreW.fin (h : PreW q V A a) (he : endOf q V a = 0) : rowOf (numOf A) (lenOf A) = be q V := by
  have hle := h.le
  have h8 : 8 * q - a < 8 ∧ V % 2 ^ (8 * q - a) = 0 := by
    unfold endOf at he
    by_cases h8 : 8 * q - a < 8 ∧ V % 2 ^ (8 * q - a) = 0
    · exact h8
    · rw [if_neg h8] at he; cases he
  unfold rowOf
  rw [h.len, h.num, show qn a = q from by unfold qn; omega, show pad a = 8 * q - a from by unfold pad; omega, Nat.div_mul_cancel (Nat.dvd_of_mod_eq_zero h8.2)]
end
/-- where what is read by these letters ends -/
def endX (q V : Nat) (s : List Nat) : Nat := if 101 ∈ s then pwE q V (pw8 q V s + 5) (cntW q V s) else pw8 q V s
theorem pw_les (q V : Nat) (s : List Nat) : 134 ≤ pw1 s ∧ pw1 s ≤ pw2 s ∧ pw2 s ≤ pw3 q V s ∧ pw3 q V s ≤ pw4 q V s ∧ pw4 q V s ≤ pw5 q V s ∧ pw5 q V s ≤ pw6 q V s ∧ pw6 q V s ≤ pw7 q V s ∧ pw7 q V s ≤ pw8 q V s ∧ pw8 q V s ≤ endX q V s := by
  refine ⟨Nat.le_add_right _ _, Nat.le_add_right _ _, ?_, ?_, Nat.le_add_right _ _, Nat.le_add_right _ _, ?_, Nat.le_add_right _ _, ?_⟩
  · unfold pw3; split
    · exact le_pt _ _ _
    · exact Nat.le_refl _
  · unfold pw4; split
    · exact le_pt _ _ _
    · exact Nat.le_refl _
  · unfold pw7; split
    · exact le_pt _ _ _
    · exact Nat.le_refl _
  · unfold endX; split
    · exact Nat.le_trans (Nat.le_add_right _ 5) (pwE_le _ _ _ _)
    · exact Nat.le_refl _
set_option maxHeartbeats 800000 in
theorem pre_all (q V : Nat) (s : List Nat) (hV : V < 2 ^ (8 * q)) (he : endX q V s ≤ 8 * q) : PreW q V (wi8 (rdW q V s) s ++ wf9 (rdW q V s) s) (endX q V s) := by
  obtain ⟨l0, l1, l2, l3, l4, l5, l6, l7, l8⟩ := pw_les q V s
  have z : PreW q V [] 0 := ⟨rfl, Nat.zero_le _, by rw [Nat.sub_zero, Nat.div_eq_of_lt hV]; rfl⟩
  have P0 : PreW q V (wiH (rdW q V s)) 134 := by
    have h := ((((((z.it (n := 2) (by omega)).it (n := 3) (by omega)).it (n := 40) (by omega)).it (n := 40) (by omega)).it (n := 40) (by omega)).it (n := 4) (by omega)).it (n := 5) (by omega)
    unfold wiH rdW
    simp only [u64n_getT _ _ _ 2 (by decide), u64n_getT _ _ _ 3 (by decide), u64n_getT _ _ _ 4 (by decide), u64n_getT _ _ _ 5 (by decide)]
    exact h
  obtain ⟨m, hm⟩ : ∃ m, m = rdW q V s := ⟨_, rfl⟩
  have P1 : PreW q V (wq1 m s) (pw1 s) := by
    rw [hm]
    exact P0.filo (by show pw1 s ≤ _; omega) fun c => ⟨by show u64n (if 102 ∈ s then ((getT q V 134 6 : Nat) : Int) else 0) = _; rw [if_pos c, u64n_getT _ _ _ 6 (by decide)], by show u64n (if 102 ∈ s then ((getT q V 140 31 : Nat) : Int) else 0) = _; rw [if_pos c, u64n_getT _ _ _ 31 (by decide)]⟩
  have P2 : PreW q V (wq2 m s) (pw2 s) := by
    rw [hm] at P1 ⊢
    exact P1.filo (by show pw2 s ≤ _; omega) fun c => ⟨by show u64n (if 100 ∈ s then ((getT q V (pw1 s) 6 : Nat) : Int) else 0) = _; rw [if_pos c, u64n_getT _ _ _ 6 (by decide)], by show u64n (if 100 ∈ s then ((getT q V (pw1 s + 6) 31 : Nat) : Int) else 0) = _; rw [if_pos c, u64n_getT _ _ _ 31 (by decide)]⟩
  have P3 : PreW q V (wq3 m s) (pw3 q V s) := by
    rw [hm] at P2 ⊢
    exact P2.txo (by show pw3 q V s ≤ _; omega) fun c => by show (if 110 ∈ s then txT q V (pw2 s) else ⟨#[]⟩) = _; rw [if_pos c]
  have P4 : PreW q V (wq4 m s) (pw4 q V s) := by
    rw [hm] at P3 ⊢
    exact P3.txo (by show pw4 q V s ≤ _; omega) fun c => by show (if 111 ∈ s then txT q V (pw3 q V s) else ⟨#[]⟩) = _; rw [if_pos c]
  have P5 : PreW q V (wq5 m s) (pw5 q V s) := by
    rw [hm] at P4 ⊢
    exact P4.ito (by show pw5 q V s ≤ _; omega) fun c => by show u64n (if 107 ∈ s then ((getT q V (pw4 q V s) 2 : Nat) : Int) else 0) = _; rw [if_pos c, u64n_getT _ _ _ 2 (by decide)]
  have P6 : PreW q V (wq6 m s) (pw6 q V s) := by
    rw [hm] at P5 ⊢
    exact P5.ito (by show pw6 q V s ≤ _; omega) fun c => by show u64n (if 97 ∈ s then ((getT q V (pw5 q V s) 3 : Nat) : Int) else 0) = _; rw [if_pos c, u64n_getT _ _ _ 3 (by decide)]
  have P7 : PreW q V (wq7 m s) (pw7 q V s) := by
    rw [hm] at P6 ⊢
    exact P6.txo (by show pw7 q V s ≤ _; omega) fun c => by show (if 116 ∈ s then txT q V (pw6 q V s) else ⟨#[]⟩) = _; rw [if_pos c]
  have P8 : PreW q V (wq8 m s) (pw8 q V s) := by
    rw [hm] at P7 ⊢
    exact P7.ito (by show pw8 q V s ≤ _; omega) fun c => by show (if 118 ∈ s then getT q V (pw7 q V s) 40 else 0) = _; rw [if_pos c]
  rw [← hm, wq_all]
  unfold endX at he l8 ⊢
  unfold wf9
  by_cases c : 101 ∈ s
  · rw [if_pos c] at he l8
    rw [if_pos c, if_pos c]
    have hen : m.en = enW q V (pw8 q V s + 5) (cntW q V s) := by rw [hm]; rfl
    have hct : cntW q V s = getT q V (pw8 q V s) 5 := by unfold cntW; rw [if_pos c]
    have hln : m.en.length = getT q V (pw8 q V s) 5 := by rw [hen, ← hct]; simp [enW]
    have h5 := pwE_le q V (pw8 q V s + 5) (cntW q V s)
    have h := (P8.it (n := 5) (by omega)).ens (cntW q V s) he
    rw [hln, hen]
    rw [List.append_assoc] at h
    exact h
  · rw [if_neg c, if_neg c, List.append_nil]
    exact P8
theorem byN_lt : ∀ (l : List Nat), (∀ x ∈ l, x < 256) → byN l < 2 ^ (8 * l.length) := by
  intro l
  induction l using snocInd with
  | nil => intro _; simp [byN]
  | append_singleton l c ih =>
    intro h
    have h1 := ih fun x hx => h x (by simp [hx])
    have h2 := h c (by simp)
    rw [byN_snoc, List.length_append, List.length_singleton, Nat.mul_add, Nat.pow_add]
    omega
theorem wi_rev {l : List Nat} (hl : ∀ x ∈ l, x < 256) (he : endX l.length (byN l) (sW l.length (byN l)) ≤ 8 * l.length) (h0 : endOf l.length (byN l) (endX l.length (byN l) (sW l.length (byN l))) = 0) : wiB (rdM l.length (byN l)) = l := by
  have h := (pre_all l.length (byN l) _ (byN_lt l hl) he).fin h0
  rw [be_byN l hl] at h
  exact h
/-! letters by masks -/
def lsM (h : Nat) : List Nat := (if h.testBit 4 then [102] else []) ++ (if h.testBit 5 then [100] else []) ++ (if h.testBit 6 then [110] else []) ++ (if h.testBit 7 then [111] else []) ++ (if h.testBit 8 then [107] else []) ++ (if h.testBit 9 then [97] else []) ++ (if h.testBit 10 then [116] else []) ++ (if h.testBit 11 then [118] else []) ++ (if h.testBit 12 then [101] else [])
theorem mem_ite1 (b : Bool) (c d : Nat) : (c ∈ if b then [d] else []) ↔ b = true ∧ c = d := by cases b <;> simp
theorem like_ls (h : Nat) : likeT h (lsM h) := by
  unfold likeT
  simp only [lsM, List.mem_append, mem_ite1]
  simp
theorem rdW_congr {q V h : Nat} {s t : List Nat} (hs : likeT h s) (ht : likeT h t) : rdW q V s = rdW q V t ∧ endX q V s = endX q V t := by
  obtain ⟨a1, a2, a3, a4, a5, a6, a7, a8, a9⟩ := hs
  obtain ⟨b1, b2, b3, b4, b5, b6, b7, b8, b9⟩ := ht
  have c1 := decide_eq_decide.1 (a1.symm.trans b1)
  have c2 := decide_eq_decide.1 (a2.symm.trans b2)
  have c3 := decide_eq_decide.1 (a3.symm.trans b3)
  have c4 := decide_eq_decide.1 (a4.symm.trans b4)
  have c5 := decide_eq_decide.1 (a5.symm.trans b5)
  have c6 := decide_eq_decide.1 (a6.symm.trans b6)
  have c7 := decide_eq_decide.1 (a7.symm.trans b7)
  have c8 := decide_eq_decide.1 (a8.symm.trans b8)
  have c9 := decide_eq_decide.1 (a9.symm.trans b9)
  constructor
  · simp only [rdW, pw1, pw2, pw3, pw4, pw5, pw6, pw7, pw8, cntW, c1, c2, c3, c4, c5, c6, c7, c8, c9]
  · simp only [endX, pw1, pw2, pw3, pw4, pw5, pw6, pw7, pw8, cntW, c1, c2, c3, c4, c5, c6, c7, c8, c9]
theorem isM_like {m : Ms} (h : isM m = true) : likeT (fldM m.ty m.kd m.er).1 (letM m.ty m.kd m.er) ∧ (fldM m.ty m.kd m.er).2 = true := by
  unfold isM at h
  by_cases hc : 0 ≤ m.cl ∧ m.cl < 8 ∧ ctP m.ss
  · rw [if_neg (fun x => x hc)] at h
    by_cases t3 : m.ty = 3
    · rw [t3]
      exact ⟨by show likeT 18 [102]; decide +kernel, rfl⟩
    · rw [if_neg t3] at h
      by_cases h4 : rf m 0 = true ∧ rf m 2 = true ∧ 1 ≤ m.ty ∧ m.ty ≤ 2
      · rw [if_neg (fun x => x h4)] at h
        obtain ⟨a0, a2, t1, t2⟩ := h4
        have hk := (rf2_iff m).1 a2
        by_cases y1 : m.ty = 1
        · rw [if_pos y1] at h
          simp only [Bool.and_eq_true] at h
          have e0 := (zf3_iff m).1 h.1.1
          have hL : letM m.ty m.kd m.er = askT m.kd := by unfold letM; rw [if_neg t3, if_neg (fun x => x e0), if_neg (by omega)]
          rw [hL]
          by_cases k1 : m.kd = 1
          · rw [y1, k1]
            exact ⟨by show likeT 5 []; decide +kernel, rfl⟩
          · rw [show fldM m.ty m.kd m.er = (7 ||| askM m.kd, true) from by unfold fldM; rw [if_pos y1, if_neg k1]]
            exact ⟨ask_like hk k1, rfl⟩
        · have y2 : m.ty = 2 := by omega
          by_cases e0 : m.er = 0
          · rw [show letM m.ty m.kd m.er = tolT m.kd from by unfold letM; rw [if_neg t3, if_neg (fun x => x e0), if_pos y2], show fldM m.ty m.kd m.er = (7 ||| tolM m.kd, true) from by unfold fldM; rw [if_neg y1, if_pos y2, if_pos e0]]
            exact ⟨tol_like hk, rfl⟩
          · rw [show letM m.ty m.kd m.er = [] from by unfold letM; rw [if_neg t3, if_pos e0], show fldM m.ty m.kd m.er = (15, true) from by unfold fldM; rw [if_neg y1, if_pos y2, if_neg e0]]
            exact ⟨by show likeT 15 []; decide +kernel, rfl⟩
      · rw [if_pos h4] at h; cases h
  · rw [if_pos hc] at h; cases h
/-- the mask of what is read -/
def hW (q V : Nat) : Nat := (fldM (getT q V 0 2 : Nat) (getT q V 125 4 : Nat) (getT q V 129 5 : Nat)).1
/-- what the program reads, and to where -/
def rdP (q V : Nat) : Ms := rdW q V (lsM (hW q V))
def endP (q V : Nat) : Nat := endX q V (lsM (hW q V))
theorem rdP_of {q V : Nat} (h : isM (rdP q V) = true ∨ isM (rdM q V) = true) : rdP q V = rdM q V ∧ endP q V = endW q V := by
  have hl : likeT (hW q V) (sW q V) := by
    rcases h with h | h
    · exact (isM_like h).1
    · exact (isM_like h).1
  exact rdW_congr (like_ls _) hl
/-- just what reads to the end and is right is a message -/
theorem decP_yes {l : List Nat} (hl : ∀ x ∈ l, x < 256) (hi : isM (rdP l.length (byN l)) = true) (he : endP l.length (byN l) ≤ 8 * l.length) (h0 : endOf l.length (byN l) (endP l.length (byN l)) = 0) : decM l = some (rdP l.length (byN l)) := by
  obtain ⟨e1, e2⟩ := rdP_of (.inl hi)
  rw [e1] at hi ⊢
  rw [e2] at he h0
  unfold decM
  rw [if_pos ⟨hi, wi_rev hl he h0⟩]
theorem decP_no {l : List Nat} (h : ¬ (isM (rdP l.length (byN l)) = true ∧ endP l.length (byN l) ≤ 8 * l.length ∧ endOf l.length (byN l) (endP l.length (byN l)) = 0)) : decM l = none := by
  cases hd : decM l with
  | none => rfl
  | some m =>
    exfalso
    obtain ⟨h1, h2, h3⟩ := decM_some hd
    obtain ⟨h4, h5, h6⟩ := decM_end hd
    rw [← h3] at h1
    obtain ⟨e1, e2⟩ := rdP_of (.inr h1)
    exact h ⟨by rw [e1]; exact h1, by rw [e2]; exact h4, by rw [e2]; exact h5⟩
end Go.Proofs.Ytpgeebhepegpaaa
