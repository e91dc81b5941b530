/- The document's Decode of a slot. -/
import Derived.Test.YtbjenpkgcdppaaaStF
import Derived.Test.YtbjenpkgcdppaaaStD
import Derived.Test.YtbjenpkgcdppaaaRdrT
namespace Go.Proofs.Ytbjenpkgcdppaaa
open Go.ChangeShapes Go.WideShapes Go.ChangeAt Go.RowKit

/-- the document's reader, also where it has fallen short -/
def XT (w : World) (G : Nat → Prop) (c q V a : Nat) : Prop := (a ≤ 8 * q ∧ XSt w G c q V a) ∨ (8 * q < a ∧ XErr w G c 3)
def getT (q V a n : Nat) : Nat := if a + n ≤ 8 * q then bitsAt q V a n else 0
set_option maxRecDepth 3000 in
theorem getT_lt (q V a n : Nat) : getT q V a n < 2 ^ n := by
  unfold getT
  split
  · exact bitsAt_lt _ _ _ _
  · exact Nat.two_pow_pos _
def fitT (q V a : Nat) : Prop := a + 16 + 8 * bitsAt q V a 16 ≤ 8 * q
instance (q V a : Nat) : Decidable (fitT q V a) := by unfold fitT; exact inferInstance
def txT (q V a : Nat) : ByteArray := if fitT q V a then ⟨(bytesAt q V (a + 16) (bitsAt q V a 16)).toArray⟩ else ⟨#[]⟩
def erT (q V a : Nat) : Int := if fitT q V a then 0 else 3
section
variable {w w' : World} {F F' G : Nat → Prop} {c q V a : Nat}
set_option maxRecDepth 3000 in
theorem XT.far (h : XT w G c q V a) (ha : Adv F w F' w') (hs : Sep F G) : XT w' G c q V a :=
  h.imp (fun h => ⟨h.1, h.2.far ha hs⟩) (fun h => ⟨h.1, h.2.far ha hs⟩)
set_option maxRecDepth 3000 in
theorem XT.bd (h : XT w G c q V a) : Bd G w := by
  rcases h with ⟨_, h⟩ | ⟨_, h⟩
  · exact h.bd
  · exact h.bd
set_option maxRecDepth 3000 in
theorem XT.getx (h : XT w G c q V a) (n : Nat) (hn : n ≤ 64) :
    Calls Try.prog 32 #[.pointer (some ⟨c, 0, none⟩), .int .i64 (n : Int)] w fun e w' => e = .returned (.int .u64 (getT q V a n : Int)) ∧ XT w' G c q V (a + n) ∧ Adv G w G w' := by
  rcases h with ⟨h1, h2⟩ | ⟨h1, h2⟩
  · by_cases hx : a + n ≤ 8 * q
    · refine (xget_ok c q V a n G w h2 hn hx).mono ?_
      rintro e w' ⟨rfl, k1, k2⟩
      exact ⟨by rw [getT, if_pos hx], .inl ⟨hx, k1⟩, k2⟩
    · refine (xget_short c q V a n G w h2 hn (by omega)).mono ?_
      rintro e w' ⟨rfl, k1, k2⟩
      exact ⟨by rw [getT, if_neg hx]; rfl, .inr ⟨by omega, k1⟩, k2⟩
  · refine (xget_err c n 3 G w h2).mono ?_
    rintro e w' ⟨rfl, rfl⟩
    exact ⟨by rw [getT, if_neg (by omega)]; rfl, .inr ⟨by omega, h2⟩, Adv.refl _ _⟩
set_option maxRecDepth 3000 in
theorem XT.textx (h : XT w G c q V a) :
    Calls Try.prog 33 #[.pointer (some ⟨c, 0, none⟩)] w fun e w' => e = .returned (.string (txT q V a)) ∧ (w'.cell? ⟨c, 1, none⟩ = some (.int .i64 (erT q V a)) ∧ Bd G w') ∧ Adv G w G w' := by
  rcases h with ⟨h1, h2⟩ | ⟨h1, h2⟩
  · by_cases hx : fitT q V a
    · refine (xtext_ok c q V a _ G w h2 rfl hx).mono ?_
      rintro e w' ⟨rfl, k1, k2⟩
      obtain ⟨_, _, _, hc, _⟩ := k1.cells
      exact ⟨by rw [txT, if_pos hx], ⟨by rw [erT, if_pos hx]; exact hc, k1.bd⟩, k2⟩
    · refine (xtext_short c q V a G w h2 (.inr (Nat.lt_of_not_le hx))).mono ?_
      rintro e w' ⟨rfl, k1, k2⟩
      exact ⟨by rw [txT, if_neg hx], ⟨by rw [erT, if_neg hx]; exact k1.cells, k1.bd⟩, k2⟩
  · have hx : ¬ fitT q V a := by unfold fitT; omega
    refine (xtext_err c 3 G w h2).mono ?_
    rintro e w' ⟨rfl, rfl⟩
    exact ⟨by rw [txT, if_neg hx], ⟨by rw [erT, if_neg hx]; exact h2.cells, h2.bd⟩, Adv.refl _ _⟩
end
set_option maxRecDepth 3000 in
theorem xt_new {w w1 w2 : World} {F : Nat → Prop} {v' : Value} {q V c : Nat} {bl : List Nat} (hS : Sl w1 F 5 1 v' (8 * q) (bl.map u8)) (hb : Bl bl V (8 * q)) (ha : Adv Nul w F w1) (hB : Blk w2 c 64 #[v', .int .i64 0]) (h2 : Adv Nul w1 Nul w2) (hc : w1.heap.size ≤ c) :
    XT w2 (fun j => F j ∨ j = c) c q V 0 ∧ Adv Nul w (fun j => F j ∨ j = c) w2 := by
  refine ⟨.inl ⟨Nat.zero_le _, ⟨v', bl, hB, ?_, ?_, fun k hk => ⟨.inl (hS.inF k hk), ?_⟩⟩, .inr rfl, ?_, Nat.zero_le _⟩, ?_⟩
  · exact (hS.rd).far (fun k _ _ hl => h2.block k hl (fun h => h)) h2.size
  · unfold rest
    rw [Nat.sub_zero, Nat.mod_eq_of_lt hb.lt]; exact hb
  · have := hS.bd k (hS.inF k hk); omega
  · rintro k (h | h)
    · have := hS.bd k h; have := h2.size; omega
    · rw [h]; exact hB.lt
  · have h3 := ha.over h2
    refine ⟨h3.os, h3.tape, h3.output, h3.size, h3.block, fun k hk => ?_⟩
    rcases hk with hk | hk
    · exact h3.into k hk
    · exact .inr (by rw [hk]; exact Nat.le_trans ha.size hc)
/-- what the document reads of q bytes -/
def pQ (q V : Nat) : Slt := ⟨((getT q V 0 1 : Nat) : Int) == 1, (getT q V 2 6 : Nat), (getT q V 8 31 : Nat), (getT q V 39 3 : Nat), getT q V 42 40, ((getT q V 1 1 : Nat) : Int) == 1, txT q V 82⟩
set_option maxRecDepth 3000 in
theorem bit_one (q V a : Nat) : ((((bitsAt q V a 1 : Nat) : Int) == 1) : Bool) = (((bitsAt q V a 1 : Nat) : Int) != 0) := by
  have h := bitsAt_lt q V a 1
  have : bitsAt q V a 1 = 0 ∨ bitsAt q V a 1 = 1 := by omega
  rcases this with h | h <;> rw [h] <;> rfl
set_option maxRecDepth 3000 in
theorem pQ_128 (V : Nat) : pQ 128 V = prT V := by
  have g : ∀ a n, a + n ≤ 1024 → getT 128 V a n = bitsAt 128 V a n := fun a n h => if_pos h
  have ht : txT 128 V 82 = if 98 + 8 * bitsAt 128 V 82 16 ≤ 1024 then ⟨(bytesAt 128 V 98 (bitsAt 128 V 82 16)).toArray⟩ else ⟨#[]⟩ := by
    unfold txT
    by_cases h : fitT 128 V 82
    · rw [if_pos h, if_pos (by unfold fitT at h; omega)]
    · rw [if_neg h, if_neg (by unfold fitT at h; omega)]
  unfold pQ prT
  rw [g 0 1 (by decide), g 1 1 (by decide), g 2 6 (by decide), g 8 31 (by decide), g 39 3 (by decide), g 42 40 (by decide), ht, bit_one, bit_one]
set_option maxRecDepth 3000 in
theorem pQ_wf (q V : Nat) (hq : q ≤ 140) : WfT (pQ q V) := by
  have h1 := getT_lt q V 2 6
  have h2 := getT_lt q V 8 31
  have h3 := getT_lt q V 39 3
  have h4 := getT_lt q V 42 40
  refine ⟨?_, ?_, ?_, ?_, ?_⟩
  · show _ ≤ ((getT q V 2 6 : Nat) : Int) ∧ ((getT q V 2 6 : Nat) : Int) < _; omega
  · show _ ≤ ((getT q V 8 31 : Nat) : Int) ∧ ((getT q V 8 31 : Nat) : Int) < _; omega
  · show _ ≤ ((getT q V 39 3 : Nat) : Int) ∧ ((getT q V 39 3 : Nat) : Int) < _; omega
  · show getT q V 42 40 < _; omega
  · show (if fitT q V 82 then (⟨(bytesAt q V (82 + 16) (bitsAt q V 82 16)).toArray⟩ : ByteArray) else ⟨#[]⟩).size ≤ 1000
    split
    · next h =>
      show (bytesAt q V (82 + 16) (bitsAt q V 82 16)).toArray.size ≤ 1000
      rw [List.size_toArray, bytesAt_length]
      unfold fitT at h
      omega
    · exact Nat.zero_le _
set_option maxRecDepth 3000 in
theorem dq_yes {l : List Nat} (hi : isT (pQ l.length (byN l))) (hs : l = secT (pQ l.length (byN l))) : decT l = some (pQ l.length (byN l)) := by
  have hl : l.length = 128 := by
    have h := congrArg List.length hs
    rwa [secT_length] at h
  rw [hl, pQ_128] at hi hs ⊢
  exact if_pos ⟨hl, hi, hs.symm⟩
set_option maxRecDepth 3000 in
theorem dq_no {l : List Nat} (h : ¬ (erT l.length (byN l) 82 = 0 ∧ isT (pQ l.length (byN l)) ∧ l = secT (pQ l.length (byN l)))) : decT l = none := by
  cases hd : decT l with
  | none => rfl
  | some y =>
    exfalso
    have hl : l.length = 128 := by
      by_cases h8 : l.length = 128
      · exact h8
      · rw [decT_len h8] at hd; cases hd
    have hf : fitT 128 (byN l) 82 := by
      by_cases hf : 98 + 8 * bitsAt 128 (byN l) 82 16 ≤ 1024
      · exact hf
      · rw [decT_long (by omega)] at hd; cases hd
    have hy := decT_some hd
    have e : y = prT (byN l) := by
      unfold decT at hd
      split at hd
      · exact (Option.some.inj hd).symm
      · cases hd
    rw [hl, pQ_128, ← e] at h
    exact h ⟨if_pos hf, hy.1, hy.2.symm⟩
/-- while the document reads a slot -/
structure QdS (W : World) (z u c q V a : Nat) (G : Nat → Prop) (C : Array Value) (w : World) : Prop where
  xs : XT w G c q V a
  bu : Blk w u 28 C
  bz : Blk w z 28 (tc zeroT)
  ad : Adv Nul W G w
  fu : ¬ G u
  fz : ¬ G z
  uz : u ≠ z
  nu : W.heap.size ≤ u
  nz : W.heap.size ≤ z
section
variable {W w w' : World} {z u c q V a a2 : Nat} {G : Nat → Prop} {C : Array Value}
set_option maxRecDepth 3000 in
theorem QdS.get (h : QdS W z u c q V a G C w) (hr : XT w' G c q V a2) (ha : Adv G w G w') : QdS W z u c q V a2 G C w' :=
  ⟨hr, h.bu.keep (ha.block u h.bu.lt h.fu), h.bz.keep (ha.block z h.bz.lt h.fz), h.ad.trans ha, h.fu, h.fz, h.uz, h.nu, h.nz⟩
set_option maxRecDepth 3000 in
theorem QdS.set (h : QdS W z u c q V a G C w) (k : Nat) (v : Value) : QdS W z u c q V a G (C.setIfInBounds k v) (w.setCell ⟨u, k, none⟩ v) :=
  ⟨h.xs.far ((Adv.refl (One u) w).setCell (p := ⟨u, k, none⟩) (.inl rfl) v) (fun i hi hg => h.fu (by rw [← show i = u from hi]; exact hg)), h.bu.set_ k v, h.bz.far (p := ⟨u, k, none⟩) (fun e => h.uz e.symm) v, h.ad.setCell (.inr h.nu) v, h.fu, h.fz, h.uz, h.nu, h.nz⟩
end
end Go.Proofs.Ytbjenpkgcdppaaa
