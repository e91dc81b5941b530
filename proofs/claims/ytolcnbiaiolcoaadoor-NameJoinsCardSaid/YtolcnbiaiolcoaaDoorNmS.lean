/- A path's names: the document's Split, the program's Split. -/
import Derived.Test.YtolcnbiaiolcoaaDoorNmT
namespace Go.Proofs.YtolcnbiaiolcoaaDoor
open Go.ChangeShapes Go.WideShapes Go.ChangeAt Go.RowKit

theorem infoStr : (Tryd.prog.info? 9).map (fun i => (i.zero, i.size, i.bytes)) = some (some (.string ByteArray.empty), 1, 16) := by kernel_rfl

def PathB (p : ByteArray) (l : List ByteArray) : Prop := PathL p.data.toList (l.map (·.data.toList))
theorem map_data_inj : ∀ {l m : List ByteArray}, l.map (·.data.toList) = m.map (·.data.toList) → l = m
  | [], [], _ => rfl
  | [], _ :: _, h => by cases h
  | _ :: _, [], h => by cases h
  | a :: l, b :: m, h => by
    simp only [List.map_cons, List.cons.injEq] at h
    rw [data_eq h.1, map_data_inj h.2]
theorem PathB.one {p : ByteArray} {l m : List ByteArray} (h : PathB p l) (k : PathB p m) : l = m := map_data_inj (PathL.one h k)
/-- What Split answers of a text. -/
structure SplitAns (p : ByteArray) (w : World) (v : Value) (l : List ByteArray) (ok : Bool) : Prop where
  rd : RdT w v l
  yes : ok = true → PathB p l
  no : ok = false → l = [] ∧ ∀ m, ¬ PathB p m
  size : ∀ s ∈ l, s.size ≤ maxLen
theorem PathB.size {p : ByteArray} {l : List ByteArray} (h : PathB p l) : ∀ s ∈ l, s.size ≤ maxLen := by
  intro s hs
  rcases h with ⟨_, e⟩ | ⟨_, _, h, _⟩
  · rw [List.map_eq_nil_iff] at e; rw [e] at hs; cases hs
  · have := Nam.size (h _ (List.mem_map_of_mem hs))
    unfold maxLen; omega
theorem SplitAns.good {p : ByteArray} {w : World} {v : Value} {l : List ByteArray} (h : RdT w v l) (hp : PathB p l) : SplitAns p w v l true := ⟨h, fun _ => hp, fun e => by (cases e), hp.size⟩
theorem SplitAns.bad {p : ByteArray} (w : World) (hp : ∀ m, ¬ PathB p m) : SplitAns p w (.slice none 0 0) [] false := ⟨.nil w, fun e => by (cases e), fun _ => ⟨rfl, hp⟩, fun s hs => by (cases hs)⟩
theorem SplitAns.below {p : ByteArray} {w w' : World} {v : Value} {l : List ByteArray} {ok : Bool} (h : SplitAns p w v l ok) (hb : Below w.heap.size w w') : SplitAns p w' v l ok := ⟨h.rd.below hb, h.yes, h.no, h.size⟩

/-- how far the document's Split has come -/
structure CutAt (p : ByteArray) (i : Nat) (s : ByteArray) (out : List ByteArray) : Prop where
  le : i ≤ p.size
  text : p.data.toList.take i = joinL (out.map (·.data.toList)) ++ (47 :: s.data.toList)
  free : Free s.data.toList
  names : ∀ n ∈ out, Nam n
  few : out.length ≤ 8
  size : s.size ≤ i
theorem size_list (p : ByteArray) : p.data.toList.length = p.size := Array.length_toList
theorem CutAt.zero {p : ByteArray} (h : 0 < p.size) (h0 : (p[0]'h) = 47) : CutAt p 1 ⟨#[]⟩ [] := by
  refine ⟨h, ?_, fun c hc => (by cases hc), fun n hn => (by cases hn), by decide, by decide⟩
  have := bytes_at p 0 h
  rw [h0] at this
  rw [show (1 : Nat) = 0 + 1 from rfl, List.take_add_one, this]
  rfl
theorem CutAt.more {p : ByteArray} {i : Nat} {s q : ByteArray} {out : List ByteArray} (h : CutAt p i s out) (hi : i < p.size) (hne : (p[i]'hi) ≠ 47) (hq : q.data.toList = s.data.toList ++ [p[i]'hi]) : CutAt p (i + 1) q out := by
  refine ⟨hi, ?_, ?_, h.names, h.few, ?_⟩
  · rw [List.take_add_one, bytes_at p i hi, h.text, hq]; simp
  · rw [hq]
    intro c hc
    rcases List.mem_append.1 hc with h1 | h1
    · exact h.free c h1
    · simp at h1; rw [h1]; exact hne
  · have := h.size
    rw [← size_list q, hq, List.length_append, size_list]; simp; omega
theorem CutAt.tail {p : ByteArray} {i : Nat} {s : ByteArray} {out : List ByteArray} (h : CutAt p i s out) (he : ∀ hi : i < p.size, (p[i]'hi) = 47) :
    ∃ t, (t = [] ∨ ∃ u, t = 47 :: u) ∧ p.data.toList = joinL (out.map (·.data.toList)) ++ (47 :: (s.data.toList ++ t)) := by
  refine ⟨p.data.toList.drop i, ?_, ?_⟩
  · by_cases hi : i < p.size
    · have := bytes_at p i hi
      rw [he hi] at this
      right
      rw [List.drop_eq_getElem_cons (by rw [size_list]; exact hi)]
      rw [List.getElem?_eq_getElem (by rw [size_list]; exact hi)] at this
      exact ⟨_, by rw [Option.some.inj this]⟩
    · left
      exact List.drop_eq_nil_of_le (by rw [size_list]; omega)
  · have e := List.take_append_drop i p.data.toList
    rw [h.text] at e
    rw [List.append_assoc, List.cons_append] at e
    exact e.symm
theorem free_of {l : List (List UInt8)} (h : ∀ n ∈ l, NameL n) : ∀ n ∈ l, Free n := fun n hn => (h n hn).free
theorem CutAt.none_ {p : ByteArray} {i : Nat} {s : ByteArray} {out : List ByteArray} (h : CutAt p i s out) (he : ∀ hi : i < p.size, (p[i]'hi) = 47) (hp : p.data.toList ≠ [47]) (hb : ¬ Nam s ∨ out.length = 8) : ∀ m, ¬ PathB p m := by
  intro m hm
  obtain ⟨t, ht, e⟩ := h.tail he
  rcases hm with ⟨e1, _⟩ | ⟨_, h8, hn, e1⟩
  · exact hp e1
  · rw [e1] at e
    obtain ⟨l', e2, _⟩ := join_split _ _ _ t (fun n hn => by obtain ⟨x, hx, rfl⟩ := List.mem_map.1 hn; exact (h.names x hx).free) (free_of hn) h.free ht e
    rcases hb with hb | hb
    · exact hb (hn _ (by rw [e2]; simp))
    · rw [e2] at h8
      simp at h8; omega
theorem CutAt.next {p : ByteArray} {i : Nat} {s : ByteArray} {out : List ByteArray} (h : CutAt p i s out) (hi : i < p.size) (he : (p[i]'hi) = 47) (hn : Nam s) (h8 : out.length ≠ 8) : CutAt p (i + 1) ⟨#[]⟩ (out ++ [s]) := by
  refine ⟨hi, ?_, fun c hc => (by cases hc), fun n hm => ?_, by have := h.few; simp; omega, by simp [ByteArray.size]⟩
  · rw [List.take_add_one, bytes_at p i hi, h.text, he, List.map_append, joinL_append]; simp [joinL]
  · rcases List.mem_append.1 hm with h1 | h1
    · exact h.names n h1
    · simp at h1; rw [h1]; exact hn
theorem CutAt.end_ {p : ByteArray} {s : ByteArray} {out : List ByteArray} (h : CutAt p p.size s out) (hn : Nam s) (h8 : out.length ≠ 8) : PathB p (out ++ [s]) := by
  have e := h.text
  rw [List.take_of_length_le (by rw [size_list]; omega)] at e
  refine .inr ⟨by simp, by have := h.few; simp; omega, fun n hm => ?_, ?_⟩
  · rw [List.map_append, List.mem_append] at hm
    rcases hm with h1 | h1
    · obtain ⟨x, hx, rfl⟩ := List.mem_map.1 h1; exact h.names x hx
    · simp at h1; rw [h1]; exact hn
  · rw [e, List.map_append, joinL_append]; simp [joinL]
theorem extract_one (p : ByteArray) (i : Nat) (hi : i < p.size) : (p.extract i (i + 1)).data.toList = [p[i]'hi] := by
  have h := bytes_at p i hi
  rw [Lib.extract_data]
  have hl : i < p.data.toList.length := by rw [size_list]; exact hi
  rw [List.getElem?_eq_getElem hl] at h
  rw [show i + 1 - i = 1 by omega, List.drop_eq_getElem_cons hl, Option.some.inj h]
  rfl
/-- the loop's state -/
def CutSt (p : ByteArray) (i : Nat) (s : ByteArray) (out : List ByteArray) : Prop := CutAt p i s out ∨ (i = p.size + 1 ∧ PathB p out ∧ out.length ≤ 8 ∧ s.size ≤ i)
theorem path_bad {p : ByteArray} (h : ∀ h0 : 0 < p.size, (p[0]'h0) ≠ 47) : ∀ m, ¬ PathB p m := by
  have hb : ∀ u : List UInt8, p.data.toList ≠ 47 :: u := fun u e => by
    have h0 : 0 < p.size := by rw [← size_list, e]; simp
    have := bytes_at p 0 h0
    rw [e] at this
    exact h h0 (Option.some.inj this).symm
  intro m hm
  rcases hm with ⟨e, _⟩ | ⟨h1, _, _, e⟩
  · exact hb _ e
  · rcases joinL_head (m.map (·.data.toList)) with e2 | ⟨u, e2⟩
    · exact h1 (joinL_eq_nil e2)
    · exact hb u (e.trans e2)

theorem one_grownT {w wr w1 : World} {F : Nat → Prop} {v v' : Value} {k m : Nat} {xs ys : List Value} {o : Obj} (hS : Sl wr F 9 1 v k xs) (ha : Adv Nul w F wr) (hown : w1.ownsRow 0 9 1 v' (k + 1) ys) (hg : (wr.alloc o).grownBy w1 v.ownBlock)
    (hat : v'.ownBlock = v.ownBlock ∨ v'.ownBlock = some m) (hm : wr.heap.size ≤ m) : Sl w1 (fun j => F j ∨ v'.ownBlock = some j) 9 1 v' (k + 1) ys ∧ Adv Nul w (fun j => F j ∨ v'.ownBlock = some j) w1 := by
  have hF' : ∀ j, (F j ∨ v'.ownBlock = some j) → F j ∨ wr.heap.size ≤ j := by
    rintro j (h | h)
    · exact .inl h
    · rcases hat with e | e
      · exact .inl (hS.inF j (by rw [← e]; exact h))
      · rw [e] at h; injection h with h; right; omega
  have hA : Adv F wr (fun j => F j ∨ v'.ownBlock = some j) w1 := by
    have h1 := ((Adv.refl F wr).alloc o).grown hg (fun j hj => .inl (hS.inF j hj))
    exact ⟨h1.os, h1.tape, h1.output, h1.size, h1.block, hF'⟩
  refine ⟨⟨hown, fun j hj => .inr hj, ?_⟩, ha.trans hA⟩
  rintro j (h | h)
  · exact Nat.lt_of_lt_of_le (hS.bd j h) hA.size
  · exact (hown.lt j h).2

/-- what the document's Split leaves -/
def QSplit (p : ByteArray) (w : World) (e : Ending) (w' : World) : Prop := ∃ v l ok, e = .returned (.tuple #[v, .bool ok]) ∧ SplitAns p w' v l ok ∧ Below w.heap.size w w'
theorem QSplit.none_ {p : ByteArray} {w w' : World} (h : ∀ m, ¬ PathB p m) (hb : Below w.heap.size w w') : QSplit p w (.returned (.tuple #[.slice none 0 0, .bool false])) w' := ⟨_, [], false, rfl, .bad w' h, hb⟩
theorem QSplit.some_ {p : ByteArray} {w w' : World} {v : Value} {l : List ByteArray} (h : RdT w' v l) (hp : PathB p l) (hb : Below w.heap.size w w') : QSplit p w (.returned (.tuple #[v, .bool true])) w' := ⟨_, l, true, rfl, .good h hp, hb⟩
set_option maxRecDepth 3000 in
theorem qsplit_any (p : ByteArray) (w : World) (hp : p.size ≤ 1000000) : Calls Tryd.prog 8 #[.string p] w (QSplit p w) := by
  obtain ⟨i0, hi, hz0, hz1, hz2⟩ := info_parts infoStr
  by_cases h0 : 0 < p.size
  · by_cases h47 : ((p[0]'h0).toNat : Int) = 47
    · have hn47 : (((p[0]'h0).toNat : Int) != 47) = false := by rw [h47]; rfl
      have h1 : ¬ ((p.size : Int) < 1) := by omega
      have e47 : (p[0]'h0) = 47 := UInt8.toNat_inj.1 (by show _ = 47; omega)
      by_cases hs : p.toList = [47]
      · have hpath : PathB p [] := .inl ⟨by rw [← Lib.toList_data]; exact hs, rfl⟩
        have HP := Lib.hid hpath
        clear hpath h47 e47
        go_enter Tryd.func8, Tryd.ntmps8
        go_wp2
        go_ret2
        exact .some_ (.nil w) HP.out (.refl _ _)
      · have hs' : (p.toList == [47]) = false := beq_eq_false_iff_ne.2 hs
        have HZ := Lib.hid (CutAt.zero h0 e47)
        have HS : Hid (p.data.toList ≠ [47]) := Lib.hid (by rw [← Lib.toList_data]; exact hs)
        clear e47 h47
        go_enter Tryd.func8, Tryd.ntmps8
        go_wp2_with fail
        go_loopw [6, 5, 4] (fun t u v wr => ∃ (i : Nat) (s : ByteArray) (out : List ByteArray) (F : Nat → Prop), t = .int .i64 ((i : Nat) : Int) ∧ u = .string s ∧ 1 ≤ i ∧ i ≤ p.size + 1 ∧ s.size ≤ 1000001 ∧ out.length ≤ 8 ∧ Hid (CutSt p i s out) ∧ Hid (Sl wr F 9 1 v out.length (out.map Value.string)) ∧ Hid (Adv Nul w F wr)) (fun t _ _ _ => p.size + 1 - (intOf t).toNat)
        case atStart => exact ⟨1, ⟨#[]⟩, [], Nul, rfl, rfl, by omega, by omega, by decide, by decide, Lib.hid (.inl HZ.out), Lib.hid (Sl.nil _ _ _), Lib.hid (Adv.refl _ _)⟩
        case round =>
          obtain ⟨i, s, out, F, rfl, rfl, hi1, hi2, hss, hout, hc, hS, hA⟩ := hrel
          obtain ⟨a5, c5, rfl, _, _⟩ := hS.out.form0
          obtain ⟨n, hn⟩ : ∃ n, n = out.length := ⟨_, rfl⟩
          rw [← hn] at hS hout
          rw [← hn]
          have HN := Lib.hid hn
          clear hn
          by_cases hle : i ≤ p.size
          · have hcut : Hid (CutAt p i s out) := Lib.hid (hc.out.resolve_right fun h => by have := h.1; omega)
            clear hc
            have hsz := hcut.out.size
            by_cases hlt : i < p.size
            · by_cases hne : ((p[i]'hlt).toNat : Int) = 47
              · have e47 : (p[i]'hlt) = 47 := UInt8.toNat_inj.1 (by show _ = 47; omega)
                have hneq : (((p[i]'hlt).toNat : Int) != 47) = false := by rw [hne]; rfl
                have HE : Hid (∀ hi : i < p.size, (p[i]'hi) = 47) := Lib.hid fun _ => e47
                clear e47 hne
                have hsz2 : s.size ≤ maxLen := by unfold maxLen; omega
                have hc := is_any s wr hsz2
                by_cases hnm : Nam s
                · have e0 : decide (Nam s) = true := decide_eq_true hnm
                  rw [e0] at hc
                  have HNM := Lib.hid hnm
                  clear hnm e0 hsz2
                  by_cases h8 : n = 8
                  · have HNO : Hid (∀ m, ¬ PathB p m) := Lib.hid (hcut.out.none_ HE.out HS.out (.inr (by rw [← HN.out]; exact h8)))
                    subst h8
                    go_wp2_with (first | fail | (go_at_call 10; refine hc.mono ?_; rintro e w1 ⟨rfl, rfl⟩))
                    go_ret2
                    exact .none_ HNO.out hA.out.toBelow
                  · have h8' : ((n : Int) == 8) = false := beq_eq_false_iff_ne.2 (by omega)
                    have h8n : n < 8 := by omega
                    have H8 : Hid (out.length ≠ 8) := Lib.hid (by rw [← HN.out]; exact h8)
                    clear h8
                    have hown := hS.out.own
                    go_wp2_with (first
                      | (go_at_call 10; refine hc.mono ?_; rintro e w1 ⟨rfl, rfl⟩)
                      | (at_builtin; refine wpList_append_own_at _ rfl (.tmp 48) (.tmp 50) 23 rfl 0 9 i0 (.string ByteArray.empty) 1 16 Tryd.underlying23 hi hz0 hz1 hz2 rfl (by decide) (.slice a5 n c5) n _ rfl (hown.alloc _) ⟨wr.heap.size, 0, none⟩ 1 1 [_] rfl rfl (cell_one_new _ _ _) ?c2 ?c3 ?c4 (Nat.zero_le _) ?c5)
                      | fail)
                    case c2 => intro u hu; simp at hu; subst hu; rfl
                    case c3 => unfold maxLen; omega
                    case c4 => omega
                    case c5 =>
                      intro v' w1 hown1 hg1 _ hat1
                      obtain ⟨h1, h2⟩ := one_grownT hS.out hA.out hown1 hg1 hat1 (by omega)
                      have H1 := Lib.hid h1
                      have H2 := Lib.hid h2
                      have HL : Hid (n + 1 = (out ++ [s]).length) := Lib.hid (by rw [List.length_append, ← HN.out]; rfl)
                      clear h1 h2 hown1 hg1 hat1 hown
                      go_wp2
                      refine ⟨⟨i + 1, ⟨#[]⟩, out ++ [s], _, by simp, rfl, by omega, by omega, by decide, by rw [← HL.out]; omega, Lib.hid ?_, Lib.hid ?_, H2⟩, by simp [intOf]; omega⟩
                      · exact .inl (hcut.out.next hlt (HE.out hlt) HNM.out H8.out)
                      · rw [← HL.out, List.map_append]; exact H1.out
                · have e0 : decide (Nam s) = false := decide_eq_false hnm
                  rw [e0] at hc
                  have HNO : Hid (∀ m, ¬ PathB p m) := Lib.hid (hcut.out.none_ HE.out HS.out (.inl hnm))
                  clear hnm e0 hsz2
                  go_wp2_with (first | fail | (go_at_call 10; refine hc.mono ?_; rintro e w1 ⟨rfl, rfl⟩))
                  go_ret2
                  exact .none_ HNO.out hA.out.toBelow
              · have hneq : (((p[i]'hlt).toNat : Int) != 47) = true := by simpa using hne
                have hbq : ((p[i]'hlt).toNat : Int) ≠ 47 := hne
                have hbyte : (p[i]'hlt) ≠ 47 := fun e => hne (by rw [e]; rfl)
                have HB := Lib.hid hbyte
                clear hne hbq hbyte
                go_wp2
                have hq : CutAt p (i + 1) (s ++ p.extract i (i + 1)) out := hcut.out.more hlt HB.out (by rw [app_data, extract_one p i hlt])
                exact ⟨⟨i + 1, _, out, F, by simp, rfl, by omega, by omega, by have := hq.size; omega, by rw [← HN.out]; omega, Lib.hid (.inl hq), by rw [← HN.out]; exact hS, hA⟩, by simp [intOf]; omega⟩
            · have HE : Hid (∀ hi : i < p.size, (p[i]'hi) = 47) := Lib.hid fun h => absurd h hlt
              have hie : Hid (i = p.size) := Lib.hid (by omega)
              have hlt' : ¬ ((i : Int) < (p.size : Int)) := by omega
              have hsz2 : s.size ≤ maxLen := by unfold maxLen; omega
              have hc := is_any s wr hsz2
              by_cases hnm : Nam s
              · have e0 : decide (Nam s) = true := decide_eq_true hnm
                rw [e0] at hc
                have HNM := Lib.hid hnm
                clear hnm e0 hsz2
                by_cases h8 : n = 8
                · have HNO : Hid (∀ m, ¬ PathB p m) := Lib.hid (hcut.out.none_ HE.out HS.out (.inr (by rw [← HN.out]; exact h8)))
                  subst h8
                  go_wp2_with (first | fail | (go_at_call 10; refine hc.mono ?_; rintro e w1 ⟨rfl, rfl⟩))
                  go_ret2
                  exact .none_ HNO.out hA.out.toBelow
                · have h8' : ((n : Int) == 8) = false := beq_eq_false_iff_ne.2 (by omega)
                  have h8n : n < 8 := by omega
                  have H8 : Hid (out.length ≠ 8) := Lib.hid (by rw [← HN.out]; exact h8)
                  clear h8
                  have hown := hS.out.own
                  go_wp2_with (first
                    | (go_at_call 10; refine hc.mono ?_; rintro e w1 ⟨rfl, rfl⟩)
                    | (at_builtin; refine wpList_append_own_at _ rfl (.tmp 48) (.tmp 50) 23 rfl 0 9 i0 (.string ByteArray.empty) 1 16 Tryd.underlying23 hi hz0 hz1 hz2 rfl (by decide) (.slice a5 n c5) n _ rfl (hown.alloc _) ⟨wr.heap.size, 0, none⟩ 1 1 [_] rfl rfl (cell_one_new _ _ _) ?c2 ?c3 ?c4 (Nat.zero_le _) ?c5)
                    | fail)
                  case c2 => intro u hu; simp at hu; subst hu; rfl
                  case c3 => unfold maxLen; omega
                  case c4 => omega
                  case c5 =>
                    intro v' w1 hown1 hg1 _ hat1
                    obtain ⟨h1, h2⟩ := one_grownT hS.out hA.out hown1 hg1 hat1 (by omega)
                    have H1 := Lib.hid h1
                    have H2 := Lib.hid h2
                    have HL : Hid (n + 1 = (out ++ [s]).length) := Lib.hid (by rw [List.length_append, ← HN.out]; rfl)
                    clear h1 h2 hown1 hg1 hat1 hown
                    go_wp2
                    refine ⟨⟨i + 1, ⟨#[]⟩, out ++ [s], _, by simp, rfl, by omega, by omega, by decide, by rw [← HL.out]; omega, Lib.hid ?_, Lib.hid ?_, H2⟩, by simp [intOf]; omega⟩
                    · exact .inr ⟨by have := hie.out; omega, by have h := hcut.out; rw [hie.out] at h; exact h.end_ HNM.out H8.out, by rw [← HL.out]; omega, Nat.zero_le _⟩
                    · rw [← HL.out, List.map_append]; exact H1.out
              · have e0 : decide (Nam s) = false := decide_eq_false hnm
                rw [e0] at hc
                have HNO : Hid (∀ m, ¬ PathB p m) := Lib.hid (hcut.out.none_ HE.out HS.out (.inl hnm))
                clear hnm e0 hsz2
                go_wp2_with (first | fail | (go_at_call 10; refine hc.mono ?_; rintro e w1 ⟨rfl, rfl⟩))
                go_ret2
                exact .none_ HNO.out hA.out.toBelow
          · have hpath : Hid (PathB p out) := Lib.hid (hc.out.elim (fun h => absurd h.le hle) (fun h => h.2.1))
            clear hc
            go_wp2
            go_ret2
            exact .some_ ⟨by rw [← HN.out]; exact hS.out.rd⟩ hpath.out hA.out.toBelow
    · have hn47 : (((p[0]'h0).toNat : Int) != 47) = true := by simpa using h47
      have h1 : ¬ ((p.size : Int) < 1) := by omega
      have HB := Lib.hid (path_bad (p := p) fun h e => h47 (by rw [e]; rfl))
      clear h47
      go_enter Tryd.func8, Tryd.ntmps8
      go_wp2
      go_ret2
      exact .none_ HB.out (.refl _ _)
  · have HB := Lib.hid (path_bad (p := p) fun h => absurd h h0)
    have h0' : p.size = 0 := by omega
    go_enter Tryd.func8, Tryd.ntmps8
    go_wp2
    go_ret2
    exact .none_ HB.out (.refl _ _)
end Go.Proofs.YtolcnbiaiolcoaaDoor
