/- RedoPlays: both logs and both disks in one memory; each call on it. -/
import Derived.Test.YtbdjlmdbnoghnaaGreatMh37
import Derived.Test.YtbdjlmdbnoghnaaGreatMh38
import Derived.Test.YtbdjlmdbnoghnaaGreatMh39
import Derived.Test.YtbdjlmdbnoghnaaGreatMh24
namespace Go.Proofs.YtbdjlmdbnoghnaaGreat
open Go.RowKit Go.Maps

structure PlM (W : World) (d x m N l b y c : Nat) (s t : DS) (g h : LS) (F G : Nat → Prop) (w : World) : Prop where
  rs : Rs w F d l b m N s g
  ys : Ys (UF F l b) w G x y c m N t h
  sep : Sep (UF F l b) (YF G y c)
  adv : Adv Nul W Nul w
  low : ∀ j, UF F l b j ∨ YF G y c j → W.heap.size ≤ j
theorem adv_open {w w' : World} {F : Nat → Prop} {l b l' b' : Nat} (a : Adv Nul w Nul w') (hl : w.heap.size ≤ l') (hb : w.heap.size ≤ b') : Adv (UF F l b) w (UF F l' b') w' :=
  ⟨a.os, a.tape, a.output, a.size, fun j hj _ => a.block j hj (fun e => e), fun j e => by
    rcases e with e | e | e
    · exact .inl (.inl e)
    · exact .inr (by rw [e]; exact hl)
    · exact .inr (by rw [e]; exact hb)⟩
theorem yadv_open {w w' : World} {G : Nat → Prop} {y c y' c' : Nat} (a : Adv Nul w Nul w') (hl : w.heap.size ≤ y') (hb : w.heap.size ≤ c') : Adv (YF G y c) w (YF G y' c') w' :=
  ⟨a.os, a.tape, a.output, a.size, fun j hj _ => a.block j hj (fun e => e), fun j e => by
    rcases e with e | e | e
    · exact .inl (.inl e)
    · exact .inr (by rw [e]; exact hl)
    · exact .inr (by rw [e]; exact hb)⟩
section
variable {W w w' : World} {d x m N l b y c l' b' y' c' : Nat} {s s' t t' : DS} {g g' h h' : LS} {F F' G G' Q : Nat → Prop}
theorem PlM.step (k : PlM W d x m N l b y c s t g h F G w) (ha : Adv Nul w Q w') : PlM W d x m N l b y c s t g h F G w' :=
  ⟨k.rs.over ha, k.ys.over ha, k.sep, k.adv.trans (ha.sub (fun _ e => e.elim)), k.low⟩
theorem PlM.prog (k : PlM W d x m N l b y c s t g h F G w) (hr : Rs w' F' d l' b' m N s' g') (ha : Adv (UF F l b) w (UF F' l' b') w') : PlM W d x m N l' b' y c s' t g' h F' G w' :=
  ⟨hr, k.ys.other ha k.sep hr.bd, fun j e f => by
    rcases ha.into j e with e | e
    · exact k.sep j e f
    · have := k.ys.bd j f; omega,
   advLow k.adv ha (fun j e => k.low j (.inl e)),
   fun j e => by
    rcases e with e | e
    · rcases ha.into j e with e | e
      · exact k.low j (.inl e)
      · exact Nat.le_trans k.adv.size e
    · exact k.low j (.inr e)⟩
theorem PlM.doc (k : PlM W d x m N l b y c s t g h F G w) (hr : Ys (UF F l b) w' G' x y' c' m N t' h') (ha : Adv (YF G y c) w (YF G' y' c') w') : PlM W d x m N l b y' c' s t' g h' F G' w' :=
  ⟨⟨k.rs.dk.far ha (fun j e f => k.sep j (.inl f) e), k.rs.lg.far ha (fun j e f => k.sep j (.inr f) e), k.rs.sep⟩, hr, fun j e f => by
    rcases ha.into j f with f | f
    · exact k.sep j e f
    · have := k.rs.bd j e; omega,
   advLow k.adv ha (fun j e => k.low j (.inr e)),
   fun j e => by
    rcases e with e | e
    · exact k.low j (.inl e)
    · rcases ha.into j e with e | e
      · exact k.low j (.inr e)
      · exact Nat.le_trans k.adv.size e⟩
theorem PlM.drew (k : PlM W d x m N l b y c s t g h F G w) : PlM W d x m N l b y c s t g h F G w.drew := k.step (Adv.refl Nul w).drew
theorem PlM.new {w3 w4 w5 : World} (hA : Adv Nul W Nul w3) (_ : Dk w3 F d N s) (hR : Rk w3 G x N s) (hs : Sep F G) (hl : ∀ j, F j ∨ G j → W.heap.size ≤ j)
    (hr : Rs w4 F d l b m N s g) (nl : w3.heap.size ≤ l ∧ w3.heap.size ≤ b) (a4 : Adv Nul w3 Nul w4) (hy : Ys (UF F l b) w5 G x y c m N s h) (ny : w4.heap.size ≤ y ∧ w4.heap.size ≤ c) (a5 : Adv Nul w4 Nul w5) : PlM W d x m N l b y c s s g h F G w5 := by
  have h3 := hA.size
  have h4 := a4.size
  refine ⟨hr.over a5, hy, fun j e f => ?_, (hA.trans a4).trans a5, fun j e => ?_⟩
  · have hj := hr.bd j e
    rcases f with f | f | f
    · rcases e with e | e | e
      · exact hs j e f
      · have := hR.bd j f; omega
      · have := hR.bd j f; omega
    · omega
    · omega
  · rcases e with (e | e | e) | (e | e | e)
    · exact hl j (.inl e)
    · omega
    · omega
    · exact hl j (.inr e)
    · omega
    · omega
/-- puts of which no step on either side turns anything -/
def QPl (w : World) (l b y c : Nat) (F G : Nat → Prop) (v : Value) (ps : List Pt) : Prop := QRd w (YK (UF F l b) G y c) v ps
theorem QPl.prog {v : Value} {ps : List Pt} (hq : QPl w l b y c F G v ps) (ha : Adv (UF F l b) w (UF F' l b) w') : QPl w' l b y c F' G v ps :=
  QRd.adv hq ha (fun _ e => .inr e) (fun j e => by
    rcases e with e | e
    · exact .inl (.inl e)
    · exact (ha.into j e).imp .inr id)
end
section
variable {W w : World} {d x m N l b y c : Nat} {s t : DS} {g h : LS} {F G : Nat → Prop}
theorem pl_write (k : PlM W d x m N l b y c s t g h F G w) (ok : GOk m N s g) {A : Option Addr} {M q : Nat} {ps : List Pt} (hq : QPl w l b y c F G (.slice A M q) ps) (h8 : ∀ p ∈ ps, ∀ z ∈ p.d, z < 256) {r : (DS × LS) × Int} (hr : r = writeG s m N g ps) :
    Calls Tryz.prog 10 #[.pointer (some ⟨l, 0, none⟩), .slice A M q] w fun e w' => e = .returned (.int .i64 r.2) ∧ ∃ F', PlM W d x m N l b y c r.1.1 t r.1.2 h F' G w' ∧ QPl w' l b y c F' G (.slice A M q) ps := by
  subst hr
  refine (gwrite_lg l b d m N g F s A M q ps w k.rs ok (QRd.adv hq (Adv.refl Nul w) (fun _ e => e.elim) (fun _ e => .inl (.inr e))) h8).mono ?_
  rintro e w' ⟨rfl, F', r, a⟩
  exact ⟨rfl, F', k.prog r a, QPl.prog hq a⟩
theorem pl_ywrite (k : PlM W d x m N l b y c s t g h F G w) (ok : GOk m N t h) {A : Option Addr} {M q : Nat} {ps : List Pt} (hq : QPl w l b y c F G (.slice A M q) ps) (h8 : ∀ p ∈ ps, ∀ z ∈ p.d, z < 256) {r : (DS × LS) × Int} (hr : r = writeG t m N h ps) :
    Calls Tryz.prog 11 #[.pointer (some ⟨y, 0, none⟩), .slice A M q] w fun e w' => e = .returned (.int .i64 r.2) ∧ ∃ G' c', PlM W d x m N l b y c' s r.1.1 g r.1.2 F G' w' := by
  subst hr
  refine (ywrite_lg x y c m N h G t A M q ps w k.ys ok hq h8).mono ?_
  rintro e w' ⟨rfl, G', c', r, a⟩
  exact ⟨rfl, G', c', k.doc r a⟩
theorem pl_sync (k : PlM W d x m N l b y c s t g h F G w) {r : (DS × LS) × Int} (hr : r = syncG s g) :
    Calls Tryz.prog 12 #[.pointer (some ⟨l, 0, none⟩)] w fun e w' => e = .returned (.int .i64 r.2) ∧ ∃ F', PlM W d x m N l b y c r.1.1 t r.1.2 h F' G w' := by
  subst hr
  refine (gsync_lg l b d m N g F s w k.rs).mono ?_
  rintro e w' ⟨rfl, F', r, a⟩
  exact ⟨rfl, F', k.prog r a⟩
theorem pl_ysync (k : PlM W d x m N l b y c s t g h F G w) (hN : 0 < N) (hq : t.Q.length ≤ 1000000) {r : (DS × LS) × Int} (hr : r = syncG t h) :
    Calls Tryz.prog 13 #[.pointer (some ⟨y, 0, none⟩)] w fun e w' => e = .returned (.int .i64 r.2) ∧ ∃ G' c', PlM W d x m N l b y c' s r.1.1 g r.1.2 F G' w' := by
  subst hr
  refine (ysync_lg x y c m N h G t w k.ys hN hq).mono ?_
  rintro e w' ⟨rfl, G', c', r, a⟩
  exact ⟨rfl, G', c', k.doc r a⟩
theorem pl_check {K : Nat} (k : PlM W d x m N l b y c s t g h F G w) (hn : 2 ≤ m ∧ m + 3 ≤ N ∧ N ≤ 4096) (pi : PI m N K s g) (hK : K ≤ 200) (hq : s.Q.length ≤ 800000) {r : (DS × LS) × Int} (hr : r = checkG s m N g) :
    Calls Tryz.prog 14 #[.pointer (some ⟨l, 0, none⟩)] w fun e w' => e = .returned (.int .i64 r.2) ∧ ∃ F', PlM W d x m N l b y c r.1.1 t r.1.2 h F' G w' := by
  subst hr
  refine (gcheck_lg l b d m N g F s w k.rs hn pi.aok hq (by have := pi.gn; omega) (by have := pi.nx; omega) (by have := pi.ep; omega)).mono ?_
  rintro e w' ⟨rfl, F', r, a⟩
  exact ⟨rfl, F', k.prog r a⟩
theorem pl_ycheck {K : Nat} (k : PlM W d x m N l b y c s t g h F G w) (hn : 2 ≤ m ∧ m + 3 ≤ N ∧ N ≤ 4096) (pi : PI m N K t h) (hK : K ≤ 200) (hq : t.Q.length ≤ 800000) {r : (DS × LS) × Int} (hr : r = checkG t m N h) :
    Calls Tryz.prog 15 #[.pointer (some ⟨y, 0, none⟩)] w fun e w' => e = .returned (.int .i64 r.2) ∧ ∃ G' c', PlM W d x m N l b y c' s r.1.1 g r.1.2 F G' w' := by
  subst hr
  refine (ycheck_lg x y c m N h G t w k.ys hn hq (by have := pi.gn; omega) (by have := pi.nx; omega) (by have := pi.ep; omega)).mono ?_
  rintro e w' ⟨rfl, G', c', r, a⟩
  exact ⟨rfl, G', c', k.doc r a⟩
theorem pl_fuse (k : PlM W d x m N l b y c s t g h F G w) (a : Int) (ha : a < 9223372036854775808) {r : DS × Int} (hr : r = fuseS s a) :
    Calls Tryz.prog 16 #[.pointer (some ⟨d, 0, none⟩), .int .i64 a] w fun e w' => e = .returned (.int .i64 r.2) ∧ PlM W d x m N l b y c r.1 t g h F G w' := by
  subst hr
  refine (fuse_r d N F s a w k.rs.dk ha).mono ?_
  rintro e w' ⟨rfl, h1, a1⟩
  exact ⟨rfl, k.prog (k.rs.disk a1 h1) (adv_disk a1)⟩
theorem pl_arm (k : PlM W d x m N l b y c s t g h F G w) (a : Int) (ha : a < 9223372036854775808) {r : DS × Int} (hr : r = fuseS t a) :
    Calls Tryz.prog 17 #[.pointer (some ⟨x, 0, none⟩), .int .i64 a] w fun e w' => e = .returned (.int .i64 r.2) ∧ PlM W d x m N l b y c s r.1 g h F G w' := by
  subst hr
  refine (rarm_dk x N G t a w k.ys.dk ha).mono ?_
  rintro e w' ⟨rfl, h1, a1⟩
  exact ⟨rfl, k.doc (k.ys.disk a1 h1) (yadv_disk a1)⟩
theorem pl_crash (k : PlM W d x m N l b y c s t g h F G w) {mk : Nat} {vk : Value} {ks : List Int} (torn : Int) (hk : Rd W 1 vk mk (ks.map (Value.int .i64))) (ho : ∀ j, vk.ownBlock = some j → 0 < mk → j < W.heap.size) {r : DS} (hr : r = crashS s ks torn) :
    Calls Tryz.prog 18 #[.pointer (some ⟨d, 0, none⟩), vk, .int .i64 torn] w fun e w' => e = .returned (.tuple #[]) ∧ PlM W d x m N l b y c r t g h F G w' := by
  subst hr
  refine (crash_dk d N mk vk F s ks torn w k.rs.dk (hk.below k.adv.toBelow (fun j h1 h2 _ => ho j h1 h2)) (fun j h1 h2 hF => by
    have := ho j h1 h2
    have := k.low j (.inl (.inl hF))
    omega)).mono ?_
  rintro e w' ⟨rfl, h1, a1⟩
  exact ⟨rfl, k.prog (k.rs.disk a1 h1) (adv_disk a1)⟩
theorem pl_ycrash (k : PlM W d x m N l b y c s t g h F G w) {mk : Nat} {vk : Value} {ks : List Int} (torn : Int) (hk : Rd W 1 vk mk (ks.map (Value.int .i64))) (ho : ∀ j, vk.ownBlock = some j → 0 < mk → j < W.heap.size) (hN : 0 < N) (hq : t.Q.length ≤ 1000000) {r : DS} (hr : r = crashS t ks torn) :
    Calls Tryz.prog 19 #[.pointer (some ⟨x, 0, none⟩), vk, .int .i64 torn] w fun e w' => e = .returned (.tuple #[]) ∧ ∃ G', PlM W d x m N l b y c s r g h F G' w' := by
  subst hr
  refine (rcrash_dk x N mk vk G t ks torn w k.ys.dk hN (hk.below k.adv.toBelow (fun j h1 h2 _ => ho j h1 h2)) (fun j h1 h2 hF => by
    have := ho j h1 h2
    have := k.low j (.inr (.inl hF))
    omega) hq).mono ?_
  rintro e w' ⟨rfl, G', h1, a1⟩
  exact ⟨rfl, G', k.doc (k.ys.disk a1 h1) (yadv_disk a1)⟩
theorem pl_open (k : PlM W d x m N l b y c s t g h F G w) (hn : 2 ≤ m ∧ m + 3 ≤ N) (hsb : SB s N) (hN : 1 ≤ N ∧ N ≤ 900) (ht : topE s (2 + m) < 16777215) {g' : LS} (hg : g' = openS s m N) :
    Calls Tryz.prog 7 #[.pointer (some ⟨d, 0, none⟩), .int .i64 (m : Int)] w fun e w' => ∃ l' b', e = .returned (.tuple #[.pointer (some ⟨l', 0, none⟩), .int .i64 0]) ∧ PlM W d x m N l' b' y c s t g' h F G w' := by
  subst hg
  refine (gopen_dk d N F s (m : Int) w k.rs.dk hsb hN (by omega) (by omega)).mono ?_
  intro e w' h3
  rcases h3 with ⟨hb, -⟩ | ⟨-, hx, -⟩ | ⟨-, -, l', b', rfl, r, ⟨n1, n2⟩, a⟩
  · exact absurd (by omega) hb
  · rw [Int.toNat_natCast] at hx
    omega
  rw [Int.toNat_natCast] at r
  exact ⟨l', b', rfl, k.prog r (adv_open a n1 n2)⟩
theorem pl_yopen (k : PlM W d x m N l b y c s t g h F G w) (hn : 2 ≤ m ∧ m + 3 ≤ N) (hsb : SB t N) (hN : 1 ≤ N ∧ N ≤ 900) (hq : t.Q.length ≤ 1000000) (ht : topE t (2 + m) < 16777215) {h' : LS} (hg : h' = openS t m N) :
    Calls Tryz.prog 8 #[.pointer (some ⟨x, 0, none⟩), .int .i64 (m : Int)] w fun e w' => ∃ y' c', e = .returned (.tuple #[.pointer (some ⟨y', 0, none⟩), .int .i64 0]) ∧ PlM W d x m N l b y' c' s t g h' F G w' := by
  subst hg
  refine (yopen_rk (Z := UF F l b) x N G t (m : Int) w k.ys.dk k.ys.zb hsb hq hN.2 ⟨hN.1, by omega⟩ (by omega) (by omega)).mono ?_
  intro e w' h3
  rcases h3 with ⟨hb, -⟩ | ⟨-, hx, -⟩ | ⟨-, -, y', c', rfl, r, ⟨n1, n2⟩, a⟩
  · exact absurd (by omega) hb
  · rw [Int.toNat_natCast] at hx
    omega
  rw [Int.toNat_natCast] at r
  exact ⟨y', c', rfl, k.doc r (yadv_open a n1 n2)⟩
theorem pl_dread (k : PlM W d x m N l b y c s t g h F G w) {i : Nat} (hi : i < N) {X : List Nat} (hX : X = isS s i) :
    Calls Tryz.prog 23 #[.pointer (some ⟨d, 0, none⟩), .int .i64 (i : Int)] w fun e w' => ∃ z, e = .returned (.tuple #[.slice (some ⟨z, 0, none⟩) 128 128, .int .i64 0]) ∧ Rd w' 1 (.slice (some ⟨z, 0, none⟩) 128 128) 128 (X.map u8) ∧ X.length = 128 ∧ PlM W d x m N l b y c s t g h F G w' := by
  subst hX
  refine (read_dk d N F s i w k.rs.dk hi).mono ?_
  rintro e w' ⟨z, rfl, hb, hl, a⟩
  exact ⟨z, rfl, hb.rdS8 hl, hl, k.step a⟩
theorem pl_is (k : PlM W d x m N l b y c s t g h F G w) {i : Nat} (hi : i < N) (hq : t.Q.length ≤ 1000000) {X : List Nat} (hX : X = isS t i) :
    Calls Tryz.prog 25 #[.pointer (some ⟨x, 0, none⟩), .int .i64 (i : Int)] w fun e w' => ∃ v, e = .returned v ∧ Rd w 1 v 128 (X.map u8) ∧ w = w' := by
  refine (nis_any k.ys.dk hi hq hX.symm rfl).mono ?_
  rintro e w' ⟨v, rfl, hs, rfl⟩
  exact ⟨v, rfl, Sl.rd hs, rfl⟩
theorem pl_read (k : PlM W d x m N l b y c s t g h F G w) (hn : 2 ≤ m ∧ m + 3 ≤ N ∧ N ≤ 4096) (hA : AOk (N - 2 - m) g.A) {i : Nat} (hi : i < N - 2 - m) {X : List Nat} (hX : X = homeG s m g i) :
    Calls Tryz.prog 26 #[.pointer (some ⟨l, 0, none⟩), .int .i64 (i : Int)] w fun e w' => ∃ z, e = .returned (.tuple #[.slice (some ⟨z, 0, none⟩) 128 128, .int .i64 0]) ∧ Rd w' 1 (.slice (some ⟨z, 0, none⟩) 128 128) 128 (X.map u8) ∧ X.length = 128 ∧ PlM W d x m N l b y c s t g h F G w' := by
  subst hX
  refine (gread_lg l b d m N i g F s w k.rs hn hA hi).mono ?_
  rintro e w' ⟨z, rfl, -, -, hb, hl, a⟩
  exact ⟨z, rfl, hb, hl, k.step a⟩
theorem pl_yhome (k : PlM W d x m N l b y c s t g h F G w) (hn : 2 ≤ m ∧ m + 3 ≤ N ∧ N ≤ 4096) (hq : t.Q.length ≤ 1000000) {i : Nat} (hi : i < N - 2 - m) {X : List Nat} (hX : X = homeG t m h i) :
    Calls Tryz.prog 27 #[.pointer (some ⟨y, 0, none⟩), .int .i64 (i : Int)] w fun e w' => ∃ A q, e = .returned (.slice A 128 q) ∧ Rd w' 1 (.slice A 128 q) 128 (X.map u8) ∧ X.length = 128 ∧ Adv Nul w Nul w' := by
  subst hX
  exact yhome_lg x y c m N i h G t w k.ys hn hq hi
theorem pl_homes (k : PlM W d x m N l b y c s t g h F G w) (hN : N ≤ 4096) (hn : m + 2 ≤ N) {H : Nat} (hH : H = N - 2 - m) : Calls Tryz.prog 20 #[.pointer (some ⟨l, 0, none⟩)] w fun e w' => e = .returned (.int .i64 (H : Int)) ∧ ∃ k, w' = w.drewN k := by
  subst hH
  exact ghomes_lg k.rs.lg k.rs.dk hN hn
theorem pl_free {K : Nat} (k : PlM W d x m N l b y c s t g h F G w) (pi : PI m N K s g) (hm : m ≤ 100000) {fr : Nat} (hf : fr = m - (g.next - g.h.t)) : Calls Tryz.prog 21 #[.pointer (some ⟨l, 0, none⟩)] w fun e w' => e = .returned (.int .i64 (fr : Int)) ∧ ∃ k, w' = w.drewN k := by
  subst hf
  exact gfree_lg k.rs.lg hm pi.tn pi.fr
theorem pl_yfree {K : Nat} (k : PlM W d x m N l b y c s t g h F G w) (pi : PI m N K t h) (hm : m ≤ 100000) {fr : Nat} (hf : fr = m - (h.next - h.h.t)) : Calls Tryz.prog 22 #[.pointer (some ⟨y, 0, none⟩)] w fun e w' => e = .returned (.int .i64 (fr : Int)) ∧ ∃ k, w' = w.drewN k := by
  subst hf
  exact yfree_lg k.ys.lg hm pi.tn pi.fr
theorem pl_len (k : PlM W d x m N l b y c s t g h F G w) : w.cell? ⟨y, 6, none⟩ = some (.slice (some ⟨c, 0, none⟩) (N - 2 - m) (N - 2 - m)) := k.ys.lg.cells.2.2.2.2.2.2.1
end
theorem i64_two {x : Int} (h : (Lit.int .i64 x).wf = true) : -9223372036854775808 ≤ x ∧ x < 9223372036854775808 := by
  have hb := bounds_i64 h
  omega
theorem sb_new (N : Nat) : SB (newS N) N := fun _ hi => ((new_dall 0 N).isS (by simpa [newS] using hi)).1.2
theorem rd_over {w w' : World} {F' : Nat → Prop} {v : Value} {n : Nat} {xs : List Value} (h : Rd w 1 v n xs) (a : Adv Nul w F' w') : Rd w' 1 v n xs := h.far (fun _ _ _ hj => a.block _ hj (fun e => e)) a.size
theorem GDos.odd_ {W w : World} {b o n c : Nat} {ds : List GDo} (h : GDos W (.slice (some ⟨b, o, none⟩) n c) ds) (hb : Below W.heap.size W w) {i : Nat} (hi : i < ds.length) : w.cell? ⟨b, o + i * 5 + 3, none⟩ = some (.bool ds[i].odd) := by
  have hn : n = ds.length := by obtain ⟨A', c', e, _⟩ := h.1; injection e
  subst hn
  obtain ⟨b', o', e, hlt2, hc2⟩ := h.1.cells (by omega) (by decide)
  injection e with e
  injection e with e1 e2
  subst e1 e2
  rw [World.cell?_of_block (hb.block b hlt2), Nat.add_assoc]
  exact hc2 _ _ (by rw [flatM 5 GDo.cells (fun _ => rfl) ds i 3 hi (by decide)]; rfl)
/-- what holds ahead of each step -/
structure PlI (W : World) (d x m N K l b y c : Nat) (s : DS) (g : LS) (F G : Nat → Prop) (w : World) : Prop where
  mm : PlM W d x m N l b y c s s g g F G w
  pi : PI m N (K + 1) s g
  q : s.Q.length ≤ 40 * K
section
variable {W w w' : World} {d x m N K l b y c : Nat} {s s' : DS} {g g' : LS} {F G : Nat → Prop}
theorem PlI.step {Q : Nat → Prop} (h : PlI W d x m N K l b y c s g F G w) (ha : Adv Nul w Q w') : PlI W d x m N K l b y c s g F G w' := ⟨h.mm.step ha, h.pi, h.q⟩
theorem PlI.gok (h : PlI W d x m N K l b y c s g F G w) (hn : 2 ≤ m ∧ m + 3 ≤ N ∧ N ≤ 4096) (hK : K ≤ 30) : GOk m N s g := h.pi.gok hn (by omega) (by have := h.q; omega)
theorem PlI.write (h : PlI W d x m N K l b y c s g F G w) (hN : m + 3 ≤ N ∧ N ≤ 30) (hK : K ≤ 30) {ps : List Pt} (h8 : ∀ p ∈ ps, ∀ z ∈ p.d, z < 256) {r : (DS × LS) × Int} (hr : r = writeG s m N g ps) : PI m N (K + 1 + 1) r.1.1 r.1.2 ∧ r.1.1.Q.length ≤ 40 * (K + 1) := by
  subst hr
  obtain ⟨h1, h2⟩ := h.pi.write (ps := ps) (by omega) h8
  exact ⟨h1.le (Nat.le_succ _), by have := h.q; omega⟩
theorem PlI.sync (h : PlI W d x m N K l b y c s g F G w) {r : (DS × LS) × Int} (hr : r = syncG s g) : PI m N (K + 1 + 1) r.1.1 r.1.2 ∧ r.1.1.Q.length ≤ 40 * (K + 1) := by
  subst hr
  obtain ⟨h1, h2⟩ := h.pi.sync
  exact ⟨h1.le (Nat.le_succ _), by have := h.q; omega⟩
theorem PlI.check (h : PlI W d x m N K l b y c s g F G w) (hN : m + 3 ≤ N ∧ N ≤ 30) (hK : K ≤ 30) {r : (DS × LS) × Int} (hr : r = checkG s m N g) : PI m N (K + 1 + 1) r.1.1 r.1.2 ∧ r.1.1.Q.length ≤ 40 * (K + 1) := by
  subst hr
  obtain ⟨h1, h2⟩ := h.pi.check (by omega)
  exact ⟨h1, by have := h.q; omega⟩
theorem PlI.fuse (h : PlI W d x m N K l b y c s g F G w) (a : Int) {r : DS × Int} (hr : r = fuseS s a) : PI m N (K + 1 + 1) r.1 g ∧ r.1.Q.length ≤ 40 * (K + 1) := by
  subst hr
  exact ⟨(h.pi.fuse a).le (Nat.le_succ _), by have := few_fuse s a; have := h.q; omega⟩
theorem PlI.crash (h : PlI W d x m N K l b y c s g F G w) (hn : 2 ≤ m ∧ m + 3 ≤ N) (ks : List Int) (torn : Int) {r : DS} (hr : r = crashS s ks torn) {g' : LS} (hg : g' = openS r m N) (hK : K ≤ 30) :
    PI m N (K + 1 + 1) r g' ∧ r.Q.length ≤ 40 * (K + 1) ∧ SB r N ∧ topE r (2 + m) < 16777215 := by
  subst hr hg
  have hL : (crashS s ks torn).L.length = N := (crashS_ok h.mm.rs.dk.1 ks torn).len
  have h1 := PI.open_ (h.pi.crash ks torn) hL hn
  refine ⟨h1, by have := few_crash s ks torn; have := h.q; omega, h1.sb hL, ?_⟩
  have := h1.top hL (by omega)
  omega
end
end Go.Proofs.YtbdjlmdbnoghnaaGreat
