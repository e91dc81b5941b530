import Derived.Test.YtbefmjiclpobjaaGreatMj14
import Derived.Test.YtbefmjiclpobjaaGreatMj12
import Derived.Test.YtbefmjiclpobjaaGreatMj00
import Derived.BigQuiet
import Derived.Deep.QuietTactic
namespace Go.Proofs.YtbefmjiclpobjaaGreat
set_option maxHeartbeats 6400000
set_option maxRecDepth 100000
section
open Go.ChangeShapes Go.WideShapes Go.ChangeAt Go.RowKit Go.Shelf
attribute [local go_sem] Oper.semAt_some
structure RwO (w:World) (v:Value) (rs:List (List Nat)):Prop where
 ex:∃cs:List Value,w.ownsRow 0 54 1 v rs.length cs/\cs.length=rs.length/\∀(i:Nat) (c:Value) (r:List Nat),cs[i]? =some c->rs[i]? =some r->w.ownsRow 0 5 1 c 128 (r.map u8)
theorem B4J{w:World}{B:Nat}{t e:TypeId}{I n:Nat}{u v:Value}{J:List Value}(h:w.ownsRow 0 e I v n J)(U:Boxed w B t u)(V:t≠e)(W:Value):(w.setCell ⟨B,0,none⟩ W).ownsRow 0 e I v n J:=h.kept (grownBy_setCell' _ _ _) (.inr (U.not_row V h).symm)
theorem RwO.set{w:World}{B:Nat}{t:TypeId}{u v:Value}{rs:List (List Nat)}(h:RwO w v rs)(J:Boxed w B t u)(U:t≠54)(V:t≠5)(I:Value):RwO (w.setCell ⟨B,0,none⟩ I) v rs:=by
 obtain⟨cs,Y,Z,k3⟩:=h.ex
 exact⟨cs,B4J Y J U I,Z,λi c r W X=>B4J (k3 i c r W X) J V I⟩
theorem B8M{w:World}{e:TypeId}{J n:Nat}{v:Value}{U:List Value}(h:w.ownsRow 0 e J v n U):∀k,v.ownBlock=some k->k<w.heap.size:=λk I=>(h.lt k I).2
theorem C0Z{w w':World}{F:Nat->Prop}{e:TypeId}{I n:Nat}{v:Value}{J:List Value}(h:w.ownsRow 0 e I v n J)(U:B0 B5 w F w'):w'.ownsRow 0 e I v n J:=
 J2 h λk V=>U.block k (B8M h k V) (λx=>x)
theorem RwO.nil(w:World):RwO w (.slice none 0 0) []:=⟨[],World.ownsRow_nil _ _ _ _,rfl,λi c r h=>by simp at h⟩
theorem A7g{w w':World}{J:Option Nat}{e:TypeId}{U n:Nat}{v:Value}{V:List Value}(h:w.ownsRow 0 e U v n V)(Y:w.grownBy w' J)(hr:∀r,J=some r->∃o:Obj,w.heap[r]? =some o/\o.isCells=false):w'.ownsRow 0 e U v n V:=by
 refine h.kept Y ?_
 rcases h.2 with⟨rfl,_⟩|⟨g,aA,aB,rfl,_,Z,_⟩
 ·exact .inl rfl
 ·refine .inr λW=>?_
  obtain⟨o,I,X⟩:=hr g (by simpa[Value.ownBlock]using W.symm)
  rw[Z]at I;cases I;cases X
theorem RwO.turn{w w':World}{U:Option Nat}{v:Value}{rs:List (List Nat)}(h:RwO w v rs)(I:w.grownBy w' U)(J:∀r,U=some r->∃o:Obj,w.heap[r]? =some o/\o.isCells=false):RwO w' v rs:=by
 obtain⟨cs,V,W,h3⟩:=h.ex
 exact⟨cs,A7g V I J,W,λi c r X Y=>A7g (h3 i c r X Y) I J⟩
theorem X6{w w':World}{J:Option Nat}{B:Nat}{t:TypeId}{v:Value}(h:Boxed w B t v)(V:w.grownBy w' J)(W:∀r,J=some r->∃o:Obj,w.heap[r]? =some o/\o.isCells=false):Boxed w' B t v:=
 h.kept V λe=>by
  obtain⟨o,I,U⟩:=W B e.symm
  rw[show w.heap[B]? =_ from h]at I;cases I;cases U
theorem B67{w w':World}{F:Nat->Prop}(I:B0 B5 w F w'):KeepsOthers w w':=⟨I.size,λk o h _=>by rw[I.block k (Array.getElem?_eq_some_iff.1 h).1 (λx=>x)];exact h⟩
theorem B68{w:World}{e U:TypeId}{aA n aB Z:Nat}{v V:Value}{xs ys:List Value}(h:w.ownsRow 0 e aA v n xs)(W:w.ownsRow 0 U aB V Z ys)(Y:e≠U):v.ownBlock=none\/v.ownBlock≠V.ownBlock:=by
 rcases h.2 with⟨rfl,_⟩|⟨g,aC,aE,rfl,_,X,_⟩
 ·exact .inl rfl
 ·refine .inr λJ=>?_
  rcases W.2 with⟨rfl,_⟩|⟨g',aD,aF,rfl,_,I,_⟩
  ·simp[Value.ownBlock]at J
  ·simp[Value.ownBlock]at J
   subst J
   rw[X]at I
   injection I with I
   injection I with _ e2
   exact Y e2
structure RwD (w:World) (v:Value) (rs:List (List Nat)):Prop where
 ex:∃cs:List Value,Rd w 1 v rs.length cs/\cs.length=rs.length/\∀(i:Nat) (c:Value) (r:List Nat),cs[i]? =some c->rs[i]? =some r->Rd w 1 c r.length (r.map u8)
theorem A7h{w:World}{e:TypeId}{J n:Nat}{v:Value}{U:List Value}(h:w.ownsRow 0 e J v n U):Rd w J v n U:=
 (Sl.mk (F:=λk=>v.ownBlock=some k) h (λ_ I=>I) (λk I=>B8M h k I)).rd
theorem RwO.rd{w:World}{v:Value}{rs:List (List Nat)}(h:RwO w v rs)(U:∀r∈rs,r.length=128):RwD w v rs:=by
 obtain⟨cs,J,V,h3⟩:=h.ex
 refine⟨cs,A7h J,V,λi c r W I=>?_⟩
 rw[U r (List.mem_of_getElem? I)]
 exact A7h (h3 i c r W I)
theorem RwD.step{w w':World}{F:Nat->Prop}{v:Value}{rs:List (List Nat)}(h:RwD w v rs)(I:B0 B5 w F w'):RwD w' v rs:=by
 obtain⟨cs,U,V,h3⟩:=h.ex
 exact⟨cs,U.far (λ_ _ _ J=>I.block _ J (λx=>x)) I.size,V,λi c r W X=>(h3 i c r W X).far (λ_ _ _ J=>I.block _ J (λx=>x)) I.size⟩
theorem B35:(Tryz.prog.info? 54).map (λi=>(i.zero,i.size,i.bytes))=some (some (.slice none 0 0),1,24):=by kernel_rfl
def C4B(w:World)(l:List En)(x:Ending)(w':World):Prop:=∃A n c,x= .returned (.tuple #[.slice A n c,.int .i64 (bE l)])/\RwD w' (.slice A n c) (bL l)/\B0 B5 w B5 w'
def C4C(w:World)(l:List En)(x:Ending)(w':World):Prop:=∃A n c,x= .returned (.tuple #[.slice A n c,.int .i64 (bE l)])/\RwO w' (.slice A n c) (bL l)/\B0 B5 w B5 w'
theorem M0.chunk{w:World}{b o N c:Nat}{l:List En}(h:M0 w (.slice (some ⟨b,o,none⟩) N c) l)(J:N=l.length)(k:Nat)(hk:5 * k<N):M0 w (ckV b o N k) (chk l k):=by
 obtain⟨b',o',e,X,Y⟩:=(show Rd w 4 (.slice (some ⟨b,o,none⟩) N c) N (ecs l)by rw[J];have:=h.rd;rwa[<-J]at this⊢).cells (by omega) (by decide)
 injection e with e
 injection e with e1 e2 _
 subst e1 e2
 have U:(chk l k).length=min 5 (N-5 * k):=by unfold chk;rw[List.length_take,List.length_drop,J]
 obtain⟨A',c',W,h1,h2,_⟩:=h.rd
 injection W with _ _ e3
 refine⟨⟨some ⟨b,o+5 * k * 4,none⟩,min 5 (N-5 * k),by rw[U];rfl,by rw[U];exact Nat.le_refl _,?_,W6 _,λx=>(by cases x),λhn=>⟨_,rfl,X,λj u I=>?_⟩⟩,λe Z=>h.sz e (List.mem_of_mem_drop (List.mem_of_mem_take Z))⟩
 ·omega
 ·rw[add_none]
  rw[show o+5 * k * 4+j=o+(5 * k * 4+j)by omega]
  refine Y _ _ ?_
  have hj:=(List.getElem?_eq_some_iff.1 I).1
  rw[W6]at hj
  unfold chk at I
  rw[B1r,B1s,List.getElem?_take,List.getElem?_drop]at I
  by_cases V:j<5 * 4
  ·rwa[if_pos V]at I
  ·rw[if_neg V]at I;cases I
theorem A1N{W U:World}{B I n₀ k:Nat}{t:TypeId}{u v v':Value}{xs:List Value}{J:Obj}(h:Boxed W B t u)(Z:t≠54)(Y:W.ownsRow n₀ 54 1 v k xs)(V:(W.alloc J).grownBy U v.ownBlock)(X:B≠I):Boxed (U.setCell ⟨I,0,none⟩ v') B t u:=
 ((h.alloc J).kept V (h.not_row Z Y)).kept (grownBy_setCell' _ _ _) (λe=>X (Option.some.inj e))
theorem A7i{W I:World}{J n₀ k:Nat}{v v' c:Value}{xs X:List Value}{V:Obj}{u:Value}(h:W.ownsRow 0 5 1 c 128 X)(aA:W.ownsRow n₀ 54 1 v k xs)(Z:(W.alloc V).grownBy I v.ownBlock)(Y:Boxed I J 214 u):(I.setCell ⟨J,0,none⟩ v').ownsRow 0 5 1 c 128 X:=by
 have U:=(h.alloc V).kept Z (B68 h (A07 aA) (by decide))
 exact U.kept (grownBy_setCell' _ _ _) (.inr (Y.not_row (by decide) U).symm)
structure BlI (w:World) (l:List En) (N B2 B3 B4 Bs Bn:Nat) (sv:Value) (pre:List (Fin (nCk N))) (W:World):Prop where
 ex:∃v cs,Boxed W B4 214 v/\W.ownsRow w.heap.size 54 1 v pre.length cs/\cs.length=pre.length/\∀(i:Nat) (c:Value) (x:Fin (nCk N)),cs[i]? =some c->pre[i]? =some x->W.ownsRow 0 5 1 c 128 ((X5 (chk l x.1)).map u8)
 b2:Boxed W B2 214 (.slice none 0 0)
 b3:Boxed W B3 26 (.int .i64 0)
 bs:Boxed W Bs 66 sv
 bn:Boxed W Bn 3 (.int .i64 5)
 bl:Below w.heap.size w W
theorem BlI.own(w:World)(l:List En)(N Z B3 B4 Bs Bn:Nat)(sv:Value)(B:Nat)(hB:w.heap.size<=B):OwnFrom B (BlI w l N Z B3 B4 Bs Bn sv):=by
 intro aD W W' aE h I Y
 have J:=λr e=>(Y r e).2
 obtain⟨v,cs,h1,V,h3,h4⟩:=h.ex
 refine⟨⟨v,cs,X6 h1 I J,?_,h3,λi c x U hx=>A7g (h4 i c x U hx) I J⟩,X6 h.b2 I J,X6 h.b3 I J,X6 h.bs I J,X6 h.bn I J,h.bl.grown I (Nat.le_trans (Nat.le_refl _) h.bl.size) (λk e=>Nat.le_trans hB (Y k e).1)⟩
 refine V.kept I ?_
 rcases V.2 with⟨rfl,_⟩|⟨g,aB,aC,rfl,_,aA,_⟩
 ·exact .inl rfl
 ·refine .inr λe'=>?_
  obtain⟨o,X,U⟩:=J g (by simpa[Value.ownBlock]using e'.symm)
  rw[aA]at X;cases X;cases U
theorem BlI.step{w W U:World}{F:Nat->Prop}{l:List En}{N V X Y Bs Z:Nat}{sv:Value}{aA:List (Fin (nCk N))}(h:BlI w l N V X Y Bs Z sv aA W)(J:B0 B5 W F U):BlI w l N V X Y Bs Z sv aA U:=by
 obtain⟨v,cs,h1,h2,h3,h4⟩:=h.ex
 have I:∀{B t u},Boxed W B t u->Boxed U B t u:=λhb=>(J.block _ hb.lt (λx=>x)).trans hb
 exact⟨⟨v,cs,I h1,J2 h2 (λk hk=>J.block k (h2.lt k hk).2 (λx=>x)),h3,λi c x hc hx=>C0Z (h4 i c x hc hx) J⟩,I h.b2,I h.b3,I h.bs,I h.bn,h.bl.trans (J.toBelow.mono h.bl.size)⟩
theorem BlI.push{w W w6:World}{l:List En}{N Z B3 I Y Bn:Nat}{sv v v' c:Value}{cs:List Value}{aG:Obj}{X:List (Fin (nCk N))}(h:BlI w l N Z B3 I Y Bn sv X W)(x:Fin (nCk N))(x4:Boxed W I 214 v)(U:W.ownsRow w.heap.size 54 1 v X.length cs)(hl:cs.length=X.length)
 (aD:∀(i:Nat) (c:Value) (x:Fin (nCk N)),cs[i]? =some c->X[i]? =some x->W.ownsRow 0 5 1 c 128 ((X5 (chk l x.1)).map u8)) (hc:W.ownsRow 0 5 1 c 128 ((X5 (chk l x.1)).map u8))
 (hown:w6.ownsRow w.heap.size 54 1 v' (X.length+1) (cs++[c])) (hgrow:(W.alloc aG).grownBy w6 v.ownBlock) (hlt:Z<I/\B3<I/\I<Y/\Y<Bn/\w.heap.size<=I):
 BlI w l N Z B3 I Y Bn sv (X++[x]) (w6.setCell ⟨I,0,none⟩ v'):=by
 obtain⟨aB,aF,aE,_,aC⟩:=x4.appended (by decide) U h.bl.size hlt.2.2.2.2 hown hgrow
 refine⟨⟨v',cs++[c],aF,by rw[List.length_append];exact aE,by simp[hl],λi a y J V=>?_⟩,A1N h.b2 (by decide) U hgrow (by omega),A1N h.b3 (by decide) U hgrow (by omega),A1N h.bs (by decide) U hgrow (by omega),A1N h.bn (by decide) U hgrow (by omega),h.bl.trans aC⟩
 by_cases hi:i<cs.length
 ·rw[List.getElem?_append_left hi]at J
  rw[List.getElem?_append_left (by omega)]at V
  exact A7i (aD i a y J V) U hgrow aB
 ·rw[List.getElem?_append_right (by omega)]at J V
  have aA:i-cs.length=0:=by
   have:=(List.getElem?_eq_some_iff.1 J).1
   simp at this;omega
  rw[aA]at J
  rw[<-hl,aA]at V
  simp at J V
  subst J V
  exact A7i hc U hgrow aB
theorem BlI.kp{w W U:World}{l:List En}{N X Y Z J I b:Nat}{sv:Value}{aA aB:List (Fin (nCk N))}(h:BlI w l N X Y Z J I sv aA W)(V:BlI w l N X Y Z J I sv aB U)(hb:b<w.heap.size):Kp3 b J I W U:=
 ⟨(V.bl.block b hb).trans (h.bl.block b hb).symm,(show U.heap[J]? =_ from V.bs).trans (show W.heap[J]? =_ from h.bs).symm,(show U.heap[I]? =_ from V.bn).trans (show W.heap[I]? =_ from h.bn).symm⟩
theorem C1a{w W:World}{l:List En}{N:Nat}(U:N=l.length){v:Value}{cs:List Value}(Z:W.ownsRow w.heap.size 54 1 v (List.finRange (nCk N)).length cs)(Y:cs.length=(List.finRange (nCk N)).length)
 (X:∀(i:Nat) (c:Value) (x:Fin (nCk N)),cs[i]? =some c->(List.finRange (nCk N))[i]? =some x->W.ownsRow 0 5 1 c 128 ((X5 (chk l x.1)).map u8)):RwO W v (H6 l):=by
 have J:(H6 l).length=(List.finRange (nCk N)).length:=by rw[M9,List.length_finRange,U];rfl
 refine⟨cs,by rw[J];exact A07 Z,by rw[J];exact Y,λi c r V I=>?_⟩
 have hi:i<nCk N:=by
  have:=(List.getElem?_eq_some_iff.1 I).1
  rw[J,List.length_finRange]at this;exact this
 have hx:(List.finRange (nCk N))[i]? =some ⟨i,hi⟩:=by rw[List.getElem?_eq_getElem (by simpa using hi)];simp
 have:=X i c _ V hx
 unfold H6 at I
 rw[List.getElem?_map,List.getElem?_range (by rw[U]at hi;exact hi)]at I
 rw[<-Option.some.inj I];exact this
theorem A57(v:Value)(l:List En)(w:World)(h:M0 w v l):Calls Tryz.prog 174 #[v] w (C4C w l):=by
 obtain⟨A,c,rfl,aZ,bU⟩:=h.form
 obtain⟨N,hN⟩:∃n,n=l.length:=⟨_,rfl⟩
 rw[<-hN]at h aZ⊢
 obtain⟨X,hX⟩:∃X,X=(w.alloc (.cells #[.slice none 0 0] 214)).alloc (.cells #[.int .i64 0] 26):=⟨_,rfl⟩
 obtain⟨I,aM⟩:∃B,B=w.heap.size:=⟨_,rfl⟩
 obtain⟨J,aN⟩:∃B,B=w.heap.size+1:=⟨_,rfl⟩
 have aO:Boxed X I 214 (.slice none 0 0):=by rw[hX,aM];exact(Boxed.new _ _ _).alloc _
 have bO:Boxed X J 26 (.int .i64 0):=by rw[hX,aN];have:=Boxed.new (w.alloc (.cells #[.slice none 0 0] 214)) 26 (.int .i64 0);rwa[World.size_alloc]at this
 have bD:B0 B5 w B5 X:=by rw[hX];exact((B0.refl _ _).alloc _).alloc _
 have aG:=C6x (A9N (.slice A N c) l X (h.step bD))
 have HX:=C6x hX
 have aI:=C6x aM
 have aJ:=C6x aN
 have aL:=C6x bD
 have HH:=C6x h
 have HN:=C6x hN
 have cK:=C6x aZ
 have cF:=C6x (show(c:Int)<=9223372036854775807 by unfold maxLen at bU;omega)
 have HB:=C6x (And.intro aO bO)
 have aB:=C6x (show I≠J by rw[aM,aN];simp)
 clear hX aM aN bD h hN aZ bU aO bO
 refine(callsIn_wide (n:=5)).1 ?_
 refine callsIn_of_wp_marks Tryz.func174 rfl trivial ?_ rfl
 simp only[Tryz.ntmps174,List.size_toArray,List.length_cons,List.length_nil,Nat.reduceAdd,Nat.reduceSub,Array.replicate_succ,Array.replicate_zero,List.push_toArray,List.append_toArray,List.nil_append,List.cons_append]
 have aD:=C6x (show w.heap.size<=I/\w.heap.size<=J by rw[aI.out,aJ.out];omega)
 have dG:¬I=J:=aB.out
 have dH:¬J=I:=λe=>aB.out e.symm
 have aA:=C6x (λ(w':World) (a:B0 B5 X B5 w')=>show(Boxed w' I 214 (.slice none 0 0)/\Boxed w' J 26 (.int .i64 0))from⟨(a.block I HB.out.1.lt (λx=>x)).trans HB.out.1,(a.block J HB.out.2.lt (λx=>x)).trans HB.out.2⟩)
 by_cases hr:S6 l
 ·rw[decide_eq_true hr]at aG
  have aC:=C6x hr
  clear hr
  by_cases hN:N<=24
  ·gi_wp2_with (first
    |(refine⟨trivial,?_⟩;gi_at_call 200;rw[<-HX.out,<-aJ.out,<-aI.out];refine(callsIn_wide.2 aG.out).mono ?_;rintro e V ⟨rfl,a1⟩;have U:=C6x a1;clear a1)
    |(refine⟨trivial,?_⟩;gi_at_call 201;refine(callsIn_wide.2 (B64 A N c _)).mono ?_;rintro e w2 ⟨rfl,rfl⟩)
    |fail)
   obtain⟨b,o,hA,cN⟩:∃b o,(0<N->A=some ⟨b,o,none⟩/\b<w.heap.size)/\b<=w.heap.size:=by
    by_cases h0:0<N
    ·obtain⟨b,o,e,hb,_⟩:=HH.out.at_ HN.out (i:=0) (by rw[<-HN.out];exact h0)
     exact⟨b,o,λ_=>⟨e,hb⟩,Nat.le_of_lt hb⟩
    ·exact⟨0,0,λh=>absurd h h0,Nat.zero_le _⟩
   obtain⟨B4,aU⟩:∃B,B=V.heap.size:=⟨_,rfl⟩
   obtain⟨Bs,aW⟩:∃B,B=V.heap.size+1:=⟨_,rfl⟩
   obtain⟨Bn,aV⟩:∃B,B=V.heap.size+1+1:=⟨_,rfl⟩
   obtain⟨Y,aE⟩:∃W,W=((V.alloc (.cells #[.slice none 0 0] 214)).alloc (.cells #[.slice A N c] 66)).alloc (.cells #[.int .i64 5] 3):=⟨_,rfl⟩
   have x4:Boxed Y B4 214 (.slice none 0 0):=by rw[aE,aU];exact((Boxed.new _ _ _).alloc _).alloc _
   have xs:Boxed Y Bs 66 (.slice A N c):=by
    have:=(Boxed.new (V.alloc (.cells #[.slice none 0 0] 214)) 66 (.slice A N c)).alloc (.cells #[.int .i64 5] 3)
    rw[World.size_alloc]at this
    rw[aE,aW];exact this
   have xn:Boxed Y Bn 3 (.int .i64 5):=by
    have:=Boxed.new ((V.alloc (.cells #[.slice none 0 0] 214)).alloc (.cells #[.slice A N c] 66)) 3 (.int .i64 5)
    rw[World.size_alloc,World.size_alloc]at this
    rw[aE,aV];exact this
   have aX:B0 B5 V B5 Y:=by rw[aE];exact(((B0.refl _ _).alloc _).alloc _).alloc _
   have bF:=aL.out.trans (U.out.trans aX)
   obtain⟨x2,x3⟩:=aA.out _ (U.out.trans aX)
   have bM:BlI w l N I J B4 Bs Bn (.slice A N c) [] Y:=⟨⟨_,[],x4,World.ownsRow_nil _ _ _ _,rfl,λi c x h=>by simp at h⟩,x2,x3,xs,xn,bF.toBelow⟩
   have bX:I<B4/\J<B4/\B4<Bs/\Bs<Bn/\w.heap.size<=B4:=by
    have h1:=(aA.out _ U.out).1.lt
    have h2:=(aA.out _ U.out).2.lt
    have h3:=(aL.out.trans U.out).size
    omega
   have bI:=C6x bX
   have bG:=C6x hA
   have aR:=C6x bM
   have aK:=C6x (show w.heap.size<=Y.heap.size/\Bs<Y.heap.size/\Bn<Y.heap.size from⟨bF.size,xs.lt,xn.lt⟩)
   have cB:=C6x (show b<Y.heap.size by have:=xs.lt;omega)
   rw[<-aV,<-aW,<-aU,<-aE]
   clear aE aU aW aV x4 xs xn aX bF x2 x3 bM bX hA cN
   refine wpIn_rangeFunc_ownF rfl (by decide) (gf:=217) (lb:= #[.pointer (some ⟨Bs,0,none⟩),.pointer (some ⟨Bn,0,none⟩)]) rfl trivial (enters_of Tryz.func217 (by kernel_rfl) rfl)
    (B15 Fence.wide 4 trivial rfl (by decide) A N c Bs Bn b o (λh=>(bG.out h).1) cK.out hN cF.out Y aK.out.2 aR.out.bs.cell aR.out.bn.cell) Kp3.trans
    (λW k o' cV hk h _ _=>?_) (Below.refl _ _) (λ_=>rfl)
    (BlI w l N I J B4 Bs Bn (.slice A N c)) (λ_ _ _=>False) (BlI.own _ _ _ _ _ _ _ _ _ _ aK.out.1) (λ_ _ _ _ _ hs _ _=>hs) aR.out
    (λx=>{ tmps:= #[.slice A N c,undef,.pointer (some ⟨I,0,none⟩),.pointer (some ⟨J,0,none⟩),.pointer (some ⟨B4,0,none⟩),ckV b o N x.1,undef,undef,.slice A N c,.bool true,.bool false,.slice A N c,.int .i64 (N:Int),.bool (decide ((24:Int)<(N:Int))),.slice A N c,.func (.func 217) #[] #[.pointer (some ⟨Bs,0,none⟩),.pointer (some ⟨Bn,0,none⟩)],ckV b o N x.1,undef,undef,undef,undef,undef,undef,undef,undef,undef,undef,undef,undef,undef],defers:=[] }) ?assign ?body ?done ?stop
   ·have hs:=aK.out
    have bA:∀j,j<Y.heap.size->(W.putObj k cV).heap[j]? =W.heap[j]? :=λj hj=>World.putObj_heap_other (by omega)
    exact⟨bA b cB.out,bA Bs hs.2.1,bA Bn hs.2.2⟩
   case assign=>
    intro lp x W K hK
    gi_wp2
    exact hK
   case body=>
    rintro lp aQ x W Z dF
    have bC:5 * x.1<N:=by have:=x.2;unfold nCk at this;omega
    obtain⟨rfl,bR⟩:=bG.out (by omega)
    have cG:=C6x ((HH.out.step (A5d Z.bl)).chunk HN.out x.1 bC)
    have bP:=B33 _ (chk l x.1) W cG.out (B8D aC.out.all x.1) (B8C l x.1) (by unfold chk;rw[List.length_take,List.length_drop,<-HN.out];omega)
    have cC:=C6x bP
    have HI:=C6x Z
    have cW:=C6x bC
    have cD:=C6x bR
    obtain⟨i0,hi,cR,cT,cU⟩:=info_parts B35
    have h5:nCk N<=5:=by unfold nCk;omega
    have bH:=C6x (show aQ.length+1<=maxLen/\(aQ.length+1) * 24<=140737488355328 by unfold maxLen;omega)
    clear h5
    clear bP Z bC bR
    gi_wp2_with (first
     |(refine⟨trivial,?_⟩;gi_at_call 202;refine(CallsIn.inRound lp (callsIn_wide.2 cC.out)).mono ?_;rintro e w5 ⟨A5,k5,F5,rfl,s5,a5⟩;have cA:=C6x a5;have cM:=C6x s5;have aS:=C6x (HI.out.step a5);obtain⟨v,cs,x4,aF,hl,aH⟩:=(HI.out.step a5).ex;have cO:=x4.cell;have X4:=C6x x4;have aT:=C6x aF;have cE:=C6x hl;have cH:=C6x aH;clear a5 s5 x4 aF hl aH)
     |(gi_at_builtin;refine wpListIn_append_own_at _ rfl _ _ 214 rfl w.heap.size 54 i0 (.slice none 0 0) 1 24 Tryz.underlying214 hi cR cT cU rfl (by decide) v aQ.length cs rfl (aT.out.alloc _) ⟨w5.heap.size,0,none⟩ 1 1 [.slice A5 128 k5] rfl rfl (cell_one_new _ _ _) (by simp[Value.oneCell']) bH.out.1 bH.out.2 (by have:=aS.out.bl.size;simp;omega) ?_;intro v' w6 aP aY _ _;obtain⟨g',cX,rfl⟩:=ownsRow_succ aP;obtain⟨bB,cQ,cP,bV,aO⟩:=X4.out.appended (by decide) aT.out aS.out.bl.size bI.out.2.2.2.2 aP aY;have cZ:=bB.cell;have dC:=bB.frozen;have cJ:=C6x ((B67 cA.out).trans bV);have bK:=C6x (aS.out.push x X4.out aT.out cE.out cH.out cM.out.own aP aY bI.out);clear bB cQ cP bV aO aP aY)
     |fail)
    exact⟨cJ.out,HI.out.kp bK.out cD.out,bK.out⟩
   case done=>
    rintro D xs W hD rfl Z hK
    obtain⟨v,cs,x4,aF,hl,aH⟩:=Z.ex
    have cO:=x4.cell
    have dA:=Z.b2.cell
    have dD:=Z.b2.frozen
    have dB:=Z.b3.cell
    have dE:=Z.b3.frozen
    have HI:=C6x Z
    have cL:=C6x (C1a HN.out aF hl aH)
    obtain⟨a,k,rfl⟩:∃a k,v= .slice a (List.finRange (nCk N)).length k:=by
     obtain⟨a,k,e,_⟩:=(A7h (A07 aF)).form
     exact⟨a,k,e⟩
    have HK:=C6x hK
    clear x4 aF hl aH Z hK
    gi_wp2
    have k2:=(KeepsOthers.setCell W ⟨I,0,none⟩ (.slice a (List.finRange (nCk N)).length k)).same D _ HK.out rfl
    have k3:=(KeepsOthers.setCell (W.setCell ⟨I,0,none⟩ (.slice a (List.finRange (nCk N)).length k)) ⟨J,0,none⟩ (.int .i64 0)).same D _ k2 rfl
    have y2:=X6 ((HI.out.b2.set (.slice a (List.finRange (nCk N)).length k)).kept (grownBy_setCell' _ J (.int .i64 0)) (λe=>aB.out (Option.some.inj e))) (grownBy_putObj' _ D (.deferred none)) (λr e=>by cases e;exact⟨_,k3,rfl⟩)
    have bZ:=HI.out.b3.kept (grownBy_setCell' _ I (.slice a (List.finRange (nCk N)).length k)) (λe=>aB.out (Option.some.inj e).symm)
    have y3:=X6 (bZ.set (.int .i64 0)) (grownBy_putObj' _ D (.deferred none)) (λr e=>by cases e;exact⟨_,k3,rfl⟩)
    have bS:=y2.cell
    have bT:=y3.cell
    have bY:=(((cL.out.set HI.out.b2 (by decide) (by decide) (.slice a (List.finRange (nCk N)).length k)).set bZ (by decide) (by decide) (.int .i64 0)).turn (grownBy_putObj' _ D (.deferred none)) (λr e=>by cases e;exact⟨_,k3,rfl⟩))
    have bQ:=((HI.out.bl.setCell (p:=⟨I,0,none⟩) aD.out.1 (.slice a (List.finRange (nCk N)).length k)).setCell (p:=⟨J,0,none⟩) aD.out.2 (.int .i64 0)).trans (belowK_b (w:=Y) aK.out.1 _ D _ (.deferred none) hD k3 rfl rfl)
    have hE:=B8E aC.out (by rw[<-HN.out];exact hN)
    simp only[List.length_finRange]at k3 bS bT bY bQ
    refine⟨by simp,.inl ⟨_,_,rfl,run_takeDeferred k3,?_⟩⟩
    refine⟨.tuple #[.slice a (nCk N) k,.int .i64 0],by simp[results,Tryz.results174,go_sem,bS,bT],a,nCk N,k,by rw[hE],?_,A5d bQ⟩
    rw[B4G hE]
    exact bY
   case stop=>
    rintro D c aQ W _ _ h _
    exact h.elim
  ·have cY:(24:Int)<(N:Int):=by omega
   have bJ:=C6x (show 24<l.length by rw[<-HN.out];omega)
   clear hN
   gi_wp2_with (first
    |(refine⟨trivial,?_⟩;gi_at_call 200;rw[<-HX.out,<-aJ.out,<-aI.out];refine(callsIn_wide.2 aG.out).mono ?_;rintro e V ⟨rfl,a1⟩;obtain⟨x2,x3⟩:=aA.out _ a1;have c2:=x2.cell;have f2:=x2.frozen;have c3:=x3.cell;have f3:=x3.frozen;have U:=C6x a1;clear a1 x2 x3)
    |fail)
   have h2:((V.setCell ⟨I,0,none⟩ (.slice none 0 0)).setCell ⟨J,0,none⟩ (.int .i64 8)).cell? ⟨I,0,none⟩=some (.slice none 0 0):=(((aA.out _ U.out).1.set _).kept (grownBy_setCell' _ _ _) (λe=>aB.out (Option.some.inj e))).cell
   have h3:((V.setCell ⟨I,0,none⟩ (.slice none 0 0)).setCell ⟨J,0,none⟩ (.int .i64 8)).cell? ⟨J,0,none⟩=some (.int .i64 8):=(((aA.out _ U.out).2.kept (grownBy_setCell' _ _ _) (λe=>aB.out (Option.some.inj e).symm)).set _).cell
   refine⟨.tuple #[.slice none 0 0,.int .i64 8],by simp[results,Tryz.results174,go_sem,h2,h3],none,0,0,?_,?_,?_⟩
   ·rw[A9L aC.out bJ.out]
   ·rw[C2f (by rw[A9L aC.out bJ.out];decide)];exact RwO.nil _
   ·exact((aL.out.trans U.out).setCell (p:=⟨I,0,none⟩) (.inr aD.out.1) _).setCell (p:=⟨J,0,none⟩) (.inr aD.out.2) _
 ·rw[decide_eq_false hr]at aG
  have aC:=C6x hr
  clear hr
  gi_wp2_with (first
   |(refine⟨trivial,?_⟩;gi_at_call 200;rw[<-HX.out,<-aJ.out,<-aI.out];refine(callsIn_wide.2 aG.out).mono ?_;rintro e V ⟨rfl,a1⟩;obtain⟨x2,x3⟩:=aA.out _ a1;have c2:=x2.cell;have f2:=x2.frozen;have c3:=x3.cell;have f3:=x3.frozen;have U:=C6x a1;clear a1 x2 x3)
   |fail)
  have h2:((V.setCell ⟨I,0,none⟩ (.slice none 0 0)).setCell ⟨J,0,none⟩ (.int .i64 2)).cell? ⟨I,0,none⟩=some (.slice none 0 0):=(((aA.out _ U.out).1.set _).kept (grownBy_setCell' _ _ _) (λe=>aB.out (Option.some.inj e))).cell
  have h3:((V.setCell ⟨I,0,none⟩ (.slice none 0 0)).setCell ⟨J,0,none⟩ (.int .i64 2)).cell? ⟨J,0,none⟩=some (.int .i64 2):=(((aA.out _ U.out).2.kept (grownBy_setCell' _ _ _) (λe=>aB.out (Option.some.inj e).symm)).set _).cell
  refine⟨.tuple #[.slice none 0 0,.int .i64 2],by simp[results,Tryz.results174,go_sem,h2,h3],none,0,0,?_,?_,?_⟩
  ·rw[B8F aC.out]
  ·rw[C2f (by rw[B8F aC.out];decide)];exact RwO.nil _
  ·exact((aL.out.trans U.out).setCell (p:=⟨I,0,none⟩) (.inr aD.out.1) _).setCell (p:=⟨J,0,none⟩) (.inr aD.out.2) _
theorem B16(v:Value)(l:List En)(w:World)(h:M0 w v l):Calls Tryz.prog 174 #[v] w (C4B w l):=
 (A57 v l w h).mono λx w' k=>by
  obtain⟨A,n,c,rfl,I,J⟩:=k
  exact⟨A,n,c,rfl,I.rd (λr U=>(B3x l r U).1),J⟩
end
section
open Go.ChangeShapes Go.WideShapes Go.ChangeAt Go.RowKit
section
variable {w w':World} {v:Value} {rs:List (List Nat)}
theorem RwD.form(h:RwD w v rs):∃A c,v= .slice A rs.length c/\rs.length<=c/\c<=maxLen:=by
 obtain⟨cs,I,_⟩:=h.ex
 exact I.form
theorem RwD.at_{A:Option Addr}{n c i:Nat}(h:RwD w (.slice A n c) rs)(hi:i<rs.length):∃b o A' q,A=some ⟨b,o,none⟩/\b<w.heap.size/\w.cell? ⟨b,o+i,none⟩=some (.slice A' (rs[i]).length q)/\Rd w 1 (.slice A' (rs[i]).length q) (rs[i]).length ((rs[i]).map u8):=by
 obtain⟨cs,U,Y,h3⟩:=h.ex
 obtain⟨A0,X,e,_⟩:=U.form
 injection e with e1 e2 e3
 subst e2
 obtain⟨b,o,rfl,V,W⟩:=U.cells (by omega) (by decide)
 have I:=List.getElem?_eq_getElem (l:=cs) (i:=i) (by omega)
 have J:=h3 i _ _ I (List.getElem?_eq_getElem hi)
 obtain⟨A',q,e,_⟩:=J.form
 rw[e]at J I
 exact⟨b,o,A',q,rfl,V,W i _ I,J⟩
end
def B8N(rs:List (List Nat)):Prop:=∀r∈rs,∀x∈r,x<256
theorem C5q(l:List En):B8N (bL l):=λr I=>(B3x l r I).2
def ErL(w:World)(rs qs:List (List Nat))(t:Value)(wr:World):Prop:=∃k:Nat,k<=rs.length/\t= .int .i64 (k:Int)/\(∀i,i<k->rs[i]? =qs[i]?)/\wr=w
theorem B36(v1 v2:Value)(rs qs:List (List Nat))(w:World)(J:RwD w v1 rs)(W:RwD w v2 qs)(aE:B8N rs)(aF:B8N qs):
 Calls Tryz.prog 175 #[v1,v2,.func (.func 72) #[] #[]] w λx w'=>x= .returned (.bool (decide (rs=qs)))/\w=w':=by
 obtain⟨A1,c1,rfl,aP,aG⟩:=J.form
 obtain⟨A2,c2,rfl,_,_⟩:=W.form
 obtain⟨N,hN⟩:∃N,N=rs.length:=⟨_,rfl⟩
 obtain⟨M,hM⟩:∃N,N=qs.length:=⟨_,rfl⟩
 rw[<-hN]at J⊢
 rw[<-hM]at W⊢
 have aQ:(N:Int)<=9223372036854775807:=by unfold maxLen at aG;omega
 have HP:=C6x J
 have HQ:=C6x W
 have V:=C6x hN
 have HM:=C6x hM
 have aK:=C6x aE
 have aL:=C6x aF
 clear J W hN hM aE aF aP aG
 by_cases aA:N=M
 ·subst aA
  go_enter Tryz.func175,Tryz.ntmps175
  go_wp2_with fail
  go_loopw [17] (ErL w rs qs) (λt _=>N-(intOf t).toNat)
  case atStart=>exact⟨0,Nat.zero_le _,rfl,λi hi=>absurd hi (Nat.not_lt_zero _),rfl⟩
  case round=>
   obtain⟨k,hk,rfl,aJ,rfl⟩:=hrel
   rw[<-V.out]at hk
   have aD:=C6x aJ
   clear aJ
   by_cases Z:k<N
   ·have aR:(k:Int)<(N:Int):=by omega
    have X:k<rs.length:=by rw[<-V.out];exact Z
    have Y:k<qs.length:=by rw[<-HM.out];exact Z
    obtain⟨b1,o1,a1,q1,rfl,aN,g1,r1⟩:=HP.out.at_ X
    obtain⟨b2,o2,a2,q2,rfl,aO,g2,r2⟩:=HQ.out.at_ Y
    have I:=C6x (A0F _ _ _ _ _ _ wr r1 r2 (aK.out _ (List.getElem_mem X)) (aL.out _ (List.getElem_mem Y)))
    have U:=C6x (show rs[k]? =some rs[k]/\qs[k]? =some qs[k]from⟨List.getElem?_eq_getElem X,List.getElem?_eq_getElem Y⟩)
    obtain⟨p,hp⟩:∃p,p=rs[k]:=⟨_,rfl⟩
    obtain⟨q,hq⟩:∃q,q=qs[k]:=⟨_,rfl⟩
    rw[<-hp]at g1 I U
    rw[<-hq]at g2 I U
    obtain⟨n1,aH⟩:∃n,n=p.length:=⟨_,rfl⟩
    obtain⟨n2,aI⟩:∃n,n=q.length:=⟨_,rfl⟩
    rw[<-aH]at g1 I
    rw[<-aI]at g2 I
    obtain⟨B,hB⟩:∃B,B=decide (p=q):=⟨_,rfl⟩
    rw[<-hB]at I
    have aB:=C6x hB
    have aC:=C6x Z
    clear hp hq aH aI hB r1 r2 X Y aN aO
    cases B with
    |true=>
     go_wp2_with fail
     refine I.out.mono ?_
     rintro x w8 ⟨rfl,rfl⟩
     go_wp2_with fail
     refine⟨⟨k+1,by have:=aC.out;have:=V.out;omega,by go_num,λi hi=>?_,rfl⟩,by have:=aC.out;simp[intOf]<;>omega⟩
     by_cases e:i=k
     ·rw[e,U.out.1,U.out.2,of_decide_eq_true aB.out.symm]
     ·exact aD.out i (by omega)
    |false=>
     go_wp2_with fail
     refine I.out.mono ?_
     rintro x w8 ⟨rfl,rfl⟩
     go_wp2_with fail
     go_ret
     refine⟨?_,rfl⟩
     rw[decide_eq_false]
     ·rfl
     ·intro e
      have J:=U.out.1
      rw[e,U.out.2]at J
      exact of_decide_eq_false aB.out.symm (Option.some.inj J).symm
   ·obtain rfl:k=N:=by omega
    clear Z hk
    go_wp2_with fail
    go_ret
    refine⟨?_,rfl⟩
    rw[decide_eq_true]
    ·rfl
    ·apply List.ext_getElem?
     intro i
     by_cases hi:i<k
     ·exact aD.out i hi
     ·rw[List.getElem?_eq_none (by rw[<-V.out];omega),List.getElem?_eq_none (by rw[<-HM.out];omega)]
 ·have aS:((N:Int)==(M:Int))=false:=by rw[beq_eq_false_iff_ne];omega
  have aM:=C6x aA
  clear aA
  go_enter Tryz.func175,Tryz.ntmps175
  go_wp2_with fail
  all_goals
   go_ret
   refine⟨?_,rfl⟩
   rw[decide_eq_false]
   ·rfl
   ·exactλe=>aM.out (by rw[V.out,HM.out,e])
end
section
open Go.ChangeShapes Go.WideShapes Go.ChangeAt Go.RowKit
theorem B8P(l:List En):bE l=0\/bE l=2\/bE l=8:=by
 unfold bE
 split
 ·split
  ·exact .inl rfl
  ·exact .inr (.inr rfl)
 ·exact .inr (.inl rfl)
theorem B8Q(V n:Nat):(ptP V n).length<=n:=by
 have:=List.length_filterMap_le (prP V) (List.range n)
 rwa[List.length_range]at this
theorem C2g:∀rs:List (List Nat),(eP rs).length<=5 * rs.length
 |[]=>by simp[eP]
 |r::rs=>by
  have I:=C2g rs
  have J:=B8Q (byN r) 5
  simp only[eP,List.flatMap_cons,List.length_append,List.length_cons]at I⊢
  omega
theorem C1b(rs:List (List Nat))(j:Nat)(I:j<rs.length):eP (rs.take (j+1))=eP (rs.take j)++ptP (byN rs[j]) 5:=by
 unfold eP;rw[List.take_succ_eq_append_getElem I,List.flatMap_append,List.flatMap_singleton]
def A9P(w:World)(rs:List (List Nat))(x:Ending)(w':World):Prop:=∃A c,x= .returned (.tuple #[.slice A (A5c rs).length c,.int .i64 (B1w rs)])/\EnO w (A5c rs) (.slice A (A5c rs).length c) w'/\B0 B5 w B5 w'
theorem A9P.no{w w':World}{rs:List (List Nat)}{x:Ending}(h:¬okP rs)(V:x= .returned (.tuple #[.slice none 0 0,.int .i64 4]))(J:B0 B5 w B5 w'):A9P w rs x w':=by
 obtain⟨I,U⟩:=B3z h
 refine⟨none,0,by rw[V,I,U];rfl,?_,J⟩
 rw[I]
 exact(EnO.nil w).step J
def DeL(w:World)(rs:List (List Nat))(t4 t14:Value)(wr:World):Prop:=∃j:Nat,t14= .int .i64 (j:Int)/\j<=rs.length/\B8G (rs.take j)/\EnO w (eP (rs.take j)) t4 wr
theorem A9Q(v:Value)(rs:List (List Nat))(w:World)(h:RwD w v rs)(h8:B8N rs):Calls Tryz.prog 136 #[v] w (A9P w rs):=by
 obtain⟨A,c,rfl,bS,bR⟩:=h.form
 obtain⟨N,hN⟩:∃N,N=rs.length:=⟨_,rfl⟩
 rw[<-hN]at h⊢
 have HR:=C6x h
 have W:=C6x hN
 have H8:=C6x h8
 clear h hN h8 bS bR
 by_cases h5:N<=5
 ·have bQ:(N:Int)<=5:=by omega
  have bI:=C6x h5
  go_enter Tryz.func136,Tryz.ntmps136
  go_wp2_with fail
  go_loopw [4,14] (DeL w rs) (λ_ t _=>N-(intOf t).toNat)
  case atStart=>exact⟨0,rfl,Nat.zero_le _,λb hb=>by simp at hb,EnO.nil w⟩
  case round=>
   obtain⟨j,rfl,hj,aU,Y⟩:=hrel
   rw[<-W.out]at hj
   obtain⟨n,hn⟩:∃n,n=(eP (rs.take j)).length:=⟨_,rfl⟩
   have bM:=C6x (show n<=25 by
    rw[hn]
    have:=C2g (rs.take j)
    rw[List.length_take]at this
    omega)
   obtain⟨A4,c4,rfl⟩:=Y.form
   have aH:=C6x aU
   have HE:=C6x Y
   rw[<-hn]at HE⊢
   have aJ:=C6x hn
   clear aU Y hn
   by_cases aL:j<N
   ·have Z:j<rs.length:=by rw[<-W.out];exact aL
    obtain⟨b1,o1,a1,q1,rfl,aZ,g1,r1⟩:=(HR.out.step HE.out.adv).at_ Z
    have aG:∀x∈rs[j],x<256:=H8.out _ (List.getElem_mem Z)
    have aT:=C6x (C1b rs j Z)
    have aN:=C6x (show rs.take (j+1)=rs.take j++[rs[j]]from List.take_succ_eq_append_getElem Z)
    have aR:=C6x (List.getElem_mem Z)
    obtain⟨p,hp⟩:∃p,p=rs[j]:=⟨_,rfl⟩
    rw[<-hp]at g1 r1 aG aT aN aR
    have aQ:=C6x aL
    by_cases aB:p.length=128
    ·rw[aB]at g1 r1
     have bP:=C6x (λw' (a:B0 B5 wr B5 w')=>B32 _ p w' (r1.far (λ_ _ _ hl=>a.block _ hl (λx=>x)) a.size) aB aG)
     have bD:=C6x aB
     clear Z aG hp r1 aB aZ
     go_wp2_with (first
      |(go_at_call 173;refine(bP.out _ (B0.refl _ _)).mono ?_;rintro x w2 ⟨v2,rfl,h2⟩;obtain⟨A2,c2,rfl⟩:=h2.form;have V:=C6x h2;have aE:=(HE.out.step h2.adv).more h2.rd.sz;rw[<-aJ.out]at aE;have bC:=h2.rd.rd;have aY:=B8Q (byN p) 5;have bK:=C6x aE.2;have bA:=aE.1;have bH:=C6x aY;clear aY aE h2)
      |(at_builtin;refine R0 rfl (.tmp 21) (.tmp 23) rfl rfl rfl bA bC (A4s _) (by have:=bM.out;have:=bH.out;omega) ?c5)
      |fail)
     case c5=>
      intro v' w5 bB aX aV
      have aF:=bK.out w2 v' w5 (B0.refl _ _) bB aX aV
      rw[<-aT.out]at aF
      have bO:=C6x aF
      obtain⟨A5,c5,rfl⟩:=aF.form
      clear aF bB aX aV bA bC
      go_wp2_with fail
      refine⟨⟨j+1,by go_num,by rw[<-W.out];exact aQ.out,?_,bO.out⟩,by have:=aQ.out;simp[intOf]<;>omega⟩
      rw[aN.out]
      intro b hb
      rcases List.mem_append.1 hb with h'|h'
      ·exact aH.out b h'
      ·rw[List.mem_singleton.1 h'];exact bD.out
    ·have bV:((p.length:Int)==128)=false:=by rw[beq_eq_false_iff_ne];omega
     have X:=C6x (show¬okP rs fromλo=>aB (o.2.1 p aR.out))
     clear Z aG hp r1 aB aZ
     go_wp2_with fail
     go_ret2
     exact A9P.no X.out rfl HE.out.adv
   ·obtain rfl:j=N:=by omega
    have aK:=aH.out
    have aD:=HE.out
    rw[List.take_of_length_le (by rw[<-W.out];exact Nat.le_refl _)]at aK aD
    have aM:=aJ.out
    rw[List.take_of_length_le (by rw[<-W.out];exact Nat.le_refl _)]at aM
    have bF:=C6x aK
    have V:=C6x aD
    have aS:=C6x aM
    have aA:=C6x (B16 _ _ wr aD.rd)
    have aW:=B8P (eP rs)
    have bJ:=C6x (show rs.length<=5 by rw[<-W.out];exact bI.out)
    clear aK aD aM aL hj aH HE aJ
    obtain⟨E,Y⟩:∃E,E=bE (eP rs):=⟨_,rfl⟩
    have aC:=C6x Y
    unfold C4B at aA
    rw[<-Y]at aW aA
    clear Y
    rcases aW with rfl|rfl|rfl
    ·obtain⟨B,hB⟩:∃B,B=decide (bL (eP rs)=rs):=⟨_,rfl⟩
     have aO:=C6x hB
     have aP:=C6x (λA n c w' (h:RwD w' (.slice A n c) (bL (eP rs))) (a:B0 B5 wr B5 w')=>show Calls Tryz.prog 175 _ w' λx bU=>x= .returned (.bool B)/\w'=bU by rw[hB];exact B36 _ _ _ _ w' h ((HR.out.step V.out.adv).step a) (C5q _) H8.out)
     clear hB
     cases B with
     |true=>
      go_wp2_with (first
       |(go_at_call 174;refine aA.out.mono ?_;rintro x w6 ⟨A6,n6,c6,rfl,J,I⟩;have aI:=C6x (aP.out A6 n6 c6 w6 J I);have U:=C6x (V.out.adv.trans I);have bG:=C6x (V.out.step I);clear J I)
       |(go_at_call 175;refine aI.out.mono ?_;rintro x w7 ⟨rfl,rfl⟩)
       |fail)
      go_ret2
      have bT:okP rs:=⟨bJ.out,bF.out,aC.out.symm,by have:=of_decide_eq_true aO.out.symm;rwa[B4G aC.out.symm]at this⟩
      obtain⟨e1,e2⟩:=A6h bT
      refine⟨A4,c4,by rw[e1,e2,<-aS.out];rfl,?_,U.out⟩
      rw[e1,<-aS.out]
      exact bG.out
     |false=>
      go_wp2_with (first
       |(go_at_call 174;refine aA.out.mono ?_;rintro x w6 ⟨A6,n6,c6,rfl,J,I⟩;have aI:=C6x (aP.out A6 n6 c6 w6 J I);have U:=C6x (V.out.adv.trans I);clear J I)
       |(go_at_call 175;refine aI.out.mono ?_;rintro x w7 ⟨rfl,rfl⟩)
       |fail)
      go_ret2
      exact A9P.no (λo=>of_decide_eq_false aO.out.symm (by rw[B4G aC.out.symm];exact o.2.2.2)) rfl U.out
    ·have X:=C6x (show¬okP rs fromλo=>by have:=aC.out.trans o.2.2.1;exact absurd this (by decide))
     go_wp2_with (first
      |(go_at_call 174;refine aA.out.mono ?_;rintro x w6 ⟨A6,n6,c6,rfl,J,I⟩;have U:=C6x (V.out.adv.trans I);clear J I)
      |fail)
     go_ret2
     exact A9P.no X.out rfl U.out
    ·have X:=C6x (show¬okP rs fromλo=>by have:=aC.out.trans o.2.2.1;exact absurd this (by decide))
     go_wp2_with (first
      |(go_at_call 174;refine aA.out.mono ?_;rintro x w6 ⟨A6,n6,c6,rfl,J,I⟩;have U:=C6x (V.out.adv.trans I);clear J I)
      |fail)
     go_ret2
     exact A9P.no X.out rfl U.out
 ·have bQ:(5:Int)<(N:Int):=by omega
  have X:=C6x (show¬okP rs fromλo=>h5 (by rw[W.out];exact o.1))
  clear h5
  go_enter Tryz.func136,Tryz.ntmps136
  go_wp2_with fail
  go_ret2
  exact A9P.no X.out rfl (B0.refl _ _)
end
section
def Ris(l:List En):Prop:=l.Pairwise (λa b=>ltS a.s b.s)
def lo(s:ByteArray)(l:List En):List En:=l.filter (λx=>decide (ltS x.s s))
def hi(s:ByteArray)(l:List En):List En:=l.filter (λx=>decide (ltS s x.s))
structure A0V (l:List En) (s:ByteArray) (p:Nat) (F:Bool):Prop where
 le:p<=l.length
 lt:∀(k:Nat) (x:En),l[k]? =some x->k<p->ltS x.s s
 ge:∀(k:Nat) (x:En),l[k]? =some x->p<=k->¬ltS x.s s
 at_:F=true↔∃x,l[p]? =some x/\x.s=s
theorem Ris.lt{l:List En}(h:Ris l){i j:Nat}{x y:En}(hi:l[i]? =some x) (hj:l[j]? =some y) (hij:i<j):ltS x.s y.s:=by
 obtain⟨I,rfl⟩:=List.getElem?_eq_some_iff.1 hi
 obtain⟨J,rfl⟩:=List.getElem?_eq_some_iff.1 hj
 exact List.pairwise_iff_getElem.1 h i j I J hij
theorem A0V.lo_eq{l:List En}{s:ByteArray}{p:Nat}{F:Bool}(h:A0V l s p F):l.take p=lo s l:=by
 unfold lo
 conv=>rhs;rw[<-List.take_append_drop p l,List.filter_append]
 rw[List.filter_eq_self.2,List.filter_eq_nil_iff.2,List.append_nil]
 ·intro x U
  obtain⟨k,I,rfl⟩:=List.mem_iff_getElem.1 U
  have J:l[p+k]? =some (l.drop p)[k]:=by rw[<-List.getElem?_drop];exact List.getElem?_eq_getElem I
  simpa using h.ge _ _ J (by omega)
 ·intro x U
  obtain⟨k,I,rfl⟩:=List.mem_iff_getElem.1 U
  have V:k<p:=by rw[List.length_take]at I;omega
  have J:l[k]? =some (l.take p)[k]:=by
   rw[<-List.getElem?_eq_getElem I,List.getElem?_take,if_pos V]
  simpa using h.lt _ _ J V
theorem A0V.hi_eq{l:List En}{s:ByteArray}{p:Nat}{F:Bool}(h:A0V l s p F)(Z:Ris l):l.drop (if F then p+1 else p)=hi s l:=by
 have aA:∀q,p<=q->q<=p+1->q<=l.length->(∀k x,l[k]? =some x->k<q->¬ltS s x.s)->(∀k x,l[k]? =some x->q<=k->ltS s x.s)->l.drop q=hi s l:=by
  intro q _ _ _ U h2
  unfold hi
  conv=>rhs;rw[<-List.take_append_drop q l,List.filter_append]
  rw[List.filter_eq_nil_iff.2,List.nil_append,List.filter_eq_self.2]
  ·intro x I
   obtain⟨k,J,rfl⟩:=List.mem_iff_getElem.1 I
   have h3:l[q+k]? =some (l.drop q)[k]:=by rw[<-List.getElem?_drop];exact List.getElem?_eq_getElem J
   simpa using h2 _ _ h3 (by omega)
  ·intro x I
   obtain⟨k,J,rfl⟩:=List.mem_iff_getElem.1 I
   have X:k<q:=by rw[List.length_take]at J;omega
   have h3:l[k]? =some (l.take q)[k]:=by rw[<-List.getElem?_eq_getElem J,List.getElem?_take,if_pos X]
   simpa using U _ _ h3 X
 cases hF:F with
 |true=>
  obtain⟨y,V,hs⟩:=h.at_.1 hF
  have W:=(List.getElem?_eq_some_iff.1 V).1
  rw[if_pos rfl]
  refine aA (p+1) (by omega) (by omega) (by omega) (λk x I J=>?_) (λk x I J=>?_)
  ·by_cases e:k=p
   ·subst e;rw[V]at I;obtain rfl:=Option.some.inj I;rw[hs];exact Z0 s
   ·exact A1z (h.lt k x I (by omega))
  ·rw[<-hs];exact Z.lt V I (by omega)
 |false=>
  rw[if_neg (by decide)]
  refine aA p (by omega) (by omega) h.le (λk x I J=>A1z (h.lt k x I J)) (λk x I J=>?_)
  have Y:∀y,l[p]? =some y->ltS s y.s:=λy V=>by
   rcases A9H y.s s with U|U|U
   ·exact absurd U (h.ge p y V (Nat.le_refl _))
   ·exact absurd (h.at_.2 ⟨y,V,U⟩) (by rw[hF];decide)
   ·exact U
  by_cases e:k=p
  ·subst e;exact Y x I
  ·have aB:=(List.getElem?_eq_some_iff.1 I).1
   have W:p<l.length:=by omega
   exact A0a (Y _ (List.getElem?_eq_getElem W)) (Z.lt (List.getElem?_eq_getElem W) I (by omega))
theorem A0V.eq_at{l:List En}{s:ByteArray}{p:Nat}{F:Bool}(h:A0V l s p F)(Y:Ris l){k:Nat}{x:En}(I:l[k]? =some x):decide (x.s=s)=(decide (k=p)&&F):=by
 by_cases e:k=p
 ·subst e
  rw[decide_eq_true (rfl:k=k),Bool.true_and]
  cases hF:F with
  |true=>
   obtain⟨y,W,Z⟩:=h.at_.1 hF
   rw[I]at W;obtain rfl:=Option.some.inj W
   exact decide_eq_true Z
  |false=>exact decide_eq_false λe=>by have:=h.at_.2 ⟨x,I,e⟩;rw[hF]at this;exact absurd this (by decide)
 ·rw[decide_eq_false e,Bool.false_and]
  refine decide_eq_false λJ=>?_
  by_cases X:k<p
  ·have:=h.lt k x I X;rw[J]at this;exact Z0 s this
  ·have aA:=(List.getElem?_eq_some_iff.1 I).1
   have V:p<l.length:=by omega
   have U:=Y.lt (List.getElem?_eq_getElem V) I (by omega)
   rw[J]at U
   exact h.ge p _ (List.getElem?_eq_getElem V) (Nat.le_refl _) U
theorem Ris.tail{x:En}{l:List En}(h:Ris (x::l)):Ris l:=(List.pairwise_cons.1 h).2
theorem C2h{s:ByteArray}{l:List En}(h:∀y∈l,ltS s y.s):lo s l=[]/\hi s l=l/\l.filter (λx=> !decide (x.s=s))=l:=by
 unfold lo hi
 refine⟨List.filter_eq_nil_iff.2 λy I=>by simpa using A1z (h y I),List.filter_eq_self.2 λy I=>by simpa using h y I,List.filter_eq_self.2 λy I=>?_⟩
 have:=h y I
 simp only[Bool.not_eq_true',decide_eq_false_iff_not]
 intro e;rw[e]at this;exact Z0 s this
theorem B4L(s:ByteArray):∀{l:List En},Ris l->l.filter (λx=> !decide (x.s=s))=lo s l++hi s l
 |[],_=>rfl
 |x::l,h=>by
  have Y:=(List.pairwise_cons.1 h).1
  rcases A9H x.s s with c|c|c
  ·have Z:=B4L s h.tail
   have W:¬x.s=s:=λe=>by rw[e]at c;exact Z0 s c
   have X:¬ltS s x.s:=A1z c
   unfold lo hi at Z⊢
   simp only[List.filter_cons,decide_eq_true c,decide_eq_false W,decide_eq_false X,Bool.not_false,if_true,Z,List.cons_append,Bool.false_eq_true,if_false]
  ·obtain⟨J,U,V⟩:=C2h (s:=s) (l:=l) (λy I=>by rw[<-c];exact Y y I)
   have W:¬ltS x.s s:=by rw[c];exact Z0 s
   have X:¬ltS s x.s:=by rw[c];exact Z0 s
   unfold lo at J⊢
   unfold hi at U⊢
   simp only[List.filter_cons,decide_eq_true c,decide_eq_false W,decide_eq_false X,Bool.not_true,Bool.false_eq_true,if_false,J,U,V,List.nil_append]
  ·obtain⟨J,U,V⟩:=C2h (s:=s) (l:=x::l) (λy I=>by
    rcases List.mem_cons.1 I with rfl|I
    ·exact c
    ·exact A0a c (Y y I))
   rw[J,U,V,List.nil_append]
theorem Ris.lo{l:List En}(h:Ris l)(s:ByteArray):Ris (lo s l):=List.Pairwise.filter _ h
theorem Ris.hi{l:List En}(h:Ris l)(s:ByteArray):Ris (hi s l):=List.Pairwise.filter _ h
def S9(l:List En)(e:En):List En:=lo e.s l++e::hi e.s l
def dropL(l:List En)(s:ByteArray):List En:=lo s l++hi s l
theorem A9R{s:ByteArray}{l:List En}{x:En}(h:x∈lo s l):x∈l/\ltS x.s s:=by
 unfold lo at h;rw[List.mem_filter]at h;exact⟨h.1,by simpa using h.2⟩
theorem A9S{s:ByteArray}{l:List En}{x:En}(h:x∈hi s l):x∈l/\ltS s x.s:=by
 unfold hi at h;rw[List.mem_filter]at h;exact⟨h.1,by simpa using h.2⟩
theorem Ris.put{l:List En}(h:Ris l)(e:En):Ris (S9 l e):=by
 unfold S9 Ris
 rw[List.pairwise_append,List.pairwise_cons]
 refine⟨h.lo _,⟨λy I=>(A9S I).2,h.hi _⟩,λx J y I=>?_⟩
 rcases List.mem_cons.1 I with rfl|I
 ·exact(A9R J).2
 ·exact A0a (A9R J).2 (A9S I).2
theorem A9T(s:ByteArray)(l:List En):(lo s l).length+(hi s l).length<=l.length:=by
 induction l with
 |nil=>exact Nat.le_refl _
 |cons x l ih=>
  unfold lo hi at ih⊢
  simp only[List.filter_cons]
  by_cases c:ltS x.s s
  ·rw[decide_eq_true c,decide_eq_false (A1z c)]
   simp only[if_true,Bool.false_eq_true,if_false,List.length_cons]
   omega
  ·rw[decide_eq_false c]
   by_cases d:ltS s x.s
   ·rw[decide_eq_true d];simp only[if_true,Bool.false_eq_true,if_false,List.length_cons];omega
   ·rw[decide_eq_false d];simp only[Bool.false_eq_true,if_false,List.length_cons];omega
theorem A9U(l:List En)(s:ByteArray):(dropL l s).length<=l.length:=by
 have:=A9T s l
 unfold dropL;simp only[List.length_append];omega
theorem C1c{l:List En}{e x:En}(h:x∈S9 l e):x∈l\/x=e:=by
 rcases List.mem_append.1 h with h|h
 ·exact .inl (A9R h).1
 ·rcases List.mem_cons.1 h with rfl|h
  ·exact .inr rfl
  ·exact .inl (A9S h).1
theorem B69{l:List En}{s:ByteArray}{x:En}(h:x∈dropL l s):x∈l:=by
 rcases List.mem_append.1 h with h|h
 ·exact(A9R h).1
 ·exact(A9S h).1
end
section
open Go.RowKit
theorem A8G(s:ByteArray)(n:Nat)(w:World)(J:n<=1000000000)(_hs:s.size<=maxLen):
 Calls Tryz.prog 30 #[.string s,.int .i64 n] w λe w'=>e= .returned (.string (if n<s.size then s.extract 0 n else s))/\w=w':=by
 by_cases h:n<s.size
 ·rw[if_pos h]
  have I:(n:Int)<(s.size:Int):=by omega
  go_enter Tryz.func30,Tryz.ntmps30
  go_wp2
  go_ret
  exact⟨rfl,rfl⟩
 ·rw[if_neg h]
  have I:(s.size:Int)<=(n:Int):=by omega
  go_enter Tryz.func30,Tryz.ntmps30
  go_wp2
  go_ret
  exact⟨rfl,rfl⟩
end
section
open Go.ChangeShapes Go.WideShapes Go.ChangeAt Go.RowKit
end
section
open Go.ChangeShapes Go.WideShapes Go.ChangeAt Go.RowKit
instance:DecidableEq En:=λa b=>decidable_of_iff (a.s=b.s/\a.i=b.i/\a.g=b.g/\a.k=b.k) ⟨λh=>by cases a;cases b;simp_all,λh=>by subst h;exact⟨rfl,rfl,rfl,rfl⟩⟩
end
end Go.Proofs.YtbefmjiclpobjaaGreat
