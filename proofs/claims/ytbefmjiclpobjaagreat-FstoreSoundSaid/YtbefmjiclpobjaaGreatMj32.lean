import Derived.Test.YtbefmjiclpobjaaGreatMj31
import Derived.Test.YtbefmjiclpobjaaGreatMj08
import Derived.Test.YtbefmjiclpobjaaGreatMj25
import Derived.Test.YtbefmjiclpobjaaGreatMj26
namespace Go.Proofs.YtbefmjiclpobjaaGreat
section
open Go.RowKit
theorem A6m{l:List En}(h:Ris l){x y:En}(W:x∈l)(Y:y∈l)(e:x.s=y.s):x=y:=by
 obtain⟨i,hi,X⟩:=List.getElem_of_mem W
 obtain⟨j,U,Z⟩:=List.getElem_of_mem Y
 have J:l[i]? =some x:=by rw[List.getElem?_eq_getElem hi,X]
 have I:l[j]? =some y:=by rw[List.getElem?_eq_getElem U,Z]
 rcases Nat.lt_trichotomy i j with c|c|c
 ·have:=h.lt J I c;rw[e]at this;exact absurd this (Z0 _)
 ·subst c;rw[J]at I;exact Option.some.inj I
 ·have:=h.lt I J c;rw[e]at this;exact absurd this (Z0 _)
theorem Tr.congr{A B:As}(h:Tr A)(W:∀i,(B.n i).k=(A.n i).k)(Y:∀i,(B.n i).g=(A.n i).g)(U:∀i x,x∈(B.n i).l↔x∈(A.n i).l):Tr B:=by
 refine⟨by rw[W,Y];exact h.root,λi x I J X=>?_,λi x Z x' I J h3 h4 X aB=>h.one i x Z x' I J h3 h4 ((U i x).1 X) ((U Z x').1 aB),λc I J aA hc=>?_⟩
 ·rw[W,Y]
  exact h.ent i x I J ((U i x).1 X)
 ·obtain⟨i,x,e1,e2,e3,e4⟩:=h.par c I J (by rw[<-W];exact aA) hc
  exact⟨i,x,e1,e2,(U i x).2 e3,e4⟩
theorem Tr.wri{A:As}(h:Tr A)(i j:Nat)(d:ByteArray):Tr (A1h A i j d):=
 h.congr (λk=>by unfold A1h As.up;simp only;split<;>simp_all[Nd.inc,Nd.bk]) (λk=>by unfold A1h As.up;simp only;split<;>simp_all[Nd.inc,Nd.bk]) (λk x=>by unfold A1h As.up;simp only;split<;>simp_all[Nd.inc,Nd.bk])
theorem Tr.tru{A:As}(h:Tr A)(i:Nat):Tr (A5U A i):=
 h.congr (λk=>by unfold A5U As.up;simp only;split<;>simp_all[Nd.inc,Nd.bk]) (λk=>by unfold A5U As.up;simp only;split<;>simp_all[Nd.inc,Nd.bk]) (λk x=>by unfold A5U As.up;simp only;split<;>simp_all[Nd.inc,Nd.bk])
theorem Tr.drop{A B:As}(h:Tr A){D y:Nat}{x0:En}(X:1<=D/\D<=40)(aC:x0∈(A.n D).l)(Z:x0.i.toNat=y)(W:∀i x,x∈(B.n i).l↔x∈(A.n i).l/\¬(i=D/\x=x0))(Y:∀i,i≠y->(B.n i).k=(A.n i).k/\(B.n i).g=(A.n i).g)(hz:(B.n y).k=0):Tr B:=by
 have aD:y≠1:=by rw[<-Z];exact(h.ent D x0 X.1 X.2 aC).2.2
 have aE:∀i x,1<=i->i<=40->x∈(B.n i).l->x.i.toNat≠y:=λi x I J U e=>by
  obtain⟨m,n⟩:=(W i x).1 U
  exact n (h.one i x D x0 I J X.1 X.2 m aC (by rw[e,Z]))
 refine⟨by rw[(Y 1 aD.symm).1,(Y 1 aD.symm).2];exact h.root,λi x I J U=>?_,λi x i' x' I J h3 h4 U aF=>h.one i x i' x' I J h3 h4 ((W i x).1 U).1 ((W i' x').1 aF).1,λc I J aB hc=>?_⟩
 ·have:=Y _ (aE i x I J U)
  rw[this.1,this.2]
  exact h.ent i x I J ((W i x).1 U).1
 ·have aA:c≠y:=λe=>aB (by rw[e];exact hz)
  obtain⟨i,x,e1,e2,e3,e4⟩:=h.par c I J (by rw[<-(Y c aA).1];exact aB) hc
  exact⟨i,x,e1,e2,(W i x).2 ⟨e3,λ⟨_,e6⟩=>aA (by rw[<-e4,e6,Z])⟩,e4⟩
theorem Tr.move{A B:As}(h:Tr A){D D2:Nat}{x0 e:En}(hD:1<=D/\D<=40)(aB:1<=D2/\D2<=40)(aE:x0∈(A.n D).l)(Z:e.i=x0.i/\e.g=x0.g/\e.k=x0.k)(Y:∀i x,x∈(B.n i).l↔(i=D2/\x=e)\/(x∈(A.n i).l/\¬(i=D/\x=x0)))(hk:∀i,(B.n i).k=(A.n i).k/\(B.n i).g=(A.n i).g):Tr B:=by
 have h0:=h.ent D x0 hD.1 hD.2 aE
 have aC:∀i x,1<=i->i<=40->x∈(A.n i).l->¬(i=D/\x=x0)->x.i.toNat≠e.i.toNat:=λi x I J U hn e1=>
  hn (h.one i x D x0 I J hD.1 hD.2 U aE (by rw[e1,Z.1]))
 refine⟨by rw[(hk 1).1,(hk 1).2];exact h.root,λi x I J U=>?_,λi x i' x' I J h3 h4 U aD aA=>?_,λc I J aF hc=>?_⟩
 ·rw[(hk _).1,(hk _).2]
  rcases(Y i x).1 U with⟨_,e2⟩|⟨m,_⟩
  ·rw[e2,Z.1,Z.2.1,Z.2.2];exact h0
  ·exact h.ent i x I J m
 ·rcases(Y i x).1 U with⟨a1,a2⟩|⟨a1,a2⟩
  ·rcases(Y i' x').1 aD with⟨W,X⟩|⟨W,X⟩
   ·exact⟨a1.trans W.symm,a2.trans X.symm⟩
   ·exact absurd (by rw[<-aA,a2]) (aC i' x' h3 h4 W X)
  ·rcases(Y i' x').1 aD with⟨W,X⟩|⟨W,X⟩
   ·exact absurd (by rw[aA,X]) (aC i x I J a1 a2)
   ·exact h.one i x i' x' I J h3 h4 a1 W aA
 ·obtain⟨i,x,e1,e2,e3,e4⟩:=h.par c I J (by rw[<-(hk c).1];exact aF) hc
  by_cases U:i=D/\x=x0
  ·exact⟨D2,e,aB.1,aB.2,(Y D2 e).2 (.inl ⟨rfl,rfl⟩),by rw[Z.1,<-U.2,e4]⟩
  ·exact⟨i,x,e1,e2,(Y i x).2 (.inr ⟨e3,U⟩),e4⟩
theorem Tr.more{A B:As}(h:OkA A){D c:Nat}{e:En}(hD:1<=D/\D<=40)(aC:(A.n c).k=0)(Z:e.i.toNat=c)(W:∀i x,x∈(B.n i).l↔(i=D/\x=e)\/x∈(A.n i).l)(hk:∀i,i≠c->(B.n i).k=(A.n i).k/\(B.n i).g=(A.n i).g)(aE:(B.n c).k=e.k/\(B.n c).g=e.g):Tr B:=by
 have aA:c≠1:=λx=>by rw[x,h.tr.root.1]at aC;cases aC
 have aD:∀i x,1<=i->i<=40->x∈(A.n i).l->x.i.toNat≠c:=λi x I J X e1=>by
  obtain⟨o1,_,_,o2⟩:=h.okE I J X
  exact o2.2.2.1 (by rw[e1];exact aC)
 refine⟨by rw[(hk 1 aA.symm).1,(hk 1 aA.symm).2];exact h.tr.root,λi x I J X=>?_,λi x i' x' I J h3 h4 X aG aB=>?_,λq I J aH hq=>?_⟩
 ·rcases(W i x).1 X with⟨_,e2⟩|m
  ·rw[e2,Z];exact⟨aE.1,aE.2,aA⟩
  ·have:=hk _ (aD i x I J m)
   rw[this.1,this.2]
   exact h.tr.ent i x I J m
 ·rcases(W i x).1 X with⟨Y,a2⟩|Y
  ·rcases(W i' x').1 aG with⟨U,b2⟩|U
   ·exact⟨Y.trans U.symm,a2.trans b2.symm⟩
   ·exact absurd (by rw[<-aB,a2,Z]) (aD i' x' h3 h4 U)
  ·rcases(W i' x').1 aG with⟨U,b2⟩|U
   ·exact absurd (by rw[aB,b2,Z]) (aD i x I J Y)
   ·exact h.tr.one i x i' x' I J h3 h4 Y U aB
 ·by_cases aF:q=c
  ·exact⟨D,e,hD.1,hD.2,(W D e).2 (.inl ⟨rfl,rfl⟩),by rw[Z,aF]⟩
  ·obtain⟨i,x,e1,e2,e3,e4⟩:=h.tr.par q I J (by rw[<-(hk q aF).1];exact aH) hq
   exact⟨i,x,e1,e2,(W i x).2 (.inr e3),e4⟩
section
variable {A:As}
theorem Tr.cre(h:OkA A){i g:Int}(ht:T4 A i g){s:ByteArray}(hs:Y5 (A.n i.toNat).l s=none){I:Int}{j:Nat}(hj:A22 A=some j):Tr (V5 A i s I j):=by
 obtain⟨r1,r2⟩:=N8 ht
 obtain⟨j1,U,j3⟩:=A2Y hj
 have J:i.toNat≠1+j:=λe=>ht.2.2.1 (by rw[e];exact U)
 have aB:=h.ok (1+j) (by omega) (by omega)
 have aA:(A.n (1+j)).l=[]:=aB.nol (by rw[U];decide)
 have Z:(V5 A i s I j).n i.toNat=((A.n i.toNat).ls (S9 (A.n i.toNat).l ⟨s,((1+j:Nat):Int),(A.n (1+j)).g+1,I⟩)).inc:=by
  unfold V5
  simp only
  rw[As.up_at,As.up_at]
 have Y:(V5 A i s I j).n (1+j)=Nd.new I ((A.n (1+j)).g+1):=by
  unfold V5
  simp only
  rw[As.up_ne _ _ J.symm,As.up_ne _ _ J.symm,As.up_at]
 have hO:∀k,k≠i.toNat->k≠1+j->(V5 A i s I j).n k=A.n k:=λk X h2=>by
  unfold V5
  simp only
  rw[As.up_ne _ _ X,As.up_ne _ _ X,As.up_ne _ _ h2]
 refine Tr.more (B:=V5 A i s I j) (D:=i.toNat) (c:=1+j) (e:=⟨s,((1+j:Nat):Int),(A.n (1+j)).g+1,I⟩) h ⟨r1,r2⟩ U (Int.toNat_natCast _) (λk x=>?_) (λk hk=>?_) (by rw[Y];exact⟨rfl,rfl⟩)
 ·by_cases e:k=i.toNat
  ·rw[e,Z]
   show x∈S9 _ _↔_
   rw[B2r]
   constructor
   ·rintro(y|⟨y,_⟩)
    ·exact .inl ⟨rfl,y⟩
    ·exact .inr y
   ·rintro(⟨_,y⟩|y)
    ·exact .inl y
    ·exact .inr ⟨y,B2q hs x y⟩
  ·by_cases W:k=1+j
   ·rw[W,Y,aA]
    show x∈[]↔_
    constructor
    ·intro y;simp at y
    ·rintro(⟨y,_⟩|y)
     ·exact absurd y.symm J
     ·exact y
   ·rw[hO k e W]
    constructor
    ·exact .inr
    ·rintro(⟨y,_⟩|y)
     ·exact absurd y e
     ·exact y
 ·by_cases e:k=i.toNat
  ·rw[e,Z];exact⟨rfl,rfl⟩
  ·rw[hO k e hk];exact⟨rfl,rfl⟩
theorem Tr.rem(h:OkA A){i g:Int}(ht:T4 A i g){s:ByteArray}{x:En}(hx:Y5 (A.n i.toNat).l s=some x)(hl:(A.n x.i.toNat).l=[]):Tr (A1Q A i s x):=by
 obtain⟨r1,r2⟩:=N8 ht
 obtain⟨J,m2⟩:=A00 hx
 have aA:i.toNat≠x.i.toNat:=λe=>by rw[e,hl]at J;simp at J
 have aB:=A8H (h.ok _ r1 r2).rise
 have Y:(A1Q A i s x).n i.toNat=((A.n i.toNat).ls (dropL (A.n i.toNat).l s)).inc:=by
  unfold A1Q
  simp only
  rw[As.up_at,As.up_at]
 have hY:(A1Q A i s x).n x.i.toNat=Nd.gone x.g:=by
  unfold A1Q
  simp only
  rw[As.up_ne _ _ aA.symm,As.up_ne _ _ aA.symm,As.up_at]
 have Z:∀k,k≠i.toNat->k≠x.i.toNat->(A1Q A i s x).n k=A.n k:=λk X h2=>by
  unfold A1Q
  simp only
  rw[As.up_ne _ _ X,As.up_ne _ _ X,As.up_ne _ _ h2]
 refine Tr.drop (B:=A1Q A i s x) (D:=i.toNat) (y:=x.i.toNat) (x0:=x) h.tr ⟨r1,r2⟩ J rfl (λk z=>?_) (λk hk=>?_) (by rw[hY];rfl)
 ·by_cases e:k=i.toNat
  ·rw[e,Y]
   show z∈dropL _ _↔_
   rw[A05]
   constructor
   ·rintro⟨y,I⟩
    exact⟨y,λ⟨_,U⟩=>I (by rw[U];exact m2)⟩
   ·rintro⟨y,I⟩
    exact⟨y,λU=>I ⟨rfl,A6m aB y J (by rw[U,m2])⟩⟩
  ·by_cases W:k=x.i.toNat
   ·rw[W,hY,hl]
    show z∈[]↔_
    simp
   ·rw[Z k e W]
    exact⟨λy=>⟨y,λI=>e I.1⟩,λy=>y.1⟩
 ·by_cases e:k=i.toNat
  ·rw[e,Y];exact⟨rfl,rfl⟩
  ·rw[Z k e hk];exact⟨rfl,rfl⟩
theorem C4P(A:As){i i2:Nat}(s t:ByteArray)(x:En)(I:Option En)(y1:∀y,I=some y->y.i.toNat≠i)(y2:∀y,I=some y->y.i.toNat≠i2):
 ((Z3 A i i2 s t x I).n i2).l=A8o A i i2 s t x/\(i2≠i->((Z3 A i i2 s t x I).n i).l=dropL (A.n i).l s)/\(∀k,k≠i->k≠i2->(Z3 A i i2 s t x I).n k=(A.opt I).n k)/\(∀k,(k=i\/k=i2)->((Z3 A i i2 s t x I).n k).k=(A.n k).k/\((Z3 A i i2 s t x I).n k).g=(A.n k).g):=by
 have Z:(A.opt I).n i=A.n i:=A1i y1
 have Y:(A.opt I).n i2=A.n i2:=A1i y2
 unfold Z3 A8o
 simp only
 rw[Z]
 by_cases e:i2=i
 ·subst e
  rw[if_pos rfl,if_pos rfl]
  refine⟨by rw[As.up_at,As.up_at,As.up_at];rfl,λx=>absurd rfl x,λk J _=>by rw[As.up_ne _ _ J,As.up_ne _ _ J,As.up_ne _ _ J],λk W=>?_⟩
  have:k=i2:=by rcases W with x|x<;>exact x
  subst this
  rw[As.up_at,As.up_at,As.up_at]
  exact⟨rfl,rfl⟩
 ·rw[if_neg e,if_neg e]
  have U:i≠i2:=λx=>e x.symm
  refine⟨?_,λ_=>?_,λk J X=>by rw[As.up_ne _ _ X,As.up_ne _ _ J,As.up_ne _ _ X,As.up_ne _ _ J],λk W=>?_⟩
  ·rw[As.up_at,As.up_ne _ _ e,As.up_at,As.up_ne _ _ e,Y]
   rfl
  ·rw[As.up_ne _ _ U,As.up_at,As.up_ne _ _ U,As.up_at]
   rfl
  ·rcases W with rfl|rfl
   ·rw[As.up_ne _ _ U,As.up_at,As.up_ne _ _ U,As.up_at]
    exact⟨rfl,rfl⟩
   ·rw[As.up_at,As.up_ne _ _ e,As.up_at,As.up_ne _ _ e,Y]
    exact⟨rfl,rfl⟩
theorem Tr.ren(h:OkA A){i g i2 g2:Int}(ha:T4 A i g)(hb:T4 A i2 g2){s t:ByteArray}{x:En}(hx:Y5 (A.n i.toNat).l s=some x)(aF:¬(i.toNat=i2.toNat/\s=t))(hy:∀y,Y5 (A.n i2.toNat).l t=some y->(A.n y.i.toNat).l=[]):
 Tr (Z3 A i.toNat i2.toNat s t x (Y5 (A.n i2.toNat).l t)):=by
 obtain⟨r1,r2⟩:=N8 ha
 obtain⟨q1,q2⟩:=N8 hb
 obtain⟨Y,Z⟩:=A00 hx
 have aE:=A8H (h.ok _ r1 r2).rise
 have aK:=A8H (h.ok _ q1 q2).rise
 obtain⟨U,aA⟩:∃U,U=Y5 (A.n i2.toNat).l t:=⟨_,rfl⟩
 rw[<-aA]at hy⊢
 have my:∀y,U=some y->y∈(A.n i2.toNat).l/\y.s=t:=λy e=>A00 (aA.symm.trans e)
 have y1:∀y,U=some y->y.i.toNat≠i.toNat:=λy e I=>by
  have:=hy y e
  rw[I]at this
  rw[this]at Y
  simp at Y
 have y2:∀y,U=some y->y.i.toNat≠i2.toNat:=λy e I=>by
  have h1:=hy y e
  rw[I]at h1
  have h2:=(my y e).1
  rw[h1]at h2
  simp at h2
 have yx:∀y,U=some y->y.i.toNat≠x.i.toNat:=λy e I=>by
  obtain⟨z1,z2⟩:=h.tr.one _ y _ x q1 q2 r1 r2 (my y e).1 Y I
  exact aF ⟨z1.symm,by rw[<-Z,<-z2];exact(my y e).2⟩
 obtain⟨N1,N2,N3,N4⟩:=C4P A (i:=i.toNat) (i2:=i2.toNat) s t x U y1 y2
 obtain⟨z,hz⟩:∃z:En,z=⟨t,x.i,x.g,x.k⟩:=⟨_,rfl⟩
 obtain⟨B,aI,aC,aB⟩:∃B:As,Tr B/\(∀k w,w∈(B.n k).l↔w∈(A.n k).l/\¬(k=i2.toNat/\w.s=t))/\∀k,(B.n k).k=((A.opt U).n k).k/\(B.n k).g=((A.opt U).n k).g:=by
  cases hyq:U with
  |none=>
   refine⟨A,h.tr,λk w=>⟨λm=>⟨m,λ⟨e1,I⟩=>?_⟩,λm=>m.1⟩,λk=>⟨rfl,rfl⟩⟩
   rw[e1]at m
   exact B2q (aA.symm.trans hyq) w m I
  |some y=>
   obtain⟨aG,aH⟩:=my y hyq
   have aD:=hy y hyq
   refine⟨(A.up y.i.toNat (Nd.gone y.g)).up i2.toNat ((A.n i2.toNat).ls (dropL (A.n i2.toNat).l t)),?_,?_,?_⟩
   ·refine Tr.drop (D:=i2.toNat) (y:=y.i.toNat) (x0:=y) h.tr ⟨q1,q2⟩ aG rfl (λk w=>?_) (λk X=>?_) ?_
    ·by_cases e:k=i2.toNat
     ·rw[e,As.up_at]
      show w∈dropL _ _↔_
      rw[A05]
      constructor
      ·rintro⟨v,J⟩
       exact⟨v,λ⟨_,W⟩=>J (by rw[W];exact aH)⟩
      ·rintro⟨v,J⟩
       exact⟨v,λW=>J ⟨rfl,A6m aK v aG (by rw[W,aH])⟩⟩
     ·rw[As.up_ne _ _ e]
      by_cases I:k=y.i.toNat
      ·rw[I,As.up_at,aD]
       show w∈[]↔_
       simp
      ·rw[As.up_ne _ _ I]
       exact⟨λv=>⟨v,λJ=>e J.1⟩,λv=>v.1⟩
    ·by_cases e:k=i2.toNat
     ·rw[e,As.up_at];exact⟨rfl,rfl⟩
     ·rw[As.up_ne _ _ e,As.up_ne _ _ X];exact⟨rfl,rfl⟩
    ·rw[As.up_ne _ _ (y2 y hyq),As.up_at];rfl
   ·intro k w
    by_cases e:k=i2.toNat
    ·rw[e,As.up_at]
     show w∈dropL _ _↔_
     rw[A05]
     exact⟨λv=>⟨v.1,λJ=>v.2 J.2⟩,λv=>⟨v.1,λJ=>v.2 ⟨rfl,J⟩⟩⟩
    ·rw[As.up_ne _ _ e]
     by_cases I:k=y.i.toNat
     ·rw[I,As.up_at,aD]
      show w∈[]↔_
      simp
     ·rw[As.up_ne _ _ I]
      exact⟨λv=>⟨v,λJ=>e J.1⟩,λv=>v.1⟩
   ·intro k
    by_cases e:k=i2.toNat
    ·rw[e,As.up_at]
     show _=((A.up y.i.toNat _).n i2.toNat).k/\_=((A.up y.i.toNat _).n i2.toNat).g
     rw[As.up_ne _ _ (λq=>y2 y hyq q.symm)]
     exact⟨rfl,rfl⟩
    ·rw[As.up_ne _ _ e];exact⟨rfl,rfl⟩
 have aL:x∈(B.n i.toNat).l:=(aC _ _).2 ⟨Y,λ⟨e1,I⟩=>aF ⟨e1,by rw[<-Z];exact I⟩⟩
 refine Tr.move (B:=Z3 A i.toNat i2.toNat s t x U) (D:=i.toNat) (D2:=i2.toNat) (x0:=x) (e:=z) aI ⟨r1,r2⟩ ⟨q1,q2⟩ aL (by rw[hz];exact⟨rfl,rfl,rfl⟩) (λk w=>?_) (λk=>?_)
 ·rw[aC]
  by_cases I:k=i2.toNat
  ·rw[I,N1]
   unfold A8o
   rw[B2r,<-hz]
   have aM:z.s=t:=by rw[hz]
   rw[aM]
   by_cases e:i2.toNat=i.toNat
   ·rw[if_pos e,A05,e]
    constructor
    ·rintro(v|⟨⟨v,J⟩,W⟩)
     ·exact .inl ⟨rfl,v⟩
     ·exact .inr ⟨⟨v,λq=>W q.2⟩,λq=>J (by rw[q.2];exact Z)⟩
    ·rintro(⟨_,v⟩|⟨⟨v,J⟩,W⟩)
     ·exact .inl v
     ·exact .inr ⟨⟨v,λq=>W ⟨rfl,A6m aE v Y (by rw[q,Z])⟩⟩,λq=>J ⟨rfl,q⟩⟩
   ·rw[if_neg e]
    constructor
    ·rintro(v|⟨v,W⟩)
     ·exact .inl ⟨rfl,v⟩
     ·exact .inr ⟨⟨v,λq=>W q.2⟩,λq=>e q.1⟩
    ·rintro(⟨_,v⟩|⟨⟨v,J⟩,_⟩)
     ·exact .inl v
     ·exact .inr ⟨v,λq=>J ⟨rfl,q⟩⟩
  ·by_cases e:k=i.toNat
   ·rw[e,N2 (λq=>I (by rw[e,q])),A05]
    constructor
    ·rintro⟨v,J⟩
     exact .inr ⟨⟨v,λq=>I (by rw[e];exact q.1)⟩,λq=>J (by rw[q.2];exact Z)⟩
    ·rintro(⟨v,_⟩|⟨⟨v,_⟩,W⟩)
     ·exact absurd (e.trans v) I
     ·exact⟨v,λq=>W ⟨rfl,A6m aE v Y (by rw[q,Z])⟩⟩
   ·rw[N3 k e I]
    have aJ:((A.opt U).n k).l=(A.n k).l:=by
     cases hyq:U with
     |none=>rfl
     |some y=>
      show((A.up y.i.toNat _).n k).l=_
      by_cases e3:k=y.i.toNat
      ·rw[e3,As.up_at,hy y hyq];rfl
      ·rw[As.up_ne _ _ e3]
    rw[aJ]
    constructor
    ·intro v
     exact .inr ⟨⟨v,λq=>I q.1⟩,λq=>e q.1⟩
    ·rintro(⟨v,_⟩|⟨⟨v,_⟩,_⟩)
     ·exact absurd v I
     ·exact v
 ·rw[(aB k).1,(aB k).2]
  by_cases X:k=i.toNat\/k=i2.toNat
  ·rw[(N4 k X).1,(N4 k X).2]
   rcases X with e|e
   ·rw[e,A1i y1];exact⟨rfl,rfl⟩
   ·rw[e,A1i y2];exact⟨rfl,rfl⟩
  ·rw[N3 k (λq=>X (.inl q)) (λq=>X (.inr q))];exact⟨rfl,rfl⟩
end
end
section
open Go.RowKit
theorem C1J(o:Option Hd):nx none o=o:=by
 cases o with
 |none=>rfl
 |some h=>
  show(if hZ.g<=h.g then some h else none)=some h
  exact if_pos (Nat.zero_le _)
theorem C31(s:DS)(p:Nat):U1 s p 2=nx (unO (isS s p) 0) (unO (isS s (p+1)) 1):=by
 rw[A36,A36]
 show nx (nx none _) _=_
 rw[C1J,Nat.add_zero]
end
section
open Go.RowKit
def two(I J:List Nat):Option Hd:=nx (unO I 0) (unO J 1)
theorem B9F{e:Nat}{h:Hd}(k:hOk e h):unO (A1b e h) (h.g%2)=some h:=A91 (B5N k) rfl
theorem B0r{A:Option Hd}{b:Hd}(I:(A.getD hZ).g<=b.g):nx A (some b)=some b:=if_pos I
theorem B0s{A:Option Hd}{b:Hd}(I:¬(A.getD hZ).g<=b.g):nx A (some b)=A:=if_neg I
theorem C4R{A B:Option Hd}{c:Hd}(h:nx A B=some c):(∀a,A=some a->a.g<=c.g)/\(∀b,B=some b->b.g<=c.g):=by
 cases B with
 |none=>
  have h:A=some c:=h
  exact⟨λa I=>by rw[h]at I;injection I with I;rw[I];exact Nat.le_refl _,λb J=>by simp at J⟩
 |some b=>
  by_cases U:(A.getD hZ).g<=b.g
  ·rw[B0r U]at h
   injection h with h
   subst h
   exact⟨λa I=>by rw[I]at U;exact U,λW J=>by injection J with J;rw[J];exact Nat.le_refl _⟩
  ·rw[B0s U]at h
   exact⟨λa I=>by rw[h]at I;injection I with I;rw[I];exact Nat.le_refl _,λW J=>by injection J with J;rw[h]at U;rw[<-J];simp only[Option.getD_some]at U;omega⟩
theorem C4S{A B:Option Hd}(h:nx A B=none):A=none/\B=none:=by
 cases B with
 |none=>exact⟨h,rfl⟩
 |some b=>
  by_cases I:(A.getD hZ).g<=b.g
  ·rw[B0r I]at h;simp at h
  ·rw[B0s I]at h
   rw[h]at I
   exact absurd (Nat.zero_le _) I
def C1K(U W:List Nat)(J:Hd)(I:Bool):Prop:=two U W=(if I=true then some J else none)/\(I=false->J=hZ)
theorem C1K.le{J U:List Nat}{I:Hd}{X:Bool}(h:C1K J U I X):(∀a,unO J 0=some a->a.g<=I.g)/\(∀b,unO U 1=some b->b.g<=I.g):=by
 cases X with
 |true=>exact C4R h.1
 |false=>
  obtain⟨Z,h2⟩:=C4S h.1
  exact⟨λa W=>by rw[Z]at W;simp at W,λb Y=>by rw[h2]at Y;simp at Y⟩
def B5m(I J:List Nat)(k:Nat)(Y:List Nat):List Nat×List Nat:=if k=0 then(Y,J)else(I,Y)
theorem B9G{I J:List Nat}{X h:Hd}{Z:Bool}{e:Nat}(hs:C1K I J X Z)(k:hOk e h)(hg:h.g=X.g+1):two (B5m I J (h.g%2) (A1b e h)).1 (B5m I J (h.g%2) (A1b e h)).2=some h:=by
 obtain⟨l0,l1⟩:=hs.le
 have U:=B9F k
 unfold B5m two
 by_cases W:h.g%2=0
 ·rw[if_pos W]
  rw[W]at U
  simp only[U]
  cases hB:unO J 1 with
  |none=>rfl
  |some b=>exact B0s (by have:=l1 b hB;simp only[Option.getD_some];omega)
 ·rw[if_neg W]
  have Y:h.g%2=1:=by omega
  rw[Y]at U
  simp only[U]
  refine B0r ?_
  cases hA:unO I 0 with
  |none=>exact Nat.zero_le _
  |some a=>have:=l0 a hA;simp only[Option.getD_some];omega
end
section
open Go.RowKit Go.Maps
theorem B5n{s:DS}(h:s.fuse=none):P0 s=(s,true):=by unfold P0;rw[h]
def A0g(V:Nat->List Nat)(i:Nat)(b:List Nat):Nat->List Nat:=λj=>if j=i then b else V j
structure On (s:DS) (N:Nat) (V:Nat->List Nat):Prop where
 fz:s.fuse=none
 len:s.L.length=N
 at_:∀j,j<N->isS s j=V j
theorem On.write{s:DS}{N i:Nat}{V:Nat->List Nat}{b:List Nat}(h:On s N V)(hi:i<N)(W:b.length=128):(L3 s (i:Int) b).2=0/\On (L3 s (i:Int) b).1 N (A0g V i b):=by
 have e:L3 s (i:Int) b=({ s with Q:=s.Q++[(i,b)] },0):=by
  unfold L3
  rw[if_neg (by rw[h.len];omega),B5n h.fz,if_pos rfl]
  rfl
 rw[e]
 refine⟨rfl,h.fz,h.len,λj J=>?_⟩
 have I:=h.at_ j J
 unfold isS at I⊢
 show(U9 s.L (s.Q++[(i,b)])).getD j []=_
 rw[A4Q]
 unfold A0g
 by_cases c:j=i
 ·subst c
  rw[if_pos rfl]
  have U:j<(U9 s.L s.Q).length:=by rw[A0Q,h.len];exact J
  simp[List.getD_eq_getElem?_getD,U]
 ·rw[if_neg c,<-I]
  have c':i≠j:=λe=>c e.symm
  simp[List.getD_eq_getElem?_getD,List.getElem?_set_ne c']
theorem On.flush{s:DS}{N:Nat}{V:Nat->List Nat}(h:On s N V):(E0 s).2=0/\On (E0 s).1 N V:=by
 have e:E0 s=({ s with L:=U9 s.L s.Q,Q:=[] },0):=by
  unfold E0
  rw[B5n h.fz,if_pos rfl]
 rw[e]
 exact⟨rfl,h.fz,by show(U9 s.L s.Q).length=N;rw[A0Q,h.len],λj I=>h.at_ j I⟩
def A5q(V:Nat->List Nat)(n:Nat)(P:List Pc):Nat->List Nat:=P.foldl (λV p=>A0g V (2+p.c%n) (E8 p)) V
theorem On.layP{n N:Nat}(I:1<=n)(W:n+2<=N):∀{P:List Pc} {s:DS} {V:Nat->List Nat},On s N V->(∀p∈P,p.d.length<=106)->(N9 s n P).2=0/\On (N9 s n P).1 N (A5q V n P)
 |[],_,_,h,_=>⟨rfl,h⟩
 |p::P,s,V,h,hp=>by
  obtain⟨J,U⟩:=h.write (i:=2+p.c%n) (b:=E8 p) (by have:=Nat.mod_lt p.c I;omega) (A1B (hp p (by simp)))
  unfold N9
  rw[if_pos J]
  exact On.layP I W U (λq X=>hp q (by simp[X]))
theorem A0K(n:Nat):∀(P:List Pc) (V:Nat->List Nat) {j:Nat},(∀p∈P,2+p.c%n≠j)->A5q V n P j=V j
 |[],_,_,_=>rfl
 |p::P,V,j,h=>by
  show A5q (A0g V (2+p.c%n) (E8 p)) n P j=V j
  rw[A0K n P _ (λq I=>h q (by simp[I]))]
  unfold A0g
  rw[if_neg (λe=>h p (by simp) e.symm)]
theorem B5o(n:Nat):∀(P:List Pc) (V:Nat->List Nat) {p:Pc},P.Pairwise (λa b=>2+a.c%n≠2+b.c%n)->p∈P->A5q V n P (2+p.c%n)=E8 p
 |[],_,_,_,h=>absurd h (by simp)
 |q::P,V,p,hP,h=>by
  obtain⟨I,J⟩:=List.pairwise_cons.mp hP
  show A5q (A0g V (2+q.c%n) (E8 q)) n P (2+p.c%n)=E8 p
  rcases List.mem_cons.mp h with rfl|h
  ·rw[A0K n P _ (λr U e=>I r U e.symm)]
   unfold A0g
   rw[if_pos rfl]
  ·exact B5o n P _ J h
theorem A6n(n:Nat)(j:Nat):∀(P:List Pc) (V:Nat->List Nat),A5q V n P j=V j\/∃p∈P,A5q V n P j=E8 p
 |[],_=>.inl rfl
 |p::P,V=>by
  rcases A6n n j P (A0g V (2+p.c%n) (E8 p))with h|⟨q,I,h⟩
  ·by_cases c:j=2+p.c%n
   ·right
    refine⟨p,by simp,?_⟩
    show A5q (A0g V (2+p.c%n) (E8 p)) n P j=E8 p
    rw[h]
    unfold A0g
    rw[if_pos c]
   ·left
    show A5q (A0g V (2+p.c%n) (E8 p)) n P j=V j
    rw[h]
    unfold A0g
    rw[if_neg c]
  ·exact .inr ⟨q,by simp[I],h⟩
theorem A9d{n a b:Nat}(h:a<b)(X:b<a+n):a%n≠b%n:=λe=>by
 have Y:0<n:=by omega
 have I:=Nat.div_add_mod a n
 have W:=Nat.div_add_mod b n
 rw[e]at I
 have h3:n * (a/n)<n * (b/n):=by omega
 have J:a/n<b/n:=Nat.lt_of_mul_lt_mul_left h3
 have U:n * (a/n+1)<=n * (b/n):=Nat.mul_le_mul_left n J
 rw[Nat.mul_add,Nat.mul_one]at U
 omega
theorem B7f{n e c:Nat}{l:List Nat}(h:J8 l.length<=n):(Q5 e c l).Pairwise (λa b=>2+a.c%n≠2+b.c%n):=by
 unfold Q5
 rw[List.pairwise_map]
 refine List.Pairwise.imp_of_mem (λ{a b} J I U=>?_) (List.pairwise_lt_range (n:=J8 l.length))
 have W:=List.mem_range.mp I
 show 2+(c+a)%n≠2+(c+b)%n
 have:=A9d (n:=n) (a:=c+a) (b:=c+b) (by omega) (by omega)
 omega
theorem A28{e c:Nat}{l:List Nat}{p:Pc}(h:p∈Q5 e c l):p.e=e/\∃i,i<J8 l.length/\p.c=c+i:=by
 unfold Q5 at h
 obtain⟨i,hi,rfl⟩:=List.mem_map.mp h
 exact⟨rfl,i,List.mem_range.mp hi,rfl⟩
def nou:List Nat:=List.replicate 128 0
theorem B5p:(dec nou).c=0/\(dec nou).g=false:=by constructor<;>kernel_rfl
theorem B5q(k:Nat):unO nou k=none:=B0V (by kernel_rfl)
theorem B5r:A3F nou=0/\A3G nou=0:=by constructor<;>kernel_rfl
theorem A44{p:Pc}(h:p.ok):A3F (E8 p)=p.e/\A3G (E8 p)=p.e:=by
 have hv:R8 (be 8 (Q6 p.e p.c))/1099511627776=p.e:=by
  rw[A6q]
  have U:(256:Nat)^8=18446744073709551616:=by decide
  have X:=h.1
  have Y:=h.2.1
  rw[U]
  unfold Q6
  omega
 have I:R8 ((be 8 (Q6 p.e p.c)).take 3)=p.e:=(C2y (by rw[C7]) (λx W=>A3T _ _ x W)).symm.trans hv
 constructor
 ·have J:(E8 p).take 3=(be 8 (Q6 p.e p.c)).take 3:=by rw[<-A5v,List.take_take];rfl
  unfold A3F
  rw[J,I]
 ·unfold A3G
  rw[A7T h.2.2,I]
theorem B0t{s:DS}{m:Nat}:∀k,(∀j,j<k->A3F (isS s j)<=m/\A3G (isS s j)<=m)->A10 s k<=m
 |0,_=>Nat.zero_le _
 |k+1,h=>by
  have I:=B0t (s:=s) (m:=m) k (λj U=>h j (by omega))
  have J:=h k (by omega)
  unfold A10
  omega
end
section
open Go.RowKit Go.Maps
structure A5r (V:Nat->List Nat) (n:Nat) (H:Int) (t:Nat) (ps:List Pt):Prop where
 tx:A0h ps H
 b:∀p∈ps,∀x∈p.d,x<256
 cut:V2 1 t (L8 ps).length=0
 at_:∀p∈Q5 1 t (L8 ps),V (2+p.c%n)=E8 p
def A0s(V:Nat->List Nat)(n:Nat)(H:Int):Nat->List (List Pt)->Nat->Prop
 |t,[],u=>t=u
 |t,ps::r,u=>A5r V n H t ps/\A0s V n H (t+M7 ps) r u
theorem A3a(ps:List Pt):1<=M7 ps:=A1p _
theorem A0s.le{V:Nat->List Nat}{n:Nat}{H:Int}:∀{l:List (List Pt)} {t u:Nat},A0s V n H t l u->t+l.length<=u
 |[],t,u,h=>by have h:t=u:=h;simp[h]
 |ps::r,t,u,h=>by
  have I:=A0s.le h.2
  have:=A3a ps
  simp only[List.length_cons]
  omega
theorem A5r.frame{V V':Nat->List Nat}{n t:Nat}{H:Int}{ps:List Pt}(h:A5r V n H t ps)(hv:∀c,t<=c->c<t+M7 ps->V' (2+c%n)=V (2+c%n)):A5r V' n H t ps:=
 ⟨h.tx,h.b,h.cut,λp I=>by
  obtain⟨_,i,hi,e⟩:=A28 I
  rw[hv p.c (by omega) (by unfold M7;omega)]
  exact h.at_ p I⟩
theorem A0s.frame{V V':Nat->List Nat}{n:Nat}{H:Int}:∀{l:List (List Pt)} {t u:Nat},A0s V n H t l u->(∀c,t<=c->c<u->V' (2+c%n)=V (2+c%n))->A0s V' n H t l u
 |[],_,_,h,_=>h
 |ps::r,t,u,h,hv=>by
  have I:=A0s.le h.2
  exact⟨h.1.frame (λc I J=>hv c I (by omega)),A0s.frame h.2 (λc I J=>hv c (by omega) J)⟩
theorem A0s.snoc{V:Nat->List Nat}{n:Nat}{H:Int}{ps:List Pt}:∀{l:List (List Pt)} {t u:Nat},A0s V n H t l u->A5r V n H u ps->A0s V n H t (l++[ps]) (u+M7 ps)
 |[],t,u,h,hp=>by
  have h:t=u:=h
  subst h
  exact⟨hp,rfl⟩
 |qs::r,t,u,h,hp=>⟨h.1,A0s.snoc h.2 hp⟩
section
variable {s:DS} {N n:Nat} {V:Nat->List Nat} {H:Int}
theorem B0u(J:On s N V)(I:1<=n)(U:n+2<=N)(c:Nat):rdP s n c=V (2+c%n):=J.at_ _ (by have:=Nat.mod_lt c I;omega)
theorem A5r.ok{t:Nat}{ps:List Pt}(h:A5r V n H t ps):∀p∈Q5 1 t (L8 ps),p.ok:=A6c h.cut
theorem A9e{e c i:Nat}{l:List Nat}(h:i<J8 l.length):D7 e c l i∈Q5 e c l:=List.mem_map.mpr ⟨i,List.mem_range.mpr h,rfl⟩
theorem A5r.scan{t:Nat}{ps:List Pt}(Z:On s N V)(Y:1<=n)(X:n+2<=N)(h:A5r V n H t ps):∀(m i f:Nat),i+m+1=M7 ps->m+1<=f->
 scan s n f (t+i)=some ((List.range (m+1)).map (λj=>D7 1 t (L8 ps) (i+j))):=by
 intro m
 induction m with
 |zero=>
  intro i f hi hf
  obtain⟨f,rfl⟩:∃g,f=g+1:=⟨f-1,by omega⟩
  have U:=A9e (e:=1) (c:=t) (i:=i) (l:=L8 ps) (by unfold M7 at hi;omega)
  have I:=h.ok _ U
  have J:rdP s n (t+i)=E8 (D7 1 t (L8 ps) i):=(B0u Z Y X _).trans (h.at_ _ U)
  have W:S7 s n (t+i):=⟨by rw[J];exact A3y I,by rw[J,Y6 I];rfl⟩
  rw[A8L W (by rw[J,Y6 I];show(i==J8 (L8 ps).length-1)=true;unfold M7 at hi;rw[beq_iff_eq];omega),J,Y6 I]
  rfl
 |succ m ih=>
  intro i f hi hf
  obtain⟨f,rfl⟩:∃g,f=g+1:=⟨f-1,by omega⟩
  have U:=A9e (e:=1) (c:=t) (i:=i) (l:=L8 ps) (by unfold M7 at hi;omega)
  have I:=h.ok _ U
  have J:rdP s n (t+i)=E8 (D7 1 t (L8 ps) i):=(B0u Z Y X _).trans (h.at_ _ U)
  have W:S7 s n (t+i):=⟨by rw[J];exact A3y I,by rw[J,Y6 I];rfl⟩
  rw[A5h W (by rw[J,Y6 I];show(i==J8 (L8 ps).length-1)=false;unfold M7 at hi;rw[beq_eq_false_iff_ne];omega),J,Y6 I,Nat.add_assoc t i 1,ih (i+1) f (by omega) (by omega)]
  rw[List.range_succ_eq_map (n:=m+1),List.map_cons,List.map_map,Option.map_some]
  congr 2
  apply List.map_congr_left
  intro j _
  show D7 1 t (L8 ps) (i+1+j)=D7 1 t (L8 ps) (i+(j+1))
  rw[show i+1+j=i+(j+1)by omega]
theorem A5r.scanV{t:Nat}{ps:List Pt}(W:On s N V)(U:1<=n)(J:n+2<=N)(h:A5r V n H t ps)(Y:M7 ps<=n):scanV s n t=Q5 1 t (L8 ps):=by
 have X:=A3a ps
 have I:=h.scan W U J (M7 ps-1) 0 (n+1) (by omega) (by omega)
 unfold Go.Proofs.YtbefmjiclpobjaaGreat.scanV
 rw[show t+0=t from rfl]at I
 rw[I,show M7 ps-1+1=M7 ps by omega]
 show(List.range (M7 ps)).map (λj=>D7 1 t (L8 ps) (0+j))=_
 unfold Q5 M7
 apply List.map_congr_left
 intro j _
 rw[Nat.zero_add]
theorem A5r.rec_{t:Nat}{ps:List Pt}(ho:On s N V)(hn:1<=n)(U:n+2<=N)(hH:H<=4096)(h:A5r V n H t ps)(Z:M7 ps<=n)(A:Nat->Option (List Nat))(fl:Nat)(W:fl<=1):
 A12 s n H ⟨t,fl,A⟩/\A4x s n ⟨t,fl,A⟩=⟨t+M7 ps,1,putA A ps⟩:=by
 have e:=h.scanV ho hn U Z
 have Y:=B5U h.cut
 have J:=B7N h.tx hH h.b
 have X:(hdP (Q5 1 t (L8 ps))).e=1:=by
  obtain⟨p,r,I⟩:∃p r,Q5 1 t (L8 ps)=p::r:=List.exists_cons_of_length_pos (by rw[Q1];exact A1p _)
  rw[I]
  exact(A28 (e:=1) (c:=t) (l:=L8 ps) (p:=p) (by rw[I];simp)).1
 unfold A12 A4x
 simp only
 rw[e,A4a,J.1,X,Q1]
 exact⟨⟨(A4b _).mp Y,W,J.2,h.tx⟩,rfl⟩
theorem A7C(W:On s N V)(U:1<=n)(J:n+2<=N)(hH:H<=4096):∀(l:List (List Pt)) (t u f fl:Nat) (A:Nat->Option (List Nat)),A0s V n H t l u->u<=t+n->l.length<f->fl<=1->(∀A fl,fl<=1->¬A12 s n H ⟨u,fl,A⟩)->
 ∃I,A3t s n H f ⟨t,fl,A⟩=⟨u,I,l.foldl putA A⟩
 |[],t,u,f,fl,A,h,_,hf,hfl,hno=>by
  have h:t=u:=h
  subst h
  obtain⟨f,rfl⟩:∃g,f=g+1:=⟨f-1,by simp at hf;omega⟩
  refine⟨fl,?_⟩
  unfold A3t
  rw[if_neg (hno A fl hfl)]
  rfl
 |ps::r,t,u,f,fl,A,h,hu,hf,hfl,hno=>by
  obtain⟨f,rfl⟩:∃g,f=g+1:=⟨f-1,by simp at hf;omega⟩
  have Z:=A0s.le h.2
  have h2:=A3a ps
  obtain⟨X,Y⟩:=h.1.rec_ W U J hH (by omega) A fl hfl
  obtain⟨I,e⟩:=A7C W U J hH r (t+M7 ps) u f 1 (putA A ps) h.2 (by omega) (by simp at hf;omega) (Nat.le_refl _) hno
  refine⟨I,?_⟩
  unfold A3t
  rw[if_pos X,Y,e]
  rfl
def A8p(V:Nat->List Nat)(n u:Nat):Prop:=∀j,j<n->V (2+j)=nou\/∃p:Pc,p.ok/\V (2+j)=E8 p/\p.c<u
theorem A8p.stop{u fl:Nat}{A:Nat->Option (List Nat)}(h:A8p V n u)(Z:On s N V)(hn:2<=n)(X:n+2<=N):¬A12 s n H ⟨u,fl,A⟩:=by
 have Y:∀c,u<=c->S7 s n c->V (2+c%n)=nou/\c=0:=λc aA I=>by
  have U:=B0u Z (by omega) X c
  rcases h (c%n) (Nat.mod_lt c (by omega))with e|⟨p,hp,e,aB⟩
  ·have J:=I.2
   rw[U,e,B5p.1]at J
   exact⟨e,J.symm⟩
  ·have J:=I.2
   rw[U,e,Y6 hp]at J
   omega
 have hs:scanV s n u=[]:=by
  unfold scanV
  by_cases I:S7 s n u
  ·obtain⟨e,h0⟩:=Y u (Nat.le_refl _) I
   have U:=B0u Z (by omega) X u
   rw[A5h I (by rw[U,e];exact B5p.2)]
   have W:¬S7 s n (u+1):=λW=>by
    have:=(Y (u+1) (by omega) W).2
    omega
   rw[A9Z W]
   rfl
  ·rw[A9Z I];rfl
 intro hk
 have:=hk.1.1
 simp only at this
 rw[hs]at this
 simp at this
theorem A8p.mono{u I:Nat}(h:A8p V n u)(X:u<=I):A8p V n I:=λj J=>by
 rcases h j J with e|⟨p,U,e,W⟩
 ·exact .inl e
 ·exact .inr ⟨p,U,e,by omega⟩
theorem A8p.lay{u:Nat}{l:List Nat}(h:A8p V n u)(J:V2 1 u l.length=0):A8p (A5q V n (Q5 1 u l)) n (u+J8 l.length):=λj U=>by
 rcases A6n n (2+j) (Q5 1 u l) V with e|⟨p,I,e⟩
 ·rw[e]
  exact h.mono (by omega) j U
 ·obtain⟨_,i,hi,ec⟩:=A28 I
  exact .inr ⟨p,A6c J p I,e,by omega⟩
end
end
section
open Go.RowKit Go.Maps
def A3v(V:Nat->List Nat)(h:Hd):Prop:=∃(J:Hd) (I:Bool),C1K (V 0) (V 1) J I/\h=(if I=true then J else⟨0,0,1⟩)
theorem A3v.headO{s:DS}{N:Nat}{V:Nat->List Nat}{h:Hd}(hv:A3v V h)(I:On s N V)(W:2<=N):Go.Proofs.YtbefmjiclpobjaaGreat.headO s=h:=by
 obtain⟨X,J,U,rfl⟩:=hv
 have e:U1 s 0 2=two (V 0) (V 1):=by
  rw[C31]
  show nx (unO (isS s 0) 0) (unO (isS s (0+1)) 1)=_
  rw[I.at_ 0 (by omega),I.at_ (0+1) (by omega)]
  rfl
 unfold Go.Proofs.YtbefmjiclpobjaaGreat.headO
 rw[e,U.1]
 cases J<;>rfl
theorem A3v.frame{V V':Nat->List Nat}{h:Hd}(hv:A3v V h)(I:V' 0=V 0)(J:V' 1=V 1):A3v V' h:=by
 obtain⟨X,U,W,e⟩:=hv
 exact⟨X,U,by rw[I,J];exact W,e⟩
theorem A3v.save{V:Nat->List Nat}{h x:Hd}{e:Nat}(hv:A3v V h)(k:hOk e x)(I:x.g=h.g+1):A3v (A0g V (x.g%2) (A1b e x)) x:=by
 obtain⟨Y,W,J,rfl⟩:=hv
 have X:x.g=Y.g+1:=by
  cases W with
  |true=>exact I
  |false=>rw[J.2 rfl];exact I
 refine⟨x,true,⟨?_,λe=>by cases e⟩,rfl⟩
 have U:=B9G J k X
 rw[if_pos rfl,<-U]
 unfold B5m A0g
 by_cases c:x.g%2=0
 ·rw[c];rfl
 ·have c1:x.g%2=1:=by omega
  rw[c1];rfl
def X8(s:DS)(n:Nat)(g:LS)(M:Nat):List (List Nat):=(List.range M).map (D8 s n g)
def B9H(I:List (List Nat))(ps:List Pt):List (List Nat):=ps.foldl (λI p=>I.set p.a.toNat p.d) I
theorem B9J(A:Nat->Option (List Nat))(B:Nat->List Nat)(M k:Nat)(d:List Nat):(List.range M).map (λi=>(Q9 A k d i).getD (B i))=((List.range M).map (λi=>(A i).getD (B i))).set k d:=by
 apply List.ext_getElem
 ·simp
 ·intro i I J
  rw[List.getElem_set]
  simp only[List.getElem_map,List.getElem_range]
  unfold Q9
  by_cases c:i=k
  ·rw[if_pos c,if_pos c.symm];rfl
  ·rw[if_neg c,if_neg (λe=>c e.symm)]
theorem B2v(B:Nat->List Nat)(M:Nat):∀(ps:List Pt) (A:Nat->Option (List Nat)),(List.range M).map (λi=>(putA A ps i).getD (B i))=B9H ((List.range M).map (λi=>(A i).getD (B i))) ps
 |[],_=>rfl
 |p::ps,A=>by
  show(List.range M).map (λi=>(putA (Q9 A p.a.toNat p.d) ps i).getD (B i))=B9H (((List.range M).map (λi=>(A i).getD (B i))).set p.a.toNat p.d) ps
  rw[B2v B M ps,B9J]
def A1Z(V:Nat->List Nat)(n:Nat)(T:List (Nat×List Nat)):Nat->List Nat:=T.foldl (λV q=>A0g V (2+n+q.1) q.2) V
theorem On.homes{N n:Nat}:∀{T:List (Nat×List Nat)} {s:DS} {V:Nat->List Nat},On s N V->(∀q∈T,2+n+q.1<N/\q.2.length=128)->(N5 s n T).2=0/\On (N5 s n T).1 N (A1Z V n T)
 |[],_,_,h,_=>⟨rfl,h⟩
 |q::T,s,V,h,hq=>by
  obtain⟨I,J⟩:=h.write (i:=2+n+q.1) (b:=q.2) (hq q (by simp)).1 (hq q (by simp)).2
  unfold N5
  rw[if_pos I]
  exact On.homes J (λr U=>hq r (by simp[U]))
theorem A06{n j:Nat}(I:j<2+n):∀(T:List (Nat×List Nat)) (V:Nat->List Nat),A1Z V n T j=V j
 |[],_=>rfl
 |q::T,V=>by
  show A1Z (A0g V (2+n+q.1) q.2) n T j=V j
  rw[A06 I T]
  unfold A0g
  rw[if_neg (by omega)]
theorem B2w{n:Nat}(f:Nat->List Nat)(i:Nat):∀(T:List (Nat×List Nat)) (V:Nat->List Nat),(∀q∈T,q.2=f q.1)->A1Z V n T (2+n+i)=if(∃q∈T,q.1=i)then f i else V (2+n+i)
 |[],V,_=>by simp[A1Z]
 |q::T,V,h=>by
  show A1Z (A0g V (2+n+q.1) q.2) n T (2+n+i)=_
  rw[B2w f i T _ (λr I=>h r (by simp[I]))]
  unfold A0g
  by_cases c1:∃r∈T,r.1=i
  ·rw[if_pos c1,if_pos (by obtain⟨r,I,e⟩:=c1;exact⟨r,by simp[I],e⟩)]
  ·rw[if_neg c1]
   by_cases c2:q.1=i
   ·rw[if_pos (by omega),if_pos ⟨q,by simp,c2⟩,h q (by simp),c2]
   ·rw[if_neg (by omega),if_neg (λ⟨r,I,e⟩=>by
     rcases List.mem_cons.mp I with rfl|I
     ·exact c2 e
     ·exact c1 ⟨r,I,e⟩)]
theorem B3X{n M i:Nat}(A:Nat->Option (List Nat))(V:Nat->List Nat)(hi:i<M):A1Z V n (U8 A M) (2+n+i)=(A i).getD (V (2+n+i)):=by
 rw[B2w (λi=>(A i).getD (List.replicate 128 0)) i (U8 A M) V (λq I=>by
  unfold U8 at I
  obtain⟨k,_,rfl⟩:=List.mem_map.mp I
  rfl)]
 cases h:A i with
 |none=>
  rw[if_neg]
  ·rfl
  ·rintro⟨q,I,e⟩
   unfold U8 N0 at I
   obtain⟨k,U,rfl⟩:=List.mem_map.mp I
   have J:=(List.mem_filter.mp U).2
   have e:k=i:=e
   rw[e,h]at J
   cases J
 |some x=>
  rw[if_pos]
  ·simp
  ·refine⟨(i,(A i).getD (List.replicate 128 0)),?_,rfl⟩
   unfold U8 N0
   exact List.mem_map.mpr ⟨i,List.mem_filter.mpr ⟨List.mem_range.mpr hi,by rw[h];rfl⟩,rfl⟩
theorem On.bring{s:DS}{N n M:Nat}{V:Nat->List Nat}{A:Nat->Option (List Nat)}(h:On s N V)(hM:2+n+M<=N)(hA:AOk M A):(Q0 s n M A).2=0/\On (Q0 s n M A).1 N (A1Z V n (U8 A M)):=by
 obtain⟨U,W⟩:=h.flush
 obtain⟨h3,X⟩:=W.homes (n:=n) (T:=U8 A M) (λq J=>by
  unfold U8 at J
  obtain⟨k,I,rfl⟩:=List.mem_map.mp J
  unfold N0 at I
  have aA:=List.mem_filter.mp I
  have aB:=List.mem_range.mp aA.1
  refine⟨by show 2+n+k<N;omega,?_⟩
  show((A k).getD (List.replicate 128 0)).length=128
  cases e:A k with
  |none=>simp
  |some x=>exact(hA k x e).2.1)
 obtain⟨Y,Z⟩:=X.flush
 unfold Q0
 rw[if_pos U,if_pos h3]
 exact⟨Y,Z⟩
theorem On.save{s:DS}{N e:Nat}{V:Nat->List Nat}{x:Hd}(h:On s N V)(W:2<=N)(k:hOk e x):(Z1 s N e x).2=0/\On (Z1 s N e x).1 N (A0g V (x.g%2) (A1b e x)):=by
 have Y:x.g%2<2:=Nat.mod_lt _ (by decide)
 obtain⟨I,J⟩:=h.write (i:=x.g%2) (b:=A1b e x) (by omega) (B0G k)
 obtain⟨h3,U⟩:=J.flush
 have X:=k.1.2
 unfold Z1 A2z
 rw[if_neg (by omega),if_pos ⟨⟨by decide,by omega⟩,k⟩,show(0:Int)+((x.g%2:Nat):Int)=((x.g%2:Nat):Int)by omega,if_pos I]
 exact⟨h3,U⟩
structure Ar (s:DS) (n N:Nat) (V:Nat->List Nat) (g:LS) (txs:List (List Pt)):Prop where
 on:On s N V
 err:g.err=0
 ep:g.ep=1
 fl:g.h.f=1
 ch:A0s V n ((N-2-n:Nat):Int) g.h.t txs g.next
 fr:g.next<=g.h.t+n
 A:g.A=txs.foldl putA (λ_=>none)
 ok:AOk (N-2-n) g.A
 old:A8p V n g.next
 hd:A3v V g.h
 ends:∀j,j<2+n->A3F (V j)<=1/\A3G (V j)<=1
 sb:∀i,i<N->∀x∈V i,x<256
section
variable {s:DS} {n N:Nat} {V:Nat->List Nat} {g:LS} {txs:List (List Pt)}
theorem Ar.home(h:Ar s n N V g txs){i:Nat}(hi:i<N-2-n):D8 s n g i=(g.A i).getD (V (2+n+i)):=by
 unfold D8
 rw[h.on.at_ _ (by omega)]
theorem Ar.homes(h:Ar s n N V g txs):X8 s n g (N-2-n)=(List.range (N-2-n)).map (λi=>(g.A i).getD (V (2+n+i))):=by
 unfold X8
 apply List.map_congr_left
 intro i hi
 exact h.home (List.mem_range.mp hi)
theorem Ar.le(h:Ar s n N V g txs):g.h.t+txs.length<=g.next:=h.ch.le
theorem B2x{ps:List Pt}{H:Int}(k:A0h ps H):M7 ps<=30:=B0P (by decide) (by have:=A33 k;omega)
theorem Ar.write(h:Ar s n N V g txs)(hn:2<=n/\n+3<=N/\N<=4096){ps:List Pt}(J:A0h ps ((N-2-n:Nat):Int))(Y:∀p∈ps,∀x∈p.d,x<256)(Z:M7 ps<=A52 n g)(hs:g.next<=1000000):
 (J6 s n N g ps).2=0/\Ar (J6 s n N g ps).1.1 n N (A5q V n (Q5 1 g.next (L8 ps))) (J6 s n N g ps).1.2 (txs++[ps])/\(J6 s n N g ps).1.2=g.putAll ps (M7 ps)/\
 X8 (J6 s n N g ps).1.1 n (J6 s n N g ps).1.2 (N-2-n)=B9H (X8 s n g (N-2-n)) ps:=by
 have aA:=B2x J
 have aC:=h.le
 have hcut:V2 1 g.next (L8 ps).length=0:=A2K.mpr ⟨by decide,by omega,by unfold M7 at aA;omega,by have:=A33 J;omega⟩
 have W:g.next+M7 ps<=g.h.t+n:=by unfold A52 at Z;have:=h.fr;have:=A3a ps;omega
 have U:=A6c hcut
 obtain⟨l1,l2⟩:=h.on.layP (n:=n) (P:=Q5 1 g.next (L8 ps)) (by omega) (by omega) (λp I=>(U p I).2.2)
 have e:J6 s n N g ps=(((N9 s n (Q5 1 g.next (L8 ps))).1,g.putAll ps (M7 ps)),0):=by
  unfold J6
  rw[if_pos h.err,if_pos J,h.ep,if_pos ⟨hcut,Z⟩,if_pos l1]
 have aB:∀j,2+n<=j->A5q V n (Q5 1 g.next (L8 ps)) j=V j:=λj hj=>A0K n _ _ (λp _=>by
  have:=Nat.mod_lt p.c (show 0<n by omega);omega)
 have X:Ar (N9 s n (Q5 1 g.next (L8 ps))).1 n N (A5q V n (Q5 1 g.next (L8 ps))) (g.putAll ps (M7 ps)) (txs++[ps]):=by
  refine⟨l2,h.err,h.ep,h.fl,?_,?_,?_,?_,?_,?_,?_,?_⟩
  ·refine(h.ch.frame (λc h1 h2=>A0K n _ _ (λp I=>?_))).snoc ⟨J,Y,hcut,λp I=>B5o n _ _ (B7f (by unfold M7 at W;omega)) I⟩
   obtain⟨_,i,hi,ec⟩:=A28 I
   have:=A9d (n:=n) (a:=c) (b:=p.c) (by omega) (by unfold M7 at W;omega)
   omega
  ·exact W
  ·show putA g.A ps=_
   rw[List.foldl_append,<-h.A];rfl
  ·exact h.ok.putA (λp I=>J.row p I) Y (by omega)
  ·exact h.old.lay hcut
  ·exact h.hd.frame (A0K n _ _ (λp _=>by omega)) (A0K n _ _ (λp _=>by omega))
  ·intro j hj
   rcases A6n n j (Q5 1 g.next (L8 ps)) V with e|⟨p,I,e⟩
   ·rw[e];exact h.ends j hj
   ·rw[e,(A44 (U p I)).1,(A44 (U p I)).2,(A28 I).1]
    exact⟨Nat.le_refl _,Nat.le_refl _⟩
  ·intro i hi
   rcases A6n n i (Q5 1 g.next (L8 ps)) V with e|⟨p,I,e⟩
   ·rw[e];exact h.sb i hi
   ·rw[e];exact A6t (U p I).2.2 (A6N (B4s ps) p I)
 rw[e]
 refine⟨rfl,X,rfl,?_⟩
 rw[X.homes,h.homes,<-B2v]
 apply List.map_congr_left
 intro i _
 rw[aB _ (by omega)]
 rfl
theorem Ar.check(h:Ar s n N V g txs)(hn:2<=n/\n+3<=N/\N<=4096)(hs:g.next<=1000000)(hg:g.h.g<=1000000):
 (G9 s n N g).2=0/\(∃V',Ar (G9 s n N g).1.1 n N V' (G9 s n N g).1.2 [])/\(G9 s n N g).1.2={ g with h:=A0o g,A:=λ_=>none }/\
 X8 (G9 s n N g).1.1 n (G9 s n N g).1.2 (N-2-n)=X8 s n g (N-2-n):=by
 obtain⟨Y,Z⟩:=h.on.bring (n:=n) (M:=N-2-n) (by omega) h.ok
 have J:hOk g.ep (A0o g):=by
  refine⟨⟨by rw[h.ep];decide,?_⟩,?_,?_⟩
  ·show g.h.g+1<=_;omega
  ·show g.next<_;omega
  ·show g.ep<_;rw[h.ep];decide
 obtain⟨c1,c2⟩:=Z.save (by omega) J
 have e:G9 s n N g=(((Z1 (Q0 s n (N-2-n) g.A).1 N g.ep (A0o g)).1,{ g with h:=A0o g,A:=λ_=>none }),0):=by
  unfold G9
  rw[if_pos h.err,if_pos Y,if_pos c1]
 have hm:(A0o g).g%2<2:=Nat.mod_lt _ (by decide)
 have X:∀j,2<=j->j<2+n->A0g (A1Z V n (U8 g.A (N-2-n))) ((A0o g).g%2) (A1b g.ep (A0o g)) j=V j:=λj h1 h2=>by
  unfold A0g
  rw[if_neg (by omega),A06 h2]
 have W:∀i,i<N-2-n->A0g (A1Z V n (U8 g.A (N-2-n))) ((A0o g).g%2) (A1b g.ep (A0o g)) (2+n+i)=(g.A i).getD (V (2+n+i)):=λi hi=>by
  unfold A0g
  rw[if_neg (by omega),B3X _ _ hi]
 have aA:A3F (A1b g.ep (A0o g))<=1/\A3G (A1b g.ep (A0o g))<=1:=by
  unfold A1b
  rw[(A44 (A4K J)).1,(A44 (A4K J)).2]
  show g.ep<=1/\g.ep<=1
  rw[h.ep]
  exact⟨Nat.le_refl _,Nat.le_refl _⟩
 have U:Ar (Z1 (Q0 s n (N-2-n) g.A).1 N g.ep (A0o g)).1 n N (A0g (A1Z V n (U8 g.A (N-2-n))) ((A0o g).g%2) (A1b g.ep (A0o g))) { g with h:=A0o g,A:=λ_=>none } []:=by
  refine⟨c2,h.err,h.ep,h.ep,rfl,Nat.le_add_right _ _,rfl,AOk.none _,?_,?_,?_,?_⟩
  ·intro j I
   rw[X _ (by omega) (by omega)]
   exact h.old j I
  ·exact(h.hd.frame (V':=A1Z V n (U8 g.A (N-2-n))) (A06 (by omega) _ _) (A06 (by omega) _ _)).save J rfl
  ·intro j I
   by_cases c:j<2
   ·unfold A0g
    by_cases c2:j=(A0o g).g%2
    ·rw[if_pos c2];exact aA
    ·rw[if_neg c2,A06 (by omega)];exact h.ends j I
   ·rw[X j (by omega) I];exact h.ends j I
  ·intro i hi
   by_cases c:i<2+n
   ·unfold A0g
    by_cases c2:i=(A0o g).g%2
    ·rw[if_pos c2];exact C0q J
    ·rw[if_neg c2,A06 c];exact h.sb i hi
   ·obtain⟨k,rfl⟩:∃k,i=2+n+k:=⟨i-(2+n),by omega⟩
    rw[W k (by omega)]
    cases hA:g.A k with
    |none=>exact h.sb _ hi
    |some x=>exact(h.ok k x hA).2.2
 rw[e]
 refine⟨rfl,⟨_,U⟩,rfl,?_⟩
 rw[U.homes,h.homes]
 apply List.map_congr_left
 intro i hi
 exact W i (List.mem_range.mp hi)
theorem Ar.sync(h:Ar s n N V g txs):(Q4 s g).2=0/\Ar (Q4 s g).1.1 n N V (Q4 s g).1.2 txs/\X8 (Q4 s g).1.1 n (Q4 s g).1.2 (N-2-n)=X8 s n g (N-2-n):=by
 obtain⟨J,U⟩:=h.on.flush
 have e:Q4 s g=(((E0 s).1,{ g with err:=0 }),0):=by
  unfold Q4
  rw[if_pos h.err,J]
 have I:Ar (E0 s).1 n N V { g with err:=0 } txs:=⟨U,rfl,h.ep,h.fl,h.ch,h.fr,h.A,h.ok,h.old,h.hd,h.ends,h.sb⟩
 rw[e]
 exact⟨rfl,I,by rw[I.homes,h.homes]⟩
theorem Ar.top(h:Ar s n N V g txs)(J:2<=n/\n+3<=N/\N<=4096):A10 s (2+n)<=1:=B0t _ (λj I=>by
 rw[h.on.at_ j (by omega)]
 exact h.ends j I)
theorem Ar.says(h:Ar s n N V g txs)(X:2<=n/\n+3<=N/\N<=4096):(J4 s n N).A=g.A/\(J4 s n N).next=g.next/\(J4 s n N).h=g.h/\(J4 s n N).err=0/\(J4 s n N).ep=A10 s (2+n)+1:=by
 have I:=h.hd.headO h.on (by omega)
 have W:=h.le
 obtain⟨U,e⟩:=A7C h.on (by omega) (by omega) (H:=((N-2-n:Nat):Int)) (by omega) txs g.h.t g.next (n+1) 1 (λ_=>none) h.ch h.fr (by have:=h.fr;omega) (Nat.le_refl _) (λA fl _=>h.old.stop h.on (by omega) (by omega))
 have J:r0G (A5F s n)=⟨g.h.t,1,λ_=>none⟩:=by
  unfold r0G A5F
  rw[I]
  show(⟨g.h.t,g.h.f,λ_=>none⟩:Rp)=_
  rw[h.fl]
 unfold J4 LS.at_
 rw[J,e]
 exact⟨h.A.symm,rfl,I,rfl,rfl⟩
theorem Ar.again(h:Ar s n N V g txs)(I:2<=n/\n+3<=N/\N<=4096):X8 s n (J4 s n N) (N-2-n)=X8 s n g (N-2-n):=by
 unfold X8 D8
 rw[(h.says I).1]
theorem Ar.sb_(h:Ar s n N V g txs):SB s N:=λi hi x I=>by
 rw[h.on.at_ i hi]at I
 exact h.sb i hi x I
end
theorem B5s{N i:Nat}(h:i<N):isS (newS N) i=nou:=by
 unfold isS newS U9 nou
 simp[List.getD_eq_getElem?_getD,h]
theorem Ar.new{n N:Nat}(hn:2<=n/\n+3<=N/\N<=4096):Ar (newS N) n N (λ_=>nou) (J4 (newS N) n N) []/\(J4 (newS N) n N).next=0/\(J4 (newS N) n N).h.g=0:=by
 have on:On (newS N) N (λ_=>nou):=⟨rfl,by simp[newS],λj I=>B5s I⟩
 have hd:A3v (λ_=>nou) ⟨0,0,1⟩:=⟨hZ,false,⟨by unfold two;rw[B5q,B5q];rfl,λ_=>rfl⟩,rfl⟩
 have aA:∀u,A8p (λ_=>nou) n u:=λu j I=>.inl rfl
 have Z:∀j,j<2+n->A3F nou<=0/\A3G nou<=0:=λj _=>by rw[B5r.1,B5r.2];exact⟨Nat.le_refl _,Nat.le_refl _⟩
 have sb:∀i,i<N->∀x∈nou,x<256:=λi _ x hx=>by rw[List.eq_of_mem_replicate hx];decide
 have h0:Ar (newS N) n N (λ_=>nou) ⟨⟨0,0,1⟩,0,1,λ_=>none,0⟩ []:=
  ⟨on,rfl,rfl,rfl,rfl,Nat.zero_le _,rfl,AOk.none _,aA 0,hd,λj I=>by have:=Z j I;omega,sb⟩
 have ht:A10 (newS N) (2+n)<=0:=B0t _ (λj I=>by
  rw[B5s (by omega)]
  exact Z j I)
 obtain⟨J,U,W,X,s5⟩:=h0.says hn
 have e:J4 (newS N) n N=⟨⟨0,0,1⟩,0,1,λ_=>none,0⟩:=by
  have Y:(J4 (newS N) n N).ep=1:=by rw[s5];omega
  generalize J4 (newS N) n N=x at J U W X Y
  obtain⟨x1,x2,x3,x4,x5⟩:=x
  simp only at J U W X Y
  subst J U W X Y
  rfl
 rw[e]
 exact⟨h0,rfl,rfl⟩
end
end Go.Proofs.YtbefmjiclpobjaaGreat
