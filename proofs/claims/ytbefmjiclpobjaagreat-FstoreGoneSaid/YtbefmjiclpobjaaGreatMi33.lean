import Derived.Test.YtbefmjiclpobjaaGreatMi32
import Derived.Test.YtbefmjiclpobjaaGreatMi08
import Derived.Test.YtbefmjiclpobjaaGreatMi25
import Derived.Test.YtbefmjiclpobjaaGreatMi26
namespace Go.Proofs.YtbefmjiclpobjaaGreat
section
open Go.RowKit
def As.opt(A:As):Option En->As
 |none=>A
 |some y=>A.up y.i.toNat (Nd.gone y.g)
def Y5(A:As)(i i2:Nat)(s t:ByteArray)(x:En)(X:Option En):As:=
 let I:=A.opt X
 let J:=I.up i ((I.n i).ls (dropL (I.n i).l s))
 let W:=J.up i2 ((J.n i2).ls (T1 (J.n i2).l ⟨t,x.i,x.g,x.k⟩))
 let U:=W.up i (W.n i).inc
 if i2=i then U else U.up i2 (U.n i2).inc
def A8j(A:As)(i i2:Nat)(s t:ByteArray)(x:En):List En:=
 T1 (if i2=i then dropL (A.n i).l s else(A.n i2).l) ⟨t,x.i,x.g,x.k⟩
noncomputable def A2E(H:Nat->List Nat)(M:Nat)(i g:Int)(s:ByteArray)(i2 I:Int)(t:ByteArray)(x:En):CS:=
 if i2=i/\I=g then((((⟨H,0⟩:CS).repl M i2 I t x.k).leave M i g s).enter M i2 I ⟨t,x.i,x.g,x.k⟩).touch i g
 else(((((⟨H,0⟩:CS).repl M i2 I t x.k).leave M i g s).enter M i2 I ⟨t,x.i,x.g,x.k⟩).touch i g).touch i2 I
section
variable {H:Nat->List Nat} {M:Nat} {A:As}
theorem B95(h:Rq H M A){y:En}(W:U2 A y.i y.g)(U:(A.n y.i.toNat).k=y.k):mfE H y=if(A.n y.i.toNat).l.length=0 then 0 else 13:=by
 obtain⟨X,Y⟩:=h.ents y.i y.g
 obtain⟨r1,r2⟩:=N6 W
 unfold mfE
 rw[X,Y]
 by_cases I:y.k=1
 ·have J:V1 A y.i y.g 1=0:=A76 W (by rw[U,I])
  have Z:lsA A y.i y.g=(A.n y.i.toNat).l:=by unfold lsA;rw[if_pos J]
  rw[if_pos I,Z,J]
 ·rw[if_neg I,(h.ok _ r1 r2).nol (by rw[U];exact I)]
  rfl
theorem Rq.repl(h:Rq H M A){i2 I:Int}(hb:U2 A i2 I)(aB:(A.n i2.toNat).k=1)(t:ByteArray)(J:Int)(hy:∀y,Z2 (A.n i2.toNat).l t=some y->U2 A y.i y.g/\(A.n y.i.toNat).k=y.k):
 (((⟨H,0⟩:CS).repl M i2 I t J).e=0/\(∀y,Z2 (A.n i2.toNat).l t=some y->y.k=J/\(A.n y.i.toNat).l=[])/\Rq ((⟨H,0⟩:CS).repl M i2 I t J).H M (A.opt (Z2 (A.n i2.toNat).l t))/\∃q,Dif H ((⟨H,0⟩:CS).repl M i2 I t J).H [1,q])\/
 (((⟨H,0⟩:CS).repl M i2 I t J).e=12/\∃y,Z2 (A.n i2.toNat).l t=some y/\y.k≠J)\/
 (((⟨H,0⟩:CS).repl M i2 I t J).e=13/\∃y,Z2 (A.n i2.toNat).l t=some y/\y.k=J/\(A.n y.i.toNat).l≠[]):=by
 obtain⟨f1,f2⟩:=h.find i2 I t
 have h0:V1 A i2 I 1=0:=A76 hb aB
 cases hf:Z2 (A.n i2.toNat).l t with
 |none=>
  have W:L4 H i2 I t=11:=by rw[f1];unfold fdE;rw[if_pos h0,hf];rfl
  have es:(⟨H,0⟩:CS).repl M i2 I t J=⟨H,0⟩:=by unfold CS.repl;exact if_pos W
  rw[es]
  exact .inl ⟨rfl,λy hy=>(by cases hy),h,0,Dif.refl _ _⟩
 |some y=>
  obtain⟨y1,y2⟩:=hy y hf
  have W:L4 H i2 I t=0:=by rw[f1];unfold fdE;rw[if_pos h0,hf];rfl
  have Z:J6 H i2 I t=y:=by rw[f2];unfold fdX;rw[if_pos h0,hf];rfl
  have em:=B95 h y1 y2
  by_cases U:y.k=J
  ·by_cases X:(A.n y.i.toNat).l.length=0
   ·have es:(⟨H,0⟩:CS).repl M i2 I t J=(⟨H,0⟩:CS).free M y.i y.g:=by
     unfold CS.repl
     rw[show L4 (⟨H,0⟩:CS).H i2 I t=0 from W,show J6 (⟨H,0⟩:CS).H i2 I t=y from Z,if_neg (by decide),if_pos U,A0v,show mfE (⟨H,0⟩:CS).H y=_ from em,if_pos X,A0v]
    rw[es]
    obtain⟨a1,a2,a3⟩:=Rq.free (s:=⟨H,0⟩) h rfl y1
    exact .inl ⟨a1,λy' e=>(by obtain rfl:=Option.some.inj e;exact⟨U,List.eq_nil_of_length_eq_zero X⟩),a2,_,a3⟩
   ·refine .inr (.inr ⟨?_,y,rfl,U,λe=>X (by rw[e];rfl)⟩)
    unfold CS.repl
    rw[show L4 (⟨H,0⟩:CS).H i2 I t=0 from W,show J6 (⟨H,0⟩:CS).H i2 I t=y from Z,if_neg (by decide),if_pos U,A0v,show mfE (⟨H,0⟩:CS).H y=_ from em,if_neg X]
    have aA:((⟨H,0⟩:CS).note 13).e=13:=rfl
    rw[B4U (by rw[aA];decide),aA]
  ·refine .inr (.inl ⟨?_,y,rfl,U⟩)
   unfold CS.repl
   rw[show L4 (⟨H,0⟩:CS).H i2 I t=0 from W,show J6 (⟨H,0⟩:CS).H i2 I t=y from Z,if_neg (by decide),if_neg U,A0v]
   have Y:((⟨H,0⟩:CS).note 12).e=12:=rfl
   rw[Y0 (by rw[Y];decide),B4U (by rw[Y];decide),Y]
theorem A1t{I:Option En}{i:Nat}(h:∀y,I=some y->y.i.toNat≠i):(A.opt I).n i=A.n i:=by
 cases I with
 |none=>rfl
 |some y=>exact As.up_ne _ _ (λe=>h y rfl e.symm)
theorem B96{I:Option En}{i g:Int}(X:U2 A i g)(h:∀y,I=some y->y.i.toNat≠i.toNat):U2 (A.opt I) i g:=by
 obtain⟨J,U,h3,W⟩:=X
 exact⟨J,U,by rw[A1t h];exact h3,by rw[A1t h];exact W⟩
theorem Rq.ren(h:Rq H M A){i g i2 I:Int}(ha:U2 A i g)(aH:(A.n i.toNat).k=1)(hb:U2 A i2 I)(aI:(A.n i2.toNat).k=1)(s:ByteArray){t:ByteArray}(X:Nam t){x:En}(hx:okE x)(aW:(A.n i.toNat).l≠[])
 (hy:∀y,Z2 (A.n i2.toNat).l t=some y->U2 A y.i y.g/\(A.n y.i.toNat).k=y.k):
 (ChD H M (A2E H M i g s i2 I t x) (Y5 A i.toNat i2.toNat s t x (Z2 (A.n i2.toNat).l t))/\(∀y,Z2 (A.n i2.toNat).l t=some y->y.k=x.k/\(A.n y.i.toNat).l=[])/\(A8j A i.toNat i2.toNat s t x).length<=24)\/
 ((A2E H M i g s i2 I t x).e=12/\∃y,Z2 (A.n i2.toNat).l t=some y/\y.k≠x.k)\/
 ((A2E H M i g s i2 I t x).e=13/\∃y,Z2 (A.n i2.toNat).l t=some y/\y.k=x.k/\(A.n y.i.toNat).l≠[])\/
 ((A2E H M i g s i2 I t x).e=8/\(∀y,Z2 (A.n i2.toNat).l t=some y->y.k=x.k/\(A.n y.i.toNat).l=[])/\(24<(A8j A i.toNat i2.toNat s t x).length\/M<(Y5 A i.toNat i2.toNat s t x (Z2 (A.n i2.toNat).l t)).use+42\/(A.n i.toNat).v=1099511627775\/(A.n i2.toNat).v=1099511627775)):=by
 obtain⟨r1,r2⟩:=N6 ha
 obtain⟨q1,q2⟩:=N6 hb
 have aL:(i2=i/\I=g)↔i2.toNat=i.toNat:=by
  constructor
  ·rintro⟨e,_⟩;rw[e]
  ·intro e
   have h1:=ha.1;have h2:=hb.1
   have U:i2=i:=by omega
   refine⟨U,?_⟩
   rw[<-ha.2.2.2,<-hb.2.2.2,U]
 have aO:∀{Y:CS} {e:Int},Y.e=e->e≠0->(if i2=i/\I=g then((Y.leave M i g s).enter M i2 I ⟨t,x.i,x.g,x.k⟩).touch i g else(((Y.leave M i g s).enter M i2 I ⟨t,x.i,x.g,x.k⟩).touch i g).touch i2 I).e=e:=by
  intro Y e he hz
  have hs:Y.e≠0:=by rw[he];exact hz
  rw[B9r hs,B1W hs,A0o hs,A0o hs]
  split<;>exact he
 unfold A2E
 rcases h.repl hb aI t x.k hy with⟨a1,ay,Z,q,a3⟩|⟨a1,Z⟩|⟨a1,Z⟩
 ·obtain⟨Y,aX⟩:∃Y,Y=(⟨H,0⟩:CS).repl M i2 I t x.k:=⟨_,rfl⟩
  rw[<-aX]at a1 Z a3⊢
  obtain⟨yo,aN⟩:∃yo,yo=Z2 (A.n i2.toNat).l t:=⟨_,rfl⟩
  rw[<-aN]at ay Z⊢
  have y1:∀y,yo=some y->y.i.toNat≠i.toNat:=λy e U=>by
   have:=(ay y e).2
   rw[U]at this
   exact aW this
  have y2:∀y,yo=some y->y.i.toNat≠i2.toNat:=λy e U=>by
   have h1:=(ay y e).2
   rw[U]at h1
   have h2:=(Y1 (aN.symm.trans e)).1
   rw[h1]at h2
   simp at h2
  obtain⟨W,aA⟩:∃W,W=A.opt yo:=⟨_,rfl⟩
  rw[<-aA]at Z
  have n1:W.n i.toNat=A.n i.toNat:=by rw[aA];exact A1t y1
  have bC:W.n i2.toNat=A.n i2.toNat:=by rw[aA];exact A1t y2
  have aP:U2 W i g:=by rw[aA];exact B96 ha y1
  have bF:U2 W i2 I:=by rw[aA];exact B96 hb y2
  obtain⟨b1,b2,K,hK,b3⟩:=Z.leave a1 aP (by rw[n1];exact aH) s
  obtain⟨s2,aY⟩:∃s2,s2=Y.leave M i g s:=⟨_,rfl⟩
  rw[<-aY]at b1 b2 b3⊢
  obtain⟨J,aB⟩:∃J,J=W.up i.toNat ((W.n i.toNat).ls (dropL (W.n i.toNat).l s)):=⟨_,rfl⟩
  rw[<-aB]at b2
  have n2:J.n i.toNat=(A.n i.toNat).ls (dropL (A.n i.toNat).l s):=by rw[aB,As.up_at,n1]
  have tw:∀{i3 g3:Int} {B B':As} {y:Nd},B'=B.up i.toNat y->U2 B i3 g3->y.k=(B.n i.toNat).k->y.g=(B.n i.toNat).g->U2 B' i3 g3:=by
   intro i3 g3 B B' y e X hk hg
   rw[e]
   refine A2D X (λU=>?_)
   rw[hk,hg,U]
   exact⟨X.2.2.1,X.2.2.2⟩
  have aT:∀{i3 g3:Int} {B B':As} {y:Nd},B'=B.up i2.toNat y->U2 B i3 g3->y.k=(B.n i2.toNat).k->y.g=(B.n i2.toNat).g->U2 B' i3 g3:=by
   intro i3 g3 B B' y e X hk hg
   rw[e]
   refine A2D X (λU=>?_)
   rw[hk,hg,U]
   exact⟨X.2.2.1,X.2.2.2⟩
  have bD:U2 J i g:=tw aB aP rfl rfl
  have aR:U2 J i2 I:=tw aB bF rfl rfl
  have aE:(J.n i2.toNat).k=1/\(J.n i2.toNat).v=(A.n i2.toNat).v/\(J.n i2.toNat).l=(if i2.toNat=i.toNat then dropL (A.n i.toNat).l s else(A.n i2.toNat).l):=by
   by_cases e:i2.toNat=i.toNat
   ·rw[e,n2,if_pos rfl];exact⟨aH,rfl,rfl⟩
   ·rw[aB,As.up_ne _ _ e,bC,if_neg e];exact⟨aI,rfl,rfl⟩
  obtain⟨z,hz⟩:∃z:En,z=⟨t,x.i,x.g,x.k⟩:=⟨_,rfl⟩
  have bB:okE z:=by rw[hz];exact⟨X,hx.2⟩
  have hL:T1 (J.n i2.toNat).l z=A8j A i.toNat i2.toNat s t x:=by rw[aE.2.2,hz];rfl
  rw[<-hz]
  rcases b2.enter b1 aR aE.1 bB with⟨c1,c0,c2,K',bH,c3⟩|⟨c1,c2⟩
  ·obtain⟨s3,aZ⟩:∃s3,s3=s2.enter M i2 I z:=⟨_,rfl⟩
   rw[<-aZ]at c1 c2 c3⊢
   rw[hL]at c0
   obtain⟨A3,aC⟩:∃A3,A3=J.up i2.toNat ((J.n i2.toNat).ls (T1 (J.n i2.toNat).l z)):=⟨_,rfl⟩
   rw[<-aC]at c2
   have aQ:U2 A3 i g:=aT aC bD rfl rfl
   have bG:U2 A3 i2 I:=aT aC aR rfl rfl
   have aU:(A3.n i.toNat).v=(A.n i.toNat).v:=by
    by_cases e:i.toNat=i2.toNat
    ·rw[aC,e,As.up_at]
     show(J.n i2.toNat).v=_
     rw[aE.2.1]
    ·rw[aC,As.up_ne _ _ e,n2];rfl
   have aK:∀{s':CS},Dif H s'.H (([1,q]++(1::(1+i.toNat)::K))++(1::(1+i2.toNat)::K')++[1+i.toNat]++[1+i2.toNat])->∃L:List Nat,L.length<=14/\Dif H s'.H L:=by
    intro s' hd
    refine⟨[1,q,1+i.toNat,1+i2.toNat]++K++K',by simp only[List.length_append,List.length_cons,List.length_nil];omega,hd.mono λk hk=>?_⟩
    simp only[List.mem_append,List.mem_cons,List.not_mem_nil,or_false]at hk⊢
    rcases hk with((((e|e)|e|e|e)|e|e|e)|e)|e
    ·exact .inl (.inl (.inl e))
    ·exact .inl (.inl (.inr (.inl e)))
    ·exact .inl (.inl (.inl e))
    ·exact .inl (.inl (.inr (.inr (.inl e))))
    ·exact .inl (.inr e)
    ·exact .inl (.inl (.inl e))
    ·exact .inl (.inl (.inr (.inr (.inr e))))
    ·exact .inr e
    ·exact .inl (.inl (.inr (.inr (.inl e))))
    ·exact .inl (.inl (.inr (.inr (.inr e))))
   by_cases aF:(A.n i.toNat).v=1099511627775
   ·right;right;right
    refine⟨?_,ay,.inr (.inr (.inl aF))⟩
    have t8:=c2.touch_full c1 aQ (by rw[aU];exact aF)
    split
    ·exact t8
    ·rw[A0o (by rw[t8];decide),t8]
   ·obtain⟨d1,d2,d3⟩:=c2.touch c1 aQ (by rw[aU];exact aF)
    obtain⟨s4,bA⟩:∃s4,s4=s3.touch i g:=⟨_,rfl⟩
    rw[<-bA]at d1 d2 d3⊢
    obtain⟨A4,aD⟩:∃A4,A4=A3.up i.toNat (A3.n i.toNat).inc:=⟨_,rfl⟩
    rw[<-aD]at d2
    have aJ:=((a3.trans b3).trans c3).trans d3
    by_cases e:i2.toNat=i.toNat
    ·rw[if_pos (aL.2 e)]
     refine .inl ⟨⟨d1,?_,aK (aJ.mono λk hk=>List.mem_append.2 (.inl hk))⟩,ay,c0⟩
     have er:Y5 A i.toNat i2.toNat s t x yo=A4:=by
      unfold Y5
      simp only
      rw[if_pos e,<-aA,<-aB,<-hz,<-aC,<-aD]
     rw[er]
     exact d2
    ·rw[if_neg (λy=>e (aL.1 y))]
     have aS:U2 A4 i2 I:=tw aD bG rfl rfl
     have aV:(A4.n i2.toNat).v=(A.n i2.toNat).v:=by
      rw[aD,As.up_ne _ _ e,aC,As.up_at]
      exact aE.2.1
     by_cases aG:(A.n i2.toNat).v=1099511627775
     ·right;right;right
      exact⟨d2.touch_full d1 aS (by rw[aV];exact aG),ay,.inr (.inr (.inr aG))⟩
     ·obtain⟨f1,f2,f3⟩:=d2.touch d1 aS (by rw[aV];exact aG)
      refine .inl ⟨⟨f1,?_,aK (aJ.trans f3)⟩,ay,c0⟩
      have er:Y5 A i.toNat i2.toNat s t x yo=A4.up i2.toNat (A4.n i2.toNat).inc:=by
       unfold Y5
       simp only
       rw[if_neg e,<-aA,<-aB,<-hz,<-aC,<-aD]
      rw[er]
      exact f2
  ·right;right;right
   have aM:(s2.enter M i2 I z).e≠0:=by rw[c1];decide
   refine⟨?_,ay,?_⟩
   ·rw[A0o aM,A0o aM]
    split<;>exact c1
   ·rcases c2 with c2|c2
    ·exact .inl (by rw[<-hL];exact c2)
    ·refine .inr (.inl ?_)
     have er:(Y5 A i.toNat i2.toNat s t x yo).use=(J.up i2.toNat ((J.n i2.toNat).ls (T1 (J.n i2.toNat).l z))).use:=by
      unfold Y5
      simp only
      rw[<-aA,<-aB,<-hz]
      split
      ·rw[A3e]
      ·rw[A3e,A3e]
     rw[er]
     exact c2
 ·exact .inr (.inl ⟨aO a1 (by decide),Z⟩)
 ·exact .inr (.inr (.inl ⟨aO a1 (by decide),Z⟩))
end
end
section
open Go.RowKit
theorem A6l{l:List En}(h:Ris l){x y:En}(W:x∈l)(Y:y∈l)(e:x.s=y.s):x=y:=by
 obtain⟨i,hi,X⟩:=List.getElem_of_mem W
 obtain⟨j,U,Z⟩:=List.getElem_of_mem Y
 have J:l[i]? =some x:=by rw[List.getElem?_eq_getElem hi,X]
 have I:l[j]? =some y:=by rw[List.getElem?_eq_getElem U,Z]
 rcases Nat.lt_trichotomy i j with c|c|c
 ·have:=h.lt J I c;rw[e]at this;exact absurd this (A0k _)
 ·subst c;rw[J]at I;exact Option.some.inj I
 ·have:=h.lt I J c;rw[e]at this;exact absurd this (A0k _)
theorem Tr.congr{A B:As}(h:Tr A)(W:∀i,(B.n i).k=(A.n i).k)(Y:∀i,(B.n i).g=(A.n i).g)(U:∀i x,x∈(B.n i).l↔x∈(A.n i).l):Tr B:=by
 refine⟨by rw[W,Y];exact h.root,λi x I J X=>?_,λi x Z x' I J h3 h4 X aB=>h.one i x Z x' I J h3 h4 ((U i x).1 X) ((U Z x').1 aB),λc I J aA hc=>?_⟩
 ·rw[W,Y]
  exact h.ent i x I J ((U i x).1 X)
 ·obtain⟨i,x,e1,e2,e3,e4⟩:=h.par c I J (by rw[<-W];exact aA) hc
  exact⟨i,x,e1,e2,(U i x).2 e3,e4⟩
theorem Tr.wri{A:As}(h:Tr A)(i j:Nat)(d:ByteArray):Tr (A0Z A i j d):=
 h.congr (λk=>by unfold A0Z As.up;simp only;split<;>simp_all[Nd.inc,Nd.bk]) (λk=>by unfold A0Z As.up;simp only;split<;>simp_all[Nd.inc,Nd.bk]) (λk x=>by unfold A0Z As.up;simp only;split<;>simp_all[Nd.inc,Nd.bk])
theorem Tr.tru{A:As}(h:Tr A)(i:Nat):Tr (A5q A i):=
 h.congr (λk=>by unfold A5q As.up;simp only;split<;>simp_all[Nd.inc,Nd.bk]) (λk=>by unfold A5q As.up;simp only;split<;>simp_all[Nd.inc,Nd.bk]) (λk x=>by unfold A5q As.up;simp only;split<;>simp_all[Nd.inc,Nd.bk])
theorem Tr.drop{A B:As}(h:Tr A){D y:Nat}{x0:En}(X:1<=D/\D<=40)(aC:x0∈(A.n D).l)(Z:x0.i.toNat=y)(W:∀i x,x∈(B.n i).l↔x∈(A.n i).l/\¬(i=D/\x=x0))(Y:∀i,i≠y->(B.n i).k=(A.n i).k/\(B.n i).g=(A.n i).g)(hz:(B.n y).k=0):Tr B:=by
 have aD:y≠1:=by rw[<-Z];exact(h.ent D x0 X.1 X.2 aC).2.2
 have aE:∀i x,1<=i->i<=40->x∈(B.n i).l->x.i.toNat≠y:=λi x I J U e=>by
  obtain⟨m,n⟩:=(W i x).1 U
  exact n (h.one i x D x0 I J X.1 X.2 m aC (by rw[e,Z]))
 refine⟨by rw[(Y 1 aD.symm).1,(Y 1 aD.symm).2];exact h.root,λi x I J U=>?_,λi x i' x' I J h3 h4 U aF=>h.one i x i' x' I J h3 h4 ((W i x).1 U).1 ((W i' x').1 aF).1,λc I J aB hc=>?_⟩
 ·have:=Y _ (aE i x I J U)
  rw[this.1,this.2]
  exact h.ent i x I J ((W i x).1 U).1
 ·have aA:c≠y:=λe=>aB (by rw[e];exact hz)
  obtain⟨i,x,e1,e2,e3,e4⟩:=h.par c I J (by rw[<-(Y c aA).1];exact aB) hc
  exact⟨i,x,e1,e2,(W i x).2 ⟨e3,λ⟨_,e6⟩=>aA (by rw[<-e4,e6,Z])⟩,e4⟩
theorem Tr.move{A B:As}(h:Tr A){D D2:Nat}{x0 e:En}(hD:1<=D/\D<=40)(aB:1<=D2/\D2<=40)(aE:x0∈(A.n D).l)(Z:e.i=x0.i/\e.g=x0.g/\e.k=x0.k)(Y:∀i x,x∈(B.n i).l↔(i=D2/\x=e)\/(x∈(A.n i).l/\¬(i=D/\x=x0)))(hk:∀i,(B.n i).k=(A.n i).k/\(B.n i).g=(A.n i).g):Tr B:=by
 have h0:=h.ent D x0 hD.1 hD.2 aE
 have aC:∀i x,1<=i->i<=40->x∈(A.n i).l->¬(i=D/\x=x0)->x.i.toNat≠e.i.toNat:=λi x I J U hn e1=>
  hn (h.one i x D x0 I J hD.1 hD.2 U aE (by rw[e1,Z.1]))
 refine⟨by rw[(hk 1).1,(hk 1).2];exact h.root,λi x I J U=>?_,λi x i' x' I J h3 h4 U aD aA=>?_,λc I J aF hc=>?_⟩
 ·rw[(hk _).1,(hk _).2]
  rcases(Y i x).1 U with⟨_,e2⟩|⟨m,_⟩
  ·rw[e2,Z.1,Z.2.1,Z.2.2];exact h0
  ·exact h.ent i x I J m
 ·rcases(Y i x).1 U with⟨a1,a2⟩|⟨a1,a2⟩
  ·rcases(Y i' x').1 aD with⟨W,X⟩|⟨W,X⟩
   ·exact⟨a1.trans W.symm,a2.trans X.symm⟩
   ·exact absurd (by rw[<-aA,a2]) (aC i' x' h3 h4 W X)
  ·rcases(Y i' x').1 aD with⟨W,X⟩|⟨W,X⟩
   ·exact absurd (by rw[aA,X]) (aC i x I J a1 a2)
   ·exact h.one i x i' x' I J h3 h4 a1 W aA
 ·obtain⟨i,x,e1,e2,e3,e4⟩:=h.par c I J (by rw[<-(hk c).1];exact aF) hc
  by_cases U:i=D/\x=x0
  ·exact⟨D2,e,aB.1,aB.2,(Y D2 e).2 (.inl ⟨rfl,rfl⟩),by rw[Z.1,<-U.2,e4]⟩
  ·exact⟨i,x,e1,e2,(Y i x).2 (.inr ⟨e3,U⟩),e4⟩
theorem Tr.more{A B:As}(h:OkA A){D c:Nat}{e:En}(hD:1<=D/\D<=40)(aC:(A.n c).k=0)(Z:e.i.toNat=c)(W:∀i x,x∈(B.n i).l↔(i=D/\x=e)\/x∈(A.n i).l)(hk:∀i,i≠c->(B.n i).k=(A.n i).k/\(B.n i).g=(A.n i).g)(aE:(B.n c).k=e.k/\(B.n c).g=e.g):Tr B:=by
 have aA:c≠1:=λx=>by rw[x,h.tr.root.1]at aC;cases aC
 have aD:∀i x,1<=i->i<=40->x∈(A.n i).l->x.i.toNat≠c:=λi x I J X e1=>by
  obtain⟨o1,_,_,o2⟩:=h.okE I J X
  exact o2.2.2.1 (by rw[e1];exact aC)
 refine⟨by rw[(hk 1 aA.symm).1,(hk 1 aA.symm).2];exact h.tr.root,λi x I J X=>?_,λi x i' x' I J h3 h4 X aG aB=>?_,λq I J aH hq=>?_⟩
 ·rcases(W i x).1 X with⟨_,e2⟩|m
  ·rw[e2,Z];exact⟨aE.1,aE.2,aA⟩
  ·have:=hk _ (aD i x I J m)
   rw[this.1,this.2]
   exact h.tr.ent i x I J m
 ·rcases(W i x).1 X with⟨Y,a2⟩|Y
  ·rcases(W i' x').1 aG with⟨U,b2⟩|U
   ·exact⟨Y.trans U.symm,a2.trans b2.symm⟩
   ·exact absurd (by rw[<-aB,a2,Z]) (aD i' x' h3 h4 U)
  ·rcases(W i' x').1 aG with⟨U,b2⟩|U
   ·exact absurd (by rw[aB,b2,Z]) (aD i x I J Y)
   ·exact h.tr.one i x i' x' I J h3 h4 Y U aB
 ·by_cases aF:q=c
  ·exact⟨D,e,hD.1,hD.2,(W D e).2 (.inl ⟨rfl,rfl⟩),by rw[Z,aF]⟩
  ·obtain⟨i,x,e1,e2,e3,e4⟩:=h.tr.par q I J (by rw[<-(hk q aF).1];exact aH) hq
   exact⟨i,x,e1,e2,(W i x).2 (.inr e3),e4⟩
section
variable {A:As}
theorem Tr.cre(h:OkA A){i g:Int}(ht:U2 A i g){s:ByteArray}(hs:Z2 (A.n i.toNat).l s=none){I:Int}{j:Nat}(hj:A2B A=some j):Tr (V5 A i s I j):=by
 obtain⟨r1,r2⟩:=N6 ht
 obtain⟨j1,U,j3⟩:=A1B hj
 have J:i.toNat≠1+j:=λe=>ht.2.2.1 (by rw[e];exact U)
 have aB:=h.ok (1+j) (by omega) (by omega)
 have aA:(A.n (1+j)).l=[]:=aB.nol (by rw[U];decide)
 have Z:(V5 A i s I j).n i.toNat=((A.n i.toNat).ls (T1 (A.n i.toNat).l ⟨s,((1+j:Nat):Int),(A.n (1+j)).g+1,I⟩)).inc:=by
  unfold V5
  simp only
  rw[As.up_at,As.up_at]
 have Y:(V5 A i s I j).n (1+j)=Nd.new I ((A.n (1+j)).g+1):=by
  unfold V5
  simp only
  rw[As.up_ne _ _ J.symm,As.up_ne _ _ J.symm,As.up_at]
 have hO:∀k,k≠i.toNat->k≠1+j->(V5 A i s I j).n k=A.n k:=λk X h2=>by
  unfold V5
  simp only
  rw[As.up_ne _ _ X,As.up_ne _ _ X,As.up_ne _ _ h2]
 refine Tr.more (B:=V5 A i s I j) (D:=i.toNat) (c:=1+j) (e:=⟨s,((1+j:Nat):Int),(A.n (1+j)).g+1,I⟩) h ⟨r1,r2⟩ U (Int.toNat_natCast _) (λk x=>?_) (λk hk=>?_) (by rw[Y];exact⟨rfl,rfl⟩)
 ·by_cases e:k=i.toNat
  ·rw[e,Z]
   show x∈T1 _ _↔_
   rw[B2k]
   constructor
   ·rintro(y|⟨y,_⟩)
    ·exact .inl ⟨rfl,y⟩
    ·exact .inr y
   ·rintro(⟨_,y⟩|y)
    ·exact .inl y
    ·exact .inr ⟨y,B2j hs x y⟩
  ·by_cases W:k=1+j
   ·rw[W,Y,aA]
    show x∈[]↔_
    constructor
    ·intro y;simp at y
    ·rintro(⟨y,_⟩|y)
     ·exact absurd y.symm J
     ·exact y
   ·rw[hO k e W]
    constructor
    ·exact .inr
    ·rintro(⟨y,_⟩|y)
     ·exact absurd y e
     ·exact y
 ·by_cases e:k=i.toNat
  ·rw[e,Z];exact⟨rfl,rfl⟩
  ·rw[hO k e hk];exact⟨rfl,rfl⟩
theorem Tr.rem(h:OkA A){i g:Int}(ht:U2 A i g){s:ByteArray}{x:En}(hx:Z2 (A.n i.toNat).l s=some x)(hl:(A.n x.i.toNat).l=[]):Tr (A05 A i s x):=by
 obtain⟨r1,r2⟩:=N6 ht
 obtain⟨J,m2⟩:=Y1 hx
 have aA:i.toNat≠x.i.toNat:=λe=>by rw[e,hl]at J;simp at J
 have aB:=A8A (h.ok _ r1 r2).rise
 have Y:(A05 A i s x).n i.toNat=((A.n i.toNat).ls (dropL (A.n i.toNat).l s)).inc:=by
  unfold A05
  simp only
  rw[As.up_at,As.up_at]
 have hY:(A05 A i s x).n x.i.toNat=Nd.gone x.g:=by
  unfold A05
  simp only
  rw[As.up_ne _ _ aA.symm,As.up_ne _ _ aA.symm,As.up_at]
 have Z:∀k,k≠i.toNat->k≠x.i.toNat->(A05 A i s x).n k=A.n k:=λk X h2=>by
  unfold A05
  simp only
  rw[As.up_ne _ _ X,As.up_ne _ _ X,As.up_ne _ _ h2]
 refine Tr.drop (B:=A05 A i s x) (D:=i.toNat) (y:=x.i.toNat) (x0:=x) h.tr ⟨r1,r2⟩ J rfl (λk z=>?_) (λk hk=>?_) (by rw[hY];rfl)
 ·by_cases e:k=i.toNat
  ·rw[e,Y]
   show z∈dropL _ _↔_
   rw[A0C]
   constructor
   ·rintro⟨y,I⟩
    exact⟨y,λ⟨_,U⟩=>I (by rw[U];exact m2)⟩
   ·rintro⟨y,I⟩
    exact⟨y,λU=>I ⟨rfl,A6l aB y J (by rw[U,m2])⟩⟩
  ·by_cases W:k=x.i.toNat
   ·rw[W,hY,hl]
    show z∈[]↔_
    simp
   ·rw[Z k e W]
    exact⟨λy=>⟨y,λI=>e I.1⟩,λy=>y.1⟩
 ·by_cases e:k=i.toNat
  ·rw[e,Y];exact⟨rfl,rfl⟩
  ·rw[Z k e hk];exact⟨rfl,rfl⟩
theorem C48(A:As){i i2:Nat}(s t:ByteArray)(x:En)(I:Option En)(y1:∀y,I=some y->y.i.toNat≠i)(y2:∀y,I=some y->y.i.toNat≠i2):
 ((Y5 A i i2 s t x I).n i2).l=A8j A i i2 s t x/\(i2≠i->((Y5 A i i2 s t x I).n i).l=dropL (A.n i).l s)/\(∀k,k≠i->k≠i2->(Y5 A i i2 s t x I).n k=(A.opt I).n k)/\(∀k,(k=i\/k=i2)->((Y5 A i i2 s t x I).n k).k=(A.n k).k/\((Y5 A i i2 s t x I).n k).g=(A.n k).g):=by
 have Z:(A.opt I).n i=A.n i:=A1t y1
 have Y:(A.opt I).n i2=A.n i2:=A1t y2
 unfold Y5 A8j
 simp only
 rw[Z]
 by_cases e:i2=i
 ·subst e
  rw[if_pos rfl,if_pos rfl]
  refine⟨by rw[As.up_at,As.up_at,As.up_at];rfl,λx=>absurd rfl x,λk J _=>by rw[As.up_ne _ _ J,As.up_ne _ _ J,As.up_ne _ _ J],λk W=>?_⟩
  have:k=i2:=by rcases W with x|x<;>exact x
  subst this
  rw[As.up_at,As.up_at,As.up_at]
  exact⟨rfl,rfl⟩
 ·rw[if_neg e,if_neg e]
  have U:i≠i2:=λx=>e x.symm
  refine⟨?_,λ_=>?_,λk J X=>by rw[As.up_ne _ _ X,As.up_ne _ _ J,As.up_ne _ _ X,As.up_ne _ _ J],λk W=>?_⟩
  ·rw[As.up_at,As.up_ne _ _ e,As.up_at,As.up_ne _ _ e,Y]
   rfl
  ·rw[As.up_ne _ _ U,As.up_at,As.up_ne _ _ U,As.up_at]
   rfl
  ·rcases W with rfl|rfl
   ·rw[As.up_ne _ _ U,As.up_at,As.up_ne _ _ U,As.up_at]
    exact⟨rfl,rfl⟩
   ·rw[As.up_at,As.up_ne _ _ e,As.up_at,As.up_ne _ _ e,Y]
    exact⟨rfl,rfl⟩
theorem Tr.ren(h:OkA A){i g i2 g2:Int}(ha:U2 A i g)(hb:U2 A i2 g2){s t:ByteArray}{x:En}(hx:Z2 (A.n i.toNat).l s=some x)(aF:¬(i.toNat=i2.toNat/\s=t))(hy:∀y,Z2 (A.n i2.toNat).l t=some y->(A.n y.i.toNat).l=[]):
 Tr (Y5 A i.toNat i2.toNat s t x (Z2 (A.n i2.toNat).l t)):=by
 obtain⟨r1,r2⟩:=N6 ha
 obtain⟨q1,q2⟩:=N6 hb
 obtain⟨Y,Z⟩:=Y1 hx
 have aE:=A8A (h.ok _ r1 r2).rise
 have aK:=A8A (h.ok _ q1 q2).rise
 obtain⟨U,aA⟩:∃U,U=Z2 (A.n i2.toNat).l t:=⟨_,rfl⟩
 rw[<-aA]at hy⊢
 have my:∀y,U=some y->y∈(A.n i2.toNat).l/\y.s=t:=λy e=>Y1 (aA.symm.trans e)
 have y1:∀y,U=some y->y.i.toNat≠i.toNat:=λy e I=>by
  have:=hy y e
  rw[I]at this
  rw[this]at Y
  simp at Y
 have y2:∀y,U=some y->y.i.toNat≠i2.toNat:=λy e I=>by
  have h1:=hy y e
  rw[I]at h1
  have h2:=(my y e).1
  rw[h1]at h2
  simp at h2
 have yx:∀y,U=some y->y.i.toNat≠x.i.toNat:=λy e I=>by
  obtain⟨z1,z2⟩:=h.tr.one _ y _ x q1 q2 r1 r2 (my y e).1 Y I
  exact aF ⟨z1.symm,by rw[<-Z,<-z2];exact(my y e).2⟩
 obtain⟨N1,N2,N3,N4⟩:=C48 A (i:=i.toNat) (i2:=i2.toNat) s t x U y1 y2
 obtain⟨z,hz⟩:∃z:En,z=⟨t,x.i,x.g,x.k⟩:=⟨_,rfl⟩
 obtain⟨B,aI,aC,aB⟩:∃B:As,Tr B/\(∀k w,w∈(B.n k).l↔w∈(A.n k).l/\¬(k=i2.toNat/\w.s=t))/\∀k,(B.n k).k=((A.opt U).n k).k/\(B.n k).g=((A.opt U).n k).g:=by
  cases hyq:U with
  |none=>
   refine⟨A,h.tr,λk w=>⟨λm=>⟨m,λ⟨e1,I⟩=>?_⟩,λm=>m.1⟩,λk=>⟨rfl,rfl⟩⟩
   rw[e1]at m
   exact B2j (aA.symm.trans hyq) w m I
  |some y=>
   obtain⟨aG,aH⟩:=my y hyq
   have aD:=hy y hyq
   refine⟨(A.up y.i.toNat (Nd.gone y.g)).up i2.toNat ((A.n i2.toNat).ls (dropL (A.n i2.toNat).l t)),?_,?_,?_⟩
   ·refine Tr.drop (D:=i2.toNat) (y:=y.i.toNat) (x0:=y) h.tr ⟨q1,q2⟩ aG rfl (λk w=>?_) (λk X=>?_) ?_
    ·by_cases e:k=i2.toNat
     ·rw[e,As.up_at]
      show w∈dropL _ _↔_
      rw[A0C]
      constructor
      ·rintro⟨v,J⟩
       exact⟨v,λ⟨_,W⟩=>J (by rw[W];exact aH)⟩
      ·rintro⟨v,J⟩
       exact⟨v,λW=>J ⟨rfl,A6l aK v aG (by rw[W,aH])⟩⟩
     ·rw[As.up_ne _ _ e]
      by_cases I:k=y.i.toNat
      ·rw[I,As.up_at,aD]
       show w∈[]↔_
       simp
      ·rw[As.up_ne _ _ I]
       exact⟨λv=>⟨v,λJ=>e J.1⟩,λv=>v.1⟩
    ·by_cases e:k=i2.toNat
     ·rw[e,As.up_at];exact⟨rfl,rfl⟩
     ·rw[As.up_ne _ _ e,As.up_ne _ _ X];exact⟨rfl,rfl⟩
    ·rw[As.up_ne _ _ (y2 y hyq),As.up_at];rfl
   ·intro k w
    by_cases e:k=i2.toNat
    ·rw[e,As.up_at]
     show w∈dropL _ _↔_
     rw[A0C]
     exact⟨λv=>⟨v.1,λJ=>v.2 J.2⟩,λv=>⟨v.1,λJ=>v.2 ⟨rfl,J⟩⟩⟩
    ·rw[As.up_ne _ _ e]
     by_cases I:k=y.i.toNat
     ·rw[I,As.up_at,aD]
      show w∈[]↔_
      simp
     ·rw[As.up_ne _ _ I]
      exact⟨λv=>⟨v,λJ=>e J.1⟩,λv=>v.1⟩
   ·intro k
    by_cases e:k=i2.toNat
    ·rw[e,As.up_at]
     show _=((A.up y.i.toNat _).n i2.toNat).k/\_=((A.up y.i.toNat _).n i2.toNat).g
     rw[As.up_ne _ _ (λq=>y2 y hyq q.symm)]
     exact⟨rfl,rfl⟩
    ·rw[As.up_ne _ _ e];exact⟨rfl,rfl⟩
 have aL:x∈(B.n i.toNat).l:=(aC _ _).2 ⟨Y,λ⟨e1,I⟩=>aF ⟨e1,by rw[<-Z];exact I⟩⟩
 refine Tr.move (B:=Y5 A i.toNat i2.toNat s t x U) (D:=i.toNat) (D2:=i2.toNat) (x0:=x) (e:=z) aI ⟨r1,r2⟩ ⟨q1,q2⟩ aL (by rw[hz];exact⟨rfl,rfl,rfl⟩) (λk w=>?_) (λk=>?_)
 ·rw[aC]
  by_cases I:k=i2.toNat
  ·rw[I,N1]
   unfold A8j
   rw[B2k,<-hz]
   have aM:z.s=t:=by rw[hz]
   rw[aM]
   by_cases e:i2.toNat=i.toNat
   ·rw[if_pos e,A0C,e]
    constructor
    ·rintro(v|⟨⟨v,J⟩,W⟩)
     ·exact .inl ⟨rfl,v⟩
     ·exact .inr ⟨⟨v,λq=>W q.2⟩,λq=>J (by rw[q.2];exact Z)⟩
    ·rintro(⟨_,v⟩|⟨⟨v,J⟩,W⟩)
     ·exact .inl v
     ·exact .inr ⟨⟨v,λq=>W ⟨rfl,A6l aE v Y (by rw[q,Z])⟩⟩,λq=>J ⟨rfl,q⟩⟩
   ·rw[if_neg e]
    constructor
    ·rintro(v|⟨v,W⟩)
     ·exact .inl ⟨rfl,v⟩
     ·exact .inr ⟨⟨v,λq=>W q.2⟩,λq=>e q.1⟩
    ·rintro(⟨_,v⟩|⟨⟨v,J⟩,_⟩)
     ·exact .inl v
     ·exact .inr ⟨v,λq=>J ⟨rfl,q⟩⟩
  ·by_cases e:k=i.toNat
   ·rw[e,N2 (λq=>I (by rw[e,q])),A0C]
    constructor
    ·rintro⟨v,J⟩
     exact .inr ⟨⟨v,λq=>I (by rw[e];exact q.1)⟩,λq=>J (by rw[q.2];exact Z)⟩
    ·rintro(⟨v,_⟩|⟨⟨v,_⟩,W⟩)
     ·exact absurd (e.trans v) I
     ·exact⟨v,λq=>W ⟨rfl,A6l aE v Y (by rw[q,Z])⟩⟩
   ·rw[N3 k e I]
    have aJ:((A.opt U).n k).l=(A.n k).l:=by
     cases hyq:U with
     |none=>rfl
     |some y=>
      show((A.up y.i.toNat _).n k).l=_
      by_cases e3:k=y.i.toNat
      ·rw[e3,As.up_at,hy y hyq];rfl
      ·rw[As.up_ne _ _ e3]
    rw[aJ]
    constructor
    ·intro v
     exact .inr ⟨⟨v,λq=>I q.1⟩,λq=>e q.1⟩
    ·rintro(⟨v,_⟩|⟨⟨v,_⟩,_⟩)
     ·exact absurd v I
     ·exact v
 ·rw[(aB k).1,(aB k).2]
  by_cases X:k=i.toNat\/k=i2.toNat
  ·rw[(N4 k X).1,(N4 k X).2]
   rcases X with e|e
   ·rw[e,A1t y1];exact⟨rfl,rfl⟩
   ·rw[e,A1t y2];exact⟨rfl,rfl⟩
  ·rw[N3 k (λq=>X (.inl q)) (λq=>X (.inr q))];exact⟨rfl,rfl⟩
end
end
section
open Go.RowKit
theorem C14(o:Option Hd):nx none o=o:=by
 cases o with
 |none=>rfl
 |some h=>
  show(if hZ.g<=h.g then some h else none)=some h
  exact if_pos (Nat.zero_le _)
theorem C3p(s:DS)(p:Nat):U8 s p 2=nx (unO (isS s p) 0) (unO (isS s (p+1)) 1):=by
 rw[A3C,A3C]
 show nx (nx none _) _=_
 rw[C14,Nat.add_zero]
end
section
open Go.RowKit
def two(I J:List Nat):Option Hd:=nx (unO I 0) (unO J 1)
theorem B97{e:Nat}{h:Hd}(k:hOk e h):unO (A1o e h) (h.g%2)=some h:=A9y (B59 k) rfl
theorem B0n{A:Option Hd}{b:Hd}(I:(A.getD hZ).g<=b.g):nx A (some b)=some b:=if_pos I
theorem B0o{A:Option Hd}{b:Hd}(I:¬(A.getD hZ).g<=b.g):nx A (some b)=A:=if_neg I
theorem C4A{A B:Option Hd}{c:Hd}(h:nx A B=some c):(∀a,A=some a->a.g<=c.g)/\(∀b,B=some b->b.g<=c.g):=by
 cases B with
 |none=>
  have h:A=some c:=h
  exact⟨λa I=>by rw[h]at I;injection I with I;rw[I];exact Nat.le_refl _,λb J=>by simp at J⟩
 |some b=>
  by_cases U:(A.getD hZ).g<=b.g
  ·rw[B0n U]at h
   injection h with h
   subst h
   exact⟨λa I=>by rw[I]at U;exact U,λW J=>by injection J with J;rw[J];exact Nat.le_refl _⟩
  ·rw[B0o U]at h
   exact⟨λa I=>by rw[h]at I;injection I with I;rw[I];exact Nat.le_refl _,λW J=>by injection J with J;rw[h]at U;rw[<-J];simp only[Option.getD_some]at U;omega⟩
theorem C4B{A B:Option Hd}(h:nx A B=none):A=none/\B=none:=by
 cases B with
 |none=>exact⟨h,rfl⟩
 |some b=>
  by_cases I:(A.getD hZ).g<=b.g
  ·rw[B0n I]at h;simp at h
  ·rw[B0o I]at h
   rw[h]at I
   exact absurd (Nat.zero_le _) I
def C15(U W:List Nat)(J:Hd)(I:Bool):Prop:=two U W=(if I=true then some J else none)/\(I=false->J=hZ)
theorem C15.le{J U:List Nat}{I:Hd}{X:Bool}(h:C15 J U I X):(∀a,unO J 0=some a->a.g<=I.g)/\(∀b,unO U 1=some b->b.g<=I.g):=by
 cases X with
 |true=>exact C4A h.1
 |false=>
  obtain⟨Z,h2⟩:=C4B h.1
  exact⟨λa W=>by rw[Z]at W;simp at W,λb Y=>by rw[h2]at Y;simp at Y⟩
def B5a(I J:List Nat)(k:Nat)(Y:List Nat):List Nat×List Nat:=if k=0 then(Y,J)else(I,Y)
theorem B98{I J:List Nat}{X h:Hd}{Z:Bool}{e:Nat}(hs:C15 I J X Z)(k:hOk e h)(hg:h.g=X.g+1):two (B5a I J (h.g%2) (A1o e h)).1 (B5a I J (h.g%2) (A1o e h)).2=some h:=by
 obtain⟨l0,l1⟩:=hs.le
 have U:=B97 k
 unfold B5a two
 by_cases W:h.g%2=0
 ·rw[if_pos W]
  rw[W]at U
  simp only[U]
  cases hB:unO J 1 with
  |none=>rfl
  |some b=>exact B0o (by have:=l1 b hB;simp only[Option.getD_some];omega)
 ·rw[if_neg W]
  have Y:h.g%2=1:=by omega
  rw[Y]at U
  simp only[U]
  refine B0n ?_
  cases hA:unO I 0 with
  |none=>exact Nat.zero_le _
  |some a=>have:=l0 a hA;simp only[Option.getD_some];omega
end
section
open Go.RowKit Go.Maps
theorem B5b{s:DS}(h:s.fuse=none):P4 s=(s,true):=by unfold P4;rw[h]
def A0j(V:Nat->List Nat)(i:Nat)(b:List Nat):Nat->List Nat:=λj=>if j=i then b else V j
structure On (s:DS) (N:Nat) (V:Nat->List Nat):Prop where
 fz:s.fuse=none
 len:s.L.length=N
 at_:∀j,j<N->isS s j=V j
theorem On.write{s:DS}{N i:Nat}{V:Nat->List Nat}{b:List Nat}(h:On s N V)(hi:i<N)(W:b.length=128):(L7 s (i:Int) b).2=0/\On (L7 s (i:Int) b).1 N (A0j V i b):=by
 have e:L7 s (i:Int) b=({ s with Q:=s.Q++[(i,b)] },0):=by
  unfold L7
  rw[if_neg (by rw[h.len];omega),B5b h.fz,if_pos rfl]
  rfl
 rw[e]
 refine⟨rfl,h.fz,h.len,λj J=>?_⟩
 have I:=h.at_ j J
 unfold isS at I⊢
 show(V8 s.L (s.Q++[(i,b)])).getD j []=_
 rw[A4Q]
 unfold A0j
 by_cases c:j=i
 ·subst c
  rw[if_pos rfl]
  have U:j<(V8 s.L s.Q).length:=by rw[A1b,h.len];exact J
  simp[List.getD_eq_getElem?_getD,U]
 ·rw[if_neg c,<-I]
  have c':i≠j:=λe=>c e.symm
  simp[List.getD_eq_getElem?_getD,List.getElem?_set_ne c']
theorem On.flush{s:DS}{N:Nat}{V:Nat->List Nat}(h:On s N V):(E7 s).2=0/\On (E7 s).1 N V:=by
 have e:E7 s=({ s with L:=V8 s.L s.Q,Q:=[] },0):=by
  unfold E7
  rw[B5b h.fz,if_pos rfl]
 rw[e]
 exact⟨rfl,h.fz,by show(V8 s.L s.Q).length=N;rw[A1b,h.len],λj I=>h.at_ j I⟩
def A5s(V:Nat->List Nat)(n:Nat)(P:List Pc):Nat->List Nat:=P.foldl (λV p=>A0j V (2+p.c%n) (G9 p)) V
theorem On.layP{n N:Nat}(I:1<=n)(W:n+2<=N):∀{P:List Pc} {s:DS} {V:Nat->List Nat},On s N V->(∀p∈P,p.d.length<=106)->(P3 s n P).2=0/\On (P3 s n P).1 N (A5s V n P)
 |[],_,_,h,_=>⟨rfl,h⟩
 |p::P,s,V,h,hp=>by
  obtain⟨J,U⟩:=h.write (i:=2+p.c%n) (b:=G9 p) (by have:=Nat.mod_lt p.c I;omega) (A1K (hp p (by simp)))
  unfold P3
  rw[if_pos J]
  exact On.layP I W U (λq X=>hp q (by simp[X]))
theorem A0T(n:Nat):∀(P:List Pc) (V:Nat->List Nat) {j:Nat},(∀p∈P,2+p.c%n≠j)->A5s V n P j=V j
 |[],_,_,_=>rfl
 |p::P,V,j,h=>by
  show A5s (A0j V (2+p.c%n) (G9 p)) n P j=V j
  rw[A0T n P _ (λq I=>h q (by simp[I]))]
  unfold A0j
  rw[if_neg (λe=>h p (by simp) e.symm)]
theorem B5c(n:Nat):∀(P:List Pc) (V:Nat->List Nat) {p:Pc},P.Pairwise (λa b=>2+a.c%n≠2+b.c%n)->p∈P->A5s V n P (2+p.c%n)=G9 p
 |[],_,_,_,h=>absurd h (by simp)
 |q::P,V,p,hP,h=>by
  obtain⟨I,J⟩:=List.pairwise_cons.mp hP
  show A5s (A0j V (2+q.c%n) (G9 q)) n P (2+p.c%n)=G9 p
  rcases List.mem_cons.mp h with rfl|h
  ·rw[A0T n P _ (λr U e=>I r U e.symm)]
   unfold A0j
   rw[if_pos rfl]
  ·exact B5c n P _ J h
theorem A6m(n:Nat)(j:Nat):∀(P:List Pc) (V:Nat->List Nat),A5s V n P j=V j\/∃p∈P,A5s V n P j=G9 p
 |[],_=>.inl rfl
 |p::P,V=>by
  rcases A6m n j P (A0j V (2+p.c%n) (G9 p))with h|⟨q,I,h⟩
  ·by_cases c:j=2+p.c%n
   ·right
    refine⟨p,by simp,?_⟩
    show A5s (A0j V (2+p.c%n) (G9 p)) n P j=G9 p
    rw[h]
    unfold A0j
    rw[if_pos c]
   ·left
    show A5s (A0j V (2+p.c%n) (G9 p)) n P j=V j
    rw[h]
    unfold A0j
    rw[if_neg c]
  ·exact .inr ⟨q,by simp[I],h⟩
theorem A8W{n a b:Nat}(h:a<b)(X:b<a+n):a%n≠b%n:=λe=>by
 have Y:0<n:=by omega
 have I:=Nat.div_add_mod a n
 have W:=Nat.div_add_mod b n
 rw[e]at I
 have h3:n * (a/n)<n * (b/n):=by omega
 have J:a/n<b/n:=Nat.lt_of_mul_lt_mul_left h3
 have U:n * (a/n+1)<=n * (b/n):=Nat.mul_le_mul_left n J
 rw[Nat.mul_add,Nat.mul_one]at U
 omega
theorem B6U{n e c:Nat}{l:List Nat}(h:K9 l.length<=n):(R7 e c l).Pairwise (λa b=>2+a.c%n≠2+b.c%n):=by
 unfold R7
 rw[List.pairwise_map]
 refine List.Pairwise.imp_of_mem (λ{a b} J I U=>?_) (List.pairwise_lt_range (n:=K9 l.length))
 have W:=List.mem_range.mp I
 show 2+(c+a)%n≠2+(c+b)%n
 have:=A8W (n:=n) (a:=c+a) (b:=c+b) (by omega) (by omega)
 omega
theorem A2F{e c:Nat}{l:List Nat}{p:Pc}(h:p∈R7 e c l):p.e=e/\∃i,i<K9 l.length/\p.c=c+i:=by
 unfold R7 at h
 obtain⟨i,hi,rfl⟩:=List.mem_map.mp h
 exact⟨rfl,i,List.mem_range.mp hi,rfl⟩
def nou:List Nat:=List.replicate 128 0
theorem B5d:(dec nou).c=0/\(dec nou).g=false:=by constructor<;>kernel_rfl
theorem B5e(k:Nat):unO nou k=none:=B0M (by kernel_rfl)
theorem B5f:A3K nou=0/\A3L nou=0:=by constructor<;>kernel_rfl
theorem A47{p:Pc}(h:p.ok):A3K (G9 p)=p.e/\A3L (G9 p)=p.e:=by
 have hv:T2 (be 8 (R8 p.e p.c))/1099511627776=p.e:=by
  rw[A6o]
  have U:(256:Nat)^8=18446744073709551616:=by decide
  have X:=h.1
  have Y:=h.2.1
  rw[U]
  unfold R8
  omega
 have I:T2 ((be 8 (R8 p.e p.c)).take 3)=p.e:=(C2k (by rw[C9]) (λx W=>A3Z _ _ x W)).symm.trans hv
 constructor
 ·have J:(G9 p).take 3=(be 8 (R8 p.e p.c)).take 3:=by rw[<-A5w,List.take_take];rfl
  unfold A3K
  rw[J,I]
 ·unfold A3L
  rw[A7N h.2.2,I]
theorem B0p{s:DS}{m:Nat}:∀k,(∀j,j<k->A3K (isS s j)<=m/\A3L (isS s j)<=m)->A18 s k<=m
 |0,_=>Nat.zero_le _
 |k+1,h=>by
  have I:=B0p (s:=s) (m:=m) k (λj U=>h j (by omega))
  have J:=h k (by omega)
  unfold A18
  omega
end
section
open Go.RowKit Go.Maps
structure A5t (V:Nat->List Nat) (n:Nat) (H:Int) (t:Nat) (ps:List Pt):Prop where
 tx:A0l ps H
 b:∀p∈ps,∀x∈p.d,x<256
 cut:W6 1 t (M0 ps).length=0
 at_:∀p∈R7 1 t (M0 ps),V (2+p.c%n)=G9 p
def A0z(V:Nat->List Nat)(n:Nat)(H:Int):Nat->List (List Pt)->Nat->Prop
 |t,[],u=>t=u
 |t,ps::r,u=>A5t V n H t ps/\A0z V n H (t+N5 ps) r u
theorem A3f(ps:List Pt):1<=N5 ps:=A1y _
theorem A0z.le{V:Nat->List Nat}{n:Nat}{H:Int}:∀{l:List (List Pt)} {t u:Nat},A0z V n H t l u->t+l.length<=u
 |[],t,u,h=>by have h:t=u:=h;simp[h]
 |ps::r,t,u,h=>by
  have I:=A0z.le h.2
  have:=A3f ps
  simp only[List.length_cons]
  omega
theorem A5t.frame{V V':Nat->List Nat}{n t:Nat}{H:Int}{ps:List Pt}(h:A5t V n H t ps)(hv:∀c,t<=c->c<t+N5 ps->V' (2+c%n)=V (2+c%n)):A5t V' n H t ps:=
 ⟨h.tx,h.b,h.cut,λp I=>by
  obtain⟨_,i,hi,e⟩:=A2F I
  rw[hv p.c (by omega) (by unfold N5;omega)]
  exact h.at_ p I⟩
theorem A0z.frame{V V':Nat->List Nat}{n:Nat}{H:Int}:∀{l:List (List Pt)} {t u:Nat},A0z V n H t l u->(∀c,t<=c->c<u->V' (2+c%n)=V (2+c%n))->A0z V' n H t l u
 |[],_,_,h,_=>h
 |ps::r,t,u,h,hv=>by
  have I:=A0z.le h.2
  exact⟨h.1.frame (λc I J=>hv c I (by omega)),A0z.frame h.2 (λc I J=>hv c (by omega) J)⟩
theorem A0z.snoc{V:Nat->List Nat}{n:Nat}{H:Int}{ps:List Pt}:∀{l:List (List Pt)} {t u:Nat},A0z V n H t l u->A5t V n H u ps->A0z V n H t (l++[ps]) (u+N5 ps)
 |[],t,u,h,hp=>by
  have h:t=u:=h
  subst h
  exact⟨hp,rfl⟩
 |qs::r,t,u,h,hp=>⟨h.1,A0z.snoc h.2 hp⟩
section
variable {s:DS} {N n:Nat} {V:Nat->List Nat} {H:Int}
theorem B0q(J:On s N V)(I:1<=n)(U:n+2<=N)(c:Nat):rdP s n c=V (2+c%n):=J.at_ _ (by have:=Nat.mod_lt c I;omega)
theorem A5t.ok{t:Nat}{ps:List Pt}(h:A5t V n H t ps):∀p∈R7 1 t (M0 ps),p.ok:=A6b h.cut
theorem A8X{e c i:Nat}{l:List Nat}(h:i<K9 l.length):D9 e c l i∈R7 e c l:=List.mem_map.mpr ⟨i,List.mem_range.mpr h,rfl⟩
theorem A5t.scan{t:Nat}{ps:List Pt}(Z:On s N V)(Y:1<=n)(X:n+2<=N)(h:A5t V n H t ps):∀(m i f:Nat),i+m+1=N5 ps->m+1<=f->
 scan s n f (t+i)=some ((List.range (m+1)).map (λj=>D9 1 t (M0 ps) (i+j))):=by
 intro m
 induction m with
 |zero=>
  intro i f hi hf
  obtain⟨f,rfl⟩:∃g,f=g+1:=⟨f-1,by omega⟩
  have U:=A8X (e:=1) (c:=t) (i:=i) (l:=M0 ps) (by unfold N5 at hi;omega)
  have I:=h.ok _ U
  have J:rdP s n (t+i)=G9 (D9 1 t (M0 ps) i):=(B0q Z Y X _).trans (h.at_ _ U)
  have W:T4 s n (t+i):=⟨by rw[J];exact A34 I,by rw[J,Z3 I];rfl⟩
  rw[A8D W (by rw[J,Z3 I];show(i==K9 (M0 ps).length-1)=true;unfold N5 at hi;rw[beq_iff_eq];omega),J,Z3 I]
  rfl
 |succ m ih=>
  intro i f hi hf
  obtain⟨f,rfl⟩:∃g,f=g+1:=⟨f-1,by omega⟩
  have U:=A8X (e:=1) (c:=t) (i:=i) (l:=M0 ps) (by unfold N5 at hi;omega)
  have I:=h.ok _ U
  have J:rdP s n (t+i)=G9 (D9 1 t (M0 ps) i):=(B0q Z Y X _).trans (h.at_ _ U)
  have W:T4 s n (t+i):=⟨by rw[J];exact A34 I,by rw[J,Z3 I];rfl⟩
  rw[A5i W (by rw[J,Z3 I];show(i==K9 (M0 ps).length-1)=false;unfold N5 at hi;rw[beq_eq_false_iff_ne];omega),J,Z3 I,Nat.add_assoc t i 1,ih (i+1) f (by omega) (by omega)]
  rw[List.range_succ_eq_map (n:=m+1),List.map_cons,List.map_map,Option.map_some]
  congr 2
  apply List.map_congr_left
  intro j _
  show D9 1 t (M0 ps) (i+1+j)=D9 1 t (M0 ps) (i+(j+1))
  rw[show i+1+j=i+(j+1)by omega]
theorem A5t.scanV{t:Nat}{ps:List Pt}(W:On s N V)(U:1<=n)(J:n+2<=N)(h:A5t V n H t ps)(Y:N5 ps<=n):scanV s n t=R7 1 t (M0 ps):=by
 have X:=A3f ps
 have I:=h.scan W U J (N5 ps-1) 0 (n+1) (by omega) (by omega)
 unfold Go.Proofs.YtbefmjiclpobjaaGreat.scanV
 rw[show t+0=t from rfl]at I
 rw[I,show N5 ps-1+1=N5 ps by omega]
 show(List.range (N5 ps)).map (λj=>D9 1 t (M0 ps) (0+j))=_
 unfold R7 N5
 apply List.map_congr_left
 intro j _
 rw[Nat.zero_add]
theorem A5t.rec_{t:Nat}{ps:List Pt}(ho:On s N V)(hn:1<=n)(U:n+2<=N)(hH:H<=4096)(h:A5t V n H t ps)(Z:N5 ps<=n)(A:Nat->Option (List Nat))(fl:Nat)(W:fl<=1):
 A1A s n H ⟨t,fl,A⟩/\A42 s n ⟨t,fl,A⟩=⟨t+N5 ps,1,putA A ps⟩:=by
 have e:=h.scanV ho hn U Z
 have Y:=B5F h.cut
 have J:=B78 h.tx hH h.b
 have X:(hdP (R7 1 t (M0 ps))).e=1:=by
  obtain⟨p,r,I⟩:∃p r,R7 1 t (M0 ps)=p::r:=List.exists_cons_of_length_pos (by rw[Q6];exact A1y _)
  rw[I]
  exact(A2F (e:=1) (c:=t) (l:=M0 ps) (p:=p) (by rw[I];simp)).1
 unfold A1A A42
 simp only
 rw[e,A4g,J.1,X,Q6]
 exact⟨⟨(A4h _).mp Y,W,J.2,h.tx⟩,rfl⟩
theorem A79(W:On s N V)(U:1<=n)(J:n+2<=N)(hH:H<=4096):∀(l:List (List Pt)) (t u f fl:Nat) (A:Nat->Option (List Nat)),A0z V n H t l u->u<=t+n->l.length<f->fl<=1->(∀A fl,fl<=1->¬A1A s n H ⟨u,fl,A⟩)->
 ∃I,A3y s n H f ⟨t,fl,A⟩=⟨u,I,l.foldl putA A⟩
 |[],t,u,f,fl,A,h,_,hf,hfl,hno=>by
  have h:t=u:=h
  subst h
  obtain⟨f,rfl⟩:∃g,f=g+1:=⟨f-1,by simp at hf;omega⟩
  refine⟨fl,?_⟩
  unfold A3y
  rw[if_neg (hno A fl hfl)]
  rfl
 |ps::r,t,u,f,fl,A,h,hu,hf,hfl,hno=>by
  obtain⟨f,rfl⟩:∃g,f=g+1:=⟨f-1,by simp at hf;omega⟩
  have Z:=A0z.le h.2
  have h2:=A3f ps
  obtain⟨X,Y⟩:=h.1.rec_ W U J hH (by omega) A fl hfl
  obtain⟨I,e⟩:=A79 W U J hH r (t+N5 ps) u f 1 (putA A ps) h.2 (by omega) (by simp at hf;omega) (Nat.le_refl _) hno
  refine⟨I,?_⟩
  unfold A3y
  rw[if_pos X,Y,e]
  rfl
def A8k(V:Nat->List Nat)(n u:Nat):Prop:=∀j,j<n->V (2+j)=nou\/∃p:Pc,p.ok/\V (2+j)=G9 p/\p.c<u
theorem A8k.stop{u fl:Nat}{A:Nat->Option (List Nat)}(h:A8k V n u)(Z:On s N V)(hn:2<=n)(X:n+2<=N):¬A1A s n H ⟨u,fl,A⟩:=by
 have Y:∀c,u<=c->T4 s n c->V (2+c%n)=nou/\c=0:=λc aA I=>by
  have U:=B0q Z (by omega) X c
  rcases h (c%n) (Nat.mod_lt c (by omega))with e|⟨p,hp,e,aB⟩
  ·have J:=I.2
   rw[U,e,B5d.1]at J
   exact⟨e,J.symm⟩
  ·have J:=I.2
   rw[U,e,Z3 hp]at J
   omega
 have hs:scanV s n u=[]:=by
  unfold scanV
  by_cases I:T4 s n u
  ·obtain⟨e,h0⟩:=Y u (Nat.le_refl _) I
   have U:=B0q Z (by omega) X u
   rw[A5i I (by rw[U,e];exact B5d.2)]
   have W:¬T4 s n (u+1):=λW=>by
    have:=(Y (u+1) (by omega) W).2
    omega
   rw[A9V W]
   rfl
  ·rw[A9V I];rfl
 intro hk
 have:=hk.1.1
 simp only at this
 rw[hs]at this
 simp at this
theorem A8k.mono{u I:Nat}(h:A8k V n u)(X:u<=I):A8k V n I:=λj J=>by
 rcases h j J with e|⟨p,U,e,W⟩
 ·exact .inl e
 ·exact .inr ⟨p,U,e,by omega⟩
theorem A8k.lay{u:Nat}{l:List Nat}(h:A8k V n u)(J:W6 1 u l.length=0):A8k (A5s V n (R7 1 u l)) n (u+K9 l.length):=λj U=>by
 rcases A6m n (2+j) (R7 1 u l) V with e|⟨p,I,e⟩
 ·rw[e]
  exact h.mono (by omega) j U
 ·obtain⟨_,i,hi,ec⟩:=A2F I
  exact .inr ⟨p,A6b J p I,e,by omega⟩
end
end
end Go.Proofs.YtbefmjiclpobjaaGreat
