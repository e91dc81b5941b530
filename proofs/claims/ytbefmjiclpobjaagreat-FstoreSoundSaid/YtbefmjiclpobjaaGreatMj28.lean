import Derived.Test.YtbefmjiclpobjaaGreatMj27
namespace Go.Proofs.YtbefmjiclpobjaaGreat
set_option maxHeartbeats 3200000
set_option maxRecDepth 3000
section
open Go.RowKit
structure Nd where
 k:Int
 g:Int
 v:Nat
 b:Nat->ByteArray
 l:List En
def P7(x:Nd)(j:Nat):List Nat:=if x.k=1 then(H6 x.l).getD j []else if x.k=2 then M5 (x.b j)else []
structure As where
 n:Nat->Nd
 rc:List Nat
def As.up(A:As)(i:Nat)(x:Nd):As:=⟨λj=>if j=i then x else A.n j,A.rc⟩
theorem As.up_at(A:As)(i:Nat)(x:Nd):(A.up i x).n i=x:=if_pos rfl
theorem As.up_ne(A:As){i j:Nat}(x:Nd)(h:j≠i):(A.up i x).n j=A.n j:=if_neg h
structure OkN (x:Nd):Prop where
 k:x.k=0\/x.k=1\/x.k=2
 g:0<=x.g/\x.g<=2147483647
 v:x.v<=1099511627775
 fr:x.k=0->x.v=0
 b:∀j,(x.b j).size<=64
 nob:x.k≠2->∀j,x.b j=⟨#[]⟩
 rise:S6 x.l
 few:x.l.length<=24
 nol:x.k≠1->x.l=[]
def As.R(A:As):Nat->Nat->List Nat:=λi j=>P7 (A.n i) j
def As.use(A:As):Nat:=A0e A.R 40
structure Rq (H:Nat->List Nat) (M:Nat) (A:As):Prop where
 sw:Sw H M
 f:∀i,1<=i->i<=40->(C9 H i).k=(A.n i).k/\(C9 H i).g=(A.n i).g/\(C9 H i).v=(A.n i).v
 ow:Ow H M (λi j=>(C9 H i).a j) A.R
 ok:∀i,1<=i->i<=40->OkN (A.n i)
 rc:H 0=A.rc
theorem B92{l:List En}(h:l.length<=24):(H6 l).length<=5:=by
 rw[M9]
 unfold nCh
 omega
theorem Rq.core{s:CS}{M i:Nat}{A:As}{P:Nat->Nat->Int}{R:Nat->Nat->List Nat}(he:s.e=0)(aH:Sw s.H M)(hf:∀k,1<=k->k<=40->k≠i->((C9 s.H k).k=(A.n k).k/\(C9 s.H k).g=(A.n k).g/\(C9 s.H k).v=(A.n k).v)/\OkN (A.n k))
 (aB:Ow s.H M P R) (hP:∀k j,In8 k j->k≠i->P k j=(C9 s.H k).a j) (hR:∀k j,In8 k j->k≠i->R k j=P7 (A.n k) j) (aI:s.H 0=A.rc) (hi:1<=i/\i<=40) {y:Nd} (J:OkN y) (aE:∀j,j<8->R i j=P7 y j)
 {z:L6} (W:z.k=y.k) (Y:z.g=y.g) (Z:z.v=y.v) (za:∀j,j<8->z.a j=P i j):s.set i z=⟨N6 s.H (1+i) (secI z),0⟩/\Rq (N6 s.H (1+i) (secI z)) M (A.up i y):=by
 have hM:=aH.sd.hM
 have aC:∀j,j<8->z.a j=0\/(42<=z.a j/\z.a j<M):=λj U=>by rw[za j U];exact aB.pt i j ⟨hi.1,hi.2,U⟩
 have aD:WfI z:=by
  refine⟨?_,?_,?_,λj U=>?_⟩
  ·rw[W];rcases J.k with x|x|x<;>rw[x]<;>decide
  ·rw[Y];have:=J.g;omega
  ·rw[Z];have:=J.v;omega
  ·have:=aC j U;omega
 have aA:okI z:=by
  refine(B4A aD).1 ⟨λj U=>by have:=aC j U;omega,?_,?_,?_,?_,?_,?_⟩
  ·rw[W];rcases J.k with x|x|x<;>rw[x]<;>decide
  ·rw[W];rcases J.k with x|x|x<;>rw[x]<;>decide
  ·rw[Y];exact J.g.1
  ·rw[Y];exact J.g.2
  ·rw[Z];exact J.v
  ·rw[W]
   rcases J.k with x|x|x
   ·refine .inr ⟨by rw[Z];exact J.fr x,λj U=>?_⟩
    rw[za j U]
    refine(aB.nz i j ⟨hi.1,hi.2,U⟩).2 ?_
    rw[aE j U]
    unfold P7
    rw[x]
    rfl
   ·exact .inl (by rw[x];decide)
   ·exact .inl (by rw[x];decide)
 have hs:s.set i z=⟨N6 s.H (1+i) (secI z),0⟩:=by
  unfold CS.set CS.note CS.put A1g A8h
  rw[if_pos aA,he]
  rfl
 refine⟨hs,?_⟩
 obtain⟨q,hq,X⟩:=A4Z aD aA
 have aF:C9 (N6 s.H (1+i) (secI z)) i=q:=by unfold C9 dI;rw[A0n,hq];rfl
 have aG:∀k,k≠i->C9 (N6 s.H (1+i) (secI z)) k=C9 s.H k:=λk I=>by unfold C9;rw[H7 _ _ (by omega)]
 refine⟨(aH.setI hi aD aA aC).1,λk h1 h2=>?_,?_,λk h1 h2=>?_,?_⟩
 ·by_cases I:k=i
  ·subst I
   rw[aF,As.up_at,X.k,X.g,X.v,W,Y,Z]
   exact⟨rfl,rfl,rfl⟩
  ·rw[aG k I,As.up_ne _ _ I]
   exact(hf k h1 h2 I).1
 ·refine(aB.homes (H':=N6 s.H (1+i) (secI z)) (λk I=>H7 _ _ (by omega))).congr (λk j V=>?_) (λk j V=>?_)
  ·by_cases I:k=i
   ·subst I
    show(C9 _ k).a j=_
    rw[aF,X.a j V.2.2,za j V.2.2]
   ·show(C9 _ k).a j=_
    rw[aG k I,hP k j V I]
  ·by_cases I:k=i
   ·subst I
    show P7 ((A.up k y).n k) j=_
    rw[As.up_at,aE j V.2.2]
   ·show P7 ((A.up i y).n k) j=_
    rw[As.up_ne _ _ I,hR k j V I]
 ·by_cases I:k=i
  ·subst I
   rw[As.up_at]
   exact J
  ·rw[As.up_ne _ _ I]
   exact(hf k h1 h2 I).2
 ·show N6 s.H (1+i) (secI z) 0=A.rc
  rw[H7 _ _ (by omega)]
  exact aI
def Dif(H H':Nat->List Nat)(K:List Nat):Prop:=∀k,H' k≠H k->k∈K
theorem Dif.refl(H:Nat->List Nat)(K:List Nat):Dif H H K:=λ_ I=>absurd rfl I
theorem Dif.trans{H H' I:Nat->List Nat}{K L:List Nat}(h:Dif H H' K)(J:Dif H' I L):Dif H I (K++L):=λk U=>by
 by_cases e:I k=H' k
 ·exact List.mem_append.2 (.inl (h k (by rw[<-e];exact U)))
 ·exact List.mem_append.2 (.inr (J k e))
theorem Dif.mono{H H':Nat->List Nat}{K L:List Nat}(h:Dif H H' K)(J:∀k∈K,k∈L):Dif H H' L:=λk I=>J k (h k I)
theorem Rq.reset{s:CS}{M i:Nat}{A:As}(h:Rq s.H M A)(W:s.e=0)(hi:1<=i/\i<=40){y:Nd}(hy:OkN y)(Z:∀j,j<8->P7 y j=P7 (A.n i) j){z:L6}(zk:z.k=y.k)(zg:z.g=y.g)(zv:z.v=y.v)(za:∀j,j<8->z.a j=(C9 s.H i).a j):
 (s.set i z).e=0/\Rq (s.set i z).H M (A.up i y)/\Dif s.H (s.set i z).H [1+i]:=by
 obtain⟨U,V⟩:=Rq.core (s:=s) (i:=i) (A:=A) (z:=z) W h.sw (λk I J _=>⟨h.f k I J,h.ok k I J⟩) h.ow (λ_ _ _ _=>rfl) (λ_ _ _ _=>rfl) h.rc hi hy (λj X=>(Z j X).symm) zk zg zv za
 rw[U]
 refine⟨rfl,V,λk Y=>?_⟩
 by_cases e:k=1+i
 ·exact List.mem_singleton.2 e
 ·exact absurd (H7 _ _ e) Y
theorem Rq.ino_low{H H':Nat->List Nat}(I:∀k,k≠1->k<42->H' k=H k){i:Nat}(J:1<=i)(U:i<=40):C9 H' i=C9 H i:=by
 unfold C9
 rw[I (1+i) (by omega) (by omega)]
theorem Rq.refill{s:CS}{M i:Nat}{A:As}(h:Rq s.H M A)(he:s.e=0)(hi:1<=i/\i<=40){x:L6}(hx:∀j,j<8->x.a j=(C9 s.H i).a j){bs:List (List Nat)}(hb:A0c bs){y:Nd}(hy:OkN y)(hr:∀j,j<8->P7 y j=bs.getD j []){z:L6}(zk:z.k=y.k)(zg:z.g=y.g)(zv:z.v=y.v)(za:∀j,j<8->z.a j=(fl M x bs s 8).2 j):
 (((fl M x bs s 8).1.set i z).e=0/\Rq ((fl M x bs s 8).1.set i z).H M (A.up i y)/\∃K:List Nat,K.length<=bs.length/\Dif s.H ((fl M x bs s 8).1.set i z).H (1::(1+i)::K))\/
 (((fl M x bs s 8).1.set i z).e=8/\∃j,j<8/\P7 (A.n i) j=[]/\bs.getD j []≠[]/\A0e (A8j A.R i j bs) 40+42=M):=by
 rcases h.ow.fl h.sw he hi x hx hb 8 (Nat.le_refl _)with J|⟨J,I⟩
 ·have aG:∀j,j<8->x.a j=0\/(42<=x.a j/\x.a j<M):=λj I=>by rw[hx j I];exact h.ow.pt i j ⟨hi.1,hi.2,I⟩
  have aC:=A4v h.sw hb aG 8 (Nat.le_refl _)
  obtain⟨V,aB⟩:∃V,V=(fl M x bs s 8).1:=⟨_,rfl⟩
  obtain⟨Z,aA⟩:∃Z,Z=(fl M x bs s 8).2:=⟨_,rfl⟩
  rw[<-aB,<-aA]at J
  rw[<-aB]at aC⊢
  rw[<-aA]at za
  obtain⟨e1,aH,Y,K,hK,aD⟩:=J
  obtain⟨h1,h2⟩:=Rq.core (s:=V) (i:=i) (A:=A) (y:=y) (z:=z) e1 aC (λk W X _=>by rw[Rq.ino_low Y W X];exact⟨h.f k W X,h.ok k W X⟩) aH (λk j U aF=>by
   rw[Rq.ino_low Y U.1 U.2.1]
   show(if k=i/\j<8 then _ else _)=_
   rw[if_neg (by omega)]) (λk j U aF=>by
   show(if k=i/\j<8 then _ else _)=_
   rw[if_neg (by omega)]
   rfl) (by rw[Y 0 (by omega) (by omega)];exact h.rc) hi hy (λj I=>by
   show(if i=i/\j<8 then _ else _)=_
   rw[if_pos ⟨rfl,I⟩,hr j I]) zk zg zv (λj I=>by
   rw[za j I]
   show _=(if i=i/\j<8 then _ else _)
   rw[if_pos ⟨rfl,I⟩])
  rw[h1]
  refine .inl ⟨rfl,h2,K,by omega,λk U=>?_⟩
  by_cases e:k=1+i
  ·rw[e];exact List.mem_cons_of_mem _ List.mem_cons_self
  ·have aE:V.H k≠s.H k:=by rw[<-H7 V.H (secI z) e];exact U
   rcases aD k aE with x|x
   ·rw[x];exact List.mem_cons_self
   ·exact List.mem_cons_of_mem _ (List.mem_cons_of_mem _ x)
 ·refine .inr ⟨?_,I⟩
  rw[A21 (by rw[J];decide),J]
def T4(A:As)(i g:Int):Prop:=1<=i/\i<=40/\(A.n i.toNat).k≠0/\(A.n i.toNat).g=g
instance (A:As) (i g:Int):Decidable (T4 A i g):=by unfold T4;infer_instance
def U7(A:As)(i g k:Int):Int:=if T4 A i g then(if(A.n i.toNat).k=k then 0 else 12)else 14
def lsA(A:As)(i g:Int):List En:=if U7 A i g 1=0 then(A.n i.toNat).l else []
section
variable {H:Nat->List Nat} {M:Nat} {A:As}
theorem Rq.fileE(h:Rq H M A)(i g:Int):fileE H i g=if T4 A i g then 0 else 14:=by
 unfold Go.Proofs.YtbefmjiclpobjaaGreat.fileE
 by_cases J:i<1\/40<i
 ·rw[if_pos J,if_neg (by unfold T4;omega)]
 ·rw[if_neg J]
  obtain⟨U,V,_⟩:=h.f i.toNat (by omega) (by omega)
  rw[U,V]
  by_cases I:T4 A i g
  ·rw[if_pos I,if_neg (by unfold T4 at I;omega)]
  ·rw[if_neg I]
   by_cases W:(A.n i.toNat).k=0\/(A.n i.toNat).g≠g
   ·rw[if_pos W]
   ·exact absurd (show T4 A i g by unfold T4;omega) I
theorem Rq.fileX(h:Rq H M A){i g:Int}(I:T4 A i g):fileX H i g=C9 H i.toNat:=by
 unfold Go.Proofs.YtbefmjiclpobjaaGreat.fileX
 rw[h.fileE,if_pos I,if_pos rfl]
theorem Rq.ofk(h:Rq H M A)(i g k:Int):Q3 H i g k=U7 A i g k:=by
 unfold Q3 U7
 rw[h.fileE]
 by_cases I:T4 A i g
 ·rw[if_pos I,if_pos rfl,if_pos I,h.fileX I,(h.f i.toNat (by unfold T4 at I;omega) (by unfold T4 at I;omega)).1]
 ·rw[if_neg I,if_neg (by decide),if_neg I]
theorem B2e{x:L6}{L:List (List Nat)}{F:Int->List Nat}(V:∀r∈L,r≠[]):∀{n:Nat},(∀j,j<n->(x.a j=0↔L.getD j []=[])/\(x.a j≠0->F (x.a j)=L.getD j []))->(nzI x n).map F=L.take n
 |0,_=>by simp[nzI]
 |n+1,h=>by
  obtain⟨U,X⟩:=h n (by omega)
  have W:=B2e (F:=F) V (n:=n) (λj Z=>h j (by omega))
  unfold nzI
  by_cases I:x.a n=0
  ·rw[if_neg (by omega),W]
   have J:L.length<=n:=by
    rcases Nat.lt_or_ge n L.length with y|y
    ·have:=U.1 I
     rw[List.getD_eq_getElem?_getD,List.getElem?_eq_getElem y]at this
     exact absurd this (V _ (List.getElem_mem y))
    ·exact y
   rw[List.take_of_length_le J,List.take_of_length_le (by omega)]
  ·have Y:L.getD n []≠[]:=λe=>I (U.2 e)
   have J:n<L.length:=by
    rcases Nat.lt_or_ge n L.length with y|y
    ·exact y
    ·exact absurd (by rw[List.getD_eq_getElem?_getD,List.getElem?_eq_none y];rfl) Y
   rw[if_pos I,List.map_append,W,List.map_singleton,X I,List.take_succ_eq_append_getElem J,List.getD_eq_getElem?_getD,List.getElem?_eq_getElem J]
   rfl
theorem A3N(l:List En):∀r∈H6 l,r≠[]:=λr I e=>by
 have:=(A0U l r I).1
 rw[e]at this
 cases this
theorem Rq.rows(h:Rq H M A){i:Nat}(I:1<=i)(J:i<=40)(V:(A.n i).k=1):A7o H (C9 H i)=H6 (A.n i).l:=by
 unfold A7o
 have W:∀j,A.R i j=(H6 (A.n i).l).getD j []:=λj=>by show P7 _ _=_;unfold P7;rw[if_pos V]
 rw[B2e (L:=H6 (A.n i).l) (F:=λa=>H a.toNat) (A3N _) (λj U=>?_)]
 ·exact List.take_of_length_le (by have:=B92 (h.ok i I J).few;omega)
 ·rw[<-W j]
  exact⟨h.ow.nz i j ⟨I,J,U⟩,h.ow.at_ i j ⟨I,J,U⟩⟩
theorem Rq.bE(h:Rq H M A){i:Nat}(I:1<=i)(J:i<=40):bE (A.n i).l=0:=B8E (h.ok i I J).rise (h.ok i I J).few
theorem Z7{i g k:Int}(h:U7 A i g k=0):T4 A i g/\(A.n i.toNat).k=k:=by
 unfold U7 at h
 split at h
 ·rename_i J
  split at h
  ·rename_i I;exact⟨J,I⟩
  ·cases h
 ·cases h
theorem Rq.ents(h:Rq H M A)(i g:Int):L4 H i g=lsA A i g/\J3 H i g=U7 A i g 1:=by
 unfold L4 J3 lsA
 rw[h.ofk]
 by_cases I:U7 A i g 1=0
 ·obtain⟨U,X⟩:=Z7 I
  have J:1<=i.toNat/\i.toNat<=40:=by unfold T4 at U;omega
  rw[if_pos I,if_pos I,if_pos I,h.fileX U,h.rows J.1 J.2 X,I]
  obtain⟨Y,Z⟩:=B3y (h.bE J.1 J.2)
  obtain⟨V,W⟩:=A6h Y
  rw[V,W,Z]
  exact⟨rfl,rfl⟩
 ·rw[if_neg I,if_neg I,if_neg I]
  exact⟨rfl,rfl⟩
def fdE(A:As)(i g:Int)(s:ByteArray):Int:=if U7 A i g 1=0 then(if(Y5 (A.n i.toNat).l s).isSome=true then 0 else 11)else U7 A i g 1
def fdX(A:As)(i g:Int)(s:ByteArray):En:=if U7 A i g 1=0 then(Y5 (A.n i.toNat).l s).getD A4u else A4u
theorem Rq.find(h:Rq H M A)(i g:Int)(s:ByteArray):M4 H i g s=fdE A i g s/\L5 H i g s=fdX A i g s:=by
 obtain⟨J,U⟩:=h.ents i g
 unfold M4 L5 fdE fdX
 rw[J,U]
 by_cases I:U7 A i g 1=0
 ·have:lsA A i g=(A.n i.toNat).l:=by unfold lsA;rw[if_pos I]
  rw[if_pos I,if_pos I,if_pos I,if_pos I,this]
  exact⟨rfl,rfl⟩
 ·rw[if_neg I,if_neg I,if_neg I,if_neg I]
  exact⟨rfl,rfl⟩
end
end
section
open Go.RowKit
def Nd.inc(x:Nd):Nd:=⟨x.k,x.g,x.v+1,x.b,x.l⟩
def Nd.ls(x:Nd)(l:List En):Nd:=⟨x.k,x.g,x.v,x.b,l⟩
def Nd.bk(x:Nd)(b:Nat->ByteArray):Nd:=⟨x.k,x.g,x.v,b,x.l⟩
def noB:Nat->ByteArray:=λ_=>⟨#[]⟩
def Nd.gone(g:Int):Nd:=⟨0,g,0,noB,[]⟩
def Nd.new(k g:Int):Nd:=⟨k,g,1,noB,[]⟩
theorem A0p(s:CS):s.note 0=s:=by
 show(⟨s.H,M8 s.e 0⟩:CS)=s
 unfold M8
 split
 ·rename_i h;cases s;cases h;rfl
 ·rfl
theorem B0m{s:CS}(h:s.e=0)(e:Int):(s.note e).e=e:=by
 show M8 s.e e=e
 rw[h];rfl
theorem A5o:S6 []:=λk e h=>by simp at h
theorem B93{l:List En}(h:Ris l)(U:∀e∈l,okE e):S6 l:=λk e I=>by
 refine⟨U e (List.mem_of_getElem? I),λd V J=>?_⟩
 exact h.lt J I (by omega)
theorem B94{l:List En}(h:S6 l){e:En}(I:okE e):S6 (S9 l e):=
 B93 ((A8H h).put e) λx J=>by
  rcases C1c J with y|y
  ·exact h.all x y
  ·rw[y];exact I
theorem Ris.dropL{l:List En}(h:Ris l)(s:ByteArray):Ris (dropL l s):=by
 rw[Go.Proofs.YtbefmjiclpobjaaGreat.dropL,<-B4L s h]
 exact List.Pairwise.sublist List.filter_sublist h
theorem B7a{l:List En}(h:S6 l)(s:ByteArray):S6 (dropL l s):=
 B93 ((A8H h).dropL s) λx I=>h.all x (B69 I)
theorem OkN.gone{g:Int}(h:0<=g/\g<=2147483647):OkN (Nd.gone g):=
 ⟨.inl rfl,h,Nat.zero_le _,λ_=>rfl,λ_=>Nat.zero_le _,λ_ _=>rfl,A5o,Nat.zero_le _,λ_=>rfl⟩
theorem OkN.new{k g:Int}(I:k=1\/k=2)(h:0<=g/\g<=2147483647):OkN (Nd.new k g):=
 ⟨.inr I,h,by show 1<=1099511627775;decide,λx=>by have:k=0:=x;omega,λ_=>Nat.zero_le _,λ_ _=>rfl,A5o,Nat.zero_le _,λ_=>rfl⟩
theorem OkN.inc{x:Nd}(h:OkN x)(I:x.k≠0)(hv:x.v≠1099511627775):OkN x.inc:=
 ⟨h.k,h.g,by have:=h.v;show x.v+1<=_;omega,λe=>absurd e I,h.b,h.nob,h.rise,h.few,h.nol⟩
theorem OkN.ls{x:Nd}(h:OkN x)(J:x.k=1){l:List En}(U:S6 l)(I:l.length<=24):OkN (x.ls l):=
 ⟨h.k,h.g,h.v,h.fr,h.b,h.nob,U,I,λe=>absurd J e⟩
theorem OkN.bk{x:Nd}(h:OkN x)(J:x.k=2){b:Nat->ByteArray}(I:∀j,(b j).size<=64):OkN (x.bk b):=
 ⟨h.k,h.g,h.v,h.fr,I,λe=>absurd J e,h.rise,h.few,h.nol⟩
theorem B2f:M5 ⟨#[]⟩=[]:=rfl
theorem B7b(g:Int)(j:Nat):P7 (Nd.gone g) j=[]:=rfl
theorem B2g(k g:Int)(j:Nat):P7 (Nd.new k g) j=[]:=by
 unfold P7 Nd.new
 split
 ·have:(H6 []).getD j []=[]:=by
   rw[List.getD_eq_getElem?_getD,List.getElem?_eq_none (by rw[M9];exact Nat.zero_le _)]
   rfl
  exact this
 ·split
  ·exact B2f
  ·rfl
theorem B5i{x:Nd}(I:x.k=1)(l:List En)(j:Nat):P7 (x.ls l) j=(H6 l).getD j []:=if_pos I
theorem B5j{x:Nd}(I:x.k=1)(j:Nat):P7 x j=(H6 x.l).getD j []:=if_pos I
theorem A6k{x:Nd}(I:x.k=2)(j:Nat):P7 x j=M5 (x.b j):=by
 unfold P7
 rw[if_neg (by omega),if_pos I]
theorem A6l{x:Nd}(I:x.k=2)(b:Nat->ByteArray)(j:Nat):P7 (x.bk b) j=M5 (b j):=A6k (x:=x.bk b) I j
theorem B0n{f g:Nat->List Nat}{j:Nat}:∀{n:Nat},(∀b,b<n->T7 (f b)<=T7 (g b))->j<n->T7 (f j)<T7 (g j)->P6 f n<P6 g n
 |n+1,h,hj,hl=>by
  show P6 f n+T7 (f n)<P6 g n+T7 (g n)
  have J:=h n (by omega)
  by_cases e:j=n
  ·subst e
   have:P6 f j<=P6 g j:=by
    have I:∀m,m<=j->P6 f m<=P6 g m:=λm=>by
     induction m with
     |zero=>intro _;exact Nat.le_refl _
     |succ m ih=>intro V;have:=ih (by omega);have:=h m (by omega);show P6 f m+_<=P6 g m+_;omega
    exact I j (Nat.le_refl _)
   omega
  ·have:=B0n (n:=n) (λb U=>h b (by omega)) (by omega) hl
   omega
theorem A8X{f g:Nat->List Nat}:∀{n:Nat},(∀b,b<n->T7 (f b)<=T7 (g b))->P6 f n<=P6 g n
 |0,_=>Nat.le_refl _
 |n+1,h=>by
  have:=A8X (n:=n) (λb I=>h b (by omega))
  have:=h n (by omega)
  show P6 f n+T7 (f n)<=P6 g n+T7 (g n)
  omega
theorem A74{R S:Nat->Nat->List Nat}{i:Nat}(I:∀a b,a≠i->S a b=R a b)(J:1<=i):∀{n:Nat},i<=n->A0e S n+P6 (R i) 8=A0e R n+P6 (S i) 8
 |0,h=>by omega
 |n+1,h=>by
  show A0e S n+P6 (S (n+1)) 8+P6 (R i) 8=A0e R n+P6 (R (n+1)) 8+P6 (S i) 8
  by_cases hi:i=n+1
  ·subst hi
   rw[A0f (R:=S) (S:=R) (λa b _ U _=>I a b (by omega))]
   omega
  ·rw[A0J (f:=S (n+1)) (g:=R (n+1)) (λb _=>I (n+1) b (by omega))]
   have:=A74 I J (n:=n) (by omega)
   omega
theorem B0o(A:As){i:Nat}(hi:1<=i/\i<=40)(y:Nd):(A.up i y).use+P6 (P7 (A.n i)) 8=A.use+P6 (P7 y) 8:=by
 have:=A74 (R:=A.R) (S:=(A.up i y).R) (i:=i) (λa b I=>by show P7 _ b=_;rw[As.up_ne _ _ I];rfl) hi.1 hi.2
 have e:(A.up i y).R i=P7 y:=by
  funext b
  show P7 ((A.up i y).n i) b=_
  rw[As.up_at]
 rw[e]at this
 exact this
theorem C17(l:List Nat):T7 l<=1:=by unfold T7;split<;>omega
theorem B95{A:As}{i M j:Nat}{bs:List (List Nat)}{y:Nd}(hi:1<=i/\i<=40)(Y:∀j,j<8->P7 y j=bs.getD j [])(J:j<8)(V:bs.getD j []≠[])(h3:A0e (A8j A.R i j bs) 40+42=M)(U:∀b,j<=b->b<8->P7 (A.n i) b=[]):M<(A.up i y).use+42:=by
 have h:=A74 (R:=A8j A.R i j bs) (S:=(A.up i y).R) (i:=i) (n:=40) (λa b W=>by
  show P7 ((A.up i y).n a) b=if a=i/\b<j then _ else _
  rw[As.up_ne _ _ W,if_neg (by omega)]
  rfl) hi.1 hi.2
 have e:∀b,b<8->(A.up i y).R i b=bs.getD b []:=λb I=>by
  show P7 ((A.up i y).n i) b=_
  rw[As.up_at,Y b I]
 have Z:=B0n (f:=A8j A.R i j bs i) (g:=(A.up i y).R i) (j:=j) (n:=8) (λb I=>by
  rw[e b I]
  show T7 (if i=i/\b<j then _ else A.R i b)<=_
  by_cases X:b<j
  ·rw[if_pos ⟨rfl,X⟩];exact Nat.le_refl _
  ·rw[if_neg (by omega),show A.R i b=[]from U b (by omega) I]
   exact Nat.zero_le _) J (by
  rw[e j J,A0Z V]
  show T7 (if i=i/\j<j then _ else A.R i j)<1
  rw[if_neg (by omega),show A.R i j=[]from U j (Nat.le_refl _) J]
  decide)
 unfold As.use
 omega
theorem N8{A:As}{i g:Int}(h:T4 A i g):1<=i.toNat/\i.toNat<=40:=by unfold T4 at h;omega
theorem B96{s:CS}{M:Nat}{x:L6}:∀n j,(fl M x [] s n).2 j=if j<n then 0 else x.a j
 |0,j=>by rw[if_neg (by omega)];rfl
 |n+1,j=>by
  show(if j=n then CS.placeI _ M (x.a n) (([]:List (List Nat)).getD n [])else(fl M x [] s n).2 j)=_
  by_cases e:j=n
  ·rw[if_pos e,if_pos (by omega)]
   exact if_pos rfl
  ·rw[if_neg e,B96 n j]
   by_cases h:j<n
   ·rw[if_pos h,if_pos (by omega)]
   ·rw[if_neg h,if_neg (by omega)]
section
variable {s:CS} {M:Nat} {A:As} {i g:Int}
theorem Rq.touch_full(h:Rq s.H M A)(J:s.e=0)(I:T4 A i g)(hv:(A.n i.toNat).v=1099511627775):(s.touch i g).e=8:=by
 obtain⟨U,V⟩:=N8 I
 unfold CS.touch
 rw[h.fileE,if_pos I,h.fileX I,(h.f _ U V).2.2,if_pos hv,A0p]
 have:(s.note 8).e=8:=B0m J 8
 rw[A21 (by rw[this];decide),this]
theorem Rq.touch(h:Rq s.H M A)(Y:s.e=0)(I:T4 A i g)(hv:(A.n i.toNat).v≠1099511627775):(s.touch i g).e=0/\Rq (s.touch i g).H M (A.up i.toNat (A.n i.toNat).inc)/\Dif s.H (s.touch i g).H [1+i.toNat]:=by
 obtain⟨J,U⟩:=N8 I
 obtain⟨W,X,V⟩:=h.f _ J U
 unfold CS.touch
 rw[h.fileE,if_pos I,h.fileX I,V,if_neg hv,A0p]
 exact h.reset Y ⟨J,U⟩ ((h.ok _ J U).inc (by unfold T4 at I;exact I.2.2.1) hv) (λ_ _=>rfl) W X (by show(C9 s.H i.toNat).v+1=_;rw[V];rfl) (λ_ _=>rfl)
theorem Rq.seten(h:Rq s.H M A)(he:s.e=0)(U:T4 A i g)(Z:(A.n i.toNat).k=1){l:List En}(hl:S6 l):
 ((s.setEn M i g l).e=0/\l.length<=24/\Rq (s.setEn M i g l).H M (A.up i.toNat ((A.n i.toNat).ls l))/\∃K:List Nat,K.length<=5/\Dif s.H (s.setEn M i g l).H (1::(1+i.toNat)::K))\/
 ((s.setEn M i g l).e=8/\(24<l.length\/M<(A.up i.toNat ((A.n i.toNat).ls l)).use+42)):=by
 obtain⟨V,W⟩:=N8 U
 obtain⟨f1,f2,f3⟩:=h.f _ V W
 by_cases I:l.length<=24
 ·have J:=B8E hl I
  unfold CS.setEn
  rw[J,A0p,h.fileE,if_pos U,A0p,h.fileX U,B4G J]
  have aA:∀j,j<8->P7 ((A.n i.toNat).ls l) j=(H6 l).getD j []:=λj _=>B5i Z l j
  rcases h.refill (i:=i.toNat) (x:=C9 s.H i.toNat) (bs:=H6 l) (y:=(A.n i.toNat).ls l) (z:=s.fillX M (C9 s.H i.toNat) (H6 l)) he ⟨V,W⟩ (λ_ _=>rfl) (A0U l) ((h.ok _ V W).ls Z hl I) aA f1 f2 f3 (λ_ _=>rfl)with⟨X,e2,K,hK,e3⟩|⟨X,j,hj,j1,j2,j3⟩
  ·exact .inl ⟨X,I,e2,K,by have:=B92 I;omega,e3⟩
  ·refine .inr ⟨X,.inr (B95 ⟨V,W⟩ aA hj j2 j3 (λb aB aC=>?_))⟩
   rw[B5j Z]at j1⊢
   have aD:(H6 (A.n i.toNat).l).length<=j:=by
    rcases Nat.lt_or_ge j (H6 (A.n i.toNat).l).length with y|y
    ·rw[List.getD_eq_getElem?_getD,List.getElem?_eq_getElem y]at j1
     exact absurd j1 (A3N _ _ (List.getElem_mem y))
    ·exact y
   rw[List.getD_eq_getElem?_getD,List.getElem?_eq_none (by omega)]
   rfl
 ·refine .inr ⟨?_,.inl (by omega)⟩
  have J:=A9L hl (by omega)
  unfold CS.setEn
  rw[J,h.fileE,if_pos U,A0p]
  have Y:(s.note 8).e=8:=B0m he 8
  show(CS.set (fl M _ _ (s.note 8) 8).1 _ _).e=8
  rw[B5g (by rw[Y];decide),A21 (by rw[Y];decide),Y]
theorem Rq.enter(h:Rq s.H M A)(X:s.e=0)(I:T4 A i g)(U:(A.n i.toNat).k=1){x:En}(Z:okE x):
 ((s.enter M i g x).e=0/\(S9 (A.n i.toNat).l x).length<=24/\Rq (s.enter M i g x).H M (A.up i.toNat ((A.n i.toNat).ls (S9 (A.n i.toNat).l x)))/\∃K:List Nat,K.length<=5/\Dif s.H (s.enter M i g x).H (1::(1+i.toNat)::K))\/
 ((s.enter M i g x).e=8/\(24<(S9 (A.n i.toNat).l x).length\/M<(A.up i.toNat ((A.n i.toNat).ls (S9 (A.n i.toNat).l x))).use+42)):=by
 obtain⟨r1,r2⟩:=N8 I
 obtain⟨V,W⟩:=h.ents i g
 have J:U7 A i g 1=0:=by unfold U7;rw[if_pos I,if_pos U]
 have Y:lsA A i g=(A.n i.toNat).l:=by unfold lsA;rw[if_pos J]
 unfold CS.enter
 rw[V,W,J,A0p,Y]
 exact h.seten X I U (B94 (h.ok _ r1 r2).rise Z)
theorem Rq.leave(h:Rq s.H M A)(he:s.e=0)(J:T4 A i g)(I:(A.n i.toNat).k=1)(x:ByteArray):
 (s.leave M i g x).e=0/\Rq (s.leave M i g x).H M (A.up i.toNat ((A.n i.toNat).ls (dropL (A.n i.toNat).l x)))/\∃K:List Nat,K.length<=5/\Dif s.H (s.leave M i g x).H (1::(1+i.toNat)::K):=by
 obtain⟨U,V⟩:=N8 J
 obtain⟨e1,e2⟩:=h.ents i g
 have W:U7 A i g 1=0:=by unfold U7;rw[if_pos J,if_pos I]
 have hl:lsA A i g=(A.n i.toNat).l:=by unfold lsA;rw[if_pos W]
 unfold CS.leave
 rw[e1,e2,W,A0p,hl]
 have aB:=A9U (A.n i.toNat).l x
 have aA:=(h.ok _ U V).few
 rcases h.seten he J I (B7a (h.ok _ U V).rise x)with⟨Y,_,Z,a3⟩|⟨_,b⟩
 ·exact⟨Y,Z,a3⟩
 ·exfalso
  rcases b with b|b
  ·omega
  ·have h1:=B0o A ⟨U,V⟩ ((A.n i.toNat).ls (dropL (A.n i.toNat).l x))
   have h2:P6 (P7 ((A.n i.toNat).ls (dropL (A.n i.toNat).l x))) 8<=P6 (P7 (A.n i.toNat)) 8:=A8X λb _=>by
    rw[B5i I,B5j I]
    rcases Nat.lt_or_ge b (H6 (dropL (A.n i.toNat).l x)).length with y|y
    ·have X:b<(H6 (A.n i.toNat).l).length:=by
      rw[M9]at y⊢
      unfold nCh at y⊢
      omega
     rw[List.getD_eq_getElem?_getD,List.getD_eq_getElem?_getD,List.getElem?_eq_getElem X,Option.getD_some,A0Z (A3N _ _ (List.getElem_mem X))]
     exact C17 _
    ·rw[List.getD_eq_getElem?_getD,List.getElem?_eq_none y]
     exact Nat.zero_le _
   have h3:=h.ow.cnt
   have h4:A.use=A0e A.R 40:=rfl
   omega
theorem Rq.free(h:Rq s.H M A)(he:s.e=0)(I:T4 A i g):(s.free M i g).e=0/\Rq (s.free M i g).H M (A.up i.toNat (Nd.gone g))/\Dif s.H (s.free M i g).H [1,1+i.toNat]:=by
 obtain⟨J,U⟩:=N8 I
 obtain⟨f1,Z,f3⟩:=h.f _ J U
 have V:(A.n i.toNat).g=g:=by unfold T4 at I;exact I.2.2.2
 unfold CS.free
 rw[h.fileE,if_pos I,A0p,h.fileX I]
 rcases h.refill (i:=i.toNat) (x:=C9 s.H i.toNat) (bs:=[]) (y:=Nd.gone g) (z:=A8i (C9 s.H i.toNat)) he ⟨J,U⟩ (λ_ _=>rfl) (λr hr=>by simp at hr) (OkN.gone (by rw[<-V];exact(h.ok _ J U).g)) (λj _=>B7b g j) rfl (by show(C9 s.H i.toNat).g=g;rw[Z,V]) rfl (λj hj=>by rw[B96,if_pos hj];rfl)with⟨W,X,K,hK,Y⟩|⟨_,j,_,_,j2,_⟩
 ·have:K=[]:=List.eq_nil_of_length_eq_zero (by simpa using hK)
  subst this
  exact⟨W,X,Y⟩
 ·exact absurd rfl j2
def A22(A:As):Option Nat:=(List.range 40).find? (λj=>decide ((A.n (1+j)).k=0/\(A.n (1+j)).g<2147483647))
theorem Rq.addO(h:Rq s.H M A):addO s.H=A22 A:=by
 unfold Go.Proofs.YtbefmjiclpobjaaGreat.addO A22
 have:∀(l:List Nat),(∀j∈l,j<40)->l.find? (λj=>decide (A3f s.H j))=l.find? (λj=>decide ((A.n (1+j)).k=0/\(A.n (1+j)).g<2147483647)):=λl=>by
  induction l with
  |nil=>intro _;rfl
  |cons j l ih=>
   intro I
   obtain⟨J,U,_⟩:=h.f (1+j) (by omega) (by have:=I j List.mem_cons_self;omega)
   have e:decide (A3f s.H j)=decide ((A.n (1+j)).k=0/\(A.n (1+j)).g<2147483647):=decide_eq_decide.2 (by unfold A3f;rw[J,U])
   rw[List.find?_cons,List.find?_cons,e,ih (λk W=>I k (List.mem_cons_of_mem _ W))]
 exact this _ (λj V=>List.mem_range.1 V)
theorem A2Y{j:Nat}(h:A22 A=some j):j<40/\(A.n (1+j)).k=0/\(A.n (1+j)).g<2147483647:=by
 unfold A22 at h
 have I:=List.find?_some h
 have J:=List.mem_of_find?_eq_some h
 exact⟨List.mem_range.1 J,by simpa using I⟩
theorem Rq.add(h:Rq s.H M A)(X:s.e=0){I:Int}(Y:I=1\/I=2){j:Nat}(U:A22 A=some j):
 (s.add I).e=0/\Rq (s.add I).H M (A.up (1+j) (Nd.new I ((A.n (1+j)).g+1)))/\Dif s.H (s.add I).H [2+j]:=by
 obtain⟨j1,j2,j3⟩:=A2Y U
 obtain⟨f1,W,f3⟩:=h.f (1+j) (by omega) (by omega)
 have Z:=h.ok (1+j) (by omega) (by omega)
 unfold CS.add
 rw[h.addO,U]
 have V:∀b,b<8->P7 (A.n (1+j)) b=[]:=λb _=>by unfold P7;rw[j2];rfl
 obtain⟨a,b,c⟩:=h.reset (i:=1+j) (y:=Nd.new I ((A.n (1+j)).g+1)) (z:=mkI I (C9 s.H (1+j)).g) X ⟨by omega,by omega⟩ (OkN.new Y (by have:=Z.g;omega)) (λb J=>by rw[B2g,V b J]) rfl (by show(C9 s.H (1+j)).g+1=_;rw[W];rfl) rfl (λb J=>((h.ow.nz (1+j) b ⟨by omega,by omega,J⟩).2 (V b J)).symm)
 exact⟨a,b,by rw[show 2+j=1+(1+j)by omega];exact c⟩
theorem Rq.addF(h:Rq s.H M A){j:Nat}(I:A22 A=some j):addF s.H=(((1+j:Nat):Int),(A.n (1+j)).g+1):=by
 obtain⟨J,_⟩:=A2Y I
 unfold Go.Proofs.YtbefmjiclpobjaaGreat.addF
 rw[h.addO,I]
 show(((1+j:Nat):Int),(C9 s.H (1+j)).g+1)=_
 rw[(h.f (1+j) (by omega) (by omega)).2.1]
theorem Rq.add_none(h:Rq s.H M A)(I:s.e=0)(U:Int)(J:A22 A=none):(s.add U).e=8:=by
 unfold CS.add
 rw[h.addO,J]
 exact B0m I 8
theorem Rq.write1(h:Rq s.H M A)(he:s.e=0)(ht:T4 A i g)(I:(A.n i.toNat).k=2){j:Nat}(hj:j<8){d:ByteArray}(hd:d.size<=64){z:L6}(U:z=atX (C9 s.H i.toNat) (λb=>if b=j then s.placeI M ((C9 s.H i.toNat).a j) (M5 d)else(C9 s.H i.toNat).a b)):
 (((s.place M ((C9 s.H i.toNat).a j) (M5 d)).set i.toNat z).e=0/\Rq ((s.place M ((C9 s.H i.toNat).a j) (M5 d)).set i.toNat z).H M (A.up i.toNat ((A.n i.toNat).bk (λb=>if b=j then d else(A.n i.toNat).b b)))/\∃K:List Nat,K.length<=1/\Dif s.H ((s.place M ((C9 s.H i.toNat).a j) (M5 d)).set i.toNat z).H (1::(1+i.toNat)::K))\/
 (((s.place M ((C9 s.H i.toNat).a j) (M5 d)).set i.toNat z).e=8/\M<(A.up i.toNat ((A.n i.toNat).bk (λb=>if b=j then d else(A.n i.toNat).b b))).use+42):=by
 obtain⟨W,X⟩:=N8 ht
 obtain⟨f1,f2,f3⟩:=h.f _ W X
 have aC:=h.ok _ W X
 have aD:M5 d=[]\/((M5 d).length=128/\∀y∈M5 d,y<256):=by
  by_cases h0:d.size=0
  ·exact .inl (if_pos h0)
  ·exact .inr ⟨A0X (by omega) (by omega),B0c (by omega)⟩
 have aA:In8 i.toNat j:=⟨W,X,hj⟩
 rcases h.ow.place h.sw he aA aD with⟨p1,V,J,p4⟩|⟨p1,V,J,p4⟩
 ·have aE:=A7v (s:=s) h.sw (h.ow.pt _ _ aA) aD
  obtain⟨Y,aI⟩:∃Y,Y=s.place M ((C9 s.H i.toNat).a j) (M5 d):=⟨_,rfl⟩
  obtain⟨Z,aF⟩:∃Z,Z=s.placeI M ((C9 s.H i.toNat).a j) (M5 d):=⟨_,rfl⟩
  rw[<-aI]at p1 V J p4 aE⊢
  rw[<-aF]at V p4 U
  obtain⟨h1,h2⟩:=Rq.core (s:=Y) (i:=i.toNat) (A:=A) (y:=(A.n i.toNat).bk (λb=>if b=j then d else(A.n i.toNat).b b)) (z:=z) p1 aE (λk k1 k2 _=>by rw[Rq.ino_low J k1 k2];exact⟨h.f k k1 k2,h.ok k k1 k2⟩) V (λk b I aH=>by
   rw[Rq.ino_low J I.1 I.2.1,U2 _ _ (by omega)]) (λk b I aH=>by rw[U2 _ _ (by omega)];rfl) (by rw[J 0 (by omega) (by omega)];exact h.rc) ⟨W,X⟩ (aC.bk I (λb=>by
   show(if b=j then d else _).size<=64
   split
   ·exact hd
   ·exact aC.b b)) (λb hb=>by
   rw[A6l I]
   show _=M5 (if b=j then d else(A.n i.toNat).b b)
   by_cases e:b=j
   ·rw[if_pos e,e,A0d]
   ·rw[if_neg e,U2 _ _ (by omega)]
    exact A6k I b) (by rw[U];exact f1) (by rw[U];exact f2) (by rw[U];exact f3) (λb hb=>by
   rw[U]
   show(if b=j then Z else _)=_
   by_cases e:b=j
   ·rw[if_pos e,e,A0d]
   ·rw[if_neg e,U2 _ _ (by omega)])
  rw[h1]
  refine .inl ⟨rfl,h2,[Z.toNat],Nat.le_refl _,λk I=>?_⟩
  by_cases e:k=1+i.toNat
  ·rw[e];exact List.mem_cons_of_mem _ List.mem_cons_self
  ·have aG:Y.H k≠s.H k:=by rw[<-H7 Y.H (secI z) e];exact I
   rcases p4 k aG with x|⟨_,x⟩
   ·rw[x];exact List.mem_cons_self
   ·exact List.mem_cons_of_mem _ (List.mem_cons_of_mem _ (List.mem_cons.2 (.inl (by omega))))
 ·have h8:(s.place M ((C9 s.H i.toNat).a j) (M5 d)).e=8:=p1
  rw[A21 (by rw[h8];decide),h8]
  refine .inr ⟨rfl,?_⟩
  have h1:=B0o A ⟨W,X⟩ ((A.n i.toNat).bk (λb=>if b=j then d else(A.n i.toNat).b b))
  have aB:P7 (A.n i.toNat) j=[]:=(h.ow.nz i.toNat j aA).1 V
  have h2:=B0n (f:=P7 (A.n i.toNat)) (g:=P7 ((A.n i.toNat).bk (λb=>if b=j then d else(A.n i.toNat).b b))) (j:=j) (n:=8) (λb _=>by
   by_cases e:b=j
   ·rw[e,aB];exact Nat.zero_le _
   ·rw[A6k I,A6l I]
    show _<=T7 (M5 (if b=j then d else _))
    rw[if_neg e]
    exact Nat.le_refl _) hj (by
   rw[aB,A6l I]
   show _<T7 (M5 (if j=j then d else _))
   rw[if_pos rfl,A0Z J]
   decide)
  have h3:=h.ow.cnt
  have h4:A.use=A0e A.R 40:=rfl
  omega
theorem Rq.trunc1(h:Rq s.H M A)(he:s.e=0)(ht:T4 A i g)(U:(A.n i.toNat).k=2):
 (((s.fill M (C9 s.H i.toNat) []).set i.toNat (s.fillX M (C9 s.H i.toNat) [])).e=0/\Rq ((s.fill M (C9 s.H i.toNat) []).set i.toNat (s.fillX M (C9 s.H i.toNat) [])).H M (A.up i.toNat ((A.n i.toNat).bk noB))/\Dif s.H ((s.fill M (C9 s.H i.toNat) []).set i.toNat (s.fillX M (C9 s.H i.toNat) [])).H [1,1+i.toNat]):=by
 obtain⟨I,J⟩:=N8 ht
 obtain⟨Y,Z,f3⟩:=h.f _ I J
 rcases h.refill (i:=i.toNat) (x:=C9 s.H i.toNat) (bs:=[]) (y:=(A.n i.toNat).bk noB) (z:=s.fillX M (C9 s.H i.toNat) []) he ⟨I,J⟩ (λ_ _=>rfl) (λr hr=>by simp at hr) ((h.ok _ I J).bk U (λ_=>Nat.zero_le _)) (λj _=>by rw[A6l U];exact B2f) Y Z f3 (λ_ _=>rfl)with⟨V,W,K,hK,X⟩|⟨_,j,_,_,j2,_⟩
 ·have:K=[]:=List.eq_nil_of_length_eq_zero (by simpa using hK)
  subst this
  exact⟨V,W,X⟩
 ·exact absurd rfl j2
end
end
section
open Go.RowKit Go.Maps
def EO(E:Ev):Nat->Prop:=λk=>E.U k\/k=E.mo
def OdR(w:World)(E:Ev)(R:(DS×LS)×Int)(w':World):Prop:=
 ∃F' I,So w' (E.at_ F' R.1.1 R.1.2 I)/\OtR E R I/\B0 (EO E) w (EO (E.at_ F' R.1.1 R.1.2 I)) w'
def LOk(E:Ev)(s:CS):Prop:=s.e=0->WOk E.n E.N E.s E.g/\AOk E.M (A0j E.s E.n E.N E.g (E6 (J1 s.H E.H) E.M)).1.2.A
noncomputable def P8(E:Ev)(s:CS):(DS×LS)×Int:=B1U E s.H s.e
section
variable {w w1 w3 w4:World} {E:Ev} {c m:Nat} {R:(DS×LS)×Int} {x:Ending} {s:CS}
theorem A5T.op(h:A5T w3 E c m R x w4)(I:B0 B5 w B5 w1)(hc:w.heap.size<=c)(hm:w.heap.size<=m)(J:B0 (CF c m) w1 (CF c m) w3):x= .returned (.int .i64 R.2)/\OdR w E R w4:=by
 obtain⟨V,F',X,h2,h3,U⟩:=h
 refine⟨V,F',X,h2,h3,U.os.trans (J.os.trans I.os),U.tape.trans (J.tape.trans I.tape),U.output.trans (J.output.trans I.output),Nat.le_trans I.size (Nat.le_trans J.size U.size),λk W Z=>?_,λk W=>?_⟩
 ·have V:=Nat.lt_of_lt_of_le W I.size
  have Y:¬CF c m k:=λy=>by rcases y with y|y<;>omega
  refine(U.block k (Nat.lt_of_lt_of_le V J.size) (λy=>?_)).trans ((J.block k V Y).trans (I.block k W (λy=>y)))
  rcases y with y|y|y
  ·exact Z (.inl y)
  ·exact Z (.inr y)
  ·exact Y y
 ·have hb:=Nat.le_trans I.size J.size
  have:EF (E.at_ F' R.1.1 R.1.2 X) c m k:=by
   rcases W with y|y
   ·exact .inl y
   ·exact .inr (.inl y)
  rcases U.into k this with y|y
  ·rcases y with y|y|y|y
   ·exact .inl (.inl y)
   ·exact .inl (.inr y)
   ·exact .inr (by omega)
   ·exact .inr (by omega)
  ·exact .inr (by omega)
theorem A8Y(h:Cs w E c m s)(J:∀i,i<E.M->(E.H i).length=128/\∀x∈E.H i,x<256)(I:LOk E s):Calls Tryz.prog 46 #[.pointer (some ⟨c,0,none⟩)] w (A5T w E c m (P8 E s)):=
 C4N h J (λe=>(I e).1) (λe=>(I e).2)
theorem B97{H:Nat->List Nat}{i g:Int}{s:ByteArray}(h:M4 H i g s=0):0<=i/\i<=40:=by
 have I:J3 H i g=0:=by
  unfold M4 at h
  split at h
  ·assumption
  ·exact h
 have J:Q3 H i g 1=0:=by
  unfold J3 at I
  split at I
  ·assumption
  ·exact I
 have:=R5 (A0W J).1
 omega
end
end
section
open Go.RowKit Go.Maps
theorem A13{w:World}{z:Nat}{t:TypeId}{X:En}(h:C3 w z t (ea X)):w.rangeAt z 1 [.int .i64 X.i,.int .i64 X.g]:=λj u I=>by
 have J:j<2:=(List.getElem?_eq_some_iff.1 I).1
 match j,J with
 |0,_=>simp at I;subst I;exact h.cell 1
 |1,_=>simp at I;subst I;exact h.cell 2
noncomputable def A8k(H:Nat->List Nat)(i g:Int)(s:ByteArray):Int:=
 if A0y [s]=0 then(if M4 H i g s=0 then mfE H (L5 H i g s)else M4 H i g s)else A0y [s]
noncomputable def B3Q(E:Ev)(i g:Int)(s:ByteArray):CS:=
 (((⟨E.H,0⟩:CS).free E.M (L5 E.H i g s).i (L5 E.H i g s).g).leave E.M i g s).touch i g
section
variable {w:World} {E:Ev}
theorem B98(h:So w E)(hs:Sw E.H E.M)(i g:Int)(s:ByteArray)(hm:s.size<=maxLen)(hl:A8k E.H i g s=0->LOk E (B3Q E i g s)):
 Calls Tryz.prog 33 #[.pointer (some ⟨E.o,0,none⟩),.agg #[.int .i64 i,.int .i64 g],.string s] w λr w'=>
  (A8k E.H i g s≠0/\r= .returned (.int .i64 (A8k E.H i g s))/\B0 B5 w B5 w')\/
  (A8k E.H i g s=0/\r= .returned (.int .i64 (P8 E (B3Q E i g s)).2)/\OdR w E (P8 E (B3Q E i g s)) w'):=by
 have hv:=h.vu.rdv
 have HF:=C6x (λV (a:B0 B5 w B5 V)=>A9W (hv.step a) hs.sd i g s)
 have HM:=C6x (λV (a:B0 B5 w B5 V)=>A0Y (hv.step a))
 have HC:=C6x (λV z (r:Rd V 1 (.slice (some ⟨z,0,none⟩) 1 1) 1 ([s].map Value.string))=>A9Y (.slice (some ⟨z,0,none⟩) 1 1) [s] V r (λt ht=>by rw[List.mem_singleton.1 ht];exact hm) (by simp))
 have aH:=C6x (λV (a:B0 B5 w B5 V)=>A8J (hv.step a) hs.sd (L5 E.H i g s))
 have aT:=C6x (λV (a:B0 B5 w B5 V)=>A11 (h.step a))
 have HL:=C6x hl
 have HR:=C6x (show A8k E.H i g s=if A0y [s]=0 then(if M4 E.H i g s=0 then mfE E.H (L5 E.H i g s)else M4 E.H i g s)else A0y [s]from rfl)
 have aE:=C6x (show B3Q E i g s=(((⟨E.H,0⟩:CS).free E.M (L5 E.H i g s).i (L5 E.H i g s).g).leave E.M i g s).touch i g from rfl)
 have aQ:=C6x (B1D E.H i g s)
 have aO:=C6x (λx:M4 E.H i g s=0=>B97 x)
 have HS:=C6x hs
 obtain⟨H,hH⟩:∃H,H=vwH E.O E.L:=⟨_,rfl⟩
 obtain⟨X,hX⟩:∃X,X=L5 E.H i g s:=⟨_,rfl⟩
 obtain⟨fe,bA⟩:∃fe,fe=M4 E.H i g s:=⟨_,rfl⟩
 obtain⟨ck,bG⟩:∃ck,ck=A0y [s]:=⟨_,rfl⟩
 obtain⟨mf,bH⟩:∃mf,mf=mfE E.H (L5 E.H i g s):=⟨_,rfl⟩
 obtain⟨re,bI⟩:∃re,re=A8k E.H i g s:=⟨_,rfl⟩
 obtain⟨S3,bY⟩:∃S3,S3=B3Q E i g s:=⟨_,rfl⟩
 rw[<-bH,<-bA,<-bG,<-bI]at HR
 rw[<-bY]at HL aE⊢
 rw[<-bI]at HL⊢
 rw[<-hX]at aE aQ
 rw[<-bA]at aO
 have HF:=C6x (λV (a:B0 B5 w B5 V)=>(HF.out V a).mono (R':=λe w'=>e= .returned (.tuple #[.agg (ea X),.int .i64 fe])/\B0 B5 V B5 w') (λe w' y=>by rw[hX,bA];exact y))
 have aH:=C6x (λV (a:B0 B5 w B5 V)=>show Calls Tryz.prog 81 #[.pointer (some ⟨E.o,0,none⟩),.agg (ea X)] V λe w'=>e= .returned (.int .i64 mf)/\B0 B5 V B5 w' by rw[hX,bH];exact aH.out V a)
 rw[<-bG]at HC
 have aZ:=C6x h
 clear hX bA bG bH bI bY hH h hs hv hm hl
 by_cases h0:ck=0
 ·subst h0
  rw[if_pos rfl]at HR
  by_cases h1:fe=0
  ·subst h1
   rw[if_pos rfl]at HR
   by_cases h2:mf=0
   ·subst h2
    have aB:=C6x HR.out
    have hi:=aO.out rfl
    have bJ:Sw (⟨E.H,0⟩:CS).H E.M:=HS.out
    have bQ:=C6x (λW c m (k:Cs W E c m ⟨E.H,0⟩)=>B9c k bJ X.i X.g aQ.out)
    have bB:=B0l bJ X.i X.g
    obtain⟨S1,bV⟩:∃S1,S1=(⟨E.H,0⟩:CS).free E.M X.i X.g:=⟨_,rfl⟩
    rw[<-bV]at bQ bB aE
    have bR:=C6x (λW c m (k:Cs W E c m S1)=>B4V k bB i g hi s)
    have bK:=B1Y bB i g s
    obtain⟨S2,bX⟩:∃S2,S2=S1.leave E.M i g s:=⟨_,rfl⟩
    rw[<-bX]at bR bK aE
    have bT:=C6x (λW c m (k:Cs W E c m S2)=>A4w k bK i g hi)
    rw[<-aE.out]at bT
    have bP:=C6x (λW c m (k:Cs W E c m S3)=>A8Y k HS.out.sd.row (HL.out aB.out))
    obtain⟨R,hR⟩:∃R,R=P8 E S3:=⟨_,rfl⟩
    rw[<-hR]at bP⊢
    obtain⟨o,Y⟩:∃o,o=E.o:=⟨_,rfl⟩
    rw[<-Y]at HM aT HF aH⊢
    clear bV bX bJ bB bK hR Y hi HL aE aO HR HS aZ aQ
    go_enter Tryz.func33,Tryz.ntmps33
    go_wp2_with (first
     |(refine C5 rfl _ rfl rfl ?_;intro Z w0 U J I;have aK:=C6x J;have aA:=C6x I;have bF:=C6x U;clear U J I)
     |(go_at_call 73;refine(HM.out _ aA.out).mono ?_;rintro e w2 ⟨rfl,rfl⟩)
     |(refine U6 rfl _ rfl s rfl ?_;intro z3 w3 U J I;have aM:=C6x J;have aI:=C6x (aA.out.trans I);have aL:=C6x (aK.out.over I);clear U J I)
     |(go_at_call 79;refine(HC.out _ _ aM.out).mono ?_;rintro e w4 ⟨rfl,I⟩;have aC:=C6x (aI.out.trans I);have aD:=C6x (aL.out.over I);clear I)
     |(refine B6 (t:=35) rfl _ rfl Z aD.out rfl Tryz.underlying35 rfl B1 rfl ?_)
     |(go_at_call 80;refine(HF.out _ aC.out).mono ?_;rintro e w5 ⟨rfl,I⟩;have aF:=C6x (aC.out.trans I);have aG:=C6x (aD.out.over I);clear I)
     |(refine B9 rfl rfl E7 ?_;intro z8 w6 U J I;have aW:=C6x (Nat.le_trans aF.out.size U);have aV:=C6x J;have aR:=C6x (aF.out.trans I);have aS:=C6x (aG.out.over I);have aU:=C6x (show Z≠z8 fromλe=>by have:=aG.out.lt;omega);clear U J I)
     |(refine B7 rfl _ _ rfl z8 aV.out rfl rfl C8 (D1 _) (D1 _) (R4 _) ?_;intro w7 J I;have aP:=C6x J;have aJ:=C6x (aR.out.fresh aW.out I);have aX:=C6x (aS.out.far1 I aU.out);clear J I)
     |(refine B6 (t:=74) rfl _ rfl z8 aP.out rfl Tryz.underlying74 rfl C8 (D1 _) ?_)
     |(go_at_call 81;refine(aH.out _ aJ.out).mono ?_;rintro e w8 ⟨rfl,I⟩;have aN:=C6x (aJ.out.trans I);have bC:=C6x (aX.out.over I);have bD:=C6x (aP.out.over I);clear I)
     |(go_at_call 44;refine(aT.out _ aN.out).mono ?_;rintro e w9 ⟨c,m,rfl,hc,h1,h2,I⟩;have cG:=C6x (show Cs _ E c m ⟨E.H,0⟩from hc);have bU:=C6x (And.intro (Nat.le_trans aN.out.size h1) (Nat.le_trans aN.out.size h2));have bM:=C6x (bC.out.over I);have cJ:=C6x (bD.out.over I);have bS:=C6x (show(¬CF c m Z)/\¬CF c m z8 from⟨λy=>by have:=bC.out.lt;rcases y with y|y<;>omega,λy=>by have:=bD.out.lt;rcases y with y|y<;>omega⟩);have cC:=C6x (aN.out.trans I);have cH:=C6x (A13 cJ.out);clear hc h1 h2 I)
     |(refine wpList_load_mid rfl 35 (.tmp 40) rfl z8 1 rfl [.int .i64 X.i,.int .i64 X.g] _ cH.out Tryz.underlying35 rfl (by rw[B1];rfl) ?_)
     |(go_at_call 82;refine(bQ.out _ _ _ cG.out).mono ?_;rintro e cK ⟨rfl,hc,I⟩;have cD:=C6x hc;have bZ:=C6x I;have aY:=C6x (bM.out.keep (I.block Z bM.out.lt bS.out.1));clear hc I aD)
     |(refine B6 (t:=35) rfl _ rfl Z aY.out rfl Tryz.underlying35 rfl B1 rfl ?_)
     |(go_at_call 83;refine(bR.out _ _ _ cD.out).mono ?_;rintro e cL ⟨rfl,hc,I⟩;have cE:=C6x hc;have cA:=C6x (bZ.out.trans I);have bO:=C6x (aY.out.keep (I.block Z aY.out.lt bS.out.1));clear hc I aY)
     |(refine B6 (t:=35) rfl _ rfl Z bO.out rfl Tryz.underlying35 rfl B1 rfl ?_)
     |(go_at_call 84;refine(bT.out _ _ _ cE.out).mono ?_;rintro e cM ⟨rfl,hc,I⟩;have cF:=C6x hc;have cB:=C6x (cA.out.trans I);clear hc I bO)
     |(go_at_call 46;refine(bP.out _ _ _ cF.out).mono ?_;rintro e cN he;obtain⟨rfl,Y⟩:=he.op cC.out bU.out.1 bU.out.2 cB.out;have HO:=C6x Y;clear he Y)
     |fail)
    go_ret
    exact .inr ⟨aB.out,rfl,HO.out⟩
   ·have J:(mf !=0)=true:=by rw[bne_iff_ne];exact h2
    have HN:=C6x h2
    obtain⟨o,Y⟩:∃o,o=E.o:=⟨_,rfl⟩
    rw[<-Y]at HM HF aH⊢
    have aB:=C6x HR.out
    clear h2 HL aE aO HR HS aZ aQ aT Y
    go_enter Tryz.func33,Tryz.ntmps33
    go_wp2_with (first
     |(refine C5 rfl _ rfl rfl ?_;intro Z w0 U J I;have aK:=C6x J;have aA:=C6x I;have bF:=C6x U;clear U J I)
     |(go_at_call 73;refine(HM.out _ aA.out).mono ?_;rintro e w2 ⟨rfl,rfl⟩)
     |(refine U6 rfl _ rfl s rfl ?_;intro z3 w3 U J I;have aM:=C6x J;have aI:=C6x (aA.out.trans I);have aL:=C6x (aK.out.over I);clear U J I)
     |(go_at_call 79;refine(HC.out _ _ aM.out).mono ?_;rintro e w4 ⟨rfl,I⟩;have aC:=C6x (aI.out.trans I);have aD:=C6x (aL.out.over I);clear I)
     |(refine B6 (t:=35) rfl _ rfl Z aD.out rfl Tryz.underlying35 rfl B1 rfl ?_)
     |(go_at_call 80;refine(HF.out _ aC.out).mono ?_;rintro e w5 ⟨rfl,I⟩;have aF:=C6x (aC.out.trans I);have aG:=C6x (aD.out.over I);clear I)
     |(refine B9 rfl rfl E7 ?_;intro z8 w6 U J I;have aW:=C6x (Nat.le_trans aF.out.size U);have aV:=C6x J;have aR:=C6x (aF.out.trans I);have aS:=C6x (aG.out.over I);have aU:=C6x (show Z≠z8 fromλe=>by have:=aG.out.lt;omega);clear U J I)
     |(refine B7 rfl _ _ rfl z8 aV.out rfl rfl C8 (D1 _) (D1 _) (R4 _) ?_;intro w7 J I;have aP:=C6x J;have aJ:=C6x (aR.out.fresh aW.out I);have aX:=C6x (aS.out.far1 I aU.out);clear J I)
     |(refine B6 (t:=74) rfl _ rfl z8 aP.out rfl Tryz.underlying74 rfl C8 (D1 _) ?_)
     |(go_at_call 81;refine(aH.out _ aJ.out).mono ?_;rintro e w8 ⟨rfl,I⟩;have aN:=C6x (aJ.out.trans I);have bC:=C6x (aX.out.over I);have bD:=C6x (aP.out.over I);clear I)
     |fail)
    go_ret
    exact .inl ⟨by rw[aB.out];exact HN.out,(by rw[aB.out];rfl),aN.out⟩
  ·rw[if_neg h1]at HR
   have J:(fe !=0)=true:=by rw[bne_iff_ne];exact h1
   have HN:=C6x h1
   obtain⟨o,Y⟩:∃o,o=E.o:=⟨_,rfl⟩
   rw[<-Y]at HM HF⊢
   have aB:=C6x HR.out
   clear h1 HL aE aO HR HS aZ aQ aT aH Y
   go_enter Tryz.func33,Tryz.ntmps33
   go_wp2_with (first
    |(refine C5 rfl _ rfl rfl ?_;intro Z w0 U J I;have aK:=C6x J;have aA:=C6x I;have bF:=C6x U;clear U J I)
    |(go_at_call 73;refine(HM.out _ aA.out).mono ?_;rintro e w2 ⟨rfl,rfl⟩)
    |(refine U6 rfl _ rfl s rfl ?_;intro z3 w3 U J I;have aM:=C6x J;have aI:=C6x (aA.out.trans I);have aL:=C6x (aK.out.over I);clear U J I)
    |(go_at_call 79;refine(HC.out _ _ aM.out).mono ?_;rintro e w4 ⟨rfl,I⟩;have aC:=C6x (aI.out.trans I);have aD:=C6x (aL.out.over I);clear I)
    |(refine B6 (t:=35) rfl _ rfl Z aD.out rfl Tryz.underlying35 rfl B1 rfl ?_)
    |(go_at_call 80;refine(HF.out _ aC.out).mono ?_;rintro e w5 ⟨rfl,I⟩;have aF:=C6x (aC.out.trans I);have aG:=C6x (aD.out.over I);clear I)
    |(refine B9 rfl rfl E7 ?_;intro z8 w6 U J I;have aW:=C6x (Nat.le_trans aF.out.size U);have aV:=C6x J;have aR:=C6x (aF.out.trans I);have aS:=C6x (aG.out.over I);have aU:=C6x (show Z≠z8 fromλe=>by have:=aG.out.lt;omega);clear U J I)
    |(refine B7 rfl _ _ rfl z8 aV.out rfl rfl C8 (D1 _) (D1 _) (R4 _) ?_;intro w7 J I;have aP:=C6x J;have aJ:=C6x (aR.out.fresh aW.out I);have aX:=C6x (aS.out.far1 I aU.out);clear J I)
    |fail)
   go_ret
   exact .inl ⟨by rw[aB.out];exact HN.out,(by rw[aB.out];rfl),aJ.out⟩
 ·rw[if_neg h0]at HR
  have J:(ck !=0)=true:=by rw[bne_iff_ne];exact h0
  have HN:=C6x h0
  obtain⟨o,Y⟩:∃o,o=E.o:=⟨_,rfl⟩
  rw[<-Y]at HM⊢
  have aB:=C6x HR.out
  clear h0 HL aE aO HR HS aZ aQ aT aH HF Y
  go_enter Tryz.func33,Tryz.ntmps33
  go_wp2_with (first
   |(refine C5 rfl _ rfl rfl ?_;intro Z w0 U J I;have aK:=C6x J;have aA:=C6x I;have bF:=C6x U;clear U J I)
   |(go_at_call 73;refine(HM.out _ aA.out).mono ?_;rintro e w2 ⟨rfl,rfl⟩)
   |(refine U6 rfl _ rfl s rfl ?_;intro z3 w3 U J I;have aM:=C6x J;have aI:=C6x (aA.out.trans I);have aL:=C6x (aK.out.over I);clear U J I)
   |(go_at_call 79;refine(HC.out _ _ aM.out).mono ?_;rintro e w4 ⟨rfl,I⟩;have aC:=C6x (aI.out.trans I);have aD:=C6x (aL.out.over I);clear I)
   |fail)
  go_ret
  exact .inl ⟨by rw[aB.out];exact HN.out,(by rw[aB.out];rfl),aC.out⟩
end
end
end Go.Proofs.YtbefmjiclpobjaaGreat
