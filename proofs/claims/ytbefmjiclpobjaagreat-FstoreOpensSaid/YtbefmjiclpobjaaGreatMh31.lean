import Derived.Test.YtbefmjiclpobjaaGreatMh24
import Derived.Test.YtbefmjiclpobjaaGreatMh25
import Derived.Test.YtbefmjiclpobjaaGreatMh30
import Derived.Test.YtbefmjiclpobjaaGreatMh26
import Derived.Test.YtbefmjiclpobjaaGreatMh28
namespace Go.Proofs.YtbefmjiclpobjaaGreat
set_option maxRecDepth 3000
section
open Go.RowKit Go.Maps
theorem B2U{s:DS}(h:s.fuse=none):M9 s=(s,true):=by unfold M9;rw[h]
def V2(V:Nat->List Nat)(i:Nat)(b:List Nat):Nat->List Nat:=λj=>if j=i then b else V j
structure On (s:DS) (N:Nat) (V:Nat->List Nat):Prop where
 fz:s.fuse=none
 len:s.L.length=N
 at_:∀j,j<N->isS s j=V j
theorem On.write{s:DS}{N i:Nat}{V:Nat->List Nat}{b:List Nat}(h:On s N V)(hi:i<N)(W:b.length=128):(J5 s (i:Int) b).2=0/\On (J5 s (i:Int) b).1 N (V2 V i b):=by
 have e:J5 s (i:Int) b=({ s with Q:=s.Q++[(i,b)] },0):=by
  unfold J5
  rw[if_neg (by rw[h.len];omega),B2U h.fz,if_pos rfl]
  rfl
 rw[e]
 refine⟨rfl,h.fz,h.len,λj J=>?_⟩
 have I:=h.at_ j J
 unfold isS at I⊢
 show(R8 s.L (s.Q++[(i,b)])).getD j []=_
 rw[A33]
 unfold V2
 by_cases c:j=i
 ·subst c
  rw[if_pos rfl]
  have U:j<(R8 s.L s.Q).length:=by rw[A0g,h.len];exact J
  simp[List.getD_eq_getElem?_getD,U]
 ·rw[if_neg c,<-I]
  have c':i≠j:=λe=>c e.symm
  simp[List.getD_eq_getElem?_getD,List.getElem?_set_ne c']
theorem On.flush{s:DS}{N:Nat}{V:Nat->List Nat}(h:On s N V):(D4 s).2=0/\On (D4 s).1 N V:=by
 have e:D4 s=({ s with L:=R8 s.L s.Q,Q:=[] },0):=by
  unfold D4
  rw[B2U h.fz,if_pos rfl]
 rw[e]
 exact⟨rfl,h.fz,by show(R8 s.L s.Q).length=N;rw[A0g,h.len],λj I=>h.at_ j I⟩
def A3V(V:Nat->List Nat)(n:Nat)(P:List Pc):Nat->List Nat:=P.foldl (λV p=>V2 V (2+p.c%n) (D6 p)) V
theorem On.layP{n N:Nat}(I:1<=n)(W:n+2<=N):∀{P:List Pc} {s:DS} {V:Nat->List Nat},On s N V->(∀p∈P,p.d.length<=106)->(M7 s n P).2=0/\On (M7 s n P).1 N (A3V V n P)
 |[],_,_,h,_=>⟨rfl,h⟩
 |p::P,s,V,h,hp=>by
  obtain⟨J,U⟩:=h.write (i:=2+p.c%n) (b:=D6 p) (by have:=Nat.mod_lt p.c I;omega) (A0G (hp p (by simp)))
  unfold M7
  rw[if_pos J]
  exact On.layP I W U (λq X=>hp q (by simp[X]))
theorem A0e(n:Nat):∀(P:List Pc) (V:Nat->List Nat) {j:Nat},(∀p∈P,2+p.c%n≠j)->A3V V n P j=V j
 |[],_,_,_=>rfl
 |p::P,V,j,h=>by
  show A3V (V2 V (2+p.c%n) (D6 p)) n P j=V j
  rw[A0e n P _ (λq I=>h q (by simp[I]))]
  unfold V2
  rw[if_neg (λe=>h p (by simp) e.symm)]
theorem B2V(n:Nat):∀(P:List Pc) (V:Nat->List Nat) {p:Pc},P.Pairwise (λa b=>2+a.c%n≠2+b.c%n)->p∈P->A3V V n P (2+p.c%n)=D6 p
 |[],_,_,_,h=>absurd h (by simp)
 |q::P,V,p,hP,h=>by
  obtain⟨I,J⟩:=List.pairwise_cons.mp hP
  show A3V (V2 V (2+q.c%n) (D6 q)) n P (2+p.c%n)=D6 p
  rcases List.mem_cons.mp h with rfl|h
  ·rw[A0e n P _ (λr U e=>I r U e.symm)]
   unfold V2
   rw[if_pos rfl]
  ·exact B2V n P _ J h
theorem A4L(n:Nat)(j:Nat):∀(P:List Pc) (V:Nat->List Nat),A3V V n P j=V j\/∃p∈P,A3V V n P j=D6 p
 |[],_=>.inl rfl
 |p::P,V=>by
  rcases A4L n j P (V2 V (2+p.c%n) (D6 p))with h|⟨q,I,h⟩
  ·by_cases c:j=2+p.c%n
   ·right
    refine⟨p,by simp,?_⟩
    show A3V (V2 V (2+p.c%n) (D6 p)) n P j=D6 p
    rw[h]
    unfold V2
    rw[if_pos c]
   ·left
    show A3V (V2 V (2+p.c%n) (D6 p)) n P j=V j
    rw[h]
    unfold V2
    rw[if_neg c]
  ·exact .inr ⟨q,by simp[I],h⟩
theorem A7o{n a b:Nat}(h:a<b)(X:b<a+n):a%n≠b%n:=λe=>by
 have Y:0<n:=by omega
 have I:=Nat.div_add_mod a n
 have W:=Nat.div_add_mod b n
 rw[e]at I
 have h3:n * (a/n)<n * (b/n):=by omega
 have J:a/n<b/n:=Nat.lt_of_mul_lt_mul_left h3
 have U:n * (a/n+1)<=n * (b/n):=Nat.mul_le_mul_left n J
 rw[Nat.mul_add,Nat.mul_one]at U
 omega
theorem B4A{n e c:Nat}{l:List Nat}(h:J2 l.length<=n):(N9 e c l).Pairwise (λa b=>2+a.c%n≠2+b.c%n):=by
 unfold N9
 rw[List.pairwise_map]
 refine List.Pairwise.imp_of_mem (λ{a b} J I U=>?_) (List.pairwise_lt_range (n:=J2 l.length))
 have W:=List.mem_range.mp I
 show 2+(c+a)%n≠2+(c+b)%n
 have:=A7o (n:=n) (a:=c+a) (b:=c+b) (by omega) (by omega)
 omega
theorem A15{e c:Nat}{l:List Nat}{p:Pc}(h:p∈N9 e c l):p.e=e/\∃i,i<J2 l.length/\p.c=c+i:=by
 unfold N9 at h
 obtain⟨i,hi,rfl⟩:=List.mem_map.mp h
 exact⟨rfl,i,List.mem_range.mp hi,rfl⟩
def nou:List Nat:=List.replicate 128 0
theorem B2W:(dec nou).c=0/\(dec nou).g=false:=by constructor<;>kernel_rfl
theorem B2X(k:Nat):unO nou k=none:=A8U (by kernel_rfl)
theorem B2Y:A26 nou=0/\A27 nou=0:=by constructor<;>kernel_rfl
theorem A3p{p:Pc}(h:p.ok):A26 (D6 p)=p.e/\A27 (D6 p)=p.e:=by
 have hv:P7 (be 8 (P0 p.e p.c))/1099511627776=p.e:=by
  rw[A4N]
  have U:(256:Nat)^8=18446744073709551616:=by decide
  have X:=h.1
  have Y:=h.2.1
  rw[U]
  unfold P0
  omega
 have I:P7 ((be 8 (P0 p.e p.c)).take 3)=p.e:=(B9F (by rw[C5]) (λx W=>A2F _ _ x W)).symm.trans hv
 constructor
 ·have J:(D6 p).take 3=(be 8 (P0 p.e p.c)).take 3:=by rw[<-A3X,List.take_take];rfl
  unfold A26
  rw[J,I]
 ·unfold A27
  rw[A6l h.2.2,I]
theorem A8v{s:DS}{m:Nat}:∀k,(∀j,j<k->A26 (isS s j)<=m/\A27 (isS s j)<=m)->A0A s k<=m
 |0,_=>Nat.zero_le _
 |k+1,h=>by
  have I:=A8v (s:=s) (m:=m) k (λj U=>h j (by omega))
  have J:=h k (by omega)
  unfold A0A
  omega
end
section
open Go.RowKit Go.Maps
structure A3W (V:Nat->List Nat) (n:Nat) (H:Int) (t:Nat) (ps:List Pt):Prop where
 tx:V3 ps H
 b:∀p∈ps,∀x∈p.d,x<256
 cut:S4 1 t (J7 ps).length=0
 at_:∀p∈N9 1 t (J7 ps),V (2+p.c%n)=D6 p
def X7(V:Nat->List Nat)(n:Nat)(H:Int):Nat->List (List Pt)->Nat->Prop
 |t,[],u=>t=u
 |t,ps::r,u=>A3W V n H t ps/\X7 V n H (t+L4 ps) r u
theorem A1S(ps:List Pt):1<=L4 ps:=A00 _
theorem X7.le{V:Nat->List Nat}{n:Nat}{H:Int}:∀{l:List (List Pt)} {t u:Nat},X7 V n H t l u->t+l.length<=u
 |[],t,u,h=>by have h:t=u:=h;simp[h]
 |ps::r,t,u,h=>by
  have I:=X7.le h.2
  have:=A1S ps
  simp only[List.length_cons]
  omega
theorem A3W.frame{V V':Nat->List Nat}{n t:Nat}{H:Int}{ps:List Pt}(h:A3W V n H t ps)(hv:∀c,t<=c->c<t+L4 ps->V' (2+c%n)=V (2+c%n)):A3W V' n H t ps:=
 ⟨h.tx,h.b,h.cut,λp I=>by
  obtain⟨_,i,hi,e⟩:=A15 I
  rw[hv p.c (by omega) (by unfold L4;omega)]
  exact h.at_ p I⟩
theorem X7.frame{V V':Nat->List Nat}{n:Nat}{H:Int}:∀{l:List (List Pt)} {t u:Nat},X7 V n H t l u->(∀c,t<=c->c<u->V' (2+c%n)=V (2+c%n))->X7 V' n H t l u
 |[],_,_,h,_=>h
 |ps::r,t,u,h,hv=>by
  have I:=X7.le h.2
  exact⟨h.1.frame (λc I J=>hv c I (by omega)),X7.frame h.2 (λc I J=>hv c (by omega) J)⟩
theorem X7.snoc{V:Nat->List Nat}{n:Nat}{H:Int}{ps:List Pt}:∀{l:List (List Pt)} {t u:Nat},X7 V n H t l u->A3W V n H u ps->X7 V n H t (l++[ps]) (u+L4 ps)
 |[],t,u,h,hp=>by
  have h:t=u:=h
  subst h
  exact⟨hp,rfl⟩
 |qs::r,t,u,h,hp=>⟨h.1,X7.snoc h.2 hp⟩
section
variable {s:DS} {N n:Nat} {V:Nat->List Nat} {H:Int}
theorem A8w(J:On s N V)(I:1<=n)(U:n+2<=N)(c:Nat):rdP s n c=V (2+c%n):=J.at_ _ (by have:=Nat.mod_lt c I;omega)
theorem A3W.ok{t:Nat}{ps:List Pt}(h:A3W V n H t ps):∀p∈N9 1 t (J7 ps),p.ok:=A4C h.cut
theorem A7p{e c i:Nat}{l:List Nat}(h:i<J2 l.length):D1 e c l i∈N9 e c l:=List.mem_map.mpr ⟨i,List.mem_range.mpr h,rfl⟩
theorem A3W.scan{t:Nat}{ps:List Pt}(Z:On s N V)(Y:1<=n)(X:n+2<=N)(h:A3W V n H t ps):∀(m i f:Nat),i+m+1=L4 ps->m+1<=f->
 scan s n f (t+i)=some ((List.range (m+1)).map (λj=>D1 1 t (J7 ps) (i+j))):=by
 intro m
 induction m with
 |zero=>
  intro i f hi hf
  obtain⟨f,rfl⟩:∃g,f=g+1:=⟨f-1,by omega⟩
  have U:=A7p (e:=1) (c:=t) (i:=i) (l:=J7 ps) (by unfold L4 at hi;omega)
  have I:=h.ok _ U
  have J:rdP s n (t+i)=D6 (D1 1 t (J7 ps) i):=(A8w Z Y X _).trans (h.at_ _ U)
  have W:P9 s n (t+i):=⟨by rw[J];exact A2s I,by rw[J,T6 I];rfl⟩
  rw[A6Z W (by rw[J,T6 I];show(i==J2 (J7 ps).length-1)=true;unfold L4 at hi;rw[beq_iff_eq];omega),J,T6 I]
  rfl
 |succ m ih=>
  intro i f hi hf
  obtain⟨f,rfl⟩:∃g,f=g+1:=⟨f-1,by omega⟩
  have U:=A7p (e:=1) (c:=t) (i:=i) (l:=J7 ps) (by unfold L4 at hi;omega)
  have I:=h.ok _ U
  have J:rdP s n (t+i)=D6 (D1 1 t (J7 ps) i):=(A8w Z Y X _).trans (h.at_ _ U)
  have W:P9 s n (t+i):=⟨by rw[J];exact A2s I,by rw[J,T6 I];rfl⟩
  rw[A3L W (by rw[J,T6 I];show(i==J2 (J7 ps).length-1)=false;unfold L4 at hi;rw[beq_eq_false_iff_ne];omega),J,T6 I,Nat.add_assoc t i 1,ih (i+1) f (by omega) (by omega)]
  rw[List.range_succ_eq_map (n:=m+1),List.map_cons,List.map_map,Option.map_some]
  congr 2
  apply List.map_congr_left
  intro j _
  show D1 1 t (J7 ps) (i+1+j)=D1 1 t (J7 ps) (i+(j+1))
  rw[show i+1+j=i+(j+1)by omega]
theorem A3W.scanV{t:Nat}{ps:List Pt}(W:On s N V)(U:1<=n)(J:n+2<=N)(h:A3W V n H t ps)(Y:L4 ps<=n):scanV s n t=N9 1 t (J7 ps):=by
 have X:=A1S ps
 have I:=h.scan W U J (L4 ps-1) 0 (n+1) (by omega) (by omega)
 unfold Go.Proofs.YtbefmjiclpobjaaGreat.scanV
 rw[show t+0=t from rfl]at I
 rw[I,show L4 ps-1+1=L4 ps by omega]
 show(List.range (L4 ps)).map (λj=>D1 1 t (J7 ps) (0+j))=_
 unfold N9 L4
 apply List.map_congr_left
 intro j _
 rw[Nat.zero_add]
theorem A3W.rec_{t:Nat}{ps:List Pt}(ho:On s N V)(hn:1<=n)(U:n+2<=N)(hH:H<=4096)(h:A3W V n H t ps)(Z:L4 ps<=n)(A:Nat->Option (List Nat))(fl:Nat)(W:fl<=1):
 A0B s n H ⟨t,fl,A⟩/\A3i s n ⟨t,fl,A⟩=⟨t+L4 ps,1,putA A ps⟩:=by
 have e:=h.scanV ho hn U Z
 have Y:=B32 h.cut
 have J:=B5n h.tx hH h.b
 have X:(hdP (N9 1 t (J7 ps))).e=1:=by
  obtain⟨p,r,I⟩:∃p r,N9 1 t (J7 ps)=p::r:=List.exists_cons_of_length_pos (by rw[N5];exact A00 _)
  rw[I]
  exact(A15 (e:=1) (c:=t) (l:=J7 ps) (p:=p) (by rw[I];simp)).1
 unfold A0B A3i
 simp only
 rw[e,A2N,J.1,X,N5]
 exact⟨⟨(A2P _).mp Y,W,J.2,h.tx⟩,rfl⟩
theorem A6c(W:On s N V)(U:1<=n)(J:n+2<=N)(hH:H<=4096):∀(l:List (List Pt)) (t u f fl:Nat) (A:Nat->Option (List Nat)),X7 V n H t l u->u<=t+n->l.length<f->fl<=1->(∀A fl,fl<=1->¬A0B s n H ⟨u,fl,A⟩)->
 ∃I,A2m s n H f ⟨t,fl,A⟩=⟨u,I,l.foldl putA A⟩
 |[],t,u,f,fl,A,h,_,hf,hfl,hno=>by
  have h:t=u:=h
  subst h
  obtain⟨f,rfl⟩:∃g,f=g+1:=⟨f-1,by simp at hf;omega⟩
  refine⟨fl,?_⟩
  unfold A2m
  rw[if_neg (hno A fl hfl)]
  rfl
 |ps::r,t,u,f,fl,A,h,hu,hf,hfl,hno=>by
  obtain⟨f,rfl⟩:∃g,f=g+1:=⟨f-1,by simp at hf;omega⟩
  have Z:=X7.le h.2
  have h2:=A1S ps
  obtain⟨X,Y⟩:=h.1.rec_ W U J hH (by omega) A fl hfl
  obtain⟨I,e⟩:=A6c W U J hH r (t+L4 ps) u f 1 (putA A ps) h.2 (by omega) (by simp at hf;omega) (Nat.le_refl _) hno
  refine⟨I,?_⟩
  unfold A2m
  rw[if_pos X,Y,e]
  rfl
def A65(V:Nat->List Nat)(n u:Nat):Prop:=∀j,j<n->V (2+j)=nou\/∃p:Pc,p.ok/\V (2+j)=D6 p/\p.c<u
theorem A65.stop{u fl:Nat}{A:Nat->Option (List Nat)}(h:A65 V n u)(Z:On s N V)(hn:2<=n)(X:n+2<=N):¬A0B s n H ⟨u,fl,A⟩:=by
 have Y:∀c,u<=c->P9 s n c->V (2+c%n)=nou/\c=0:=λc aA I=>by
  have U:=A8w Z (by omega) X c
  rcases h (c%n) (Nat.mod_lt c (by omega))with e|⟨p,hp,e,aB⟩
  ·have J:=I.2
   rw[U,e,B2W.1]at J
   exact⟨e,J.symm⟩
  ·have J:=I.2
   rw[U,e,T6 hp]at J
   omega
 have hs:scanV s n u=[]:=by
  unfold scanV
  by_cases I:P9 s n u
  ·obtain⟨e,h0⟩:=Y u (Nat.le_refl _) I
   have U:=A8w Z (by omega) X u
   rw[A3L I (by rw[U,e];exact B2W.2)]
   have W:¬P9 s n (u+1):=λW=>by
    have:=(Y (u+1) (by omega) W).2
    omega
   rw[A8b W]
   rfl
  ·rw[A8b I];rfl
 intro hk
 have:=hk.1.1
 simp only at this
 rw[hs]at this
 simp at this
theorem A65.mono{u I:Nat}(h:A65 V n u)(X:u<=I):A65 V n I:=λj J=>by
 rcases h j J with e|⟨p,U,e,W⟩
 ·exact .inl e
 ·exact .inr ⟨p,U,e,by omega⟩
theorem A65.lay{u:Nat}{l:List Nat}(h:A65 V n u)(J:S4 1 u l.length=0):A65 (A3V V n (N9 1 u l)) n (u+J2 l.length):=λj U=>by
 rcases A4L n (2+j) (N9 1 u l) V with e|⟨p,I,e⟩
 ·rw[e]
  exact h.mono (by omega) j U
 ·obtain⟨_,i,hi,ec⟩:=A15 I
  exact .inr ⟨p,A4C J p I,e,by omega⟩
end
end
section
open Go.RowKit Go.Maps
def A2p(V:Nat->List Nat)(h:Hd):Prop:=∃(J:Hd) (I:Bool),B9e (V 0) (V 1) J I/\h=(if I=true then J else⟨0,0,1⟩)
theorem A2p.headO{s:DS}{N:Nat}{V:Nat->List Nat}{h:Hd}(hv:A2p V h)(I:On s N V)(W:2<=N):Go.Proofs.YtbefmjiclpobjaaGreat.headO s=h:=by
 obtain⟨X,J,U,rfl⟩:=hv
 have e:Q9 s 0 2=two (V 0) (V 1):=by
  rw[C0K]
  show nx (unO (isS s 0) 0) (unO (isS s (0+1)) 1)=_
  rw[I.at_ 0 (by omega),I.at_ (0+1) (by omega)]
  rfl
 unfold Go.Proofs.YtbefmjiclpobjaaGreat.headO
 rw[e,U.1]
 cases J<;>rfl
theorem A2p.frame{V V':Nat->List Nat}{h:Hd}(hv:A2p V h)(I:V' 0=V 0)(J:V' 1=V 1):A2p V' h:=by
 obtain⟨X,U,W,e⟩:=hv
 exact⟨X,U,by rw[I,J];exact W,e⟩
theorem A2p.save{V:Nat->List Nat}{h x:Hd}{e:Nat}(hv:A2p V h)(k:hOk e x)(I:x.g=h.g+1):A2p (V2 V (x.g%2) (A0q e x)) x:=by
 obtain⟨Y,W,J,rfl⟩:=hv
 have X:x.g=Y.g+1:=by
  cases W with
  |true=>exact I
  |false=>rw[J.2 rfl];exact I
 refine⟨x,true,⟨?_,λe=>by cases e⟩,rfl⟩
 have U:=B7o J k X
 rw[if_pos rfl,<-U]
 unfold B2T V2
 by_cases c:x.g%2=0
 ·rw[c];rfl
 ·have c1:x.g%2=1:=by omega
  rw[c1];rfl
def W6(s:DS)(n:Nat)(g:LS)(M:Nat):List (List Nat):=(List.range M).map (D3 s n g)
def B7p(I:List (List Nat))(ps:List Pt):List (List Nat):=ps.foldl (λI p=>I.set p.a.toNat p.d) I
theorem B7q(A:Nat->Option (List Nat))(B:Nat->List Nat)(M k:Nat)(d:List Nat):(List.range M).map (λi=>(P3 A k d i).getD (B i))=((List.range M).map (λi=>(A i).getD (B i))).set k d:=by
 apply List.ext_getElem
 ·simp
 ·intro i I J
  rw[List.getElem_set]
  simp only[List.getElem_map,List.getElem_range]
  unfold P3
  by_cases c:i=k
  ·rw[if_pos c,if_pos c.symm];rfl
  ·rw[if_neg c,if_neg (λe=>c e.symm)]
theorem B0j(B:Nat->List Nat)(M:Nat):∀(ps:List Pt) (A:Nat->Option (List Nat)),(List.range M).map (λi=>(putA A ps i).getD (B i))=B7p ((List.range M).map (λi=>(A i).getD (B i))) ps
 |[],_=>rfl
 |p::ps,A=>by
  show(List.range M).map (λi=>(putA (P3 A p.a.toNat p.d) ps i).getD (B i))=B7p (((List.range M).map (λi=>(A i).getD (B i))).set p.a.toNat p.d) ps
  rw[B0j B M ps,B7q]
def A1a(V:Nat->List Nat)(n:Nat)(T:List (Nat×List Nat)):Nat->List Nat:=T.foldl (λV q=>V2 V (2+n+q.1) q.2) V
theorem On.homes{N n:Nat}:∀{T:List (Nat×List Nat)} {s:DS} {V:Nat->List Nat},On s N V->(∀q∈T,2+n+q.1<N/\q.2.length=128)->(L9 s n T).2=0/\On (L9 s n T).1 N (A1a V n T)
 |[],_,_,h,_=>⟨rfl,h⟩
 |q::T,s,V,h,hq=>by
  obtain⟨I,J⟩:=h.write (i:=2+n+q.1) (b:=q.2) (hq q (by simp)).1 (hq q (by simp)).2
  unfold L9
  rw[if_pos I]
  exact On.homes J (λr U=>hq r (by simp[U]))
theorem Z0{n j:Nat}(I:j<2+n):∀(T:List (Nat×List Nat)) (V:Nat->List Nat),A1a V n T j=V j
 |[],_=>rfl
 |q::T,V=>by
  show A1a (V2 V (2+n+q.1) q.2) n T j=V j
  rw[Z0 I T]
  unfold V2
  rw[if_neg (by omega)]
theorem B0k{n:Nat}(f:Nat->List Nat)(i:Nat):∀(T:List (Nat×List Nat)) (V:Nat->List Nat),(∀q∈T,q.2=f q.1)->A1a V n T (2+n+i)=if(∃q∈T,q.1=i)then f i else V (2+n+i)
 |[],V,_=>by simp[A1a]
 |q::T,V,h=>by
  show A1a (V2 V (2+n+q.1) q.2) n T (2+n+i)=_
  rw[B0k f i T _ (λr I=>h r (by simp[I]))]
  unfold V2
  by_cases c1:∃r∈T,r.1=i
  ·rw[if_pos c1,if_pos (by obtain⟨r,I,e⟩:=c1;exact⟨r,by simp[I],e⟩)]
  ·rw[if_neg c1]
   by_cases c2:q.1=i
   ·rw[if_pos (by omega),if_pos ⟨q,by simp,c2⟩,h q (by simp),c2]
   ·rw[if_neg (by omega),if_neg (λ⟨r,I,e⟩=>by
     rcases List.mem_cons.mp I with rfl|I
     ·exact c2 e
     ·exact c1 ⟨r,I,e⟩)]
theorem B1G{n M i:Nat}(A:Nat->Option (List Nat))(V:Nat->List Nat)(hi:i<M):A1a V n (R7 A M) (2+n+i)=(A i).getD (V (2+n+i)):=by
 rw[B0k (λi=>(A i).getD (List.replicate 128 0)) i (R7 A M) V (λq I=>by
  unfold R7 at I
  obtain⟨k,_,rfl⟩:=List.mem_map.mp I
  rfl)]
 cases h:A i with
 |none=>
  rw[if_neg]
  ·rfl
  ·rintro⟨q,I,e⟩
   unfold R7 L8 at I
   obtain⟨k,U,rfl⟩:=List.mem_map.mp I
   have J:=(List.mem_filter.mp U).2
   have e:k=i:=e
   rw[e,h]at J
   cases J
 |some x=>
  rw[if_pos]
  ·simp
  ·refine⟨(i,(A i).getD (List.replicate 128 0)),?_,rfl⟩
   unfold R7 L8
   exact List.mem_map.mpr ⟨i,List.mem_filter.mpr ⟨List.mem_range.mpr hi,by rw[h];rfl⟩,rfl⟩
theorem On.bring{s:DS}{N n M:Nat}{V:Nat->List Nat}{A:Nat->Option (List Nat)}(h:On s N V)(hM:2+n+M<=N)(hA:AOk M A):(N4 s n M A).2=0/\On (N4 s n M A).1 N (A1a V n (R7 A M)):=by
 obtain⟨U,W⟩:=h.flush
 obtain⟨h3,X⟩:=W.homes (n:=n) (T:=R7 A M) (λq J=>by
  unfold R7 at J
  obtain⟨k,I,rfl⟩:=List.mem_map.mp J
  unfold L8 at I
  have aA:=List.mem_filter.mp I
  have aB:=List.mem_range.mp aA.1
  refine⟨by show 2+n+k<N;omega,?_⟩
  show((A k).getD (List.replicate 128 0)).length=128
  cases e:A k with
  |none=>simp
  |some x=>exact(hA k x e).2.1)
 obtain⟨Y,Z⟩:=X.flush
 unfold N4
 rw[if_pos U,if_pos h3]
 exact⟨Y,Z⟩
theorem On.save{s:DS}{N e:Nat}{V:Nat->List Nat}{x:Hd}(h:On s N V)(W:2<=N)(k:hOk e x):(U1 s N e x).2=0/\On (U1 s N e x).1 N (V2 V (x.g%2) (A0q e x)):=by
 have Y:x.g%2<2:=Nat.mod_lt _ (by decide)
 obtain⟨I,J⟩:=h.write (i:=x.g%2) (b:=A0q e x) (by omega) (A8F k)
 obtain⟨h3,U⟩:=J.flush
 have X:=k.1.2
 unfold U1 A1z
 rw[if_neg (by omega),if_pos ⟨⟨by decide,by omega⟩,k⟩,show(0:Int)+((x.g%2:Nat):Int)=((x.g%2:Nat):Int)by omega,if_pos I]
 exact⟨h3,U⟩
structure Ar (s:DS) (n N:Nat) (V:Nat->List Nat) (g:LS) (txs:List (List Pt)):Prop where
 on:On s N V
 err:g.err=0
 ep:g.ep=1
 fl:g.h.f=1
 ch:X7 V n ((N-2-n:Nat):Int) g.h.t txs g.next
 fr:g.next<=g.h.t+n
 A:g.A=txs.foldl putA (λ_=>none)
 ok:AOk (N-2-n) g.A
 old:A65 V n g.next
 hd:A2p V g.h
 ends:∀j,j<2+n->A26 (V j)<=1/\A27 (V j)<=1
 sb:∀i,i<N->∀x∈V i,x<256
section
variable {s:DS} {n N:Nat} {V:Nat->List Nat} {g:LS} {txs:List (List Pt)}
theorem Ar.home(h:Ar s n N V g txs){i:Nat}(hi:i<N-2-n):D3 s n g i=(g.A i).getD (V (2+n+i)):=by
 unfold D3
 rw[h.on.at_ _ (by omega)]
theorem Ar.homes(h:Ar s n N V g txs):W6 s n g (N-2-n)=(List.range (N-2-n)).map (λi=>(g.A i).getD (V (2+n+i))):=by
 unfold W6
 apply List.map_congr_left
 intro i hi
 exact h.home (List.mem_range.mp hi)
theorem Ar.le(h:Ar s n N V g txs):g.h.t+txs.length<=g.next:=h.ch.le
theorem B0l{ps:List Pt}{H:Int}(k:V3 ps H):L4 ps<=30:=A8N (by decide) (by have:=A2w k;omega)
theorem Ar.write(h:Ar s n N V g txs)(hn:2<=n/\n+3<=N/\N<=4096){ps:List Pt}(J:V3 ps ((N-2-n:Nat):Int))(Y:∀p∈ps,∀x∈p.d,x<256)(Z:L4 ps<=A4d n g)(hs:g.next<=1000000):
 (J0 s n N g ps).2=0/\Ar (J0 s n N g ps).1.1 n N (A3V V n (N9 1 g.next (J7 ps))) (J0 s n N g ps).1.2 (txs++[ps])/\(J0 s n N g ps).1.2=g.putAll ps (L4 ps)/\
 W6 (J0 s n N g ps).1.1 n (J0 s n N g ps).1.2 (N-2-n)=B7p (W6 s n g (N-2-n)) ps:=by
 have aA:=B0l J
 have aC:=h.le
 have hcut:S4 1 g.next (J7 ps).length=0:=A1D.mpr ⟨by decide,by omega,by unfold L4 at aA;omega,by have:=A2w J;omega⟩
 have W:g.next+L4 ps<=g.h.t+n:=by unfold A4d at Z;have:=h.fr;have:=A1S ps;omega
 have U:=A4C hcut
 obtain⟨l1,l2⟩:=h.on.layP (n:=n) (P:=N9 1 g.next (J7 ps)) (by omega) (by omega) (λp I=>(U p I).2.2)
 have e:J0 s n N g ps=(((M7 s n (N9 1 g.next (J7 ps))).1,g.putAll ps (L4 ps)),0):=by
  unfold J0
  rw[if_pos h.err,if_pos J,h.ep,if_pos ⟨hcut,Z⟩,if_pos l1]
 have aB:∀j,2+n<=j->A3V V n (N9 1 g.next (J7 ps)) j=V j:=λj hj=>A0e n _ _ (λp _=>by
  have:=Nat.mod_lt p.c (show 0<n by omega);omega)
 have X:Ar (M7 s n (N9 1 g.next (J7 ps))).1 n N (A3V V n (N9 1 g.next (J7 ps))) (g.putAll ps (L4 ps)) (txs++[ps]):=by
  refine⟨l2,h.err,h.ep,h.fl,?_,?_,?_,?_,?_,?_,?_,?_⟩
  ·refine(h.ch.frame (λc h1 h2=>A0e n _ _ (λp I=>?_))).snoc ⟨J,Y,hcut,λp I=>B2V n _ _ (B4A (by unfold L4 at W;omega)) I⟩
   obtain⟨_,i,hi,ec⟩:=A15 I
   have:=A7o (n:=n) (a:=c) (b:=p.c) (by omega) (by unfold L4 at W;omega)
   omega
  ·exact W
  ·show putA g.A ps=_
   rw[List.foldl_append,<-h.A];rfl
  ·exact h.ok.putA (λp I=>J.row p I) Y (by omega)
  ·exact h.old.lay hcut
  ·exact h.hd.frame (A0e n _ _ (λp _=>by omega)) (A0e n _ _ (λp _=>by omega))
  ·intro j hj
   rcases A4L n j (N9 1 g.next (J7 ps)) V with e|⟨p,I,e⟩
   ·rw[e];exact h.ends j hj
   ·rw[e,(A3p (U p I)).1,(A3p (U p I)).2,(A15 I).1]
    exact⟨Nat.le_refl _,Nat.le_refl _⟩
  ·intro i hi
   rcases A4L n i (N9 1 g.next (J7 ps)) V with e|⟨p,I,e⟩
   ·rw[e];exact h.sb i hi
   ·rw[e];exact A4R (U p I).2.2 (A5u (B2d ps) p I)
 rw[e]
 refine⟨rfl,X,rfl,?_⟩
 rw[X.homes,h.homes,<-B0j]
 apply List.map_congr_left
 intro i _
 rw[aB _ (by omega)]
 rfl
theorem Ar.check(h:Ar s n N V g txs)(hn:2<=n/\n+3<=N/\N<=4096)(hs:g.next<=1000000)(hg:g.h.g<=1000000):
 (D8 s n N g).2=0/\(∃V',Ar (D8 s n N g).1.1 n N V' (D8 s n N g).1.2 [])/\(D8 s n N g).1.2={ g with h:=V8 g,A:=λ_=>none }/\
 W6 (D8 s n N g).1.1 n (D8 s n N g).1.2 (N-2-n)=W6 s n g (N-2-n):=by
 obtain⟨Y,Z⟩:=h.on.bring (n:=n) (M:=N-2-n) (by omega) h.ok
 have J:hOk g.ep (V8 g):=by
  refine⟨⟨by rw[h.ep];decide,?_⟩,?_,?_⟩
  ·show g.h.g+1<=_;omega
  ·show g.next<_;omega
  ·show g.ep<_;rw[h.ep];decide
 obtain⟨c1,c2⟩:=Z.save (by omega) J
 have e:D8 s n N g=(((U1 (N4 s n (N-2-n) g.A).1 N g.ep (V8 g)).1,{ g with h:=V8 g,A:=λ_=>none }),0):=by
  unfold D8
  rw[if_pos h.err,if_pos Y,if_pos c1]
 have hm:(V8 g).g%2<2:=Nat.mod_lt _ (by decide)
 have X:∀j,2<=j->j<2+n->V2 (A1a V n (R7 g.A (N-2-n))) ((V8 g).g%2) (A0q g.ep (V8 g)) j=V j:=λj h1 h2=>by
  unfold V2
  rw[if_neg (by omega),Z0 h2]
 have W:∀i,i<N-2-n->V2 (A1a V n (R7 g.A (N-2-n))) ((V8 g).g%2) (A0q g.ep (V8 g)) (2+n+i)=(g.A i).getD (V (2+n+i)):=λi hi=>by
  unfold V2
  rw[if_neg (by omega),B1G _ _ hi]
 have aA:A26 (A0q g.ep (V8 g))<=1/\A27 (A0q g.ep (V8 g))<=1:=by
  unfold A0q
  rw[(A3p (A3x J)).1,(A3p (A3x J)).2]
  show g.ep<=1/\g.ep<=1
  rw[h.ep]
  exact⟨Nat.le_refl _,Nat.le_refl _⟩
 have U:Ar (U1 (N4 s n (N-2-n) g.A).1 N g.ep (V8 g)).1 n N (V2 (A1a V n (R7 g.A (N-2-n))) ((V8 g).g%2) (A0q g.ep (V8 g))) { g with h:=V8 g,A:=λ_=>none } []:=by
  refine⟨c2,h.err,h.ep,h.ep,rfl,Nat.le_add_right _ _,rfl,AOk.none _,?_,?_,?_,?_⟩
  ·intro j I
   rw[X _ (by omega) (by omega)]
   exact h.old j I
  ·exact(h.hd.frame (V':=A1a V n (R7 g.A (N-2-n))) (Z0 (by omega) _ _) (Z0 (by omega) _ _)).save J rfl
  ·intro j I
   by_cases c:j<2
   ·unfold V2
    by_cases c2:j=(V8 g).g%2
    ·rw[if_pos c2];exact aA
    ·rw[if_neg c2,Z0 (by omega)];exact h.ends j I
   ·rw[X j (by omega) I];exact h.ends j I
  ·intro i hi
   by_cases c:i<2+n
   ·unfold V2
    by_cases c2:i=(V8 g).g%2
    ·rw[if_pos c2];exact B7C J
    ·rw[if_neg c2,Z0 c];exact h.sb i hi
   ·obtain⟨k,rfl⟩:∃k,i=2+n+k:=⟨i-(2+n),by omega⟩
    rw[W k (by omega)]
    cases hA:g.A k with
    |none=>exact h.sb _ hi
    |some x=>exact(h.ok k x hA).2.2
 rw[e]
 refine⟨rfl,⟨_,U⟩,rfl,?_⟩
 rw[U.homes,h.homes]
 apply List.map_congr_left
 intro i hi
 exact W i (List.mem_range.mp hi)
theorem Ar.sync(h:Ar s n N V g txs):(N8 s g).2=0/\Ar (N8 s g).1.1 n N V (N8 s g).1.2 txs/\W6 (N8 s g).1.1 n (N8 s g).1.2 (N-2-n)=W6 s n g (N-2-n):=by
 obtain⟨J,U⟩:=h.on.flush
 have e:N8 s g=(((D4 s).1,{ g with err:=0 }),0):=by
  unfold N8
  rw[if_pos h.err,J]
 have I:Ar (D4 s).1 n N V { g with err:=0 } txs:=⟨U,rfl,h.ep,h.fl,h.ch,h.fr,h.A,h.ok,h.old,h.hd,h.ends,h.sb⟩
 rw[e]
 exact⟨rfl,I,by rw[I.homes,h.homes]⟩
theorem Ar.top(h:Ar s n N V g txs)(J:2<=n/\n+3<=N/\N<=4096):A0A s (2+n)<=1:=A8v _ (λj I=>by
 rw[h.on.at_ j (by omega)]
 exact h.ends j I)
theorem Ar.says(h:Ar s n N V g txs)(X:2<=n/\n+3<=N/\N<=4096):(H7 s n N).A=g.A/\(H7 s n N).next=g.next/\(H7 s n N).h=g.h/\(H7 s n N).err=0/\(H7 s n N).ep=A0A s (2+n)+1:=by
 have I:=h.hd.headO h.on (by omega)
 have W:=h.le
 obtain⟨U,e⟩:=A6c h.on (by omega) (by omega) (H:=((N-2-n:Nat):Int)) (by omega) txs g.h.t g.next (n+1) 1 (λ_=>none) h.ch h.fr (by have:=h.fr;omega) (Nat.le_refl _) (λA fl _=>h.old.stop h.on (by omega) (by omega))
 have J:r0G (A4r s n)=⟨g.h.t,1,λ_=>none⟩:=by
  unfold r0G A4r
  rw[I]
  show(⟨g.h.t,g.h.f,λ_=>none⟩:Rp)=_
  rw[h.fl]
 unfold H7 LS.at_
 rw[J,e]
 exact⟨h.A.symm,rfl,I,rfl,rfl⟩
theorem Ar.sb_(h:Ar s n N V g txs):SB s N:=λi hi x I=>by
 rw[h.on.at_ i hi]at I
 exact h.sb i hi x I
end
theorem B2Z{N i:Nat}(h:i<N):isS (newS N) i=nou:=by
 unfold isS newS R8 nou
 simp[List.getD_eq_getElem?_getD,h]
theorem Ar.new{n N:Nat}(hn:2<=n/\n+3<=N/\N<=4096):Ar (newS N) n N (λ_=>nou) (H7 (newS N) n N) []/\(H7 (newS N) n N).next=0/\(H7 (newS N) n N).h.g=0:=by
 have on:On (newS N) N (λ_=>nou):=⟨rfl,by simp[newS],λj I=>B2Z I⟩
 have hd:A2p (λ_=>nou) ⟨0,0,1⟩:=⟨hZ,false,⟨by unfold two;rw[B2X,B2X];rfl,λ_=>rfl⟩,rfl⟩
 have aA:∀u,A65 (λ_=>nou) n u:=λu j I=>.inl rfl
 have Z:∀j,j<2+n->A26 nou<=0/\A27 nou<=0:=λj _=>by rw[B2Y.1,B2Y.2];exact⟨Nat.le_refl _,Nat.le_refl _⟩
 have sb:∀i,i<N->∀x∈nou,x<256:=λi _ x hx=>by rw[List.eq_of_mem_replicate hx];decide
 have h0:Ar (newS N) n N (λ_=>nou) ⟨⟨0,0,1⟩,0,1,λ_=>none,0⟩ []:=
  ⟨on,rfl,rfl,rfl,rfl,Nat.zero_le _,rfl,AOk.none _,aA 0,hd,λj I=>by have:=Z j I;omega,sb⟩
 have ht:A0A (newS N) (2+n)<=0:=A8v _ (λj I=>by
  rw[B2Z (by omega)]
  exact Z j I)
 obtain⟨J,U,W,X,s5⟩:=h0.says hn
 have e:H7 (newS N) n N=⟨⟨0,0,1⟩,0,1,λ_=>none,0⟩:=by
  have Y:(H7 (newS N) n N).ep=1:=by rw[s5];omega
  generalize H7 (newS N) n N=x at J U W X Y
  obtain⟨x1,x2,x3,x4,x5⟩:=x
  simp only at J U W X Y
  subst J U W X Y
  rfl
 rw[e]
 exact⟨h0,rfl,rfl⟩
end
section
open Go.RowKit Go.Maps
theorem A7q(f:Nat->List Nat)(i:Nat):∀(I:List Nat) (A:Nat->Option (List Nat)),putA A (I.map (λ(k:Nat)=>(⟨(k:Int),f k⟩:Pt))) i=if i∈I then some (f i)else A i
 |[],A=>rfl
 |k::I,A=>by
  show putA (P3 A ((k:Int)).toNat (f k)) (I.map _) i=_
  rw[A7q f i I,Int.toNat_natCast]
  by_cases h:i∈I
  ·rw[if_pos h,if_pos (List.mem_cons_of_mem _ h)]
  ·rw[if_neg h]
   unfold P3
   by_cases e:i=k
   ·rw[if_pos e,if_pos (List.mem_cons.2 (.inl e)),e]
   ·rw[if_neg e,if_neg (λx=>by rcases List.mem_cons.1 x with y|y;exact e y;exact h y)]
theorem A0D{T:Nat->Option (List Nat)}{M i:Nat}:i∈L8 T M↔i<M/\(T i).isSome=true:=by
 unfold L8
 rw[List.mem_filter,List.mem_range]
theorem A4s(T:Nat->Option (List Nat))(M:Nat):(L8 T M).Nodup:=by
 unfold L8
 exact List.Nodup.sublist List.filter_sublist List.nodup_range
theorem B0m:∀{l K:List Nat},l.Nodup->(∀x∈l,x∈K)->l.length<=K.length
 |[],_,_,_=>Nat.zero_le _
 |a::l,K,h,hs=>by
  obtain⟨J,U,rfl⟩:=List.append_of_mem (hs a List.mem_cons_self)
  obtain⟨W,X⟩:=List.nodup_cons.1 h
  have:=B0m (K:=J++U) X (λx I=>by
   have:=hs x (List.mem_cons_of_mem _ I)
   rw[List.mem_append,List.mem_cons]at this
   rw[List.mem_append]
   rcases this with y|y|y
   ·exact .inl y
   ·rw[y]at I;exact absurd I W
   ·exact .inr y)
  rw[List.length_append]at this
  rw[List.length_cons,List.length_append,List.length_cons]
  omega
theorem A0E{H H0:Nat->List Nat}{i:Nat}:(E8 H H0 i).isSome=true↔H i≠H0 i:=by
 unfold E8
 split
 ·rename_i h;simp[h]
 ·rename_i h;simp[h]
theorem B1H{H H0:Nat->List Nat}{M:Nat}{K:List Nat}(h:Dif H0 H K):(L8 (E8 H H0) M).length<=K.length:=
 B0m (A4s _ _) λx I=>h x (A0E.1 (A0D.1 I).2)
theorem A8x{H H0:Nat->List Nat}{M:Nat}{p:Pt}(h:p∈D5 (E8 H H0) M):∃i,i<M/\p.a=(i:Int)/\p.d=H i:=by
 unfold D5 at h
 obtain⟨i,hi,rfl⟩:=List.mem_map.1 h
 obtain⟨I,J⟩:=A0D.1 hi
 refine⟨i,I,rfl,?_⟩
 show(E8 H H0 i).getD _=H i
 unfold E8
 rw[if_neg (A0E.1 J)]
 rfl
theorem B9f{H H0:Nat->List Nat}{M:Nat}(U:∀i,i<M->(H i).length=128/\∀x∈H i,x<256)(Y:1<=(D5 (E8 H H0) M).length)(h2:(D5 (E8 H H0) M).length<=14):V3 (D5 (E8 H H0) M) (M:Int)/\L4 (D5 (E8 H H0) M)<=20:=by
 have Z:∀p∈D5 (E8 H H0) M,p.d.length=128:=λp hp=>by
  obtain⟨i,hi,_,e⟩:=A8x hp
  rw[e];exact(U i hi).1
 refine⟨⟨⟨Y,by omega⟩,λi hi=>?_⟩,?_⟩
 ·obtain⟨k,hk,W,X⟩:=A8x (List.getElem_mem hi)
  refine⟨by rw[W];omega,by rw[X];exact(U k hk).1,λj hj=>?_⟩
  have hn:=A4s (E8 H H0) M
  have aA:=R4 (E8 H H0) M
  have I:∀q (J:q<(D5 (E8 H H0) M).length),(D5 (E8 H H0) M)[q].a=((L8 (E8 H H0) M)[q]'(by rw[<-aA];exact J):Int):=λq J=>by
   simp only[D5,List.getElem_map]
  rw[I j (by omega),I i hi]
  intro e
  have:=(List.nodup_iff_pairwise_ne.1 hn)
  have h3:=(List.pairwise_iff_getElem.1 this) j i (by omega) (by omega) hj
  exact h3 (by omega)
 ·unfold L4
  rw[A4a Z]
  unfold J2 qn
  omega
structure Lv (E:Ev) (k:Nat):Prop where
 hn:20<=E.n/\E.N=E.M+2+E.n/\E.N<=4096/\46<=E.M/\E.M<=1024
 ar:∃V txs,Ar E.s E.n E.N V E.g txs
 nx:E.g.next<=30 * k
 gn:E.g.h.g<=k
 O:E.O=λ_=>none
 Q:E.s.Q=[]
theorem B3a{s:DS}(h:(D4 s).2=0):(D4 s).1.Q=[]:=by
 unfold D4 at h⊢
 split at h
 ·rename_i I;rw[if_pos I]
 ·exact absurd (show(7:Int)=0 from h) (by decide)
theorem C0L{s:DS}{N e:Nat}{x:Hd}(h:(U1 s N e x).2=0):(U1 s N e x).1.Q=[]:=by
 unfold U1 at h⊢
 split at h
 ·exact absurd (show(8:Int)=0 from h) (by decide)
 ·rename_i I
  rw[if_neg I]
  unfold A1z at h⊢
  split at h
  ·rename_i J
   rw[if_pos J]
   split at h
   ·rename_i h3
    rw[if_pos h3]
    exact B3a h
   ·rename_i h3;exact absurd h h3
  ·exact absurd (show(2:Int)=0 from h) (by decide)
theorem B9g{s:DS}{n N:Nat}{g:LS}(U:g.err=0)(h:(D8 s n N g).2=0):(D8 s n N g).1.1.Q=[]:=by
 unfold D8 at h⊢
 rw[if_pos U]at h⊢
 split at h
 ·rename_i J
  rw[if_pos J]
  split at h
  ·rename_i I
   rw[if_pos I]
   exact C0L I
  ·rename_i I;exact absurd h I
 ·rename_i J;exact absurd h J
section
variable {E:Ev} {k:Nat}
theorem Lv.err(h:Lv E k):E.g.err=0:=by obtain⟨_,_,a⟩:=h.ar;exact a.err
theorem Lv.nn(h:Lv E k):2<=E.n/\E.n+3<=E.N/\E.N<=4096:=by have:=h.hn;omega
theorem Lv.home(h:Lv E k):E.H=D3 E.s E.n E.g:=by
 funext i
 unfold Ev.H vwH Ev.L
 rw[h.O]
 rfl
theorem Ar.gokF{s:DS}{g:LS}{n N:Nat}{V:Nat->List Nat}{txs:List (List Pt)}(h:Ar s n N V g txs)(I:2<=n/\n+3<=N/\N<=4096)(J:s.Q=[])(U:g.next<=1000000):GOk n N s g:=
 ⟨I,by rw[J];exact Nat.zero_le _,by have:=h.le;omega,by have:=h.fr;omega,by omega,by rw[h.ep];decide⟩
theorem Lv.wok(h:Lv E k)(W:k<=127):WOk E.n E.N E.s E.g:=by
 obtain⟨V,txs,a⟩:=h.ar
 have J:=h.nx
 have U:=h.gn
 obtain⟨c1,⟨V',c2⟩,c3,_⟩:=a.check h.nn (by omega) (by omega)
 exact⟨a.gokF h.nn h.Q (by omega),by rw[h.Q];exact Nat.zero_le _,by omega,a.ok,λI=>c2.gokF h.nn (B9g a.err I) (by rw[c3];show E.g.next<=_;omega)⟩
theorem A7r{s:DS}{n:Nat}{g:LS}{M i:Nat}(hi:i<M):(W6 s n g M)[i]? =some (D3 s n g i):=by
 unfold W6
 rw[List.getElem?_map,List.getElem?_range hi]
 rfl
theorem A7s{s U:DS}{n:Nat}{g I:LS}{M i:Nat}(h:W6 s n g M=W6 U n I M)(hi:i<M):D3 s n g i=D3 U n I i:=by
 have J:=A7r (s:=s) (n:=n) (g:=g) hi
 rw[h,A7r hi]at J
 exact(Option.some.inj J).symm
structure Wr0 (n N M x y:Nat) (H:Nat->List Nat) (r:(DS×LS)×Int):Prop where
 e:r.2=0
 ar:∃V txs,Ar r.1.1 n N V r.1.2 txs
 nx:r.1.2.next<=x+30
 gn:r.1.2.h.g<=y
 hm:∀i,i<M->D3 r.1.1 n r.1.2 i=H i
theorem A7t{s:DS}{g:LS}{n N M:Nat}{V:Nat->List Nat}{txs:List (List Pt)}{H H0:Nat->List Nat}(U:Ar s n N V g txs)(hM:N=M+2+n/\20<=n/\N<=4096/\46<=M/\M<=1024)(hx:g.next<=1000000)
 (Z:∀i,i<M->(H i).length=128/\∀y∈H i,y<256) (hH:∀i,i<M->D3 s n g i=H0 i) (h1:1<=(D5 (E8 H H0) M).length) (aC:(D5 (E8 H H0) M).length<=14):
 Wr0 n N M g.next g.h.g H (J0 s n N g (D5 (E8 H H0) M))\/((J0 s n N g (D5 (E8 H H0) M)).2=8/\g.h.t≠g.next):=by
 have hn:2<=n/\n+3<=N/\N<=4096:=by omega
 have aD:N-2-n=M:=by omega
 obtain⟨aB,aF⟩:=B9f Z h1 aC
 have aA:V3 (D5 (E8 H H0) M) ((N-2-n:Nat):Int):=by rw[aD];exact aB
 have hb:∀p∈D5 (E8 H H0) M,∀y∈p.d,y<256:=λp hp=>by
  obtain⟨i,hi,_,e⟩:=A8x hp
  rw[e];exact(Z i hi).2
 by_cases W:L4 (D5 (E8 H H0) M)<=A4d n g
 ·left
  obtain⟨a1,X,J,_⟩:=U.write hn aA hb W hx
  have aE:=B0l aB
  refine⟨a1,⟨_,_,X⟩,by rw[J];show g.next+L4 _<=_;omega,by rw[J];exact Nat.le_refl _,λi hi=>?_⟩
  have Y:=hH i hi
  rw[U.home (by omega)]at Y
  rw[X.home (by omega),J,A0e n _ _ (λp _=>by have:=Nat.mod_lt p.c (show 0<n by omega);omega)]
  show(putA g.A (D5 (E8 H H0) M) i).getD _=_
  unfold D5
  rw[A7q (λi=>(E8 H H0 i).getD (List.replicate 128 0)) i]
  by_cases I:i∈L8 (E8 H H0) M
  ·rw[if_pos I]
   have h3:=A0E.1 (A0D.1 I).2
   show(E8 H H0 i).getD _=_
   unfold E8
   rw[if_neg h3]
   rfl
  ·rw[if_neg I,Y]
   by_cases e:H i=H0 i
   ·exact e.symm
   ·exact absurd (A0D.2 ⟨hi,A0E.2 e⟩) I
 ·right
  refine⟨?_,λe=>W ?_⟩
  ·unfold J0
   rw[if_pos U.err,if_pos aA,if_neg (λx=>W x.2)]
  ·unfold A4d
   omega
theorem Lv.wrt(h:Lv E k)(hk:k<=127){H:Nat->List Nat}(W:∀i,i<E.M->(H i).length=128/\∀y∈H i,y<256)(U:(D5 (E8 H E.H) E.M).length<=14):Wr0 E.n E.N E.M (30 * k) (k+1) H (V5 E.s E.n E.N E.g (D5 (E8 H E.H) E.M)):=by
 obtain⟨X,Y,n5,Z,n4⟩:=h.hn
 have hH:∀i,i<E.M->D3 E.s E.n E.g i=E.H i:=λi _=>by rw[h.home]
 have aC:=h.nx
 have aB:=h.gn
 obtain⟨V,txs,a⟩:=h.ar
 unfold V5
 by_cases I:(D5 (E8 H E.H) E.M).length=0
 ·rw[if_pos I]
  refine⟨rfl,⟨V,txs,a⟩,Nat.le_trans aC (Nat.le_add_right _ _),Nat.le_trans aB (Nat.le_add_right _ _),λi hi=>?_⟩
  show D3 E.s E.n E.g i=H i
  rw[hH i hi]
  by_cases e:H i=E.H i
  ·exact e.symm
  ·exfalso
   have:=A0D.2 ⟨hi,A0E.2 e⟩
   rw[R4]at I
   rw[List.eq_nil_of_length_eq_zero I]at this
   simp at this
 ·rw[if_neg I]
  rcases A7t a ⟨Y,X,n5,Z,n4⟩ (by omega) W hH (by omega) U with c|⟨a1,_⟩
  ·rw[if_neg (by rw[c.e];decide)]
   exact⟨c.e,c.ar,Nat.le_trans c.nx (by omega),Nat.le_trans c.gn (by omega),c.hm⟩
  ·rw[if_pos a1]
   obtain⟨b1,⟨V',b2⟩,b3,b4⟩:=a.check h.nn (by omega) (by omega)
   rw[if_pos b1]
   have aA:∀i,i<E.M->D3 (D8 E.s E.n E.N E.g).1.1 E.n (D8 E.s E.n E.N E.g).1.2 i=E.H i:=λi hi=>by
    rw[<-hH i hi]
    exact A7s b4 hi
   have J:(D8 E.s E.n E.N E.g).1.2.next=E.g.next/\(D8 E.s E.n E.N E.g).1.2.h.g=E.g.h.g+1/\(D8 E.s E.n E.N E.g).1.2.h.t=E.g.next:=by rw[b3];exact⟨rfl,rfl,rfl⟩
   rcases A7t b2 ⟨Y,X,n5,Z,n4⟩ (by omega) W aA (by omega) U with c|⟨_,c⟩
   ·exact⟨c.e,c.ar,Nat.le_trans c.nx (by omega),Nat.le_trans c.gn (by omega),c.hm⟩
   ·exact absurd (J.2.2.trans J.1.symm) c
theorem Lv.change(h:Lv E k)(hk:k<=127)(_:E.s.fuse=none){s:CS}{A:As}(X:ChD E.H E.M s A):
 LOk E s/\(T1 E s).2=0/\(T1 E s).1.1.fuse=none/\∀F',Lv (E.at_ F' (T1 E s).1.1 (T1 E s).1.2 E.O) (k+3)/\∀i,i<E.M->(E.at_ F' (T1 E s).1.1 (T1 E s).1.2 E.O).H i=s.H i:=by
 obtain⟨K,hK,aB⟩:=X.df
 have aA:(D5 (E8 s.H E.H) E.M).length<=14:=by rw[R4];exact Nat.le_trans (B1H aB) hK
 have Y:=h.wrt hk X.rp.sw.sd.row aA
 obtain⟨R,I⟩:∃R,R=V5 E.s E.n E.N E.g (D5 (E8 s.H E.H) E.M):=⟨_,rfl⟩
 have aC:T1 E s=N8 R.1.1 R.1.2:=by
  unfold T1 B11
  rw[if_pos X.e,<-I,if_pos (by rw[I];exact Y.e)]
 rw[<-I]at Y
 obtain⟨h0,⟨V,txs,J⟩,nx,gn,hm⟩:=Y
 obtain⟨U,Z,b3⟩:=J.sync
 have W:N8 R.1.1 R.1.2=(((D4 R.1.1).1,{ R.1.2 with err:=(D4 R.1.1).2 }),(D4 R.1.1).2):=by unfold N8;rw[if_pos J.err]
 have hq:(N8 R.1.1 R.1.2).1.1.Q=[]:=by rw[W]at U⊢;exact B3a U
 rw[aC]
 refine⟨λ_=>⟨h.wok hk,?_⟩,U,Z.on.fz,λF'=>⟨⟨h.hn,⟨_,_,Z⟩,?_,?_,h.O,hq⟩,λi hi=>?_⟩⟩
 ·rw[<-I];exact J.ok
 ·show(N8 R.1.1 R.1.2).1.2.next<=_
  rw[W]
  show R.1.2.next<=_
  omega
 ·show(N8 R.1.1 R.1.2).1.2.h.g<=_
  rw[W]
  show R.1.2.h.g<=_
  omega
 ·show vwH E.O (D3 (N8 R.1.1 R.1.2).1.1 E.n (N8 R.1.1 R.1.2).1.2) i=s.H i
  unfold vwH
  rw[h.O]
  show D3 (N8 R.1.1 R.1.2).1.1 E.n (N8 R.1.1 R.1.2).1.2 i=s.H i
  rw[<-hm i hi]
  exact A7s b3 hi
theorem OtR.none{r:(DS×LS)×Int}{U:Nat->Option (List Nat)}(h:OtR E r U)(Y:r.2=0\/(r.1.2.err=0/\r.2≠7)):U=E.O:=by
 rcases h with x|⟨T,B,W,I,_⟩
 ·exact x
 ·exfalso
  rcases Y with y|⟨y,z⟩
  ·exact I y
  ·rw[W]at I y z
   unfold N8 at I y z
   split at I
   ·rename_i J
    rw[if_pos J]at z
    have X:(D4 (V5 E.s E.n E.N E.g (D5 T E.M)).1.1).2=0\/(D4 (V5 E.s E.n E.N E.g (D5 T E.M)).1.1).2=7:=by
     unfold D4
     split
     ·exact .inl rfl
     ·exact .inr rfl
    rcases X with e|e
    ·exact I e
    ·exact z e
   ·rename_i J
    rw[if_neg J]at y
    exact J y
end
end
section
open Go.RowKit Go.Maps
theorem Ow.sameH{H H':Nat->List Nat}{M:Nat}{P:Nat->Nat->Int}{R:Nat->Nat->List Nat}(h:Ow H M P R)(W:46<=M)(I:∀k,k<M->H' k=H k):Ow H' M P R:=by
 have J:C8 H' M=C8 H M:=by unfold C8;rw[I 1 (by omega)]
 refine⟨h.pt,h.nz,λi j hi U=>?_,h.inj,by rw[J];exact h.bit,by rw[J];exact h.cnt⟩
 have:=h.pt i j hi
 rw[I _ (by omega)]
 exact h.at_ i j hi U
theorem Rq.sameH{H H':Nat->List Nat}{M:Nat}{A:As}(h:Rq H M A)(J:∀k,k<M->H' k=H k):Rq H' M A:=by
 have W:=h.sw.sd.hM
 have hi:∀i,1<=i->i<=40->C9 H' i=C9 H i:=λi I U=>by unfold C9;rw[J (1+i) (by omega)]
 have Y:C8 H' M=C8 H M:=by unfold C8;rw[J 1 (by omega)]
 refine⟨⟨⟨W,λi I=>by rw[J i I];exact h.sw.sd.row i I,by rw[J 1 (by omega)];exact h.sw.sd.map,λi I U=>by rw[J (1+i) (by omega)];exact h.sw.sd.ino i I U⟩,by rw[Y];exact h.sw.low⟩,λi I U=>by rw[hi i I U];exact h.f i I U,?_,h.ok,by rw[J 0 (by omega)];exact h.rc⟩
 exact(h.ow.sameH W.1 J).congr (λi j X=>by show(C9 H' i).a j=_;rw[hi i X.1 X.2.1]) (λ_ _ _=>rfl)
structure Sto (w:World) (E:Ev) (k:Nat) (A:As):Prop where
 so:So w E
 lv:Lv E k
 on:E.s.fuse=none
 rq:Rq E.H E.M A
 tr:Tr A
structure B3b (E E':Ev):Prop where
 o:E'.o=E.o
 M:E'.M=E.M
 d:E'.d=E.d
 n:E'.n=E.n
 N:E'.N=E.N
theorem B3b.refl(E:Ev):B3b E E:=⟨rfl,rfl,rfl,rfl,rfl⟩
section
variable {w w':World} {E:Ev} {k:Nat} {A A':As}
theorem Sto.ok(h:Sto w E k A):OkA A:=⟨h.rq.ok,h.tr⟩
theorem Lv.mono(h:Lv E k):Lv E (k+3):=⟨h.hn,h.ar,by have:=h.nx;omega,by have:=h.gn;omega,h.O,h.Q⟩
theorem Lv.put(h:Lv E k)(F':Nat->Prop):Lv (E.at_ F' E.s E.g E.O) (k+3):=⟨h.hn,h.ar,h.mono.nx,h.mono.gn,h.O,h.Q⟩
theorem Sto.later(h:Sto w E k A):Sto w E (k+3) A:=⟨h.so,h.lv.mono,h.on,h.rq,h.tr⟩
theorem Sto.step{F':Nat->Prop}(h:Sto w E k A)(I:A8 B0 w F' w'):Sto w' E k A:=⟨h.so.step I,h.lv,h.on,h.rq,h.tr⟩
def Aft(w:World)(E:Ev)(k:Nat)(A':As)(w':World):Prop:=∃I,Sto w' I (k+3) A'/\B3b E I/\A8 (EO E) w (EO I) w'
theorem Sto.aft(h:Sto w E k A)(I:A8 B0 w B0 w'):Aft w E k A w':=⟨E,(h.step I).later,B3b.refl _,I.same (λ_ x=>x.elim)⟩
theorem Sto.done{s:CS}(h:Sto w E k A)(hk:k<=127)(hd:OdR w E (T1 E s) w')(Z:(ChD E.H E.M s A'/\Tr A')\/(s.e=8/\A'=A)):Aft w E k A' w'/\(T1 E s).2=s.e:=by
 obtain⟨F',W,I,J,h3⟩:=hd
 have aA:=h.lv.err
 rcases Z with⟨c1,c2⟩|⟨c1,c2⟩
 ·obtain⟨_,X,on,hl⟩:=h.lv.change hk h.on c1
  have U:W=E.O:=J.none (.inl X)
  rw[U]at I h3
  obtain⟨l1,l2⟩:=hl F'
  exact⟨⟨_,⟨I,l1,on,c1.rp.sameH l2,c2⟩,⟨rfl,rfl,rfl,rfl,rfl⟩,h3⟩,by rw[X,c1.e]⟩
 ·have Y:T1 E s=((E.s,E.g),8):=by
   unfold T1 B11
   rw[if_neg (by rw[c1];decide),c1]
  rw[Y]at I J h3⊢
  have U:W=E.O:=J.none (.inr ⟨aA,(by decide:(8:Int)≠7)⟩)
  rw[U]at I h3
  rw[c2]
  exact⟨⟨_,⟨I,h.lv.put F',h.on,h.rq,h.tr⟩,⟨rfl,rfl,rfl,rfl,rfl⟩,h3⟩,c1.symm⟩
theorem Sto.lok{s:CS}(h:Sto w E k A)(J:k<=127)(I:ChD E.H E.M s A'\/s.e=8):LOk E s:=by
 rcases I with c|c
 ·exact(h.lv.change J h.on c).1
 ·intro e
  rw[e]at c
  cases c
theorem C25(s:ByteArray):A41 [s]=if Nam s then 0 else 9:=by
 unfold A41
 by_cases h:Nam s
 ·rw[if_pos h,if_pos (λt I=>by rw[List.mem_singleton.1 I];exact h)]
 ·rw[if_neg h,if_neg (λx=>h (x s (List.mem_singleton.2 rfl)))]
open Classical in
noncomputable def A17(A:As)(M:Nat)(i g:Int)(s:ByteArray)(I:Int):As×(Int×Int)×Int:=
 if Nam s then
  if I=1\/I=2 then
   if ofA A i g 1=0 then
    if(fnd (A.n i.toNat).l s).isSome=true then(A,(0,0),10)
    else match A12 A with
     |none=>(A,(0,0),8)
     |some j=>if 24<(R3 (A.n i.toNat).l ⟨s,((1+j:Nat):Int),(A.n (1+j)).g+1,I⟩).length\/M<(S6 A i s I j).use+42\/(A.n i.toNat).v=1099511627775 then(A,(0,0),8)
      else(S6 A i s I j,(((1+j:Nat):Int),(A.n (1+j)).g+1),0)
   else(A,(0,0),ofA A i g 1)
  else(A,(0,0),2)
 else(A,(0,0),9)
theorem A7u(A:As)(i g k:Int):ofA A i g k=0\/ofA A i g k=12\/ofA A i g k=14:=by
 unfold ofA
 split
 ·split
  ·exact .inl rfl
  ·exact .inr (.inl rfl)
 ·exact .inr (.inr rfl)
theorem C0M{H:Nat->List Nat}{M:Nat}{i g:Int}{s:ByteArray}{I:Int}{j:Nat}(Y:thA A i g)(U:ChD H M (B2S H M i g s I) (S6 A i s I j)):
 ¬(24<(R3 (A.n i.toNat).l ⟨s,((1+j:Nat):Int),(A.n (1+j)).g+1,I⟩).length\/M<(S6 A i s I j).use+42\/(A.n i.toNat).v=1099511627775):=by
 obtain⟨Z,r2⟩:=A0C Y
 have J:=U.rp.ok i.toNat Z r2
 have aA:=U.rp.ow.cnt
 have X:(S6 A i s I j).n i.toNat=((A.n i.toNat).ls (R3 (A.n i.toNat).l ⟨s,((1+j:Nat):Int),(A.n (1+j)).g+1,I⟩)).inc:=by
  unfold S6
  simp only
  rw[As.up_at,As.up_at]
 rw[X]at J
 rintro(y|y|y)
 ·have W:(R3 (A.n i.toNat).l ⟨s,((1+j:Nat):Int),(A.n (1+j)).g+1,I⟩).length<=24:=J.few
  omega
 ·have h4:(S6 A i s I j).use=V9 (S6 A i s I j).R 40:=rfl
  omega
 ·have W:(A.n i.toNat).v+1<=1099511627775:=J.v
  omega
theorem Sto.create(h:Sto w E k A)(hk:k<=127)(i g:Int)(s:ByteArray)(I:Int)(hm:s.size<=maxLen):
 Calls Tryz.prog 36 #[.pointer (some ⟨E.o,0,none⟩),.agg #[.int .i64 i,.int .i64 g],.string s,.int .i64 I] w λr w'=>
  r= .returned (.tuple #[.agg #[.int .i64 (A17 A E.M i g s I).2.1.1,.int .i64 (A17 A E.M i g s I).2.1.2],.int .i64 (A17 A E.M i g s I).2.2])/\Aft w E k (A17 A E.M i g s I).1 w':=by
 obtain⟨f1,f2⟩:=h.rq.find i g s
 have hE:A60 E.H i g s I=if Nam s then(if I=1\/I=2 then(if fdE A i g s=11 then 0 else if fdE A i g s=0 then 10 else fdE A i g s)else 2)else 9:=by
  unfold A60
  rw[C25,f1]
  by_cases X:Nam s
  ·rw[if_pos X,if_pos rfl,if_pos X]
  ·rw[if_neg X,if_neg (by decide),if_neg X]
 have aD:A60 E.H i g s I=0->Nam s/\(I=1\/I=2)/\thA A i g/\(A.n i.toNat).k=1/\fnd (A.n i.toNat).l s=none:=λe=>by
  rw[hE]at e
  split at e
  ·rename_i a1
   split at e
   ·rename_i a2
    split at e
    ·rename_i J
     unfold fdE at J
     split at J
     ·rename_i Y
      split at J
      ·cases J
      ·rename_i a5
       obtain⟨o1,o2⟩:=A5W Y
       exact⟨a1,a2,o1,o2,by simpa using a5⟩
     ·rename_i Y
      rcases A7u A i g 1 with y|y|y
      ·exact absurd y Y
      ·rw[y]at J;cases J
      ·rw[y]at J;cases J
    ·split at e
     ·cases e
     ·rename_i J;exact absurd e J
   ·cases e
  ·cases e
 refine(B6U h.so h.rq.sw i g s I hm (λe=>?_)).mono λr w' hr=>?_
 ·obtain⟨a1,a2,J,Y,a5⟩:=aD e
  refine h.lok (A':=match A12 A with|none=>A|some j=>S6 A i s I j) hk ?_
  rcases h.rq.cre J Y a1 a2 with⟨j,Z,U⟩|⟨U,_⟩
  ·rw[Z];exact .inl U
  ·exact .inr U
 ·rcases hr with⟨W,e2,e3⟩|⟨W,e2,e3⟩
  ·have hv:A17 A E.M i g s I=(A,(0,0),A60 E.H i g s I):=by
    rw[hE]at W⊢
    unfold A17
    by_cases X:Nam s
    ·rw[if_pos X]at W⊢
     rw[if_pos X]
     by_cases aB:I=1\/I=2
     ·rw[if_pos aB]at W⊢
      rw[if_pos aB]
      unfold fdE at W⊢
      by_cases ho:ofA A i g 1=0
      ·rw[if_pos ho]at W⊢
       rw[if_pos ho]
       by_cases hf:(fnd (A.n i.toNat).l s).isSome=true
       ·rw[if_pos hf,if_pos hf]
        rfl
       ·rw[if_neg hf]at W
        exact absurd rfl W
      ·rw[if_neg ho,if_neg ho]
       rcases A7u A i g 1 with y|y|y
       ·exact absurd y ho
       ·rw[y];rfl
       ·rw[y];rfl
     ·rw[if_neg aB,if_neg aB]
    ·rw[if_neg X,if_neg X]
   rw[hv]
   exact⟨e2,h.aft e3⟩
  ·obtain⟨a1,a2,J,Y,a5⟩:=aD W
   have aF:¬(fnd (A.n i.toNat).l s).isSome=true:=by rw[a5];decide
   have hv:A17 A E.M i g s I=match A12 A with
    |none=>(A,(0,0),8)
    |some j=>if 24<(R3 (A.n i.toNat).l ⟨s,((1+j:Nat):Int),(A.n (1+j)).g+1,I⟩).length\/E.M<(S6 A i s I j).use+42\/(A.n i.toNat).v=1099511627775 then(A,(0,0),8)
     else(S6 A i s I j,(((1+j:Nat):Int),(A.n (1+j)).g+1),0):=by
    unfold A17
    rw[if_pos a1,if_pos a2,if_pos (C0J J Y),if_neg aF]
   rcases h.rq.cre J Y a1 a2 with⟨j,Z,U⟩|⟨U,aE⟩
   ·obtain⟨b1,b2⟩:=h.done (A':=S6 A i s I j) hk e3 (.inl ⟨U,Tr.cre h.ok J a5 Z⟩)
    have aC:A17 A E.M i g s I=(S6 A i s I j,(((1+j:Nat):Int),(A.n (1+j)).g+1),0):=by
     rw[hv,Z]
     exact if_neg (C0M J U)
    rw[aC]
    refine⟨?_,b1⟩
    rw[e2]
    have aA:(T1 E (A61 E i g s I)).2=0:=b2.trans U.e
    unfold B46
    rw[if_pos aA,aA,show addF E.H=_ from Rq.addF (s:=⟨E.H,0⟩) h.rq Z]
   ·obtain⟨b1,b2⟩:=h.done (A':=A) hk e3 (.inr ⟨U,rfl⟩)
    have aC:A17 A E.M i g s I=(A,(0,0),8):=by
     rw[hv]
     cases Z:A12 A with
     |none=>rfl
     |some j=>exact if_pos (aE j Z)
    rw[aC]
    refine⟨?_,b1⟩
    rw[e2]
    have aA:(T1 E (A61 E i g s I)).2=8:=b2.trans U
    unfold B46
    rw[if_neg (by rw[aA];decide),aA]
open Classical in
end
end
end Go.Proofs.YtbefmjiclpobjaaGreat
