import Derived.Test.YtbefmjiclpobjaaGreatMi33
import Derived.Test.YtbefmjiclpobjaaGreatMi32
import Derived.Test.YtbefmjiclpobjaaGreatMi29
import Derived.Test.YtbefmjiclpobjaaGreatMi31
namespace Go.Proofs.YtbefmjiclpobjaaGreat
set_option maxRecDepth 3000
section
open Go.RowKit Go.Maps
def A31(V:Nat->List Nat)(h:Hd):Prop:=∃(J:Hd) (I:Bool),C15 (V 0) (V 1) J I/\h=(if I=true then J else⟨0,0,1⟩)
theorem A31.headO{s:DS}{N:Nat}{V:Nat->List Nat}{h:Hd}(hv:A31 V h)(I:On s N V)(W:2<=N):Go.Proofs.YtbefmjiclpobjaaGreat.headO s=h:=by
 obtain⟨X,J,U,rfl⟩:=hv
 have e:U8 s 0 2=two (V 0) (V 1):=by
  rw[C3p]
  show nx (unO (isS s 0) 0) (unO (isS s (0+1)) 1)=_
  rw[I.at_ 0 (by omega),I.at_ (0+1) (by omega)]
  rfl
 unfold Go.Proofs.YtbefmjiclpobjaaGreat.headO
 rw[e,U.1]
 cases J<;>rfl
theorem A31.frame{V V':Nat->List Nat}{h:Hd}(hv:A31 V h)(I:V' 0=V 0)(J:V' 1=V 1):A31 V' h:=by
 obtain⟨X,U,W,e⟩:=hv
 exact⟨X,U,by rw[I,J];exact W,e⟩
theorem A31.save{V:Nat->List Nat}{h x:Hd}{e:Nat}(hv:A31 V h)(k:hOk e x)(I:x.g=h.g+1):A31 (A0j V (x.g%2) (A1o e x)) x:=by
 obtain⟨Y,W,J,rfl⟩:=hv
 have X:x.g=Y.g+1:=by
  cases W with
  |true=>exact I
  |false=>rw[J.2 rfl];exact I
 refine⟨x,true,⟨?_,λe=>by cases e⟩,rfl⟩
 have U:=B98 J k X
 rw[if_pos rfl,<-U]
 unfold B5a A0j
 by_cases c:x.g%2=0
 ·rw[c];rfl
 ·have c1:x.g%2=1:=by omega
  rw[c1];rfl
def A0w(s:DS)(n:Nat)(g:LS)(M:Nat):List (List Nat):=(List.range M).map (E6 s n g)
def B99(I:List (List Nat))(ps:List Pt):List (List Nat):=ps.foldl (λI p=>I.set p.a.toNat p.d) I
theorem B9A(A:Nat->Option (List Nat))(B:Nat->List Nat)(M k:Nat)(d:List Nat):(List.range M).map (λi=>(S7 A k d i).getD (B i))=((List.range M).map (λi=>(A i).getD (B i))).set k d:=by
 apply List.ext_getElem
 ·simp
 ·intro i I J
  rw[List.getElem_set]
  simp only[List.getElem_map,List.getElem_range]
  unfold S7
  by_cases c:i=k
  ·rw[if_pos c,if_pos c.symm];rfl
  ·rw[if_neg c,if_neg (λe=>c e.symm)]
theorem B2n(B:Nat->List Nat)(M:Nat):∀(ps:List Pt) (A:Nat->Option (List Nat)),(List.range M).map (λi=>(putA A ps i).getD (B i))=B99 ((List.range M).map (λi=>(A i).getD (B i))) ps
 |[],_=>rfl
 |p::ps,A=>by
  show(List.range M).map (λi=>(putA (S7 A p.a.toNat p.d) ps i).getD (B i))=B99 (((List.range M).map (λi=>(A i).getD (B i))).set p.a.toNat p.d) ps
  rw[B2n B M ps,B9A]
def A2g(V:Nat->List Nat)(n:Nat)(T:List (Nat×List Nat)):Nat->List Nat:=T.foldl (λV q=>A0j V (2+n+q.1) q.2) V
theorem On.homes{N n:Nat}:∀{T:List (Nat×List Nat)} {s:DS} {V:Nat->List Nat},On s N V->(∀q∈T,2+n+q.1<N/\q.2.length=128)->(P0 s n T).2=0/\On (P0 s n T).1 N (A2g V n T)
 |[],_,_,h,_=>⟨rfl,h⟩
 |q::T,s,V,h,hq=>by
  obtain⟨I,J⟩:=h.write (i:=2+n+q.1) (b:=q.2) (hq q (by simp)).1 (hq q (by simp)).2
  unfold P0
  rw[if_pos I]
  exact On.homes J (λr U=>hq r (by simp[U]))
theorem A0D{n j:Nat}(I:j<2+n):∀(T:List (Nat×List Nat)) (V:Nat->List Nat),A2g V n T j=V j
 |[],_=>rfl
 |q::T,V=>by
  show A2g (A0j V (2+n+q.1) q.2) n T j=V j
  rw[A0D I T]
  unfold A0j
  rw[if_neg (by omega)]
theorem B2o{n:Nat}(f:Nat->List Nat)(i:Nat):∀(T:List (Nat×List Nat)) (V:Nat->List Nat),(∀q∈T,q.2=f q.1)->A2g V n T (2+n+i)=if(∃q∈T,q.1=i)then f i else V (2+n+i)
 |[],V,_=>by simp[A2g]
 |q::T,V,h=>by
  show A2g (A0j V (2+n+q.1) q.2) n T (2+n+i)=_
  rw[B2o f i T _ (λr I=>h r (by simp[I]))]
  unfold A0j
  by_cases c1:∃r∈T,r.1=i
  ·rw[if_pos c1,if_pos (by obtain⟨r,I,e⟩:=c1;exact⟨r,by simp[I],e⟩)]
  ·rw[if_neg c1]
   by_cases c2:q.1=i
   ·rw[if_pos (by omega),if_pos ⟨q,by simp,c2⟩,h q (by simp),c2]
   ·rw[if_neg (by omega),if_neg (λ⟨r,I,e⟩=>by
     rcases List.mem_cons.mp I with rfl|I
     ·exact c2 e
     ·exact c1 ⟨r,I,e⟩)]
theorem B3H{n M i:Nat}(A:Nat->Option (List Nat))(V:Nat->List Nat)(hi:i<M):A2g V n (V7 A M) (2+n+i)=(A i).getD (V (2+n+i)):=by
 rw[B2o (λi=>(A i).getD (List.replicate 128 0)) i (V7 A M) V (λq I=>by
  unfold V7 at I
  obtain⟨k,_,rfl⟩:=List.mem_map.mp I
  rfl)]
 cases h:A i with
 |none=>
  rw[if_neg]
  ·rfl
  ·rintro⟨q,I,e⟩
   unfold V7 N9 at I
   obtain⟨k,U,rfl⟩:=List.mem_map.mp I
   have J:=(List.mem_filter.mp U).2
   have e:k=i:=e
   rw[e,h]at J
   cases J
 |some x=>
  rw[if_pos]
  ·simp
  ·refine⟨(i,(A i).getD (List.replicate 128 0)),?_,rfl⟩
   unfold V7 N9
   exact List.mem_map.mpr ⟨i,List.mem_filter.mpr ⟨List.mem_range.mpr hi,by rw[h];rfl⟩,rfl⟩
theorem On.bring{s:DS}{N n M:Nat}{V:Nat->List Nat}{A:Nat->Option (List Nat)}(h:On s N V)(hM:2+n+M<=N)(hA:AOk M A):(Q5 s n M A).2=0/\On (Q5 s n M A).1 N (A2g V n (V7 A M)):=by
 obtain⟨U,W⟩:=h.flush
 obtain⟨h3,X⟩:=W.homes (n:=n) (T:=V7 A M) (λq J=>by
  unfold V7 at J
  obtain⟨k,I,rfl⟩:=List.mem_map.mp J
  unfold N9 at I
  have aA:=List.mem_filter.mp I
  have aB:=List.mem_range.mp aA.1
  refine⟨by show 2+n+k<N;omega,?_⟩
  show((A k).getD (List.replicate 128 0)).length=128
  cases e:A k with
  |none=>simp
  |some x=>exact(hA k x e).2.1)
 obtain⟨Y,Z⟩:=X.flush
 unfold Q5
 rw[if_pos U,if_pos h3]
 exact⟨Y,Z⟩
theorem On.save{s:DS}{N e:Nat}{V:Nat->List Nat}{x:Hd}(h:On s N V)(W:2<=N)(k:hOk e x):(Z7 s N e x).2=0/\On (Z7 s N e x).1 N (A0j V (x.g%2) (A1o e x)):=by
 have Y:x.g%2<2:=Nat.mod_lt _ (by decide)
 obtain⟨I,J⟩:=h.write (i:=x.g%2) (b:=A1o e x) (by omega) (B08 k)
 obtain⟨h3,U⟩:=J.flush
 have X:=k.1.2
 unfold Z7 A28
 rw[if_neg (by omega),if_pos ⟨⟨by decide,by omega⟩,k⟩,show(0:Int)+((x.g%2:Nat):Int)=((x.g%2:Nat):Int)by omega,if_pos I]
 exact⟨h3,U⟩
structure Ar (s:DS) (n N:Nat) (V:Nat->List Nat) (g:LS) (txs:List (List Pt)):Prop where
 on:On s N V
 err:g.err=0
 ep:g.ep=1
 fl:g.h.f=1
 ch:A0z V n ((N-2-n:Nat):Int) g.h.t txs g.next
 fr:g.next<=g.h.t+n
 A:g.A=txs.foldl putA (λ_=>none)
 ok:AOk (N-2-n) g.A
 old:A8k V n g.next
 hd:A31 V g.h
 ends:∀j,j<2+n->A3K (V j)<=1/\A3L (V j)<=1
 sb:∀i,i<N->∀x∈V i,x<256
section
variable {s:DS} {n N:Nat} {V:Nat->List Nat} {g:LS} {txs:List (List Pt)}
theorem Ar.home(h:Ar s n N V g txs){i:Nat}(hi:i<N-2-n):E6 s n g i=(g.A i).getD (V (2+n+i)):=by
 unfold E6
 rw[h.on.at_ _ (by omega)]
theorem Ar.homes(h:Ar s n N V g txs):A0w s n g (N-2-n)=(List.range (N-2-n)).map (λi=>(g.A i).getD (V (2+n+i))):=by
 unfold A0w
 apply List.map_congr_left
 intro i hi
 exact h.home (List.mem_range.mp hi)
theorem Ar.le(h:Ar s n N V g txs):g.h.t+txs.length<=g.next:=h.ch.le
theorem B2p{ps:List Pt}{H:Int}(k:A0l ps H):N5 ps<=30:=B0F (by decide) (by have:=A39 k;omega)
theorem Ar.write(h:Ar s n N V g txs)(hn:2<=n/\n+3<=N/\N<=4096){ps:List Pt}(J:A0l ps ((N-2-n:Nat):Int))(Y:∀p∈ps,∀x∈p.d,x<256)(Z:N5 ps<=A53 n g)(hs:g.next<=1000000):
 (J8 s n N g ps).2=0/\Ar (J8 s n N g ps).1.1 n N (A5s V n (R7 1 g.next (M0 ps))) (J8 s n N g ps).1.2 (txs++[ps])/\(J8 s n N g ps).1.2=g.putAll ps (N5 ps)/\
 A0w (J8 s n N g ps).1.1 n (J8 s n N g ps).1.2 (N-2-n)=B99 (A0w s n g (N-2-n)) ps:=by
 have aA:=B2p J
 have aC:=h.le
 have hcut:W6 1 g.next (M0 ps).length=0:=A2Q.mpr ⟨by decide,by omega,by unfold N5 at aA;omega,by have:=A39 J;omega⟩
 have W:g.next+N5 ps<=g.h.t+n:=by unfold A53 at Z;have:=h.fr;have:=A3f ps;omega
 have U:=A6b hcut
 obtain⟨l1,l2⟩:=h.on.layP (n:=n) (P:=R7 1 g.next (M0 ps)) (by omega) (by omega) (λp I=>(U p I).2.2)
 have e:J8 s n N g ps=(((P3 s n (R7 1 g.next (M0 ps))).1,g.putAll ps (N5 ps)),0):=by
  unfold J8
  rw[if_pos h.err,if_pos J,h.ep,if_pos ⟨hcut,Z⟩,if_pos l1]
 have aB:∀j,2+n<=j->A5s V n (R7 1 g.next (M0 ps)) j=V j:=λj hj=>A0T n _ _ (λp _=>by
  have:=Nat.mod_lt p.c (show 0<n by omega);omega)
 have X:Ar (P3 s n (R7 1 g.next (M0 ps))).1 n N (A5s V n (R7 1 g.next (M0 ps))) (g.putAll ps (N5 ps)) (txs++[ps]):=by
  refine⟨l2,h.err,h.ep,h.fl,?_,?_,?_,?_,?_,?_,?_,?_⟩
  ·refine(h.ch.frame (λc h1 h2=>A0T n _ _ (λp I=>?_))).snoc ⟨J,Y,hcut,λp I=>B5c n _ _ (B6U (by unfold N5 at W;omega)) I⟩
   obtain⟨_,i,hi,ec⟩:=A2F I
   have:=A8W (n:=n) (a:=c) (b:=p.c) (by omega) (by unfold N5 at W;omega)
   omega
  ·exact W
  ·show putA g.A ps=_
   rw[List.foldl_append,<-h.A];rfl
  ·exact h.ok.putA (λp I=>J.row p I) Y (by omega)
  ·exact h.old.lay hcut
  ·exact h.hd.frame (A0T n _ _ (λp _=>by omega)) (A0T n _ _ (λp _=>by omega))
  ·intro j hj
   rcases A6m n j (R7 1 g.next (M0 ps)) V with e|⟨p,I,e⟩
   ·rw[e];exact h.ends j hj
   ·rw[e,(A47 (U p I)).1,(A47 (U p I)).2,(A2F I).1]
    exact⟨Nat.le_refl _,Nat.le_refl _⟩
  ·intro i hi
   rcases A6m n i (R7 1 g.next (M0 ps)) V with e|⟨p,I,e⟩
   ·rw[e];exact h.sb i hi
   ·rw[e];exact A6r (U p I).2.2 (A6L (B4d ps) p I)
 rw[e]
 refine⟨rfl,X,rfl,?_⟩
 rw[X.homes,h.homes,<-B2n]
 apply List.map_congr_left
 intro i _
 rw[aB _ (by omega)]
 rfl
theorem Ar.check(h:Ar s n N V g txs)(hn:2<=n/\n+3<=N/\N<=4096)(hs:g.next<=1000000)(hg:g.h.g<=1000000):
 (H6 s n N g).2=0/\(∃V',Ar (H6 s n N g).1.1 n N V' (H6 s n N g).1.2 [])/\(H6 s n N g).1.2={ g with h:=A0u g,A:=λ_=>none }/\
 A0w (H6 s n N g).1.1 n (H6 s n N g).1.2 (N-2-n)=A0w s n g (N-2-n):=by
 obtain⟨Y,Z⟩:=h.on.bring (n:=n) (M:=N-2-n) (by omega) h.ok
 have J:hOk g.ep (A0u g):=by
  refine⟨⟨by rw[h.ep];decide,?_⟩,?_,?_⟩
  ·show g.h.g+1<=_;omega
  ·show g.next<_;omega
  ·show g.ep<_;rw[h.ep];decide
 obtain⟨c1,c2⟩:=Z.save (by omega) J
 have e:H6 s n N g=(((Z7 (Q5 s n (N-2-n) g.A).1 N g.ep (A0u g)).1,{ g with h:=A0u g,A:=λ_=>none }),0):=by
  unfold H6
  rw[if_pos h.err,if_pos Y,if_pos c1]
 have hm:(A0u g).g%2<2:=Nat.mod_lt _ (by decide)
 have X:∀j,2<=j->j<2+n->A0j (A2g V n (V7 g.A (N-2-n))) ((A0u g).g%2) (A1o g.ep (A0u g)) j=V j:=λj h1 h2=>by
  unfold A0j
  rw[if_neg (by omega),A0D h2]
 have W:∀i,i<N-2-n->A0j (A2g V n (V7 g.A (N-2-n))) ((A0u g).g%2) (A1o g.ep (A0u g)) (2+n+i)=(g.A i).getD (V (2+n+i)):=λi hi=>by
  unfold A0j
  rw[if_neg (by omega),B3H _ _ hi]
 have aA:A3K (A1o g.ep (A0u g))<=1/\A3L (A1o g.ep (A0u g))<=1:=by
  unfold A1o
  rw[(A47 (A4K J)).1,(A47 (A4K J)).2]
  show g.ep<=1/\g.ep<=1
  rw[h.ep]
  exact⟨Nat.le_refl _,Nat.le_refl _⟩
 have U:Ar (Z7 (Q5 s n (N-2-n) g.A).1 N g.ep (A0u g)).1 n N (A0j (A2g V n (V7 g.A (N-2-n))) ((A0u g).g%2) (A1o g.ep (A0u g))) { g with h:=A0u g,A:=λ_=>none } []:=by
  refine⟨c2,h.err,h.ep,h.ep,rfl,Nat.le_add_right _ _,rfl,AOk.none _,?_,?_,?_,?_⟩
  ·intro j I
   rw[X _ (by omega) (by omega)]
   exact h.old j I
  ·exact(h.hd.frame (V':=A2g V n (V7 g.A (N-2-n))) (A0D (by omega) _ _) (A0D (by omega) _ _)).save J rfl
  ·intro j I
   by_cases c:j<2
   ·unfold A0j
    by_cases c2:j=(A0u g).g%2
    ·rw[if_pos c2];exact aA
    ·rw[if_neg c2,A0D (by omega)];exact h.ends j I
   ·rw[X j (by omega) I];exact h.ends j I
  ·intro i hi
   by_cases c:i<2+n
   ·unfold A0j
    by_cases c2:i=(A0u g).g%2
    ·rw[if_pos c2];exact C0c J
    ·rw[if_neg c2,A0D c];exact h.sb i hi
   ·obtain⟨k,rfl⟩:∃k,i=2+n+k:=⟨i-(2+n),by omega⟩
    rw[W k (by omega)]
    cases hA:g.A k with
    |none=>exact h.sb _ hi
    |some x=>exact(h.ok k x hA).2.2
 rw[e]
 refine⟨rfl,⟨_,U⟩,rfl,?_⟩
 rw[U.homes,h.homes]
 apply List.map_congr_left
 intro i hi
 exact W i (List.mem_range.mp hi)
theorem Ar.sync(h:Ar s n N V g txs):(R4 s g).2=0/\Ar (R4 s g).1.1 n N V (R4 s g).1.2 txs/\A0w (R4 s g).1.1 n (R4 s g).1.2 (N-2-n)=A0w s n g (N-2-n):=by
 obtain⟨J,U⟩:=h.on.flush
 have e:R4 s g=(((E7 s).1,{ g with err:=0 }),0):=by
  unfold R4
  rw[if_pos h.err,J]
 have I:Ar (E7 s).1 n N V { g with err:=0 } txs:=⟨U,rfl,h.ep,h.fl,h.ch,h.fr,h.A,h.ok,h.old,h.hd,h.ends,h.sb⟩
 rw[e]
 exact⟨rfl,I,by rw[I.homes,h.homes]⟩
theorem Ar.top(h:Ar s n N V g txs)(J:2<=n/\n+3<=N/\N<=4096):A18 s (2+n)<=1:=B0p _ (λj I=>by
 rw[h.on.at_ j (by omega)]
 exact h.ends j I)
theorem Ar.says(h:Ar s n N V g txs)(X:2<=n/\n+3<=N/\N<=4096):(J7 s n N).A=g.A/\(J7 s n N).next=g.next/\(J7 s n N).h=g.h/\(J7 s n N).err=0/\(J7 s n N).ep=A18 s (2+n)+1:=by
 have I:=h.hd.headO h.on (by omega)
 have W:=h.le
 obtain⟨U,e⟩:=A79 h.on (by omega) (by omega) (H:=((N-2-n:Nat):Int)) (by omega) txs g.h.t g.next (n+1) 1 (λ_=>none) h.ch h.fr (by have:=h.fr;omega) (Nat.le_refl _) (λA fl _=>h.old.stop h.on (by omega) (by omega))
 have J:r0G (A5G s n)=⟨g.h.t,1,λ_=>none⟩:=by
  unfold r0G A5G
  rw[I]
  show(⟨g.h.t,g.h.f,λ_=>none⟩:Rp)=_
  rw[h.fl]
 unfold J7 LS.at_
 rw[J,e]
 exact⟨h.A.symm,rfl,I,rfl,rfl⟩
theorem Ar.sb_(h:Ar s n N V g txs):SB s N:=λi hi x I=>by
 rw[h.on.at_ i hi]at I
 exact h.sb i hi x I
end
theorem B5g{N i:Nat}(h:i<N):isS (newS N) i=nou:=by
 unfold isS newS V8 nou
 simp[List.getD_eq_getElem?_getD,h]
theorem Ar.new{n N:Nat}(hn:2<=n/\n+3<=N/\N<=4096):Ar (newS N) n N (λ_=>nou) (J7 (newS N) n N) []/\(J7 (newS N) n N).next=0/\(J7 (newS N) n N).h.g=0:=by
 have on:On (newS N) N (λ_=>nou):=⟨rfl,by simp[newS],λj I=>B5g I⟩
 have hd:A31 (λ_=>nou) ⟨0,0,1⟩:=⟨hZ,false,⟨by unfold two;rw[B5e,B5e];rfl,λ_=>rfl⟩,rfl⟩
 have aA:∀u,A8k (λ_=>nou) n u:=λu j I=>.inl rfl
 have Z:∀j,j<2+n->A3K nou<=0/\A3L nou<=0:=λj _=>by rw[B5f.1,B5f.2];exact⟨Nat.le_refl _,Nat.le_refl _⟩
 have sb:∀i,i<N->∀x∈nou,x<256:=λi _ x hx=>by rw[List.eq_of_mem_replicate hx];decide
 have h0:Ar (newS N) n N (λ_=>nou) ⟨⟨0,0,1⟩,0,1,λ_=>none,0⟩ []:=
  ⟨on,rfl,rfl,rfl,rfl,Nat.zero_le _,rfl,AOk.none _,aA 0,hd,λj I=>by have:=Z j I;omega,sb⟩
 have ht:A18 (newS N) (2+n)<=0:=B0p _ (λj I=>by
  rw[B5g (by omega)]
  exact Z j I)
 obtain⟨J,U,W,X,s5⟩:=h0.says hn
 have e:J7 (newS N) n N=⟨⟨0,0,1⟩,0,1,λ_=>none,0⟩:=by
  have Y:(J7 (newS N) n N).ep=1:=by rw[s5];omega
  generalize J7 (newS N) n N=x at J U W X Y
  obtain⟨x1,x2,x3,x4,x5⟩:=x
  simp only at J U W X Y
  subst J U W X Y
  rfl
 rw[e]
 exact⟨h0,rfl,rfl⟩
end
section
open Go.RowKit Go.Maps
theorem A8Y(f:Nat->List Nat)(i:Nat):∀(I:List Nat) (A:Nat->Option (List Nat)),putA A (I.map (λ(k:Nat)=>(⟨(k:Int),f k⟩:Pt))) i=if i∈I then some (f i)else A i
 |[],A=>rfl
 |k::I,A=>by
  show putA (S7 A ((k:Int)).toNat (f k)) (I.map _) i=_
  rw[A8Y f i I,Int.toNat_natCast]
  by_cases h:i∈I
  ·rw[if_pos h,if_pos (List.mem_cons_of_mem _ h)]
  ·rw[if_neg h]
   unfold S7
   by_cases e:i=k
   ·rw[if_pos e,if_pos (List.mem_cons.2 (.inl e)),e]
   ·rw[if_neg e,if_neg (λx=>by rcases List.mem_cons.1 x with y|y;exact e y;exact h y)]
theorem A1D{T:Nat->Option (List Nat)}{M i:Nat}:i∈N9 T M↔i<M/\(T i).isSome=true:=by
 unfold N9
 rw[List.mem_filter,List.mem_range]
theorem A5J(T:Nat->Option (List Nat))(M:Nat):(N9 T M).Nodup:=by
 unfold N9
 exact List.Nodup.sublist List.filter_sublist List.nodup_range
theorem B2q:∀{l K:List Nat},l.Nodup->(∀x∈l,x∈K)->l.length<=K.length
 |[],_,_,_=>Nat.zero_le _
 |a::l,K,h,hs=>by
  obtain⟨J,U,rfl⟩:=List.append_of_mem (hs a List.mem_cons_self)
  obtain⟨W,X⟩:=List.nodup_cons.1 h
  have:=B2q (K:=J++U) X (λx I=>by
   have:=hs x (List.mem_cons_of_mem _ I)
   rw[List.mem_append,List.mem_cons]at this
   rw[List.mem_append]
   rcases this with y|y|y
   ·exact .inl y
   ·rw[y]at I;exact absurd I W
   ·exact .inr y)
  rw[List.length_append]at this
  rw[List.length_cons,List.length_append,List.length_cons]
  omega
theorem A1E{H H0:Nat->List Nat}{i:Nat}:(J2 H H0 i).isSome=true↔H i≠H0 i:=by
 unfold J2
 split
 ·rename_i h;simp[h]
 ·rename_i h;simp[h]
theorem B3J{H H0:Nat->List Nat}{M:Nat}{K:List Nat}(h:Dif H0 H K):(N9 (J2 H H0) M).length<=K.length:=
 B2q (A5J _ _) λx I=>h x (A1E.1 (A1D.1 I).2)
theorem B0r{H H0:Nat->List Nat}{M:Nat}{p:Pt}(h:p∈E8 (J2 H H0) M):∃i,i<M/\p.a=(i:Int)/\p.d=H i:=by
 unfold E8 at h
 obtain⟨i,hi,rfl⟩:=List.mem_map.1 h
 obtain⟨I,J⟩:=A1D.1 hi
 refine⟨i,I,rfl,?_⟩
 show(J2 H H0 i).getD _=H i
 unfold J2
 rw[if_neg (A1E.1 J)]
 rfl
theorem C16{H H0:Nat->List Nat}{M:Nat}(U:∀i,i<M->(H i).length=128/\∀x∈H i,x<256)(Y:1<=(E8 (J2 H H0) M).length)(h2:(E8 (J2 H H0) M).length<=14):A0l (E8 (J2 H H0) M) (M:Int)/\N5 (E8 (J2 H H0) M)<=20:=by
 have Z:∀p∈E8 (J2 H H0) M,p.d.length=128:=λp hp=>by
  obtain⟨i,hi,_,e⟩:=B0r hp
  rw[e];exact(U i hi).1
 refine⟨⟨⟨Y,by omega⟩,λi hi=>?_⟩,?_⟩
 ·obtain⟨k,hk,W,X⟩:=B0r (List.getElem_mem hi)
  refine⟨by rw[W];omega,by rw[X];exact(U k hk).1,λj hj=>?_⟩
  have hn:=A5J (J2 H H0) M
  have aA:=V3 (J2 H H0) M
  have I:∀q (J:q<(E8 (J2 H H0) M).length),(E8 (J2 H H0) M)[q].a=((N9 (J2 H H0) M)[q]'(by rw[<-aA];exact J):Int):=λq J=>by
   simp only[E8,List.getElem_map]
  rw[I j (by omega),I i hi]
  intro e
  have:=(List.nodup_iff_pairwise_ne.1 hn)
  have h3:=(List.pairwise_iff_getElem.1 this) j i (by omega) (by omega) hj
  exact h3 (by omega)
 ·unfold N5
  rw[A5z Z]
  unfold K9 qn
  omega
structure Lv (E:Ev) (k:Nat):Prop where
 hn:20<=E.n/\E.N=E.M+2+E.n/\E.N<=4096/\46<=E.M/\E.M<=1024
 ar:∃V txs,Ar E.s E.n E.N V E.g txs
 nx:E.g.next<=30 * k
 gn:E.g.h.g<=k
 O:E.O=λ_=>none
 Q:E.s.Q=[]
theorem B5h{s:DS}(h:(E7 s).2=0):(E7 s).1.Q=[]:=by
 unfold E7 at h⊢
 split at h
 ·rename_i I;rw[if_pos I]
 ·exact absurd (show(7:Int)=0 from h) (by decide)
theorem C3q{s:DS}{N e:Nat}{x:Hd}(h:(Z7 s N e x).2=0):(Z7 s N e x).1.Q=[]:=by
 unfold Z7 at h⊢
 split at h
 ·exact absurd (show(8:Int)=0 from h) (by decide)
 ·rename_i I
  rw[if_neg I]
  unfold A28 at h⊢
  split at h
  ·rename_i J
   rw[if_pos J]
   split at h
   ·rename_i h3
    rw[if_pos h3]
    exact B5h h
   ·rename_i h3;exact absurd h h3
  ·exact absurd (show(2:Int)=0 from h) (by decide)
theorem C17{s:DS}{n N:Nat}{g:LS}(U:g.err=0)(h:(H6 s n N g).2=0):(H6 s n N g).1.1.Q=[]:=by
 unfold H6 at h⊢
 rw[if_pos U]at h⊢
 split at h
 ·rename_i J
  rw[if_pos J]
  split at h
  ·rename_i I
   rw[if_pos I]
   exact C3q I
  ·rename_i I;exact absurd h I
 ·rename_i J;exact absurd h J
section
variable {E:Ev} {k:Nat}
theorem Lv.err(h:Lv E k):E.g.err=0:=by obtain⟨_,_,a⟩:=h.ar;exact a.err
theorem Lv.nn(h:Lv E k):2<=E.n/\E.n+3<=E.N/\E.N<=4096:=by have:=h.hn;omega
theorem Lv.home(h:Lv E k):E.H=E6 E.s E.n E.g:=by
 funext i
 unfold Ev.H vwH Ev.L
 rw[h.O]
 rfl
theorem Ar.gokF{s:DS}{g:LS}{n N:Nat}{V:Nat->List Nat}{txs:List (List Pt)}(h:Ar s n N V g txs)(I:2<=n/\n+3<=N/\N<=4096)(J:s.Q=[])(U:g.next<=1000000):GOk n N s g:=
 ⟨I,by rw[J];exact Nat.zero_le _,by have:=h.le;omega,by have:=h.fr;omega,by omega,by rw[h.ep];decide⟩
theorem Lv.wok(h:Lv E k)(W:k<=127):WOk E.n E.N E.s E.g:=by
 obtain⟨V,txs,a⟩:=h.ar
 have J:=h.nx
 have U:=h.gn
 obtain⟨c1,⟨V',c2⟩,c3,_⟩:=a.check h.nn (by omega) (by omega)
 exact⟨a.gokF h.nn h.Q (by omega),by rw[h.Q];exact Nat.zero_le _,by omega,a.ok,λI=>c2.gokF h.nn (C17 a.err I) (by rw[c3];show E.g.next<=_;omega)⟩
theorem A8Z{s:DS}{n:Nat}{g:LS}{M i:Nat}(hi:i<M):(A0w s n g M)[i]? =some (E6 s n g i):=by
 unfold A0w
 rw[List.getElem?_map,List.getElem?_range hi]
 rfl
theorem A9a{s U:DS}{n:Nat}{g I:LS}{M i:Nat}(h:A0w s n g M=A0w U n I M)(hi:i<M):E6 s n g i=E6 U n I i:=by
 have J:=A8Z (s:=s) (n:=n) (g:=g) hi
 rw[h,A8Z hi]at J
 exact(Option.some.inj J).symm
structure Wr0 (n N M x y:Nat) (H:Nat->List Nat) (r:(DS×LS)×Int):Prop where
 e:r.2=0
 ar:∃V txs,Ar r.1.1 n N V r.1.2 txs
 nx:r.1.2.next<=x+30
 gn:r.1.2.h.g<=y
 hm:∀i,i<M->E6 r.1.1 n r.1.2 i=H i
theorem A9b{s:DS}{g:LS}{n N M:Nat}{V:Nat->List Nat}{txs:List (List Pt)}{H H0:Nat->List Nat}(U:Ar s n N V g txs)(hM:N=M+2+n/\20<=n/\N<=4096/\46<=M/\M<=1024)(hx:g.next<=1000000)
 (Z:∀i,i<M->(H i).length=128/\∀y∈H i,y<256) (hH:∀i,i<M->E6 s n g i=H0 i) (h1:1<=(E8 (J2 H H0) M).length) (aC:(E8 (J2 H H0) M).length<=14):
 Wr0 n N M g.next g.h.g H (J8 s n N g (E8 (J2 H H0) M))\/((J8 s n N g (E8 (J2 H H0) M)).2=8/\g.h.t≠g.next):=by
 have hn:2<=n/\n+3<=N/\N<=4096:=by omega
 have aD:N-2-n=M:=by omega
 obtain⟨aB,aF⟩:=C16 Z h1 aC
 have aA:A0l (E8 (J2 H H0) M) ((N-2-n:Nat):Int):=by rw[aD];exact aB
 have hb:∀p∈E8 (J2 H H0) M,∀y∈p.d,y<256:=λp hp=>by
  obtain⟨i,hi,_,e⟩:=B0r hp
  rw[e];exact(Z i hi).2
 by_cases W:N5 (E8 (J2 H H0) M)<=A53 n g
 ·left
  obtain⟨a1,X,J,_⟩:=U.write hn aA hb W hx
  have aE:=B2p aB
  refine⟨a1,⟨_,_,X⟩,by rw[J];show g.next+N5 _<=_;omega,by rw[J];exact Nat.le_refl _,λi hi=>?_⟩
  have Y:=hH i hi
  rw[U.home (by omega)]at Y
  rw[X.home (by omega),J,A0T n _ _ (λp _=>by have:=Nat.mod_lt p.c (show 0<n by omega);omega)]
  show(putA g.A (E8 (J2 H H0) M) i).getD _=_
  unfold E8
  rw[A8Y (λi=>(J2 H H0 i).getD (List.replicate 128 0)) i]
  by_cases I:i∈N9 (J2 H H0) M
  ·rw[if_pos I]
   have h3:=A1E.1 (A1D.1 I).2
   show(J2 H H0 i).getD _=_
   unfold J2
   rw[if_neg h3]
   rfl
  ·rw[if_neg I,Y]
   by_cases e:H i=H0 i
   ·exact e.symm
   ·exact absurd (A1D.2 ⟨hi,A1E.2 e⟩) I
 ·right
  refine⟨?_,λe=>W ?_⟩
  ·unfold J8
   rw[if_pos U.err,if_pos aA,if_neg (λx=>W x.2)]
  ·unfold A53
   omega
theorem Lv.wrt(h:Lv E k)(hk:k<=127){H:Nat->List Nat}(W:∀i,i<E.M->(H i).length=128/\∀y∈H i,y<256)(U:(E8 (J2 H E.H) E.M).length<=14):Wr0 E.n E.N E.M (30 * k) (k+1) H (A0n E.s E.n E.N E.g (E8 (J2 H E.H) E.M)):=by
 obtain⟨X,Y,n5,Z,n4⟩:=h.hn
 have hH:∀i,i<E.M->E6 E.s E.n E.g i=E.H i:=λi _=>by rw[h.home]
 have aC:=h.nx
 have aB:=h.gn
 obtain⟨V,txs,a⟩:=h.ar
 unfold A0n
 by_cases I:(E8 (J2 H E.H) E.M).length=0
 ·rw[if_pos I]
  refine⟨rfl,⟨V,txs,a⟩,Nat.le_trans aC (Nat.le_add_right _ _),Nat.le_trans aB (Nat.le_add_right _ _),λi hi=>?_⟩
  show E6 E.s E.n E.g i=H i
  rw[hH i hi]
  by_cases e:H i=E.H i
  ·exact e.symm
  ·exfalso
   have:=A1D.2 ⟨hi,A1E.2 e⟩
   rw[V3]at I
   rw[List.eq_nil_of_length_eq_zero I]at this
   simp at this
 ·rw[if_neg I]
  rcases A9b a ⟨Y,X,n5,Z,n4⟩ (by omega) W hH (by omega) U with c|⟨a1,_⟩
  ·rw[if_neg (by rw[c.e];decide)]
   exact⟨c.e,c.ar,Nat.le_trans c.nx (by omega),Nat.le_trans c.gn (by omega),c.hm⟩
  ·rw[if_pos a1]
   obtain⟨b1,⟨V',b2⟩,b3,b4⟩:=a.check h.nn (by omega) (by omega)
   rw[if_pos b1]
   have aA:∀i,i<E.M->E6 (H6 E.s E.n E.N E.g).1.1 E.n (H6 E.s E.n E.N E.g).1.2 i=E.H i:=λi hi=>by
    rw[<-hH i hi]
    exact A9a b4 hi
   have J:(H6 E.s E.n E.N E.g).1.2.next=E.g.next/\(H6 E.s E.n E.N E.g).1.2.h.g=E.g.h.g+1/\(H6 E.s E.n E.N E.g).1.2.h.t=E.g.next:=by rw[b3];exact⟨rfl,rfl,rfl⟩
   rcases A9b b2 ⟨Y,X,n5,Z,n4⟩ (by omega) W aA (by omega) U with c|⟨_,c⟩
   ·exact⟨c.e,c.ar,Nat.le_trans c.nx (by omega),Nat.le_trans c.gn (by omega),c.hm⟩
   ·exact absurd (J.2.2.trans J.1.symm) c
theorem Lv.change(h:Lv E k)(hk:k<=127)(_:E.s.fuse=none){s:CS}{A:As}(X:ChD E.H E.M s A):
 LOk E s/\(Q3 E s).2=0/\(Q3 E s).1.1.fuse=none/\∀F',Lv (E.at_ F' (Q3 E s).1.1 (Q3 E s).1.2 E.O) (k+3)/\∀i,i<E.M->(E.at_ F' (Q3 E s).1.1 (Q3 E s).1.2 E.O).H i=s.H i:=by
 obtain⟨K,hK,aB⟩:=X.df
 have aA:(E8 (J2 s.H E.H) E.M).length<=14:=by rw[V3];exact Nat.le_trans (B3J aB) hK
 have Y:=h.wrt hk X.rp.sw.sd.row aA
 obtain⟨R,I⟩:∃R,R=A0n E.s E.n E.N E.g (E8 (J2 s.H E.H) E.M):=⟨_,rfl⟩
 have aC:Q3 E s=R4 R.1.1 R.1.2:=by
  unfold Q3 B1M
  rw[if_pos X.e,<-I,if_pos (by rw[I];exact Y.e)]
 rw[<-I]at Y
 obtain⟨h0,⟨V,txs,J⟩,nx,gn,hm⟩:=Y
 obtain⟨U,Z,b3⟩:=J.sync
 have W:R4 R.1.1 R.1.2=(((E7 R.1.1).1,{ R.1.2 with err:=(E7 R.1.1).2 }),(E7 R.1.1).2):=by unfold R4;rw[if_pos J.err]
 have hq:(R4 R.1.1 R.1.2).1.1.Q=[]:=by rw[W]at U⊢;exact B5h U
 rw[aC]
 refine⟨λ_=>⟨h.wok hk,?_⟩,U,Z.on.fz,λF'=>⟨⟨h.hn,⟨_,_,Z⟩,?_,?_,h.O,hq⟩,λi hi=>?_⟩⟩
 ·rw[<-I];exact J.ok
 ·show(R4 R.1.1 R.1.2).1.2.next<=_
  rw[W]
  show R.1.2.next<=_
  omega
 ·show(R4 R.1.1 R.1.2).1.2.h.g<=_
  rw[W]
  show R.1.2.h.g<=_
  omega
 ·show vwH E.O (E6 (R4 R.1.1 R.1.2).1.1 E.n (R4 R.1.1 R.1.2).1.2) i=s.H i
  unfold vwH
  rw[h.O]
  show E6 (R4 R.1.1 R.1.2).1.1 E.n (R4 R.1.1 R.1.2).1.2 i=s.H i
  rw[<-hm i hi]
  exact A9a b3 hi
theorem OtR.none{r:(DS×LS)×Int}{U:Nat->Option (List Nat)}(h:OtR E r U)(Y:r.2=0\/(r.1.2.err=0/\r.2≠7)):U=E.O:=by
 rcases h with x|⟨T,B,W,I,_⟩
 ·exact x
 ·exfalso
  rcases Y with y|⟨y,z⟩
  ·exact I y
  ·rw[W]at I y z
   unfold R4 at I y z
   split at I
   ·rename_i J
    rw[if_pos J]at z
    have X:(E7 (A0n E.s E.n E.N E.g (E8 T E.M)).1.1).2=0\/(E7 (A0n E.s E.n E.N E.g (E8 T E.M)).1.1).2=7:=by
     unfold E7
     split
     ·exact .inl rfl
     ·exact .inr rfl
    rcases X with e|e
    ·exact I e
    ·exact z e
   ·rename_i J
    rw[if_neg J]at y
    exact J y
end
end
section
open Go.RowKit Go.Maps
theorem Ow.sameH{H H':Nat->List Nat}{M:Nat}{P:Nat->Nat->Int}{R:Nat->Nat->List Nat}(h:Ow H M P R)(W:46<=M)(I:∀k,k<M->H' k=H k):Ow H' M P R:=by
 have J:D5 H' M=D5 H M:=by unfold D5;rw[I 1 (by omega)]
 refine⟨h.pt,h.nz,λi j hi U=>?_,h.inj,by rw[J];exact h.bit,by rw[J];exact h.cnt⟩
 have:=h.pt i j hi
 rw[I _ (by omega)]
 exact h.at_ i j hi U
theorem Rq.sameH{H H':Nat->List Nat}{M:Nat}{A:As}(h:Rq H M A)(J:∀k,k<M->H' k=H k):Rq H' M A:=by
 have W:=h.sw.sd.hM
 have hi:∀i,1<=i->i<=40->D3 H' i=D3 H i:=λi I U=>by unfold D3;rw[J (1+i) (by omega)]
 have Y:D5 H' M=D5 H M:=by unfold D5;rw[J 1 (by omega)]
 refine⟨⟨⟨W,λi I=>by rw[J i I];exact h.sw.sd.row i I,by rw[J 1 (by omega)];exact h.sw.sd.map,λi I U=>by rw[J (1+i) (by omega)];exact h.sw.sd.ino i I U⟩,by rw[Y];exact h.sw.low⟩,λi I U=>by rw[hi i I U];exact h.f i I U,?_,h.ok,by rw[J 0 (by omega)];exact h.rc⟩
 exact(h.ow.sameH W.1 J).congr (λi j X=>by show(D3 H' i).a j=_;rw[hi i X.1 X.2.1]) (λ_ _ _=>rfl)
structure Sto (w:World) (E:Ev) (k:Nat) (A:As):Prop where
 so:So w E
 lv:Lv E k
 on:E.s.fuse=none
 rq:Rq E.H E.M A
 tr:Tr A
structure B5i (E E':Ev):Prop where
 o:E'.o=E.o
 M:E'.M=E.M
 d:E'.d=E.d
 n:E'.n=E.n
 N:E'.N=E.N
theorem B5i.refl(E:Ev):B5i E E:=⟨rfl,rfl,rfl,rfl,rfl⟩
section
variable {w w':World} {E:Ev} {k:Nat} {A A':As}
theorem Sto.ok(h:Sto w E k A):OkA A:=⟨h.rq.ok,h.tr⟩
theorem Lv.mono(h:Lv E k):Lv E (k+3):=⟨h.hn,h.ar,by have:=h.nx;omega,by have:=h.gn;omega,h.O,h.Q⟩
theorem Lv.put(h:Lv E k)(F':Nat->Prop):Lv (E.at_ F' E.s E.g E.O) (k+3):=⟨h.hn,h.ar,h.mono.nx,h.mono.gn,h.O,h.Q⟩
theorem Sto.later(h:Sto w E k A):Sto w E (k+3) A:=⟨h.so,h.lv.mono,h.on,h.rq,h.tr⟩
theorem Sto.step{F':Nat->Prop}(h:Sto w E k A)(I:B1 B5 w F' w'):Sto w' E k A:=⟨h.so.step I,h.lv,h.on,h.rq,h.tr⟩
def Aft(w:World)(E:Ev)(k:Nat)(A':As)(w':World):Prop:=∃I,Sto w' I (k+3) A'/\B5i E I/\B1 (EO E) w (EO I) w'
theorem Sto.aft(h:Sto w E k A)(I:B1 B5 w B5 w'):Aft w E k A w':=⟨E,(h.step I).later,B5i.refl _,I.same (λ_ x=>x.elim)⟩
theorem Sto.done{s:CS}(h:Sto w E k A)(hk:k<=127)(hd:OdR w E (Q3 E s) w')(Z:(ChD E.H E.M s A'/\Tr A')\/(s.e=8/\A'=A)):Aft w E k A' w'/\(Q3 E s).2=s.e:=by
 obtain⟨F',W,I,J,h3⟩:=hd
 have aA:=h.lv.err
 rcases Z with⟨c1,c2⟩|⟨c1,c2⟩
 ·obtain⟨_,X,on,hl⟩:=h.lv.change hk h.on c1
  have U:W=E.O:=J.none (.inl X)
  rw[U]at I h3
  obtain⟨l1,l2⟩:=hl F'
  exact⟨⟨_,⟨I,l1,on,c1.rp.sameH l2,c2⟩,⟨rfl,rfl,rfl,rfl,rfl⟩,h3⟩,by rw[X,c1.e]⟩
 ·have Y:Q3 E s=((E.s,E.g),8):=by
   unfold Q3 B1M
   rw[if_neg (by rw[c1];decide),c1]
  rw[Y]at I J h3⊢
  have U:W=E.O:=J.none (.inr ⟨aA,(by decide:(8:Int)≠7)⟩)
  rw[U]at I h3
  rw[c2]
  exact⟨⟨_,⟨I,h.lv.put F',h.on,h.rq,h.tr⟩,⟨rfl,rfl,rfl,rfl,rfl⟩,h3⟩,c1.symm⟩
theorem Sto.lok{s:CS}(h:Sto w E k A)(J:k<=127)(I:ChD E.H E.M s A'\/s.e=8):LOk E s:=by
 rcases I with c|c
 ·exact(h.lv.change J h.on c).1
 ·intro e
  rw[e]at c
  cases c
theorem C3r(s:ByteArray):A0a [s]=if Nam s then 0 else 9:=by
 unfold A0a
 by_cases h:Nam s
 ·rw[if_pos h,if_pos (λt I=>by rw[List.mem_singleton.1 I];exact h)]
 ·rw[if_neg h,if_neg (λx=>h (x s (List.mem_singleton.2 rfl)))]
theorem C5h(s t:ByteArray):A0a [s,t]=if Nam s/\Nam t then 0 else 9:=by
 unfold A0a
 by_cases h:Nam s/\Nam t
 ·rw[if_pos h,if_pos (λu I=>by
   rcases List.mem_cons.1 I with e|e
   ·rw[e];exact h.1
   ·rw[List.mem_singleton.1 e];exact h.2)]
 ·rw[if_neg h,if_neg (λx=>h ⟨x s (by simp),x t (by simp)⟩)]
open Classical in
noncomputable def A0U(A:As)(M:Nat)(i g:Int)(s:ByteArray)(I:Int):As×(Int×Int)×Int:=
 if Nam s then
  if I=1\/I=2 then
   if V1 A i g 1=0 then
    if(Z2 (A.n i.toNat).l s).isSome=true then(A,(0,0),10)
    else match A2B A with
     |none=>(A,(0,0),8)
     |some j=>if 24<(T1 (A.n i.toNat).l ⟨s,((1+j:Nat):Int),(A.n (1+j)).g+1,I⟩).length\/M<(V5 A i s I j).use+42\/(A.n i.toNat).v=1099511627775 then(A,(0,0),8)
      else(V5 A i s I j,(((1+j:Nat):Int),(A.n (1+j)).g+1),0)
   else(A,(0,0),V1 A i g 1)
  else(A,(0,0),2)
 else(A,(0,0),9)
theorem A9c(A:As)(i g k:Int):V1 A i g k=0\/V1 A i g k=12\/V1 A i g k=14:=by
 unfold V1
 split
 ·split
  ·exact .inl rfl
  ·exact .inr (.inl rfl)
 ·exact .inr (.inr rfl)
theorem C3s{H:Nat->List Nat}{M:Nat}{i g:Int}{s:ByteArray}{I:Int}{j:Nat}(Y:U2 A i g)(U:ChD H M (B4Z H M i g s I) (V5 A i s I j)):
 ¬(24<(T1 (A.n i.toNat).l ⟨s,((1+j:Nat):Int),(A.n (1+j)).g+1,I⟩).length\/M<(V5 A i s I j).use+42\/(A.n i.toNat).v=1099511627775):=by
 obtain⟨Z,r2⟩:=N6 Y
 have J:=U.rp.ok i.toNat Z r2
 have aA:=U.rp.ow.cnt
 have X:(V5 A i s I j).n i.toNat=((A.n i.toNat).ls (T1 (A.n i.toNat).l ⟨s,((1+j:Nat):Int),(A.n (1+j)).g+1,I⟩)).inc:=by
  unfold V5
  simp only
  rw[As.up_at,As.up_at]
 rw[X]at J
 rintro(y|y|y)
 ·have W:(T1 (A.n i.toNat).l ⟨s,((1+j:Nat):Int),(A.n (1+j)).g+1,I⟩).length<=24:=J.few
  omega
 ·have h4:(V5 A i s I j).use=A0h (V5 A i s I j).R 40:=rfl
  omega
 ·have W:(A.n i.toNat).v+1<=1099511627775:=J.v
  omega
theorem Sto.create(h:Sto w E k A)(hk:k<=127)(i g:Int)(s:ByteArray)(I:Int)(hm:s.size<=maxLen):
 Calls Tryz.prog 36 #[.pointer (some ⟨E.o,0,none⟩),.agg #[.int .i64 i,.int .i64 g],.string s,.int .i64 I] w λr w'=>
  r= .returned (.tuple #[.agg #[.int .i64 (A0U A E.M i g s I).2.1.1,.int .i64 (A0U A E.M i g s I).2.1.2],.int .i64 (A0U A E.M i g s I).2.2])/\Aft w E k (A0U A E.M i g s I).1 w':=by
 obtain⟨f1,f2⟩:=h.rq.find i g s
 have hE:A8f E.H i g s I=if Nam s then(if I=1\/I=2 then(if fdE A i g s=11 then 0 else if fdE A i g s=0 then 10 else fdE A i g s)else 2)else 9:=by
  unfold A8f
  rw[C3r,f1]
  by_cases X:Nam s
  ·rw[if_pos X,if_pos rfl,if_pos X]
  ·rw[if_neg X,if_neg (by decide),if_neg X]
 have aD:A8f E.H i g s I=0->Nam s/\(I=1\/I=2)/\U2 A i g/\(A.n i.toNat).k=1/\Z2 (A.n i.toNat).l s=none:=λe=>by
  rw[hE]at e
  split at e
  ·rename_i a1
   split at e
   ·rename_i a2
    split at e
    ·rename_i J
     unfold fdE at J
     split at J
     ·rename_i Y
      split at J
      ·cases J
      ·rename_i a5
       obtain⟨o1,o2⟩:=Z1 Y
       exact⟨a1,a2,o1,o2,by simpa using a5⟩
     ·rename_i Y
      rcases A9c A i g 1 with y|y|y
      ·exact absurd y Y
      ·rw[y]at J;cases J
      ·rw[y]at J;cases J
    ·split at e
     ·cases e
     ·rename_i J;exact absurd e J
   ·cases e
  ·cases e
 refine(B91 h.so h.rq.sw i g s I hm (λe=>?_)).mono λr w' hr=>?_
 ·obtain⟨a1,a2,J,Y,a5⟩:=aD e
  refine h.lok (A':=match A2B A with|none=>A|some j=>V5 A i s I j) hk ?_
  rcases h.rq.cre J Y a1 a2 with⟨j,Z,U⟩|⟨U,_⟩
  ·rw[Z];exact .inl U
  ·exact .inr U
 ·rcases hr with⟨W,e2,e3⟩|⟨W,e2,e3⟩
  ·have hv:A0U A E.M i g s I=(A,(0,0),A8f E.H i g s I):=by
    rw[hE]at W⊢
    unfold A0U
    by_cases X:Nam s
    ·rw[if_pos X]at W⊢
     rw[if_pos X]
     by_cases aB:I=1\/I=2
     ·rw[if_pos aB]at W⊢
      rw[if_pos aB]
      unfold fdE at W⊢
      by_cases ho:V1 A i g 1=0
      ·rw[if_pos ho]at W⊢
       rw[if_pos ho]
       by_cases hf:(Z2 (A.n i.toNat).l s).isSome=true
       ·rw[if_pos hf,if_pos hf]
        rfl
       ·rw[if_neg hf]at W
        exact absurd rfl W
      ·rw[if_neg ho,if_neg ho]
       rcases A9c A i g 1 with y|y|y
       ·exact absurd y ho
       ·rw[y];rfl
       ·rw[y];rfl
     ·rw[if_neg aB,if_neg aB]
    ·rw[if_neg X,if_neg X]
   rw[hv]
   exact⟨e2,h.aft e3⟩
  ·obtain⟨a1,a2,J,Y,a5⟩:=aD W
   have aF:¬(Z2 (A.n i.toNat).l s).isSome=true:=by rw[a5];decide
   have hv:A0U A E.M i g s I=match A2B A with
    |none=>(A,(0,0),8)
    |some j=>if 24<(T1 (A.n i.toNat).l ⟨s,((1+j:Nat):Int),(A.n (1+j)).g+1,I⟩).length\/E.M<(V5 A i s I j).use+42\/(A.n i.toNat).v=1099511627775 then(A,(0,0),8)
     else(V5 A i s I j,(((1+j:Nat):Int),(A.n (1+j)).g+1),0):=by
    unfold A0U
    rw[if_pos a1,if_pos a2,if_pos (A76 J Y),if_neg aF]
   rcases h.rq.cre J Y a1 a2 with⟨j,Z,U⟩|⟨U,aE⟩
   ·obtain⟨b1,b2⟩:=h.done (A':=V5 A i s I j) hk e3 (.inl ⟨U,Tr.cre h.ok J a5 Z⟩)
    have aC:A0U A E.M i g s I=(V5 A i s I j,(((1+j:Nat):Int),(A.n (1+j)).g+1),0):=by
     rw[hv,Z]
     exact if_neg (C3s J U)
    rw[aC]
    refine⟨?_,b1⟩
    rw[e2]
    have aA:(Q3 E (A8g E i g s I)).2=0:=b2.trans U.e
    unfold B6P
    rw[if_pos aA,aA,show addF E.H=_ from Rq.addF (s:=⟨E.H,0⟩) h.rq Z]
   ·obtain⟨b1,b2⟩:=h.done (A':=A) hk e3 (.inr ⟨U,rfl⟩)
    have aC:A0U A E.M i g s I=(A,(0,0),8):=by
     rw[hv]
     cases Z:A2B A with
     |none=>rfl
     |some j=>exact if_pos (aE j Z)
    rw[aC]
    refine⟨?_,b1⟩
    rw[e2]
    have aA:(Q3 E (A8g E i g s I)).2=8:=b2.trans U
    unfold B6P
    rw[if_neg (by rw[aA];decide),aA]
open Classical in
noncomputable def A2H(A:As)(i g:Int)(s:ByteArray):As×Int:=
 if Nam s then
  if fdE A i g s=0 then
   if(A.n (fdX A i g s).i.toNat).l=[]then
    if(A.n i.toNat).v=1099511627775 then(A,8)else(A05 A i s (fdX A i g s),0)
   else(A,13)
  else(A,fdE A i g s)
 else(A,9)
theorem A7A{i g:Int}{s:ByteArray}(e:fdE A i g s=0):U2 A i g/\(A.n i.toNat).k=1/\Z2 (A.n i.toNat).l s=some (fdX A i g s):=by
 unfold fdE at e
 split at e
 ·rename_i I
  obtain⟨W,X⟩:=Z1 I
  split at e
  ·rename_i J
   refine⟨W,X,?_⟩
   unfold fdX
   rw[if_pos I]
   obtain⟨x,U⟩:=Option.isSome_iff_exists.1 J
   rw[U]
   rfl
  ·cases e
 ·rename_i I;exact absurd e I
theorem Sto.remove(h:Sto w E k A)(hk:k<=127)(i g:Int)(s:ByteArray)(hm:s.size<=maxLen):
 Calls Tryz.prog 33 #[.pointer (some ⟨E.o,0,none⟩),.agg #[.int .i64 i,.int .i64 g],.string s] w λr w'=>
  r= .returned (.int .i64 (A2H A i g s).2)/\Aft w E k (A2H A i g s).1 w':=by
 obtain⟨f1,f2⟩:=h.rq.find i g s
 have aC:fdE A i g s=0->mfE E.H (fdX A i g s)=if(A.n (fdX A i g s).i.toNat).l.length=0 then 0 else 13:=λe=>by
  obtain⟨W,I,U⟩:=A7A e
  obtain⟨r1,r2⟩:=N6 W
  have hx:=(Y1 U).1
  exact B95 h.rq (h.ok.okE r1 r2 hx).2.2.2 (h.tr.ent _ _ r1 r2 hx).1
 have hE:A8e E.H i g s=if Nam s then(if fdE A i g s=0 then(if(A.n (fdX A i g s).i.toNat).l.length=0 then 0 else 13)else fdE A i g s)else 9:=by
  unfold A8e
  rw[C3r,f1,f2]
  by_cases X:Nam s
  ·rw[if_pos X,if_pos rfl,if_pos X]
   by_cases e:fdE A i g s=0
   ·rw[if_pos e,if_pos e,aC e]
   ·rw[if_neg e,if_neg e]
  ·rw[if_neg X,if_neg (by decide),if_neg X]
 have hS:B3A E i g s=A77 E.H E.M i g s (fdX A i g s):=by
  unfold B3A A77
  rw[f2]
 have aA:A8e E.H i g s=0->Nam s/\fdE A i g s=0/\(A.n (fdX A i g s).i.toNat).l=[]:=λe=>by
  rw[hE]at e
  split at e
  ·rename_i W
   split at e
   ·rename_i I
    split at e
    ·rename_i U;exact⟨W,I,List.eq_nil_of_length_eq_zero U⟩
    ·cases e
   ·rename_i I;exact absurd e I
  ·cases e
 have aB:fdE A i g s=0->(A.n (fdX A i g s).i.toNat).l=[]->(ChD E.H E.M (A77 E.H E.M i g s (fdX A i g s)) (A05 A i s (fdX A i g s))\/((A77 E.H E.M i g s (fdX A i g s)).e=8/\(A.n i.toNat).v=1099511627775))/\Tr (A05 A i s (fdX A i g s)):=λe Z=>by
  obtain⟨W,I,U⟩:=A7A e
  obtain⟨r1,r2⟩:=N6 W
  have hx:=(Y1 U).1
  have aD:i.toNat≠(fdX A i g s).i.toNat:=λe2=>by
   rw[<-e2]at Z
   rw[Z]at hx
   simp at hx
  exact⟨h.rq.rem W I s (h.ok.okE r1 r2 hx).2.2.2 aD,Tr.rem h.ok W U Z⟩
 refine(B9z h.so h.rq.sw i g s hm (λe=>?_)).mono λr w' hr=>?_
 ·obtain⟨W,I,U⟩:=aA e
  rw[hS]
  refine h.lok (A':=A05 A i s (fdX A i g s)) hk ?_
  rcases(aB I U).1 with J|⟨J,_⟩
  ·exact .inl J
  ·exact .inr J
 ·rw[hS]at hr
  rcases hr with⟨Y,e2,e3⟩|⟨Y,e2,e3⟩
  ·have hv:A2H A i g s=(A,A8e E.H i g s):=by
    rw[hE]at Y⊢
    unfold A2H
    by_cases X:Nam s
    ·rw[if_pos X]at Y⊢
     rw[if_pos X]
     by_cases e:fdE A i g s=0
     ·rw[if_pos e]at Y⊢
      rw[if_pos e]
      by_cases Z:(A.n (fdX A i g s).i.toNat).l=[]
      ·rw[Z]at Y
       exact absurd rfl Y
      ·rw[if_neg Z,if_neg (λy=>Z (List.eq_nil_of_length_eq_zero y))]
     ·rw[if_neg e,if_neg e]
    ·rw[if_neg X,if_neg X]
   rw[hv]
   exact⟨e2,h.aft e3⟩
  ·obtain⟨W,I,U⟩:=aA Y
   obtain⟨J,ht⟩:=aB I U
   have hv:A2H A i g s=if(A.n i.toNat).v=1099511627775 then(A,8)else(A05 A i s (fdX A i g s),0):=by
    unfold A2H
    rw[if_pos W,if_pos I,if_pos U]
   rcases J with J|⟨J,aF⟩
   ·obtain⟨b1,b2⟩:=h.done (A':=A05 A i s (fdX A i g s)) hk e3 (.inl ⟨J,ht⟩)
    have aE:¬(A.n i.toNat).v=1099511627775:=λy=>by
     obtain⟨c1,_,_⟩:=A7A I
     obtain⟨r1,r2⟩:=N6 c1
     have aG:=(J.rp.ok i.toNat r1 r2).v
     have hD:((A05 A i s (fdX A i g s)).n i.toNat).v=(A.n i.toNat).v+1:=by
      unfold A05
      simp only
      rw[As.up_at,As.up_at]
      rfl
     omega
    rw[hv,if_neg aE]
    exact⟨by rw[e2,b2,J.e],b1⟩
   ·obtain⟨b1,b2⟩:=h.done (A':=A) hk e3 (.inr ⟨J,rfl⟩)
    rw[hv,if_pos aF]
    exact⟨by rw[e2,b2,J],b1⟩
end
end
end Go.Proofs.YtbefmjiclpobjaaGreat
