import Derived.Test.YtbefmjiclpobjaaGreatMh29
import Derived.Test.YtbefmjiclpobjaaGreatMh28
import Derived.Test.YtbefmjiclpobjaaGreatMh08
namespace Go.Proofs.YtbefmjiclpobjaaGreat
set_option maxHeartbeats 3200000
set_option maxRecDepth 3000
section
open Go.RowKit
def Nd.inc(x:Nd):Nd:=⟨x.k,x.g,x.v+1,x.b,x.l⟩
def Nd.ls(x:Nd)(l:List En):Nd:=⟨x.k,x.g,x.v,x.b,l⟩
def Nd.bk(x:Nd)(b:Nat->ByteArray):Nd:=⟨x.k,x.g,x.v,b,x.l⟩
def noB:Nat->ByteArray:=λ_=>⟨#[]⟩
def Nd.gone(g:Int):Nd:=⟨0,g,0,noB,[]⟩
def Nd.new(k g:Int):Nd:=⟨k,g,1,noB,[]⟩
theorem A3T(s:CS):s.note 0=s:=by
 show(⟨s.H,L7 s.e 0⟩:CS)=s
 unfold L7
 split
 ·rename_i h;cases s;cases h;rfl
 ·rfl
theorem A8o{s:CS}(h:s.e=0)(e:Int):(s.note e).e=e:=by
 show L7 s.e e=e
 rw[h];rfl
theorem A3U:R0 []:=λk e h=>by simp at h
theorem C0H{l:List En}(h:Ris l)(U:∀e∈l,okE e):R0 l:=λk e I=>by
 refine⟨U e (List.mem_of_getElem? I),λd V J=>?_⟩
 exact h.lt J I (by omega)
theorem B7h{l:List En}(h:R0 l){e:En}(I:okE e):R0 (R3 l e):=
 C0H ((B90 h).put e) λx J=>by
  rcases B8x J with y|y
  ·exact h.all x y
  ·rw[y];exact I
theorem OkN.gone{g:Int}(h:0<=g/\g<=2147483647):OkN (Nd.gone g):=
 ⟨.inl rfl,h,Nat.zero_le _,λ_=>rfl,λ_=>Nat.zero_le _,λ_ _=>rfl,A3U,Nat.zero_le _,λ_=>rfl⟩
theorem OkN.new{k g:Int}(I:k=1\/k=2)(h:0<=g/\g<=2147483647):OkN (Nd.new k g):=
 ⟨.inr I,h,by show 1<=1099511627775;decide,λx=>by have:k=0:=x;omega,λ_=>Nat.zero_le _,λ_ _=>rfl,A3U,Nat.zero_le _,λ_=>rfl⟩
theorem OkN.inc{x:Nd}(h:OkN x)(I:x.k≠0)(hv:x.v≠1099511627775):OkN x.inc:=
 ⟨h.k,h.g,by have:=h.v;show x.v+1<=_;omega,λe=>absurd e I,h.b,h.nob,h.rise,h.few,h.nol⟩
theorem OkN.ls{x:Nd}(h:OkN x)(J:x.k=1){l:List En}(U:R0 l)(I:l.length<=24):OkN (x.ls l):=
 ⟨h.k,h.g,h.v,h.fr,h.b,h.nob,U,I,λe=>absurd J e⟩
theorem OkN.bk{x:Nd}(h:OkN x)(J:x.k=2){b:Nat->ByteArray}(I:∀j,(b j).size<=64):OkN (x.bk b):=
 ⟨h.k,h.g,h.v,h.fr,I,λe=>absurd J e,h.rise,h.few,h.nol⟩
theorem B7i:K9 ⟨#[]⟩=[]:=rfl
theorem B0g(k g:Int)(j:Nat):P5 (Nd.new k g) j=[]:=by
 unfold P5 Nd.new
 split
 ·have:(E0 []).getD j []=[]:=by
   rw[List.getD_eq_getElem?_getD,List.getElem?_eq_none (by rw[N3];exact Nat.zero_le _)]
   rfl
  exact this
 ·split
  ·exact B7i
  ·rfl
theorem B8Y{x:Nd}(I:x.k=1)(l:List En)(j:Nat):P5 (x.ls l) j=(E0 l).getD j []:=if_pos I
theorem B8Z{x:Nd}(I:x.k=1)(j:Nat):P5 x j=(E0 x.l).getD j []:=if_pos I
theorem A4K{x:Nd}(I:x.k=2)(j:Nat):P5 x j=K9 (x.b j):=by
 unfold P5
 rw[if_neg (by omega),if_pos I]
theorem A8p{x:Nd}(I:x.k=2)(b:Nat->ByteArray)(j:Nat):P5 (x.bk b) j=K9 (b j):=A4K (x:=x.bk b) I j
theorem A8q{f g:Nat->List Nat}{j:Nat}:∀{n:Nat},(∀b,b<n->T5 (f b)<=T5 (g b))->j<n->T5 (f j)<T5 (g j)->Q6 f n<Q6 g n
 |n+1,h,hj,hl=>by
  show Q6 f n+T5 (f n)<Q6 g n+T5 (g n)
  have J:=h n (by omega)
  by_cases e:j=n
  ·subst e
   have:Q6 f j<=Q6 g j:=by
    have I:∀m,m<=j->Q6 f m<=Q6 g m:=λm=>by
     induction m with
     |zero=>intro _;exact Nat.le_refl _
     |succ m ih=>intro V;have:=ih (by omega);have:=h m (by omega);show Q6 f m+_<=Q6 g m+_;omega
    exact I j (Nat.le_refl _)
   omega
  ·have:=A8q (n:=n) (λb U=>h b (by omega)) (by omega) hl
   omega
theorem A5X{R S:Nat->Nat->List Nat}{i:Nat}(I:∀a b,a≠i->S a b=R a b)(J:1<=i):∀{n:Nat},i<=n->V9 S n+Q6 (R i) 8=V9 R n+Q6 (S i) 8
 |0,h=>by omega
 |n+1,h=>by
  show V9 S n+Q6 (S (n+1)) 8+Q6 (R i) 8=V9 R n+Q6 (R (n+1)) 8+Q6 (S i) 8
  by_cases hi:i=n+1
  ·subst hi
   rw[V1 (R:=S) (S:=R) (λa b _ U _=>I a b (by omega))]
   omega
  ·rw[A0d (f:=S (n+1)) (g:=R (n+1)) (λb _=>I (n+1) b (by omega))]
   have:=A5X I J (n:=n) (by omega)
   omega
theorem B1C(A:As){i:Nat}(hi:1<=i/\i<=40)(y:Nd):(A.up i y).use+Q6 (P5 (A.n i)) 8=A.use+Q6 (P5 y) 8:=by
 have:=A5X (R:=A.R) (S:=(A.up i y).R) (i:=i) (λa b I=>by show P5 _ b=_;rw[As.up_ne _ _ I];rfl) hi.1 hi.2
 have e:(A.up i y).R i=P5 y:=by
  funext b
  show P5 ((A.up i y).n i) b=_
  rw[As.up_at]
 rw[e]at this
 exact this
theorem B7j{A:As}{i M j:Nat}{bs:List (List Nat)}{y:Nd}(hi:1<=i/\i<=40)(Z:∀j,j<8->P5 y j=bs.getD j [])(J:j<8)(V:bs.getD j []≠[])(h3:V9 (A62 A.R i j bs) 40+42=M)(U:∀b,j<=b->b<8->P5 (A.n i) b=[]):M<(A.up i y).use+42:=by
 have h:=A5X (R:=A62 A.R i j bs) (S:=(A.up i y).R) (i:=i) (n:=40) (λa b X=>by
  show P5 ((A.up i y).n a) b=if a=i/\b<j then _ else _
  rw[As.up_ne _ _ X,if_neg (by omega)]
  rfl) hi.1 hi.2
 have e:∀b,b<8->(A.up i y).R i b=bs.getD b []:=λb I=>by
  show P5 ((A.up i y).n i) b=_
  rw[As.up_at,Z b I]
 have aA:=A8q (f:=A62 A.R i j bs i) (g:=(A.up i y).R i) (j:=j) (n:=8) (λb I=>by
  rw[e b I]
  show T5 (if i=i/\b<j then _ else A.R i b)<=_
  by_cases Y:b<j
  ·rw[if_pos ⟨rfl,Y⟩];exact Nat.le_refl _
  ·rw[if_neg (by omega),show A.R i b=[]from U b (by omega) I]
   exact Nat.zero_le _) J (by
  rw[e j J,A1Q V]
  show T5 (if i=i/\j<j then _ else A.R i j)<1
  rw[if_neg (by omega),show A.R i j=[]from U j (Nat.le_refl _) J]
  decide)
 unfold As.use
 omega
theorem A0C{A:As}{i g:Int}(h:thA A i g):1<=i.toNat/\i.toNat<=40:=by unfold thA at h;omega
section
variable {s:CS} {M:Nat} {A:As} {i g:Int}
theorem Rq.touch_full(h:Rq s.H M A)(J:s.e=0)(I:thA A i g)(hv:(A.n i.toNat).v=1099511627775):(s.touch i g).e=8:=by
 obtain⟨U,V⟩:=A0C I
 unfold CS.touch
 rw[h.fileE,if_pos I,h.fileX I,(h.f _ U V).2.2,if_pos hv,A3T]
 have:(s.note 8).e=8:=A8o J 8
 rw[A2C (by rw[this];decide),this]
theorem Rq.touch(h:Rq s.H M A)(Z:s.e=0)(I:thA A i g)(hv:(A.n i.toNat).v≠1099511627775):(s.touch i g).e=0/\Rq (s.touch i g).H M (A.up i.toNat (A.n i.toNat).inc)/\Dif s.H (s.touch i g).H [1+i.toNat]:=by
 obtain⟨J,U⟩:=A0C I
 obtain⟨X,Y,V⟩:=h.f _ J U
 unfold CS.touch
 rw[h.fileE,if_pos I,h.fileX I,V,if_neg hv,A3T]
 exact h.reset Z ⟨J,U⟩ ((h.ok _ J U).inc (by unfold thA at I;exact I.2.2.1) hv) (λ_ _=>rfl) X Y (by show(C9 s.H i.toNat).v+1=_;rw[V];rfl) (λ_ _=>rfl)
theorem Rq.seten(h:Rq s.H M A)(he:s.e=0)(U:thA A i g)(hk:(A.n i.toNat).k=1){l:List En}(hl:R0 l):
 ((s.setEn M i g l).e=0/\l.length<=24/\Rq (s.setEn M i g l).H M (A.up i.toNat ((A.n i.toNat).ls l))/\∃K:List Nat,K.length<=5/\Dif s.H (s.setEn M i g l).H (1::(1+i.toNat)::K))\/
 ((s.setEn M i g l).e=8/\(24<l.length\/M<(A.up i.toNat ((A.n i.toNat).ls l)).use+42)):=by
 obtain⟨V,X⟩:=A0C U
 obtain⟨f1,f2,f3⟩:=h.f _ V X
 by_cases I:l.length<=24
 ·have J:=B6g hl I
  unfold CS.setEn
  rw[J,A3T,h.fileE,if_pos U,A3T,h.fileX U,B24 J]
  have aA:∀j,j<8->P5 ((A.n i.toNat).ls l) j=(E0 l).getD j []:=λj _=>B8Y hk l j
  rcases h.refill (i:=i.toNat) (x:=C9 s.H i.toNat) (bs:=E0 l) (y:=(A.n i.toNat).ls l) (z:=s.fillX M (C9 s.H i.toNat) (E0 l)) he ⟨V,X⟩ (λ_ _=>rfl) (A0k l) ((h.ok _ V X).ls hk hl I) aA f1 f2 f3 (λ_ _=>rfl)with⟨Y,e2,K,hK,e3⟩|⟨Y,j,hj,j1,j2,j3⟩
  ·exact .inl ⟨Y,I,e2,K,by have:=B7g I;omega,e3⟩
  ·refine .inr ⟨Y,.inr (B7j ⟨V,X⟩ aA hj j2 j3 (λb aB aC=>?_))⟩
   rw[B8Z hk]at j1⊢
   have aD:(E0 (A.n i.toNat).l).length<=j:=by
    rcases Nat.lt_or_ge j (E0 (A.n i.toNat).l).length with y|y
    ·rw[List.getD_eq_getElem?_getD,List.getElem?_eq_getElem y]at j1
     exact absurd j1 (A5V _ _ (List.getElem_mem y))
    ·exact y
   rw[List.getD_eq_getElem?_getD,List.getElem?_eq_none (by omega)]
   rfl
 ·refine .inr ⟨?_,.inl (by omega)⟩
  have J:=A7T hl (by omega)
  unfold CS.setEn
  rw[J,h.fileE,if_pos U,A3T]
  have Z:(s.note 8).e=8:=A8o he 8
  show(CS.set (fl M _ _ (s.note 8) 8).1 _ _).e=8
  rw[B7c (by rw[Z];decide),A2C (by rw[Z];decide),Z]
theorem Rq.enter(h:Rq s.H M A)(Y:s.e=0)(I:thA A i g)(U:(A.n i.toNat).k=1){x:En}(hx:okE x):
 ((s.enter M i g x).e=0/\(R3 (A.n i.toNat).l x).length<=24/\Rq (s.enter M i g x).H M (A.up i.toNat ((A.n i.toNat).ls (R3 (A.n i.toNat).l x)))/\∃K:List Nat,K.length<=5/\Dif s.H (s.enter M i g x).H (1::(1+i.toNat)::K))\/
 ((s.enter M i g x).e=8/\(24<(R3 (A.n i.toNat).l x).length\/M<(A.up i.toNat ((A.n i.toNat).ls (R3 (A.n i.toNat).l x))).use+42)):=by
 obtain⟨r1,r2⟩:=A0C I
 obtain⟨V,X⟩:=h.ents i g
 have J:ofA A i g 1=0:=by unfold ofA;rw[if_pos I,if_pos U]
 have Z:lsA A i g=(A.n i.toNat).l:=by unfold lsA;rw[if_pos J]
 unfold CS.enter
 rw[V,X,J,A3T,Z]
 exact h.seten Y I U (B7h (h.ok _ r1 r2).rise hx)
def A12(A:As):Option Nat:=(List.range 40).find? (λj=>decide ((A.n (1+j)).k=0/\(A.n (1+j)).g<2147483647))
theorem Rq.addO(h:Rq s.H M A):addO s.H=A12 A:=by
 unfold Go.Proofs.YtbefmjiclpobjaaGreat.addO A12
 have:∀(l:List Nat),(∀j∈l,j<40)->l.find? (λj=>decide (A1Y s.H j))=l.find? (λj=>decide ((A.n (1+j)).k=0/\(A.n (1+j)).g<2147483647)):=λl=>by
  induction l with
  |nil=>intro _;rfl
  |cons j l ih=>
   intro I
   obtain⟨J,U,_⟩:=h.f (1+j) (by omega) (by have:=I j List.mem_cons_self;omega)
   have e:decide (A1Y s.H j)=decide ((A.n (1+j)).k=0/\(A.n (1+j)).g<2147483647):=decide_eq_decide.2 (by unfold A1Y;rw[J,U])
   rw[List.find?_cons,List.find?_cons,e,ih (λk X=>I k (List.mem_cons_of_mem _ X))]
 exact this _ (λj V=>List.mem_range.1 V)
theorem A1R{j:Nat}(h:A12 A=some j):j<40/\(A.n (1+j)).k=0/\(A.n (1+j)).g<2147483647:=by
 unfold A12 at h
 have I:=List.find?_some h
 have J:=List.mem_of_find?_eq_some h
 exact⟨List.mem_range.1 J,by simpa using I⟩
theorem Rq.add(h:Rq s.H M A)(Y:s.e=0){I:Int}(Z:I=1\/I=2){j:Nat}(U:A12 A=some j):
 (s.add I).e=0/\Rq (s.add I).H M (A.up (1+j) (Nd.new I ((A.n (1+j)).g+1)))/\Dif s.H (s.add I).H [2+j]:=by
 obtain⟨j1,j2,j3⟩:=A1R U
 obtain⟨f1,X,f3⟩:=h.f (1+j) (by omega) (by omega)
 have aA:=h.ok (1+j) (by omega) (by omega)
 unfold CS.add
 rw[h.addO,U]
 have V:∀b,b<8->P5 (A.n (1+j)) b=[]:=λb _=>by unfold P5;rw[j2];rfl
 obtain⟨a,b,c⟩:=h.reset (i:=1+j) (y:=Nd.new I ((A.n (1+j)).g+1)) (z:=mkI I (C9 s.H (1+j)).g) Y ⟨by omega,by omega⟩ (OkN.new Z (by have:=aA.g;omega)) (λb J=>by rw[B0g,V b J]) rfl (by show(C9 s.H (1+j)).g+1=_;rw[X];rfl) rfl (λb J=>((h.ow.nz (1+j) b ⟨by omega,by omega,J⟩).2 (V b J)).symm)
 exact⟨a,b,by rw[show 2+j=1+(1+j)by omega];exact c⟩
theorem Rq.addF(h:Rq s.H M A){j:Nat}(I:A12 A=some j):addF s.H=(((1+j:Nat):Int),(A.n (1+j)).g+1):=by
 obtain⟨J,_⟩:=A1R I
 unfold Go.Proofs.YtbefmjiclpobjaaGreat.addF
 rw[h.addO,I]
 show(((1+j:Nat):Int),(C9 s.H (1+j)).g+1)=_
 rw[(h.f (1+j) (by omega) (by omega)).2.1]
theorem Rq.add_none(h:Rq s.H M A)(I:s.e=0)(U:Int)(J:A12 A=none):(s.add U).e=8:=by
 unfold CS.add
 rw[h.addO,J]
 exact A8o I 8
theorem Rq.write1(h:Rq s.H M A)(he:s.e=0)(ht:thA A i g)(I:(A.n i.toNat).k=2){j:Nat}(hj:j<8){d:ByteArray}(hd:d.size<=64){z:L6}(U:z=atX (C9 s.H i.toNat) (λb=>if b=j then s.placeI M ((C9 s.H i.toNat).a j) (K9 d)else(C9 s.H i.toNat).a b)):
 (((s.place M ((C9 s.H i.toNat).a j) (K9 d)).set i.toNat z).e=0/\Rq ((s.place M ((C9 s.H i.toNat).a j) (K9 d)).set i.toNat z).H M (A.up i.toNat ((A.n i.toNat).bk (λb=>if b=j then d else(A.n i.toNat).b b)))/\∃K:List Nat,K.length<=1/\Dif s.H ((s.place M ((C9 s.H i.toNat).a j) (K9 d)).set i.toNat z).H (1::(1+i.toNat)::K))\/
 (((s.place M ((C9 s.H i.toNat).a j) (K9 d)).set i.toNat z).e=8/\M<(A.up i.toNat ((A.n i.toNat).bk (λb=>if b=j then d else(A.n i.toNat).b b))).use+42):=by
 obtain⟨X,Y⟩:=A0C ht
 obtain⟨f1,f2,f3⟩:=h.f _ X Y
 have aC:=h.ok _ X Y
 have aD:K9 d=[]\/((K9 d).length=128/\∀y∈K9 d,y<256):=by
  by_cases h0:d.size=0
  ·exact .inl (if_pos h0)
  ·exact .inr ⟨A0n (by omega) (by omega),A8e (by omega)⟩
 have aA:In8 i.toNat j:=⟨X,Y,hj⟩
 rcases h.ow.place h.sw he aA aD with⟨p1,V,J,p4⟩|⟨p1,V,J,p4⟩
 ·have aE:=A5L (s:=s) h.sw (h.ow.pt _ _ aA) aD
  obtain⟨Z,aI⟩:∃Z,Z=s.place M ((C9 s.H i.toNat).a j) (K9 d):=⟨_,rfl⟩
  obtain⟨a1,aF⟩:∃a1,a1=s.placeI M ((C9 s.H i.toNat).a j) (K9 d):=⟨_,rfl⟩
  rw[<-aI]at p1 V J p4 aE⊢
  rw[<-aF]at V p4 U
  obtain⟨h1,h2⟩:=Rq.core (s:=Z) (i:=i.toNat) (A:=A) (y:=(A.n i.toNat).bk (λb=>if b=j then d else(A.n i.toNat).b b)) (z:=z) p1 aE (λk k1 k2 _=>by rw[Rq.ino_low J k1 k2];exact⟨h.f k k1 k2,h.ok k k1 k2⟩) V (λk b I aH=>by
   rw[Rq.ino_low J I.1 I.2.1,R1 _ _ (by omega)]) (λk b I aH=>by rw[R1 _ _ (by omega)];rfl) (by rw[J 0 (by omega) (by omega)];exact h.rc) ⟨X,Y⟩ (aC.bk I (λb=>by
   show(if b=j then d else _).size<=64
   split
   ·exact hd
   ·exact aC.b b)) (λb hb=>by
   rw[A8p I]
   show _=K9 (if b=j then d else(A.n i.toNat).b b)
   by_cases e:b=j
   ·rw[if_pos e,e,U9]
   ·rw[if_neg e,R1 _ _ (by omega)]
    exact A4K I b) (by rw[U];exact f1) (by rw[U];exact f2) (by rw[U];exact f3) (λb hb=>by
   rw[U]
   show(if b=j then a1 else _)=_
   by_cases e:b=j
   ·rw[if_pos e,e,U9]
   ·rw[if_neg e,R1 _ _ (by omega)])
  rw[h1]
  refine .inl ⟨rfl,h2,[a1.toNat],Nat.le_refl _,λk I=>?_⟩
  by_cases e:k=1+i.toNat
  ·rw[e];exact List.mem_cons_of_mem _ List.mem_cons_self
  ·have aG:Z.H k≠s.H k:=by rw[<-E7 Z.H (secI z) e];exact I
   rcases p4 k aG with x|⟨_,x⟩
   ·rw[x];exact List.mem_cons_self
   ·exact List.mem_cons_of_mem _ (List.mem_cons_of_mem _ (List.mem_cons.2 (.inl (by omega))))
 ·have h8:(s.place M ((C9 s.H i.toNat).a j) (K9 d)).e=8:=p1
  rw[A2C (by rw[h8];decide),h8]
  refine .inr ⟨rfl,?_⟩
  have h1:=B1C A ⟨X,Y⟩ ((A.n i.toNat).bk (λb=>if b=j then d else(A.n i.toNat).b b))
  have aB:P5 (A.n i.toNat) j=[]:=(h.ow.nz i.toNat j aA).1 V
  have h2:=A8q (f:=P5 (A.n i.toNat)) (g:=P5 ((A.n i.toNat).bk (λb=>if b=j then d else(A.n i.toNat).b b))) (j:=j) (n:=8) (λb _=>by
   by_cases e:b=j
   ·rw[e,aB];exact Nat.zero_le _
   ·rw[A4K I,A8p I]
    show _<=T5 (K9 (if b=j then d else _))
    rw[if_neg e]
    exact Nat.le_refl _) hj (by
   rw[aB,A8p I]
   show _<T5 (K9 (if j=j then d else _))
   rw[if_pos rfl,A1Q J]
   decide)
  have h3:=h.ow.cnt
  have h4:A.use=V9 A.R 40:=rfl
  omega
end
end
section
open Go.RowKit
structure Sx (H:Nat->List Nat) (M:Nat):Prop where
 hM:46<=M/\M<=1024
 row:∀i,i<M->(H i).length=128/\∀x∈H i,x<256
open Classical in
noncomputable def A3o(H:Nat->List Nat)(M:Nat):Int:=if A0s (H 1) (M:Int)then 0 else 4
def A5Y(H:Nat->List Nat):Int:=match (List.range 40).find? (λj=>decide (eI (H (2+j))≠0))with|some j=>eI (H (2+j))|none=>0
noncomputable def A2o(H:Nat->List Nat)(M:Nat):Int:=if A3o H M=0 then A5Y H else A3o H M
theorem B1D{H:Nat->List Nat}{j:Nat}(I:j<40)(h:eI (H (2+j))≠0)(J:∀i,i<j->eI (H (2+i))=0):A5Y H=eI (H (2+j)):=by
 have:(List.range 40).find? (λj=>decide (eI (H (2+j))≠0))=some j:=by
  rw[List.find?_range_eq_some]
  exact⟨by simpa using h,by simpa using I,λi hi=>by simpa using J i hi⟩
 unfold A5Y
 rw[this]
theorem A5Z{H:Nat->List Nat}(I:∀i,i<40->eI (H (2+i))=0):A5Y H=0:=by
 have:(List.range 40).find? (λj=>decide (eI (H (2+j))≠0))=none:=by
  rw[List.find?_eq_none]
  intro i hi
  have:=I i (by simpa using hi)
  simpa using this
 unfold A5Y
 rw[this]
section
variable {p M:Nat} {H:Nat->List Nat} {w:World}
theorem B9a(h:Rdv w p M H)(I:Sx H M):Calls Tryz.prog 99 #[.pointer (some ⟨p,0,none⟩)] w λe w'=>∃v,e= .returned (.tuple #[v,.int .i64 (A3o H M)])/\A8 B0 w B0 w':=by
 have HH:=C3t (h.home _ _ (A8.refl B0 w) 1 (by have:=I.hM;omega))
 have HV:=C3t h
 have U:=C3t (λV (v:Value) (a:In V v (H 1))=>(A9q v (H 1) (M:Int) V a).mono (R':=λe w'=>∃v,e= .returned (.tuple #[v,.int .i64 (A3o H M)])/\A8 B0 V B0 w') (λe w' y=>by
  rcases y with⟨ok,d,J,_,y3⟩|⟨no,J,y2⟩
  ·exact⟨_,by unfold A3o;rw[if_pos ok];exact J,y3.none_⟩
  ·refine⟨.pointer none,?_,y2⟩
   unfold A3o
   rw[if_neg no]
   rw[if_neg (by have:=I.hM;omega)]at J
   exact J))
 have Z:=C3t (show∀x∈H 1,x<256 from(I.row 1 (by have:=I.hM;omega)).2)
 obtain⟨X,hX⟩:∃X,X=H 1:=⟨_,rfl⟩
 obtain⟨er,aA⟩:∃er,er=A3o H M:=⟨_,rfl⟩
 rw[<-hX]at HH U Z
 rw[<-aA]at U⊢
 clear hX h I aA
 go_enter Tryz.func99,Tryz.ntmps99
 go_wp2_with (first
  |(go_at_call 94;refine HH.out.mono ?_;rintro e w1 ⟨z,rfl,aD,aB,hr,hl,Y⟩;have HI:=C3t (RdR.in_ aB hr hl Z.out);have HA:=C3t Y;obtain⟨l1,c0,hh⟩:=HV.out.homes _ _ Y;have aC:=C3t hh;clear aD aB hr hl Y hh)
  |(go_at_call 65;refine aC.out.mono ?_;rintro e w2 ⟨rfl,k2,rfl⟩)
  |(go_at_call 24;refine(U.out _ _ (HI.out.far ((A8.refl B0 w1).drewN k2).toBelow)).mono ?_;rintro e w3 ⟨v,rfl,h2⟩;have HF:=C3t ((HA.out.drewN k2).trans h2);clear h2)
  |fail)
 go_ret2
 exact⟨v,rfl,HF.out⟩
theorem A8r(h:Rdv w p M H)(Y:Sx H M)(i:Nat)(h2:i<=40):Calls Tryz.prog 43 #[.pointer (some ⟨p,0,none⟩),.int .i64 (i:Int)] w (A7Z w (C9 H i) (eI (H (1+i)))):=by
 have aC:=C3t (λV (a:A8 B0 w B0 V)=>h.home _ V a (1+i) (by have:=Y.hM;omega))
 obtain⟨j,hj⟩:∃j,j=1+i:=⟨_,rfl⟩
 have hw:IntKind.i64.wrap (1+(i:Int))=(j:Int):=by rw[IntKind.wrap_i64];omega
 obtain⟨Z,aA⟩:∃Z,Z=eI (H (1+i)):=⟨_,rfl⟩
 rw[<-aA]
 obtain⟨X,U⟩:∃X,X=H (1+i):=⟨_,rfl⟩
 rw[<-U,<-hj]at aC
 have HB:=C3t (show∀x∈X,x<256 by rw[U];exact(Y.row _ (by have:=Y.hM;omega)).2)
 have HD:=C3t (show dI X=C9 H i/\eI X=Z by rw[aA,U];exact⟨rfl,rfl⟩)
 clear U h Y h2 hj aA
 go_enter Tryz.func43,Tryz.ntmps43
 go_wp2_with (first
  |(refine B6 rfl rfl C6 ?_;intro z w0 hz J I;have HZ:=C3t hz;have aJ:=C3t J;have aB:=C3t I;clear hz J I)
  |(go_at_call 94;refine(aC.out _ aB.out).mono ?_;rintro e w1 ⟨y,rfl,aK,aL,hr,hl,I⟩;have HR:=C3t hr;have HL:=C3t hl;have aD:=C3t (aB.out.trans I);have aG:=C3t (aJ.out.over I);clear aK aL hr hl I)
  |(go_at_call 25;refine(A54 _ X w1 (by rw[HL.out];exact HR.out) HB.out).mono ?_;rintro e w2 ⟨rfl,I⟩;rw[HD.out.1,HD.out.2];have aE:=C3t (aD.out.trans I);have aH:=C3t (aG.out.over I);clear I)
  |(refine B5 rfl _ _ rfl z aH.out rfl rfl B7 (C2 _) (C2 _) (D7 _) ?_;intro w3 J I;have aI:=C3t J;have aF:=C3t (aE.out.fresh HZ.out I);clear J I)
  |fail)
 exact bodyPost_ret (Q2 rfl _ _ rfl rfl aI.out Tryz.underlying62 rfl (by rw[B7];rfl)) rfl ⟨rfl,aF.out⟩
def C22(w:World)(H:Nat->List Nat)(t16:Value)(wr:World):Prop:=∃j:Nat,t16= .int .i64 (j:Int)/\j<=40/\(∀i,i<j->eI (H (2+i))=0)/\A8 B0 w B0 wr
theorem A7l(h:Rdv w p M H)(hs:Sx H M):Calls Tryz.prog 42 #[.pointer (some ⟨p,0,none⟩)] w λe w'=>e= .returned (.int .i64 (A2o H M))/\A8 B0 w B0 w':=by
 have HT:=C3t (B9a h hs)
 have HI:=C3t (λV (a:A8 B0 w B0 V) (i:Nat) (h2:i<=40)=>A8r (h.step a) hs i h2)
 have hR:A2o H M=if A3o H M=0 then A5Y H else A3o H M:=rfl
 rw[hR]
 obtain⟨te,aL⟩:∃te,te=A3o H M:=⟨_,rfl⟩
 rw[<-aL]at HT⊢
 clear hR aL h hs
 by_cases h0:te=0
 ·subst h0
  rw[if_pos rfl]
  go_enter Tryz.func42,Tryz.ntmps42
  go_wp2_with (first
   |(go_at_call 99;refine HT.out.mono ?_;rintro e w1 ⟨v,rfl,J⟩;have aB:=C3t J;clear J)
   |fail)
  go_loopw [16] (C22 w H) (λt _=>40-(intOf t).toNat)
  case atStart=>exact⟨0,rfl,by omega,λi hi=>absurd hi (by omega),aB.out⟩
  case round=>
   obtain⟨j,rfl,hj,aA,J⟩:=hrel
   have aE:=C3t aA
   have Z:=C3t J
   by_cases aK:j<40
   ·have aG:=C3t aK
    have aM:(j:Int)<40:=by omega
    obtain⟨q,hq⟩:∃q,q=1+j:=⟨_,rfl⟩
    have hw:IntKind.i64.wrap (1+(j:Int))=(q:Int):=by rw[IntKind.wrap_i64];omega
    have U:=C3t (λV (a:A8 B0 w B0 V)=>HI.out V a q (by omega))
    rw[show eI (H (1+q))=eI (H (2+j))by rw[hq];congr 2;omega]at U
    obtain⟨X,hX⟩:∃X,X=C9 H q:=⟨_,rfl⟩
    rw[<-hX]at U
    obtain⟨ie,aJ⟩:∃ie,ie=eI (H (2+j)):=⟨_,rfl⟩
    rw[<-aJ]at U
    unfold A7Z at U
    have aF:=C3t aJ
    clear aA J aK hq hX hj aJ
    by_cases h1:ie=0
    ·subst h1
     go_wp2_with (first
      |(go_at_call 43;refine(U.out _ Z.out).mono ?_;rintro e w2 ⟨rfl,a2⟩;have Y:=C3t (Z.out.trans a2);clear a2)
      |(refine B6 rfl rfl C6 ?_;intro z6 w3 hz I a3;have aI:=C3t (Nat.le_trans Y.out.size hz);have aH:=C3t I;have aC:=C3t (Y.out.trans a3);clear hz I a3)
      |(refine B5 rfl _ _ rfl z6 aH.out rfl rfl B7 (C2 _) (C2 _) (D7 _) ?_;intro w4 I a4;have aD:=C3t (aC.out.fresh aI.out a4);clear I a4)
      |fail)
     refine⟨⟨j+1,by simp,aG.out,λi hi=>?_,aD.out⟩,by have:=aG.out;simp[intOf]<;>omega⟩
     rcases Nat.lt_or_ge i j with h2|h2
     ·exact aE.out i h2
     ·obtain rfl:i=j:=by omega
      exact aF.out.symm
    ·have I:(ie !=0)=true:=by rw[bne_iff_ne];exact h1
     have HR:=C3t (B1D aG.out (by rw[<-aF.out];exact h1) aE.out)
     rw[<-aF.out]at HR
     clear h1
     go_wp2_with (first
      |(go_at_call 43;refine(U.out _ Z.out).mono ?_;rintro e w2 ⟨rfl,a2⟩;have Y:=C3t (Z.out.trans a2);clear a2)
      |(refine B6 rfl rfl C6 ?_;intro z6 w3 hz I a3;have aI:=C3t (Nat.le_trans Y.out.size hz);have aH:=C3t I;have aC:=C3t (Y.out.trans a3);clear hz I a3)
      |(refine B5 rfl _ _ rfl z6 aH.out rfl rfl B7 (C2 _) (C2 _) (D7 _) ?_;intro w4 I a4;have aD:=C3t (aC.out.fresh aI.out a4);clear I a4)
      |fail)
     go_ret
     exact⟨(by rw[HR.out]<;>rfl),aD.out⟩
   ·obtain rfl:j=40:=by omega
    have HR:=C3t (A5Z aA)
    clear aA J aK hj aE
    go_wp2
    go_ret
    exact⟨(by rw[HR.out]<;>rfl),Z.out⟩
 ·rw[if_neg h0]
  have I:(te !=0)=true:=by rw[bne_iff_ne];exact h0
  clear h0 HI
  go_enter Tryz.func42,Tryz.ntmps42
  go_wp2_with (first
   |(go_at_call 99;refine HT.out.mono ?_;rintro e w1 ⟨v,rfl,J⟩;have aB:=C3t J;clear J)
   |fail)
  go_ret
  exact⟨rfl,aB.out⟩
end
end
section
open Go.RowKit Go.Maps
def P6(M:Nat):Nat->List Bool
 |0=>List.replicate M false
 |j+1=>(P6 M j).set j true
theorem Q1(M:Nat):∀j,(P6 M j).length=M
 |0=>List.length_replicate
 |j+1=>by rw[P6,List.length_set,Q1 M j]
theorem A13(M:Nat):∀j k,j<=M->(P6 M j).getD k false=decide (k<j)
 |0,k,_=>by
  rw[P6,List.getD_eq_getElem?_getD]
  by_cases h:k<M
  ·rw[List.getElem?_replicate,if_pos h];simp
  ·rw[List.getElem?_eq_none (by simpa using h)];simp
 |j+1,k,hj=>by
  have I:=A13 M j k (by omega)
  rw[List.getD_eq_getElem?_getD]at I⊢
  rw[P6,List.getElem?_set]
  by_cases h:j=k
  ·subst h
   rw[if_pos rfl,if_pos (by rw[Q1];omega)]
   simp
  ·rw[if_neg h,I]
   simp only[decide_eq_decide]
   omega
theorem B1E{M j:Nat}(h:j<M):A5v (P6 M j) (j:Int)=0/\A5w (P6 M j) (j:Int)=P6 M (j+1):=by
 have J:R5 (P6 M j) (j:Int):=⟨by omega,by rw[Q1];omega⟩
 have I:=A13 M j j (by omega)
 rw[decide_eq_false (by omega)]at I
 refine⟨?_,?_⟩
 ·unfold A5v
  rw[if_pos J,Int.toNat_natCast,I]
  rfl
 ·unfold A5w
  rw[if_pos J,Int.toNat_natCast]
  rfl
def B0h:L6:=⟨1,1,0,λ_=>0⟩
noncomputable def CS.begin(s:CS)(M:Nat):CS:=(s.put 1 (mapB (P6 M 42))).set 1 B0h
theorem A6a:Tryz.prog.built 62 [(0,.int .i64 1),(1,.int .i64 1)]=some (ic B0h):=by kernel_rfl
theorem A6b{ops:Array Oper}{rest:List Oper}{o:Oper}{a:Act}{w:World}{Q:Exit->Act->World->Prop}(I:o.guard=none)(x y:Operand)(J:o.op= .build 62 #[(0,x),(1,y)])(U:a.eval x= .int .i64 1)(V:a.eval y= .int .i64 1)
 (h:wpList Tryz.prog ops Q rest (a.put o.dst (.agg (ic B0h))) w):wpList Tryz.prog ops Q (o::rest) a w:=by
 have e:((#[(0,x),(1,y)]:Array (Nat×Operand)).map λ(i,x)=>(i,a.eval x)).toList=[(0,.int .i64 1),(1,.int .i64 1)]:=by simp[U,V]
 refine wpList_build I 62 _ J (by rw[e,A6a];rfl) ?_
 rw[e,A6a]
 exact h
theorem A7m:Tryz.prog.built 35 [(0,.int .i64 1),(1,.int .i64 1)]=some #[.int .i64 1,.int .i64 1]:=by kernel_rfl
theorem A64{ops:Array Oper}{rest:List Oper}{o:Oper}{a:Act}{w:World}{Q:Exit->Act->World->Prop}(I:o.guard=none)(x y:Operand)(J:o.op= .build 35 #[(0,x),(1,y)])(U:a.eval x= .int .i64 1)(V:a.eval y= .int .i64 1)
 (h:wpList Tryz.prog ops Q rest (a.put o.dst (.agg #[.int .i64 1,.int .i64 1])) w):wpList Tryz.prog ops Q (o::rest) a w:=by
 have e:((#[(0,x),(1,y)]:Array (Nat×Operand)).map λ(i,x)=>(i,a.eval x)).toList=[(0,.int .i64 1),(1,.int .i64 1)]:=by simp[U,V]
 refine wpList_build I 35 _ J (by rw[e,A7m];rfl) ?_
 rw[e,A7m]
 exact h
theorem A14(w:World):Calls Tryz.prog 32 #[] w λe w'=>e= .returned (.agg #[.int .i64 1,.int .i64 1])/\A8 B0 w B0 w':=by
 go_enter Tryz.func32,Tryz.ntmps32
 go_wp2_with (first
  |(refine B6 rfl rfl J4 ?_;intro z w1 U J I;have HZ:=C3t U;have Y:=C3t J;have V:=C3t I;clear U J I)
  |(refine A64 rfl _ _ rfl rfl rfl ?_)
  |(refine B5 rfl _ _ rfl z Y.out rfl rfl B1 rfl rfl (P4 _ _) ?_;intro w2 J I;have Z:=C3t J;have X:=C3t (V.out.fresh HZ.out I);clear J I)
  |fail)
 exact bodyPost_ret (A9E rfl _ _ rfl Z.out Tryz.underlying35 rfl (by rw[B1];rfl)) rfl ⟨rfl,X.out⟩
def C23(w:World)(E:Ev)(c m:Nat)(H:Nat->List Nat)(e:Int)(d:Nat)(t18:Value)(wr:World):Prop:=
 ∃j:Nat,t18= .int .i64 (j:Int)/\j<=42/\Cg wr E c m H e/\Am wr d (P6 E.M j)/\A8 (CF c m) w (CF c m) wr
theorem A7n(M:Nat):P6 M 0=List.replicate M false:=rfl
section
variable {w:World} {E:Ev} {c m:Nat} {H:Nat->List Nat} {e:Int}
theorem B9b:WfI B0h:=⟨by decide,by decide,by decide,λj _=>by show -9223372036854775808<=(0:Int)/\(0:Int)<9223372036854775808;decide⟩
theorem B9c(h:Cg w E c m H e)(Y:46<=E.M/\E.M<=1024):
 Calls Tryz.prog 45 #[.pointer (some ⟨c,0,none⟩)] w λr w'=>r= .returned (.tuple #[])/\Cs w' E c m ((⟨H,e⟩:CS).begin E.M)/\A8 (CF c m) w (CF c m) w':=by
 have V:=C3t h
 have HV:=C3t h.rdv
 have aJ:=C3t (λW=>B2x E.M (by omega) Y.2 W)
 have aL:L7 e 0=e:=by unfold L7;split<;>simp_all
 have aI:=C3t (λ(W:World) (a:Cg W E c m H e)=>show Calls Tryz.prog 101 #[.pointer (some ⟨c,0,none⟩),.int .i64 0] W λr w'=>r= .returned (.tuple #[])/\Cg w' E c m H e/\A8 (CF c m) W (CF c m) w' by have:=U8 a 0;rwa[aL]at this)
 have aK:=C3t (λ(W:World) (a:Cs W E c m ((⟨H,e⟩:CS).put 1 (mapB (P6 E.M 42))))=>show Calls Tryz.prog 104 #[.pointer (some ⟨c,0,none⟩),.int .i64 1,.agg (ic B0h)] W λr w'=>r= .returned (.tuple #[])/\Cs w' E c m ((⟨H,e⟩:CS).begin E.M)/\A8 (CF c m) W (CF c m) w' from A7e a 1 (by decide) B0h B9b Y.1)
 have bH:=C3t (λ(j:Nat) (hj:j<42) (W:World) (d:Nat) (a:Am W d (P6 E.M j))=>show Calls Tryz.prog 102 #[.pointer (some ⟨d,0,none⟩),.int .i64 (j:Int)] W λe w'=>e= .returned (.int .i64 0)/\Am w' d (P6 E.M (j+1))/\A8 (M0 d) W (M0 d) w' by
  have:=B8b W d _ a (j:Int)
  obtain⟨s1,s2⟩:=B1E (M:=E.M) (j:=j) (by omega)
  rwa[s1,s2]at this)
 have HM:=C3t Y
 obtain⟨Sb,aM⟩:∃Sb,Sb=(⟨H,e⟩:CS).begin E.M:=⟨_,rfl⟩
 rw[<-aM]at aK⊢
 have bJ:=C3t (λ(W:World) (r:List Nat) (a:Cg W E c m (A0u e H 1 r) e) (hr:Rep r (P6 E.M 42))=>show Cs W E c m ((⟨H,e⟩:CS).put 1 (mapB (P6 E.M 42)))by
  rw[hr.mapB]
  exact a)
 obtain⟨Mn,aD⟩:∃Mn,Mn=E.M:=⟨_,rfl⟩
 have bI:=C3t aD
 have aB:=C3t (λF' W (a:A8 B0 w F' W)=>HV.out.homes F' W a)
 rw[<-aD]at aJ aB
 clear h aL Y aM aD
 obtain⟨l0,c0,aN⟩:=aB.out _ _ (A8.refl B0 w)
 have bG:=C3t aN
 clear aN aB
 go_enter Tryz.func45,Tryz.ntmps45
 go_wp2_with (first
  |(go_at_call 65;refine bG.out.mono ?_;rintro r w1 ⟨rfl,k2,rfl⟩;have aO:=C3t (show A8 B0 w B0 (w.drewN k2)from(A8.refl _ _).drewN k2))
  |(go_at_call 68;refine(aJ.out _).mono ?_;rintro r w2 ⟨d,rfl,I,J⟩;have aV:=C3t (show Am w2 d (P6 E.M 0)by(rw[A7n,<-bI.out];exact I));have U:=aO.out.trans J;have X:=C3t (U.newS d rfl);have aZ:=C3t (V.out.step U);have aP:=C3t (U.same (G:=CF c m) (λ_ x=>x.elim));clear I J U)
  |(go_at_call 101;refine(aI.out w2 aZ.out).mono ?_;rintro r w3 ⟨rfl,I,J⟩;have bA:=C3t I;have aQ:=C3t (aP.out.trans J);have aW:=C3t (aV.out.past V.out X.out J);clear I J)
  |fail)
 go_loopw [18] (C23 w E c m H e d) (λt _=>42-(intOf t).toNat)
 case atStart=>exact⟨0,rfl,by omega,bA.out,aW.out,aQ.out⟩
 case round=>
  obtain⟨j,rfl,hj,hc,hm,U⟩:=hrel
  have aH:=C3t hc
  have aG:=C3t hm
  have aF:=C3t U
  by_cases aE:j<42
  ·have aC:=C3t aE
   have bO:(j:Int)<42:=by omega
   clear hc hm U aE hj c0
   go_wp2_with (first
    |(go_at_call 102;refine(bH.out j aC.out _ d aG.out).mono ?_;rintro r w4 ⟨rfl,I,J⟩;have aX:=C3t I;have bB:=C3t (V.out.fresh aH.out X.out J);have aR:=C3t (aF.out.freshG X.out J);clear I J)
    |(go_at_call 101;refine(aI.out w4 bB.out).mono ?_;rintro r w5 ⟨rfl,I,J⟩;have aA:=C3t I;have Z:=C3t (aR.out.trans J);have aY:=C3t (aX.out.past V.out X.out J);clear I J)
    |fail)
   exact⟨⟨j+1,by simp,aC.out,aA.out,aY.out,Z.out⟩,by have:=aC.out;simp[intOf]<;>omega⟩
  ·obtain rfl:j=42:=by omega
   have bK:∀w:World,(Instr.field 35 (.agg #[.int .i64 1,.int .i64 1]) 0).run Tryz.prog w= .ok (.int .i64 1) w:=λ_=>by kernel_rfl
   have bM:∀w:World,(Instr.field 35 (.agg #[.int .i64 1,.int .i64 1]) 1).run Tryz.prog w= .ok (.int .i64 1) w:=λ_=>by kernel_rfl
   clear hc hm U aE hj c0
   go_wp2_with (first
    |(go_at_call 103;refine(A5y _ d _ aG.out).mono ?_;rintro r w5 ⟨z,rr,rfl,I,J,h3⟩;have HR:=C3t I;have HS:=C3t J;have aA:=C3t (aH.out.step h3);have Z:=C3t (aF.out.over h3);clear I J h3)
    |(go_at_call 98;refine(A7d aA.out 1 (some ⟨z,0,none⟩) 128 128 rr (λ_=>⟨1,rfl,by have:=HM.out;omega,rfl,HR.out.len,HR.out.lt,HS.out.rd⟩)).mono ?_;rintro r w6 ⟨rfl,I,J⟩;have bC:=C3t (bJ.out _ rr I HR.out);have aS:=C3t (Z.out.trans J);clear I J)
    |(go_at_call 32;refine(A14 w6).mono ?_;rintro r w7 ⟨rfl,I⟩;have bD:=C3t (bC.out.step I);have aT:=C3t (aS.out.over I);clear I)
    |(go_at_call 32;refine(A14 w7).mono ?_;rintro r w8 ⟨rfl,I⟩;have bF:=C3t (bD.out.step I);have aU:=C3t (aT.out.over I);clear I)
    |(refine A6b rfl _ _ rfl rfl rfl ?_)
    |(go_at_call 104;refine(aK.out _ bF.out).mono ?_;rintro r w9 ⟨rfl,I,J⟩;have HF:=C3t (And.intro I (aU.out.trans J));clear I J)
    |fail)
   exact bodyPost_end (results_none rfl _ _ _) rfl ⟨rfl,HF.out.1,HF.out.2⟩
end
end
section
open Go.RowKit
section
variable {W w w':World} {l:List (Int×Int)} {v:Value}
end
end
section
open Go.RowKit
theorem B7k{l:List En}{s:ByteArray}(h:fnd l s=none):∀x∈l,x.s≠s:=λx I e=>by
 unfold fnd at h
 have:=List.find?_eq_none.1 h x I
 simp[e]at this
theorem B49{l:List En}{s:ByteArray}{x:En}:x∈B6s l s↔x∈l/\x.s≠s:=by
 unfold B6s lo hi
 rw[List.mem_append,List.mem_filter,List.mem_filter]
 constructor
 ·rintro(⟨h,k⟩|⟨h,k⟩)
  ·exact⟨h,λe=>by rw[e]at k;exact A3f s (by simpa using k)⟩
  ·exact⟨h,λe=>by rw[e]at k;exact A3f s (by simpa using k)⟩
 ·rintro⟨h,k⟩
  rcases B22 x.s s with y|y|y
  ·exact .inl ⟨h,by simpa using y⟩
  ·exact absurd y k
  ·exact .inr ⟨h,by simpa using y⟩
theorem B7l{l:List En}{e x:En}:x∈R3 l e↔x=e\/(x∈l/\x.s≠e.s):=by
 have h:=@B49 l e.s x
 unfold B6s at h
 unfold R3
 rw[List.mem_append,List.mem_cons]
 rw[List.mem_append]at h
 constructor
 ·rintro(y|y|y)
  ·exact .inr (h.1 (.inl y))
  ·exact .inl y
  ·exact .inr (h.1 (.inr y))
 ·rintro(y|y)
  ·exact .inr (.inl y)
  ·rcases h.2 y with z|z
   ·exact .inl z
   ·exact .inr (.inr z)
structure Tr (A:As):Prop where
 root:(A.n 1).k=1/\(A.n 1).g=1
 ent:∀i x,1<=i->i<=40->x∈(A.n i).l->(A.n x.i.toNat).k=x.k/\(A.n x.i.toNat).g=x.g/\x.i.toNat≠1
 one:∀i x i' x',1<=i->i<=40->1<=i'->i'<=40->x∈(A.n i).l->x'∈(A.n i').l->x.i.toNat=x'.i.toNat->i=i'/\x=x'
 par:∀c,1<=c->c<=40->(A.n c).k≠0->c≠1->∃i x,1<=i/\i<=40/\x∈(A.n i).l/\x.i.toNat=c
structure OkA (A:As):Prop where
 ok:∀i,1<=i->i<=40->OkN (A.n i)
 tr:Tr A
theorem OkA.okE{A:As}(h:OkA A){i:Nat}{x:En}(J:1<=i)(U:i<=40)(V:x∈(A.n i).l):okE x/\1<=x.i.toNat/\x.i.toNat<=40/\thA A x.i x.g:=by
 have I:=(h.ok i J U).rise.all x V
 have X:=h.tr.ent i x J U V
 have Z:0<x.i/\x.i<41:=⟨I.2.1,I.2.2.1⟩
 have Y:0<x.k:=I.2.2.2.2.2.1
 exact⟨I,by omega,by omega,by omega,by omega,by omega,X.2.1⟩
theorem B7m{A B:As}(h:∀i j,1<=i->i<=40->j<8->P5 (A.n i) j=P5 (B.n i) j):A.use=B.use:=V1 h
theorem A8s(A:As)(i:Nat):(A.up i (A.n i).inc).use=A.use:=B7m λk j _ _ _=>by
 by_cases e:k=i
 ·subst e;rw[As.up_at];rfl
 ·rw[As.up_ne _ _ e]
theorem C1X(A:As)(i:Nat)(x y:Nd):(A.up i x).up i y=A.up i y:=by
 unfold As.up
 congr 1
 funext j
 show(if j=i then y else(if j=i then x else A.n j))=_
 split<;>rfl
theorem B1F{A:As}{i g:Int}{k:Nat}{y:Nd}(h:thA A i g)(V:k=i.toNat->y.k≠0/\y.g=g):thA (A.up k y) i g:=by
 obtain⟨I,J,h3,U⟩:=h
 refine⟨I,J,?_⟩
 by_cases e:i.toNat=k
 ·rw[e,As.up_at]
  exact V e.symm
 ·rw[As.up_ne _ _ e]
  exact⟨h3,U⟩
theorem C0J{A:As}{i g k:Int}(J:thA A i g)(I:(A.n i.toNat).k=k):ofA A i g k=0:=by
 unfold ofA
 rw[if_pos J,if_pos I]
def S6(A:As)(i:Int)(s:ByteArray)(J:Int)(j:Nat):As:=
 let U:=A.up (1+j) (Nd.new J ((A.n (1+j)).g+1))
 let I:=U.up i.toNat ((A.n i.toNat).ls (R3 (A.n i.toNat).l ⟨s,((1+j:Nat):Int),(A.n (1+j)).g+1,J⟩))
 I.up i.toNat (I.n i.toNat).inc
noncomputable def B2S(H:Nat->List Nat)(M:Nat)(i g:Int)(s:ByteArray)(I:Int):CS:=
 (((⟨H,0⟩:CS).add I).enter M i g ⟨s,(addF H).1,(addF H).2,I⟩).touch i g
section
variable {H:Nat->List Nat} {M:Nat} {A:As}
structure ChD (H:Nat->List Nat) (M:Nat) (s:CS) (A':As):Prop where
 e:s.e=0
 rp:Rq s.H M A'
 df:∃K:List Nat,K.length<=14/\Dif H s.H K
theorem Rq.cre(h:Rq H M A){i g:Int}(ht:thA A i g)(hk:(A.n i.toNat).k=1){s:ByteArray}(hs:Nam s){I:Int}(aH:I=1\/I=2):
 (∃j,A12 A=some j/\ChD H M (B2S H M i g s I) (S6 A i s I j))\/
 ((B2S H M i g s I).e=8/\∀j,A12 A=some j->24<(R3 (A.n i.toNat).l ⟨s,((1+j:Nat):Int),(A.n (1+j)).g+1,I⟩).length\/M<(S6 A i s I j).use+42\/(A.n i.toNat).v=1099511627775):=by
 obtain⟨r1,r2⟩:=A0C ht
 unfold B2S
 cases X:A12 A with
 |none=>
  refine .inr ⟨?_,λj X=>by cases X⟩
  have h8:((⟨H,0⟩:CS).add I).e=8:=Rq.add_none (s:=⟨H,0⟩) h rfl I X
  rw[B7e (by rw[h8];decide),A5U (by rw[h8];decide),h8]
 |some j=>
  obtain⟨j1,j2,j3⟩:=A1R X
  obtain⟨a1,a2,a3⟩:=Rq.add (s:=⟨H,0⟩) h rfl aH X
  have aD:i.toNat≠1+j:=λe=>by
   have:=ht.2.2.1
   rw[e]at this
   exact this j2
  rw[show Go.Proofs.YtbefmjiclpobjaaGreat.addF H=_ from Rq.addF (s:=⟨H,0⟩) h X]
  obtain⟨s1,aK⟩:∃s1,s1=(⟨H,0⟩:CS).add I:=⟨_,rfl⟩
  rw[<-aK]at a1 a2 a3⊢
  obtain⟨J,aA⟩:∃J,J=A.up (1+j) (Nd.new I ((A.n (1+j)).g+1)):=⟨_,rfl⟩
  rw[<-aA]at a2
  have Z:J.n i.toNat=A.n i.toNat:=by rw[aA,As.up_ne _ _ aD]
  have aE:thA J i g:=by rw[aA];exact B1F ht (λe=>absurd e.symm aD)
  have aM:=(h.ok (1+j) (by omega) (by omega)).g
  obtain⟨x,hx⟩:∃x:En,x=⟨s,((1+j:Nat):Int),(A.n (1+j)).g+1,I⟩:=⟨_,rfl⟩
  have aJ:okE x:=by
   rw[hx]
   exact⟨hs,by show(0:Int)<((1+j:Nat):Int);omega,by show((1+j:Nat):Int)<41;omega,by show 0<=(A.n (1+j)).g+1;omega,by show(A.n (1+j)).g+1<2147483648;omega,by show 0<I;omega,by show I<3;omega⟩
  have aC:S6 A i s I j=(J.up i.toNat ((J.n i.toNat).ls (R3 (J.n i.toNat).l x))).up i.toNat ((J.up i.toNat ((J.n i.toNat).ls (R3 (J.n i.toNat).l x))).n i.toNat).inc:=by
   unfold S6
   rw[Z,aA,hx]
  simp only
  rw[<-hx]
  rcases a2.enter a1 aE (by rw[Z];exact hk) aJ with⟨V,_,U,K,hK,b3⟩|⟨V,U⟩
  ·obtain⟨s2,aL⟩:∃s2,s2=s1.enter M i g x:=⟨_,rfl⟩
   rw[<-aL]at V U b3⊢
   obtain⟨Y,aB⟩:∃Y,Y=J.up i.toNat ((J.n i.toNat).ls (R3 (J.n i.toNat).l x)):=⟨_,rfl⟩
   rw[<-aB]at U aC
   have aI:Y.n i.toNat=(A.n i.toNat).ls (R3 (A.n i.toNat).l x):=by rw[aB,As.up_at,Z]
   have aF:thA Y i g:=by rw[aB];exact B1F aE (λ_=>by rw[Z];exact⟨by show(A.n i.toNat).k≠0;omega,ht.2.2.2⟩)
   have aG:(Y.n i.toNat).v=(A.n i.toNat).v:=by rw[aI];rfl
   by_cases hv:(A.n i.toNat).v=1099511627775
   ·exact .inr ⟨U.touch_full V aF (by rw[aG];exact hv),λj' e=>.inr (.inr hv)⟩
   ·obtain⟨c1,c2,c3⟩:=U.touch V aF (by rw[aG];exact hv)
    refine .inl ⟨j,rfl,c1,by rw[aC];exact c2,_,?_,(a3.trans b3).trans c3⟩
    simp only[List.length_append,List.length_cons,List.length_nil]
    omega
  ·refine .inr ⟨?_,λj' e=>?_⟩
   ·rw[A5U (by rw[V];decide),V]
   ·obtain rfl:j=j':=Option.some.inj e
    rw[<-hx]
    rcases U with U|U
    ·exact .inl (by rw[<-Z];exact U)
    ·refine .inr (.inl ?_)
     rw[aC,A8s]
     exact U
noncomputable def B0i(H:Nat->List Nat)(M:Nat)(q:Nat)(g:Int)(X:L6)(j:Nat)(d:ByteArray):CS:=
 (((⟨H,0⟩:CS).place M (X.a j) (K9 d)).set q (atX X (λb=>if b=j then(⟨H,0⟩:CS).placeI M (X.a j) (K9 d)else X.a b))).touch (q:Int) g
def A0v(A:As)(i:Nat)(j:Nat)(d:ByteArray):As:=A.up i ((A.n i).bk (λb=>if b=j then d else(A.n i).b b)).inc
theorem Rq.wri(h:Rq H M A){i g:Int}(U:thA A i g)(hk:(A.n i.toNat).k=2){j:Nat}(hj:j<8){d:ByteArray}(hd:d.size<=64):
 ChD H M (B0i H M i.toNat g (C9 H i.toNat) j d) (A0v A i.toNat j d)\/((B0i H M i.toNat g (C9 H i.toNat) j d).e=8/\(M<(A0v A i.toNat j d).use+42\/(A.n i.toNat).v=1099511627775)):=by
 obtain⟨r1,r2⟩:=A0C U
 have hi:((i.toNat:Nat):Int)=i:=by have:=U.1;omega
 unfold B0i
 rw[hi]
 have Y:=Rq.write1 (s:=⟨H,0⟩) h rfl U hk hj hd rfl
 simp only at Y
 obtain⟨s1,aC⟩:∃s1,s1=((⟨H,0⟩:CS).place M ((C9 H i.toNat).a j) (K9 d)).set i.toNat (atX (C9 H i.toNat) (λb=>if b=j then(⟨H,0⟩:CS).placeI M ((C9 H i.toNat).a j) (K9 d)else(C9 H i.toNat).a b)):=⟨_,rfl⟩
 rw[<-aC]at Y⊢
 obtain⟨I,X⟩:∃I,I=A.up i.toNat ((A.n i.toNat).bk (λb=>if b=j then d else(A.n i.toNat).b b)):=⟨_,rfl⟩
 rw[<-X]at Y
 have Z:I.n i.toNat=(A.n i.toNat).bk (λb=>if b=j then d else(A.n i.toNat).b b):=by rw[X,As.up_at]
 have hw:A0v A i.toNat j d=I.up i.toNat (I.n i.toNat).inc:=by
  rw[Z,X,C1X]
  rfl
 rw[hw,A8s]
 rcases Y with⟨J,V,K,hK,b3⟩|⟨J,V⟩
 ·have aA:thA I i g:=by rw[X];exact B1F U (λ_=>⟨by show(A.n i.toNat).k≠0;omega,U.2.2.2⟩)
  have aB:(I.n i.toNat).v=(A.n i.toNat).v:=by rw[Z];rfl
  by_cases hv:(A.n i.toNat).v=1099511627775
  ·exact .inr ⟨V.touch_full J aA (by rw[aB];exact hv),.inr hv⟩
  ·obtain⟨c1,c2,c3⟩:=V.touch J aA (by rw[aB];exact hv)
   refine .inl ⟨c1,c2,_,?_,b3.trans c3⟩
   simp only[List.length_append,List.length_cons,List.length_nil]
   omega
 ·exact .inr ⟨by rw[A5U (by rw[J];decide),J],.inl V⟩
end
end
section
open Go.RowKit
section
variable {H:Nat->List Nat} {M:Nat} {A:As}
end
end
section
open Go.RowKit
theorem Tr.congr{A B:As}(h:Tr A)(V:∀i,(B.n i).k=(A.n i).k)(Y:∀i,(B.n i).g=(A.n i).g)(U:∀i x,x∈(B.n i).l↔x∈(A.n i).l):Tr B:=by
 refine⟨by rw[V,Y];exact h.root,λi x I J X=>?_,λi x Z x' I J h3 h4 X aB=>h.one i x Z x' I J h3 h4 ((U i x).1 X) ((U Z x').1 aB),λc I J aA hc=>?_⟩
 ·rw[V,Y]
  exact h.ent i x I J ((U i x).1 X)
 ·obtain⟨i,x,e1,e2,e3,e4⟩:=h.par c I J (by rw[<-V];exact aA) hc
  exact⟨i,x,e1,e2,(U i x).2 e3,e4⟩
theorem Tr.wri{A:As}(h:Tr A)(i j:Nat)(d:ByteArray):Tr (A0v A i j d):=
 h.congr (λk=>by unfold A0v As.up;simp only;split<;>simp_all[Nd.inc,Nd.bk]) (λk=>by unfold A0v As.up;simp only;split<;>simp_all[Nd.inc,Nd.bk]) (λk x=>by unfold A0v As.up;simp only;split<;>simp_all[Nd.inc,Nd.bk])
theorem Tr.more{A B:As}(h:OkA A){D c:Nat}{e:En}(hD:1<=D/\D<=40)(aC:(A.n c).k=0)(Z:e.i.toNat=c)(V:∀i x,x∈(B.n i).l↔(i=D/\x=e)\/x∈(A.n i).l)(hk:∀i,i≠c->(B.n i).k=(A.n i).k/\(B.n i).g=(A.n i).g)(aE:(B.n c).k=e.k/\(B.n c).g=e.g):Tr B:=by
 have aA:c≠1:=λx=>by rw[x,h.tr.root.1]at aC;cases aC
 have aD:∀i x,1<=i->i<=40->x∈(A.n i).l->x.i.toNat≠c:=λi x I J X e1=>by
  obtain⟨o1,_,_,o2⟩:=h.okE I J X
  exact o2.2.2.1 (by rw[e1];exact aC)
 refine⟨by rw[(hk 1 aA.symm).1,(hk 1 aA.symm).2];exact h.tr.root,λi x I J X=>?_,λi x i' x' I J h3 h4 X aG aB=>?_,λq I J aH hq=>?_⟩
 ·rcases(V i x).1 X with⟨_,e2⟩|m
  ·rw[e2,Z];exact⟨aE.1,aE.2,aA⟩
  ·have:=hk _ (aD i x I J m)
   rw[this.1,this.2]
   exact h.tr.ent i x I J m
 ·rcases(V i x).1 X with⟨Y,a2⟩|Y
  ·rcases(V i' x').1 aG with⟨U,b2⟩|U
   ·exact⟨Y.trans U.symm,a2.trans b2.symm⟩
   ·exact absurd (by rw[<-aB,a2,Z]) (aD i' x' h3 h4 U)
  ·rcases(V i' x').1 aG with⟨U,b2⟩|U
   ·exact absurd (by rw[aB,b2,Z]) (aD i x I J Y)
   ·exact h.tr.one i x i' x' I J h3 h4 Y U aB
 ·by_cases aF:q=c
  ·exact⟨D,e,hD.1,hD.2,(V D e).2 (.inl ⟨rfl,rfl⟩),by rw[Z,aF]⟩
  ·obtain⟨i,x,e1,e2,e3,e4⟩:=h.tr.par q I J (by rw[<-(hk q aF).1];exact aH) hq
   exact⟨i,x,e1,e2,(V i x).2 (.inr e3),e4⟩
section
variable {A:As}
theorem Tr.cre(h:OkA A){i g:Int}(ht:thA A i g){s:ByteArray}(hs:fnd (A.n i.toNat).l s=none){I:Int}{j:Nat}(hj:A12 A=some j):Tr (S6 A i s I j):=by
 obtain⟨r1,r2⟩:=A0C ht
 obtain⟨j1,U,j3⟩:=A1R hj
 have J:i.toNat≠1+j:=λe=>ht.2.2.1 (by rw[e];exact U)
 have aB:=h.ok (1+j) (by omega) (by omega)
 have aA:(A.n (1+j)).l=[]:=aB.nol (by rw[U];decide)
 have Z:(S6 A i s I j).n i.toNat=((A.n i.toNat).ls (R3 (A.n i.toNat).l ⟨s,((1+j:Nat):Int),(A.n (1+j)).g+1,I⟩)).inc:=by
  unfold S6
  simp only
  rw[As.up_at,As.up_at]
 have Y:(S6 A i s I j).n (1+j)=Nd.new I ((A.n (1+j)).g+1):=by
  unfold S6
  simp only
  rw[As.up_ne _ _ J.symm,As.up_ne _ _ J.symm,As.up_at]
 have hO:∀k,k≠i.toNat->k≠1+j->(S6 A i s I j).n k=A.n k:=λk X h2=>by
  unfold S6
  simp only
  rw[As.up_ne _ _ X,As.up_ne _ _ X,As.up_ne _ _ h2]
 refine Tr.more (B:=S6 A i s I j) (D:=i.toNat) (c:=1+j) (e:=⟨s,((1+j:Nat):Int),(A.n (1+j)).g+1,I⟩) h ⟨r1,r2⟩ U (Int.toNat_natCast _) (λk x=>?_) (λk hk=>?_) (by rw[Y];exact⟨rfl,rfl⟩)
 ·by_cases e:k=i.toNat
  ·rw[e,Z]
   show x∈R3 _ _↔_
   rw[B7l]
   constructor
   ·rintro(y|⟨y,_⟩)
    ·exact .inl ⟨rfl,y⟩
    ·exact .inr y
   ·rintro(⟨_,y⟩|y)
    ·exact .inl y
    ·exact .inr ⟨y,B7k hs x y⟩
  ·by_cases V:k=1+j
   ·rw[V,Y,aA]
    show x∈[]↔_
    constructor
    ·intro y;simp at y
    ·rintro(⟨y,_⟩|y)
     ·exact absurd y.symm J
     ·exact y
   ·rw[hO k e V]
    constructor
    ·exact .inr
    ·rintro(⟨y,_⟩|y)
     ·exact absurd y e
     ·exact y
 ·by_cases e:k=i.toNat
  ·rw[e,Z];exact⟨rfl,rfl⟩
  ·rw[hO k e hk];exact⟨rfl,rfl⟩
end
end
section
open Go.RowKit
theorem B9d(o:Option Hd):nx none o=o:=by
 cases o with
 |none=>rfl
 |some h=>
  show(if hZ.g<=h.g then some h else none)=some h
  exact if_pos (Nat.zero_le _)
theorem C0K(s:DS)(p:Nat):Q9 s p 2=nx (unO (isS s p) 0) (unO (isS s (p+1)) 1):=by
 rw[A2z,A2z]
 show nx (nx none _) _=_
 rw[B9d,Nat.add_zero]
end
section
open Go.RowKit
def two(I J:List Nat):Option Hd:=nx (unO I 0) (unO J 1)
theorem B7n{e:Nat}{h:Hd}(k:hOk e h):unO (A0q e h) (h.g%2)=some h:=A79 (B3w k) rfl
theorem A8t{A:Option Hd}{b:Hd}(I:(A.getD hZ).g<=b.g):nx A (some b)=some b:=if_pos I
theorem A8u{A:Option Hd}{b:Hd}(I:¬(A.getD hZ).g<=b.g):nx A (some b)=A:=if_neg I
theorem C1Z{A B:Option Hd}{c:Hd}(h:nx A B=some c):(∀a,A=some a->a.g<=c.g)/\(∀b,B=some b->b.g<=c.g):=by
 cases B with
 |none=>
  have h:A=some c:=h
  exact⟨λa I=>by rw[h]at I;injection I with I;rw[I];exact Nat.le_refl _,λb J=>by simp at J⟩
 |some b=>
  by_cases U:(A.getD hZ).g<=b.g
  ·rw[A8t U]at h
   injection h with h
   subst h
   exact⟨λa I=>by rw[I]at U;exact U,λV J=>by injection J with J;rw[J];exact Nat.le_refl _⟩
  ·rw[A8u U]at h
   exact⟨λa I=>by rw[h]at I;injection I with I;rw[I];exact Nat.le_refl _,λV J=>by injection J with J;rw[h]at U;rw[<-J];simp only[Option.getD_some]at U;omega⟩
theorem C2a{A B:Option Hd}(h:nx A B=none):A=none/\B=none:=by
 cases B with
 |none=>exact⟨h,rfl⟩
 |some b=>
  by_cases I:(A.getD hZ).g<=b.g
  ·rw[A8t I]at h;simp at h
  ·rw[A8u I]at h
   rw[h]at I
   exact absurd (Nat.zero_le _) I
def B9e(U V:List Nat)(J:Hd)(I:Bool):Prop:=two U V=(if I=true then some J else none)/\(I=false->J=hZ)
theorem B9e.le{J U:List Nat}{I:Hd}{X:Bool}(h:B9e J U I X):(∀a,unO J 0=some a->a.g<=I.g)/\(∀b,unO U 1=some b->b.g<=I.g):=by
 cases X with
 |true=>exact C1Z h.1
 |false=>
  obtain⟨Z,h2⟩:=C2a h.1
  exact⟨λa V=>by rw[Z]at V;simp at V,λb Y=>by rw[h2]at Y;simp at Y⟩
def B2T(I J:List Nat)(k:Nat)(Y:List Nat):List Nat×List Nat:=if k=0 then(Y,J)else(I,Y)
theorem B7o{I J:List Nat}{X h:Hd}{Z:Bool}{e:Nat}(hs:B9e I J X Z)(k:hOk e h)(hg:h.g=X.g+1):two (B2T I J (h.g%2) (A0q e h)).1 (B2T I J (h.g%2) (A0q e h)).2=some h:=by
 obtain⟨l0,l1⟩:=hs.le
 have U:=B7n k
 unfold B2T two
 by_cases V:h.g%2=0
 ·rw[if_pos V]
  rw[V]at U
  simp only[U]
  cases hB:unO J 1 with
  |none=>rfl
  |some b=>exact A8u (by have:=l1 b hB;simp only[Option.getD_some];omega)
 ·rw[if_neg V]
  have Y:h.g%2=1:=by omega
  rw[Y]at U
  simp only[U]
  refine A8t ?_
  cases hA:unO I 0 with
  |none=>exact Nat.zero_le _
  |some a=>have:=l0 a hA;simp only[Option.getD_some];omega
end
end Go.Proofs.YtbefmjiclpobjaaGreat
