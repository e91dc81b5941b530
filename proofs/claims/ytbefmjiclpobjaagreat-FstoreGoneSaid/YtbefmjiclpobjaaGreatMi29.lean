import Derived.Test.YtbefmjiclpobjaaGreatMi28
import Derived.Test.YtbefmjiclpobjaaGreatMi27
namespace Go.Proofs.YtbefmjiclpobjaaGreat
set_option maxHeartbeats 3200000
set_option maxRecDepth 3000
section
open Go.RowKit
def Nd.inc(x:Nd):Nd:=⟨x.k,x.g,x.v+1,x.b,x.l⟩
def Nd.ls(x:Nd)(l:List En):Nd:=⟨x.k,x.g,x.v,x.b,l⟩
def Nd.bk(x:Nd)(b:Nat->ByteArray):Nd:=⟨x.k,x.g,x.v,b,x.l⟩
def noB:Nat->ByteArray:=λ_=>⟨#[]⟩
def Nd.gone(g:Int):Nd:=⟨0,g,0,noB,[]⟩
def Nd.new(k g:Int):Nd:=⟨k,g,1,noB,[]⟩
theorem A0v(s:CS):s.note 0=s:=by
 show(⟨s.H,N7 s.e 0⟩:CS)=s
 unfold N7
 split
 ·rename_i h;cases s;cases h;rfl
 ·rfl
theorem B0i{s:CS}(h:s.e=0)(e:Int):(s.note e).e=e:=by
 show N7 s.e e=e
 rw[h];rfl
theorem A5p:T8 []:=λk e h=>by simp at h
theorem B9u{l:List En}(h:Ris l)(U:∀e∈l,okE e):T8 l:=λk e I=>by
 refine⟨U e (List.mem_of_getElem? I),λd V J=>?_⟩
 exact h.lt J I (by omega)
theorem B9v{l:List En}(h:T8 l){e:En}(I:okE e):T8 (T1 l e):=
 B9u ((A8A h).put e) λx J=>by
  rcases C0N J with y|y
  ·exact h.all x y
  ·rw[y];exact I
theorem Ris.dropL{l:List En}(h:Ris l)(s:ByteArray):Ris (dropL l s):=by
 rw[Go.Proofs.YtbefmjiclpobjaaGreat.dropL,<-B47 s h]
 exact List.Pairwise.sublist List.filter_sublist h
theorem B6M{l:List En}(h:T8 l)(s:ByteArray):T8 (dropL l s):=
 B9u ((A8A h).dropL s) λx I=>h.all x (B6w I)
theorem OkN.gone{g:Int}(h:0<=g/\g<=2147483647):OkN (Nd.gone g):=
 ⟨.inl rfl,h,Nat.zero_le _,λ_=>rfl,λ_=>Nat.zero_le _,λ_ _=>rfl,A5p,Nat.zero_le _,λ_=>rfl⟩
theorem OkN.new{k g:Int}(I:k=1\/k=2)(h:0<=g/\g<=2147483647):OkN (Nd.new k g):=
 ⟨.inr I,h,by show 1<=1099511627775;decide,λx=>by have:k=0:=x;omega,λ_=>Nat.zero_le _,λ_ _=>rfl,A5p,Nat.zero_le _,λ_=>rfl⟩
theorem OkN.inc{x:Nd}(h:OkN x)(I:x.k≠0)(hv:x.v≠1099511627775):OkN x.inc:=
 ⟨h.k,h.g,by have:=h.v;show x.v+1<=_;omega,λe=>absurd e I,h.b,h.nob,h.rise,h.few,h.nol⟩
theorem OkN.ls{x:Nd}(h:OkN x)(J:x.k=1){l:List En}(U:T8 l)(I:l.length<=24):OkN (x.ls l):=
 ⟨h.k,h.g,h.v,h.fr,h.b,h.nob,U,I,λe=>absurd J e⟩
theorem OkN.bk{x:Nd}(h:OkN x)(J:x.k=2){b:Nat->ByteArray}(I:∀j,(b j).size<=64):OkN (x.bk b):=
 ⟨h.k,h.g,h.v,h.fr,I,λe=>absurd J e,h.rise,h.few,h.nol⟩
theorem B1Y:M9 ⟨#[]⟩=[]:=rfl
theorem B6N(g:Int)(j:Nat):Q2 (Nd.gone g) j=[]:=rfl
theorem B1Z(k g:Int)(j:Nat):Q2 (Nd.new k g) j=[]:=by
 unfold Q2 Nd.new
 split
 ·have:(H7 []).getD j []=[]:=by
   rw[List.getD_eq_getElem?_getD,List.getElem?_eq_none (by rw[N8];exact Nat.zero_le _)]
   rfl
  exact this
 ·split
  ·exact B1Y
  ·rfl
theorem B4V{x:Nd}(I:x.k=1)(l:List En)(j:Nat):Q2 (x.ls l) j=(H7 l).getD j []:=if_pos I
theorem B4W{x:Nd}(I:x.k=1)(j:Nat):Q2 x j=(H7 x.l).getD j []:=if_pos I
theorem A6j{x:Nd}(I:x.k=2)(j:Nat):Q2 x j=M9 (x.b j):=by
 unfold Q2
 rw[if_neg (by omega),if_pos I]
theorem A6k{x:Nd}(I:x.k=2)(b:Nat->ByteArray)(j:Nat):Q2 (x.bk b) j=M9 (b j):=A6j (x:=x.bk b) I j
theorem B0j{f g:Nat->List Nat}{j:Nat}:∀{n:Nat},(∀b,b<n->U5 (f b)<=U5 (g b))->j<n->U5 (f j)<U5 (g j)->Q1 f n<Q1 g n
 |n+1,h,hj,hl=>by
  show Q1 f n+U5 (f n)<Q1 g n+U5 (g n)
  have J:=h n (by omega)
  by_cases e:j=n
  ·subst e
   have:Q1 f j<=Q1 g j:=by
    have I:∀m,m<=j->Q1 f m<=Q1 g m:=λm=>by
     induction m with
     |zero=>intro _;exact Nat.le_refl _
     |succ m ih=>intro V;have:=ih (by omega);have:=h m (by omega);show Q1 f m+_<=Q1 g m+_;omega
    exact I j (Nat.le_refl _)
   omega
  ·have:=B0j (n:=n) (λb U=>h b (by omega)) (by omega) hl
   omega
theorem A8Q{f g:Nat->List Nat}:∀{n:Nat},(∀b,b<n->U5 (f b)<=U5 (g b))->Q1 f n<=Q1 g n
 |0,_=>Nat.le_refl _
 |n+1,h=>by
  have:=A8Q (n:=n) (λb I=>h b (by omega))
  have:=h n (by omega)
  show Q1 f n+U5 (f n)<=Q1 g n+U5 (g n)
  omega
theorem A70{R S:Nat->Nat->List Nat}{i:Nat}(I:∀a b,a≠i->S a b=R a b)(J:1<=i):∀{n:Nat},i<=n->A0h S n+Q1 (R i) 8=A0h R n+Q1 (S i) 8
 |0,h=>by omega
 |n+1,h=>by
  show A0h S n+Q1 (S (n+1)) 8+Q1 (R i) 8=A0h R n+Q1 (R (n+1)) 8+Q1 (S i) 8
  by_cases hi:i=n+1
  ·subst hi
   rw[A0i (R:=S) (S:=R) (λa b _ U _=>I a b (by omega))]
   omega
  ·rw[A0R (f:=S (n+1)) (g:=R (n+1)) (λb _=>I (n+1) b (by omega))]
   have:=A70 I J (n:=n) (by omega)
   omega
theorem B0k(A:As){i:Nat}(hi:1<=i/\i<=40)(y:Nd):(A.up i y).use+Q1 (Q2 (A.n i)) 8=A.use+Q1 (Q2 y) 8:=by
 have:=A70 (R:=A.R) (S:=(A.up i y).R) (i:=i) (λa b I=>by show Q2 _ b=_;rw[As.up_ne _ _ I];rfl) hi.1 hi.2
 have e:(A.up i y).R i=Q2 y:=by
  funext b
  show Q2 ((A.up i y).n i) b=_
  rw[As.up_at]
 rw[e]at this
 exact this
theorem C1r(l:List Nat):U5 l<=1:=by unfold U5;split<;>omega
theorem B9w{A:As}{i M j:Nat}{bs:List (List Nat)}{y:Nd}(hi:1<=i/\i<=40)(Y:∀j,j<8->Q2 y j=bs.getD j [])(J:j<8)(V:bs.getD j []≠[])(h3:A0h (A8d A.R i j bs) 40+42=M)(U:∀b,j<=b->b<8->Q2 (A.n i) b=[]):M<(A.up i y).use+42:=by
 have h:=A70 (R:=A8d A.R i j bs) (S:=(A.up i y).R) (i:=i) (n:=40) (λa b W=>by
  show Q2 ((A.up i y).n a) b=if a=i/\b<j then _ else _
  rw[As.up_ne _ _ W,if_neg (by omega)]
  rfl) hi.1 hi.2
 have e:∀b,b<8->(A.up i y).R i b=bs.getD b []:=λb I=>by
  show Q2 ((A.up i y).n i) b=_
  rw[As.up_at,Y b I]
 have Z:=B0j (f:=A8d A.R i j bs i) (g:=(A.up i y).R i) (j:=j) (n:=8) (λb I=>by
  rw[e b I]
  show U5 (if i=i/\b<j then _ else A.R i b)<=_
  by_cases X:b<j
  ·rw[if_pos ⟨rfl,X⟩];exact Nat.le_refl _
  ·rw[if_neg (by omega),show A.R i b=[]from U b (by omega) I]
   exact Nat.zero_le _) J (by
  rw[e j J,A1l V]
  show U5 (if i=i/\j<j then _ else A.R i j)<1
  rw[if_neg (by omega),show A.R i j=[]from U j (Nat.le_refl _) J]
  decide)
 unfold As.use
 omega
theorem N6{A:As}{i g:Int}(h:U2 A i g):1<=i.toNat/\i.toNat<=40:=by unfold U2 at h;omega
theorem B9x{s:CS}{M:Nat}{x:M5}:∀n j,(fl M x [] s n).2 j=if j<n then 0 else x.a j
 |0,j=>by rw[if_neg (by omega)];rfl
 |n+1,j=>by
  show(if j=n then CS.placeI _ M (x.a n) (([]:List (List Nat)).getD n [])else(fl M x [] s n).2 j)=_
  by_cases e:j=n
  ·rw[if_pos e,if_pos (by omega)]
   exact if_pos rfl
  ·rw[if_neg e,B9x n j]
   by_cases h:j<n
   ·rw[if_pos h,if_pos (by omega)]
   ·rw[if_neg h,if_neg (by omega)]
section
variable {s:CS} {M:Nat} {A:As} {i g:Int}
theorem Rq.touch_full(h:Rq s.H M A)(J:s.e=0)(I:U2 A i g)(hv:(A.n i.toNat).v=1099511627775):(s.touch i g).e=8:=by
 obtain⟨U,V⟩:=N6 I
 unfold CS.touch
 rw[h.fileE,if_pos I,h.fileX I,(h.f _ U V).2.2,if_pos hv,A0v]
 have:(s.note 8).e=8:=B0i J 8
 rw[A2A (by rw[this];decide),this]
theorem Rq.touch(h:Rq s.H M A)(Y:s.e=0)(I:U2 A i g)(hv:(A.n i.toNat).v≠1099511627775):(s.touch i g).e=0/\Rq (s.touch i g).H M (A.up i.toNat (A.n i.toNat).inc)/\Dif s.H (s.touch i g).H [1+i.toNat]:=by
 obtain⟨J,U⟩:=N6 I
 obtain⟨W,X,V⟩:=h.f _ J U
 unfold CS.touch
 rw[h.fileE,if_pos I,h.fileX I,V,if_neg hv,A0v]
 exact h.reset Y ⟨J,U⟩ ((h.ok _ J U).inc (by unfold U2 at I;exact I.2.2.1) hv) (λ_ _=>rfl) W X (by show(D3 s.H i.toNat).v+1=_;rw[V];rfl) (λ_ _=>rfl)
theorem Rq.seten(h:Rq s.H M A)(he:s.e=0)(U:U2 A i g)(Z:(A.n i.toNat).k=1){l:List En}(hl:T8 l):
 ((s.setEn M i g l).e=0/\l.length<=24/\Rq (s.setEn M i g l).H M (A.up i.toNat ((A.n i.toNat).ls l))/\∃K:List Nat,K.length<=5/\Dif s.H (s.setEn M i g l).H (1::(1+i.toNat)::K))\/
 ((s.setEn M i g l).e=8/\(24<l.length\/M<(A.up i.toNat ((A.n i.toNat).ls l)).use+42)):=by
 obtain⟨V,W⟩:=N6 U
 obtain⟨f1,f2,f3⟩:=h.f _ V W
 by_cases I:l.length<=24
 ·have J:=B81 hl I
  unfold CS.setEn
  rw[J,A0v,h.fileE,if_pos U,A0v,h.fileX U,B43 J]
  have aA:∀j,j<8->Q2 ((A.n i.toNat).ls l) j=(H7 l).getD j []:=λj _=>B4V Z l j
  rcases h.refill (i:=i.toNat) (x:=D3 s.H i.toNat) (bs:=H7 l) (y:=(A.n i.toNat).ls l) (z:=s.fillX M (D3 s.H i.toNat) (H7 l)) he ⟨V,W⟩ (λ_ _=>rfl) (A1f l) ((h.ok _ V W).ls Z hl I) aA f1 f2 f3 (λ_ _=>rfl)with⟨X,e2,K,hK,e3⟩|⟨X,j,hj,j1,j2,j3⟩
  ·exact .inl ⟨X,I,e2,K,by have:=B9t I;omega,e3⟩
  ·refine .inr ⟨X,.inr (B9w ⟨V,W⟩ aA hj j2 j3 (λb aB aC=>?_))⟩
   rw[B4W Z]at j1⊢
   have aD:(H7 (A.n i.toNat).l).length<=j:=by
    rcases Nat.lt_or_ge j (H7 (A.n i.toNat).l).length with y|y
    ·rw[List.getD_eq_getElem?_getD,List.getElem?_eq_getElem y]at j1
     exact absurd j1 (A3S _ _ (List.getElem_mem y))
    ·exact y
   rw[List.getD_eq_getElem?_getD,List.getElem?_eq_none (by omega)]
   rfl
 ·refine .inr ⟨?_,.inl (by omega)⟩
  have J:=A9H hl (by omega)
  unfold CS.setEn
  rw[J,h.fileE,if_pos U,A0v]
  have Y:(s.note 8).e=8:=B0i he 8
  show(CS.set (fl M _ _ (s.note 8) 8).1 _ _).e=8
  rw[B4T (by rw[Y];decide),A2A (by rw[Y];decide),Y]
theorem Rq.enter(h:Rq s.H M A)(X:s.e=0)(I:U2 A i g)(U:(A.n i.toNat).k=1){x:En}(Z:okE x):
 ((s.enter M i g x).e=0/\(T1 (A.n i.toNat).l x).length<=24/\Rq (s.enter M i g x).H M (A.up i.toNat ((A.n i.toNat).ls (T1 (A.n i.toNat).l x)))/\∃K:List Nat,K.length<=5/\Dif s.H (s.enter M i g x).H (1::(1+i.toNat)::K))\/
 ((s.enter M i g x).e=8/\(24<(T1 (A.n i.toNat).l x).length\/M<(A.up i.toNat ((A.n i.toNat).ls (T1 (A.n i.toNat).l x))).use+42)):=by
 obtain⟨r1,r2⟩:=N6 I
 obtain⟨V,W⟩:=h.ents i g
 have J:V1 A i g 1=0:=by unfold V1;rw[if_pos I,if_pos U]
 have Y:lsA A i g=(A.n i.toNat).l:=by unfold lsA;rw[if_pos J]
 unfold CS.enter
 rw[V,W,J,A0v,Y]
 exact h.seten X I U (B9v (h.ok _ r1 r2).rise Z)
theorem Rq.leave(h:Rq s.H M A)(he:s.e=0)(J:U2 A i g)(I:(A.n i.toNat).k=1)(x:ByteArray):
 (s.leave M i g x).e=0/\Rq (s.leave M i g x).H M (A.up i.toNat ((A.n i.toNat).ls (dropL (A.n i.toNat).l x)))/\∃K:List Nat,K.length<=5/\Dif s.H (s.leave M i g x).H (1::(1+i.toNat)::K):=by
 obtain⟨U,V⟩:=N6 J
 obtain⟨e1,e2⟩:=h.ents i g
 have W:V1 A i g 1=0:=by unfold V1;rw[if_pos J,if_pos I]
 have hl:lsA A i g=(A.n i.toNat).l:=by unfold lsA;rw[if_pos W]
 unfold CS.leave
 rw[e1,e2,W,A0v,hl]
 have aB:=A9R (A.n i.toNat).l x
 have aA:=(h.ok _ U V).few
 rcases h.seten he J I (B6M (h.ok _ U V).rise x)with⟨Y,_,Z,a3⟩|⟨_,b⟩
 ·exact⟨Y,Z,a3⟩
 ·exfalso
  rcases b with b|b
  ·omega
  ·have h1:=B0k A ⟨U,V⟩ ((A.n i.toNat).ls (dropL (A.n i.toNat).l x))
   have h2:Q1 (Q2 ((A.n i.toNat).ls (dropL (A.n i.toNat).l x))) 8<=Q1 (Q2 (A.n i.toNat)) 8:=A8Q λb _=>by
    rw[B4V I,B4W I]
    rcases Nat.lt_or_ge b (H7 (dropL (A.n i.toNat).l x)).length with y|y
    ·have X:b<(H7 (A.n i.toNat).l).length:=by
      rw[N8]at y⊢
      unfold nCh at y⊢
      omega
     rw[List.getD_eq_getElem?_getD,List.getD_eq_getElem?_getD,List.getElem?_eq_getElem X,Option.getD_some,A1l (A3S _ _ (List.getElem_mem X))]
     exact C1r _
    ·rw[List.getD_eq_getElem?_getD,List.getElem?_eq_none y]
     exact Nat.zero_le _
   have h3:=h.ow.cnt
   have h4:A.use=A0h A.R 40:=rfl
   omega
theorem Rq.free(h:Rq s.H M A)(he:s.e=0)(I:U2 A i g):(s.free M i g).e=0/\Rq (s.free M i g).H M (A.up i.toNat (Nd.gone g))/\Dif s.H (s.free M i g).H [1,1+i.toNat]:=by
 obtain⟨J,U⟩:=N6 I
 obtain⟨f1,Z,f3⟩:=h.f _ J U
 have V:(A.n i.toNat).g=g:=by unfold U2 at I;exact I.2.2.2
 unfold CS.free
 rw[h.fileE,if_pos I,A0v,h.fileX I]
 rcases h.refill (i:=i.toNat) (x:=D3 s.H i.toNat) (bs:=[]) (y:=Nd.gone g) (z:=A8c (D3 s.H i.toNat)) he ⟨J,U⟩ (λ_ _=>rfl) (λr hr=>by simp at hr) (OkN.gone (by rw[<-V];exact(h.ok _ J U).g)) (λj _=>B6N g j) rfl (by show(D3 s.H i.toNat).g=g;rw[Z,V]) rfl (λj hj=>by rw[B9x,if_pos hj];rfl)with⟨W,X,K,hK,Y⟩|⟨_,j,_,_,j2,_⟩
 ·have:K=[]:=List.eq_nil_of_length_eq_zero (by simpa using hK)
  subst this
  exact⟨W,X,Y⟩
 ·exact absurd rfl j2
def A2B(A:As):Option Nat:=(List.range 40).find? (λj=>decide ((A.n (1+j)).k=0/\(A.n (1+j)).g<2147483647))
theorem Rq.addO(h:Rq s.H M A):addO s.H=A2B A:=by
 unfold Go.Proofs.YtbefmjiclpobjaaGreat.addO A2B
 have:∀(l:List Nat),(∀j∈l,j<40)->l.find? (λj=>decide (A3k s.H j))=l.find? (λj=>decide ((A.n (1+j)).k=0/\(A.n (1+j)).g<2147483647)):=λl=>by
  induction l with
  |nil=>intro _;rfl
  |cons j l ih=>
   intro I
   obtain⟨J,U,_⟩:=h.f (1+j) (by omega) (by have:=I j List.mem_cons_self;omega)
   have e:decide (A3k s.H j)=decide ((A.n (1+j)).k=0/\(A.n (1+j)).g<2147483647):=decide_eq_decide.2 (by unfold A3k;rw[J,U])
   rw[List.find?_cons,List.find?_cons,e,ih (λk W=>I k (List.mem_cons_of_mem _ W))]
 exact this _ (λj V=>List.mem_range.1 V)
theorem A1B{j:Nat}(h:A2B A=some j):j<40/\(A.n (1+j)).k=0/\(A.n (1+j)).g<2147483647:=by
 unfold A2B at h
 have I:=List.find?_some h
 have J:=List.mem_of_find?_eq_some h
 exact⟨List.mem_range.1 J,by simpa using I⟩
theorem Rq.add(h:Rq s.H M A)(X:s.e=0){I:Int}(Y:I=1\/I=2){j:Nat}(U:A2B A=some j):
 (s.add I).e=0/\Rq (s.add I).H M (A.up (1+j) (Nd.new I ((A.n (1+j)).g+1)))/\Dif s.H (s.add I).H [2+j]:=by
 obtain⟨j1,j2,j3⟩:=A1B U
 obtain⟨f1,W,f3⟩:=h.f (1+j) (by omega) (by omega)
 have Z:=h.ok (1+j) (by omega) (by omega)
 unfold CS.add
 rw[h.addO,U]
 have V:∀b,b<8->Q2 (A.n (1+j)) b=[]:=λb _=>by unfold Q2;rw[j2];rfl
 obtain⟨a,b,c⟩:=h.reset (i:=1+j) (y:=Nd.new I ((A.n (1+j)).g+1)) (z:=mkI I (D3 s.H (1+j)).g) X ⟨by omega,by omega⟩ (OkN.new Y (by have:=Z.g;omega)) (λb J=>by rw[B1Z,V b J]) rfl (by show(D3 s.H (1+j)).g+1=_;rw[W];rfl) rfl (λb J=>((h.ow.nz (1+j) b ⟨by omega,by omega,J⟩).2 (V b J)).symm)
 exact⟨a,b,by rw[show 2+j=1+(1+j)by omega];exact c⟩
theorem Rq.addF(h:Rq s.H M A){j:Nat}(I:A2B A=some j):addF s.H=(((1+j:Nat):Int),(A.n (1+j)).g+1):=by
 obtain⟨J,_⟩:=A1B I
 unfold Go.Proofs.YtbefmjiclpobjaaGreat.addF
 rw[h.addO,I]
 show(((1+j:Nat):Int),(D3 s.H (1+j)).g+1)=_
 rw[(h.f (1+j) (by omega) (by omega)).2.1]
theorem Rq.add_none(h:Rq s.H M A)(I:s.e=0)(U:Int)(J:A2B A=none):(s.add U).e=8:=by
 unfold CS.add
 rw[h.addO,J]
 exact B0i I 8
theorem Rq.write1(h:Rq s.H M A)(he:s.e=0)(ht:U2 A i g)(I:(A.n i.toNat).k=2){j:Nat}(hj:j<8){d:ByteArray}(hd:d.size<=64){z:M5}(U:z=atX (D3 s.H i.toNat) (λb=>if b=j then s.placeI M ((D3 s.H i.toNat).a j) (M9 d)else(D3 s.H i.toNat).a b)):
 (((s.place M ((D3 s.H i.toNat).a j) (M9 d)).set i.toNat z).e=0/\Rq ((s.place M ((D3 s.H i.toNat).a j) (M9 d)).set i.toNat z).H M (A.up i.toNat ((A.n i.toNat).bk (λb=>if b=j then d else(A.n i.toNat).b b)))/\∃K:List Nat,K.length<=1/\Dif s.H ((s.place M ((D3 s.H i.toNat).a j) (M9 d)).set i.toNat z).H (1::(1+i.toNat)::K))\/
 (((s.place M ((D3 s.H i.toNat).a j) (M9 d)).set i.toNat z).e=8/\M<(A.up i.toNat ((A.n i.toNat).bk (λb=>if b=j then d else(A.n i.toNat).b b))).use+42):=by
 obtain⟨W,X⟩:=N6 ht
 obtain⟨f1,f2,f3⟩:=h.f _ W X
 have aC:=h.ok _ W X
 have aD:M9 d=[]\/((M9 d).length=128/\∀y∈M9 d,y<256):=by
  by_cases h0:d.size=0
  ·exact .inl (if_pos h0)
  ·exact .inr ⟨A1j (by omega) (by omega),A9Y (by omega)⟩
 have aA:In8 i.toNat j:=⟨W,X,hj⟩
 rcases h.ow.place h.sw he aA aD with⟨p1,V,J,p4⟩|⟨p1,V,J,p4⟩
 ·have aE:=A7s (s:=s) h.sw (h.ow.pt _ _ aA) aD
  obtain⟨Y,aI⟩:∃Y,Y=s.place M ((D3 s.H i.toNat).a j) (M9 d):=⟨_,rfl⟩
  obtain⟨Z,aF⟩:∃Z,Z=s.placeI M ((D3 s.H i.toNat).a j) (M9 d):=⟨_,rfl⟩
  rw[<-aI]at p1 V J p4 aE⊢
  rw[<-aF]at V p4 U
  obtain⟨h1,h2⟩:=Rq.core (s:=Y) (i:=i.toNat) (A:=A) (y:=(A.n i.toNat).bk (λb=>if b=j then d else(A.n i.toNat).b b)) (z:=z) p1 aE (λk k1 k2 _=>by rw[Rq.ino_low J k1 k2];exact⟨h.f k k1 k2,h.ok k k1 k2⟩) V (λk b I aH=>by
   rw[Rq.ino_low J I.1 I.2.1,U9 _ _ (by omega)]) (λk b I aH=>by rw[U9 _ _ (by omega)];rfl) (by rw[J 0 (by omega) (by omega)];exact h.rc) ⟨W,X⟩ (aC.bk I (λb=>by
   show(if b=j then d else _).size<=64
   split
   ·exact hd
   ·exact aC.b b)) (λb hb=>by
   rw[A6k I]
   show _=M9 (if b=j then d else(A.n i.toNat).b b)
   by_cases e:b=j
   ·rw[if_pos e,e,A0g]
   ·rw[if_neg e,U9 _ _ (by omega)]
    exact A6j I b) (by rw[U];exact f1) (by rw[U];exact f2) (by rw[U];exact f3) (λb hb=>by
   rw[U]
   show(if b=j then Z else _)=_
   by_cases e:b=j
   ·rw[if_pos e,e,A0g]
   ·rw[if_neg e,U9 _ _ (by omega)])
  rw[h1]
  refine .inl ⟨rfl,h2,[Z.toNat],Nat.le_refl _,λk I=>?_⟩
  by_cases e:k=1+i.toNat
  ·rw[e];exact List.mem_cons_of_mem _ List.mem_cons_self
  ·have aG:Y.H k≠s.H k:=by rw[<-J1 Y.H (secI z) e];exact I
   rcases p4 k aG with x|⟨_,x⟩
   ·rw[x];exact List.mem_cons_self
   ·exact List.mem_cons_of_mem _ (List.mem_cons_of_mem _ (List.mem_cons.2 (.inl (by omega))))
 ·have h8:(s.place M ((D3 s.H i.toNat).a j) (M9 d)).e=8:=p1
  rw[A2A (by rw[h8];decide),h8]
  refine .inr ⟨rfl,?_⟩
  have h1:=B0k A ⟨W,X⟩ ((A.n i.toNat).bk (λb=>if b=j then d else(A.n i.toNat).b b))
  have aB:Q2 (A.n i.toNat) j=[]:=(h.ow.nz i.toNat j aA).1 V
  have h2:=B0j (f:=Q2 (A.n i.toNat)) (g:=Q2 ((A.n i.toNat).bk (λb=>if b=j then d else(A.n i.toNat).b b))) (j:=j) (n:=8) (λb _=>by
   by_cases e:b=j
   ·rw[e,aB];exact Nat.zero_le _
   ·rw[A6j I,A6k I]
    show _<=U5 (M9 (if b=j then d else _))
    rw[if_neg e]
    exact Nat.le_refl _) hj (by
   rw[aB,A6k I]
   show _<U5 (M9 (if j=j then d else _))
   rw[if_pos rfl,A1l J]
   decide)
  have h3:=h.ow.cnt
  have h4:A.use=A0h A.R 40:=rfl
  omega
theorem Rq.trunc1(h:Rq s.H M A)(he:s.e=0)(ht:U2 A i g)(U:(A.n i.toNat).k=2):
 (((s.fill M (D3 s.H i.toNat) []).set i.toNat (s.fillX M (D3 s.H i.toNat) [])).e=0/\Rq ((s.fill M (D3 s.H i.toNat) []).set i.toNat (s.fillX M (D3 s.H i.toNat) [])).H M (A.up i.toNat ((A.n i.toNat).bk noB))/\Dif s.H ((s.fill M (D3 s.H i.toNat) []).set i.toNat (s.fillX M (D3 s.H i.toNat) [])).H [1,1+i.toNat]):=by
 obtain⟨I,J⟩:=N6 ht
 obtain⟨Y,Z,f3⟩:=h.f _ I J
 rcases h.refill (i:=i.toNat) (x:=D3 s.H i.toNat) (bs:=[]) (y:=(A.n i.toNat).bk noB) (z:=s.fillX M (D3 s.H i.toNat) []) he ⟨I,J⟩ (λ_ _=>rfl) (λr hr=>by simp at hr) ((h.ok _ I J).bk U (λ_=>Nat.zero_le _)) (λj _=>by rw[A6k U];exact B1Y) Y Z f3 (λ_ _=>rfl)with⟨V,W,K,hK,X⟩|⟨_,j,_,_,j2,_⟩
 ·have:K=[]:=List.eq_nil_of_length_eq_zero (by simpa using hK)
  subst this
  exact⟨V,W,X⟩
 ·exact absurd rfl j2
end
end
section
open Go.RowKit Go.Maps
def EO(E:Ev):Nat->Prop:=λk=>E.U k\/k=E.mo
def OdR(w:World)(E:Ev)(R:(DS×LS)×Int)(w':World):Prop:=
 ∃F' I,So w' (E.at_ F' R.1.1 R.1.2 I)/\OtR E R I/\B1 (EO E) w (EO (E.at_ F' R.1.1 R.1.2 I)) w'
def LOk(E:Ev)(s:CS):Prop:=s.e=0->WOk E.n E.N E.s E.g/\AOk E.M (A0n E.s E.n E.N E.g (E8 (J2 s.H E.H) E.M)).1.2.A
noncomputable def Q3(E:Ev)(s:CS):(DS×LS)×Int:=B1M E s.H s.e
section
variable {w w1 w3 w4:World} {E:Ev} {c m:Nat} {R:(DS×LS)×Int} {x:Ending} {s:CS}
theorem A5U.op(h:A5U w3 E c m R x w4)(I:B1 B5 w B5 w1)(hc:w.heap.size<=c)(hm:w.heap.size<=m)(J:B1 (CF c m) w1 (CF c m) w3):x= .returned (.int .i64 R.2)/\OdR w E R w4:=by
 obtain⟨V,F',X,h2,h3,U⟩:=h
 refine⟨V,F',X,h2,h3,U.os.trans (J.os.trans I.os),U.tape.trans (J.tape.trans I.tape),U.output.trans (J.output.trans I.output),Nat.le_trans I.size (Nat.le_trans J.size U.size),λk W Z=>?_,λk W=>?_⟩
 ·have V:=Nat.lt_of_lt_of_le W I.size
  have Y:¬CF c m k:=λy=>by rcases y with y|y<;>omega
  refine(U.block k (Nat.lt_of_lt_of_le V J.size) (λy=>?_)).trans ((J.block k V Y).trans (I.block k W (λy=>y)))
  rcases y with y|y|y
  ·exact Z (.inl y)
  ·exact Z (.inr y)
  ·exact Y y
 ·have hb:=Nat.le_trans I.size J.size
  have:EF (E.at_ F' R.1.1 R.1.2 X) c m k:=by
   rcases W with y|y
   ·exact .inl y
   ·exact .inr (.inl y)
  rcases U.into k this with y|y
  ·rcases y with y|y|y|y
   ·exact .inl (.inl y)
   ·exact .inl (.inr y)
   ·exact .inr (by omega)
   ·exact .inr (by omega)
  ·exact .inr (by omega)
theorem A8R(h:Cs w E c m s)(J:∀i,i<E.M->(E.H i).length=128/\∀x∈E.H i,x<256)(I:LOk E s):Calls Tryz.prog 46 #[.pointer (some ⟨c,0,none⟩)] w (A5U w E c m (Q3 E s)):=
 C47 h J (λe=>(I e).1) (λe=>(I e).2)
theorem B9y{H:Nat->List Nat}{i g:Int}{s:ByteArray}(h:L4 H i g s=0):0<=i/\i<=40:=by
 have I:J5 H i g=0:=by
  unfold L4 at h
  split at h
  ·assumption
  ·exact h
 have J:Q9 H i g 1=0:=by
  unfold J5 at I
  split at I
  ·assumption
  ·exact I
 have:=S9 (A1h J).1
 omega
end
end
section
open Go.RowKit Go.Maps
theorem Q0{w:World}{z:Nat}{t:TypeId}{X:En}(h:C3 w z t (ea X)):w.rangeAt z 1 [.int .i64 X.i,.int .i64 X.g]:=λj u I=>by
 have J:j<2:=(List.getElem?_eq_some_iff.1 I).1
 match j,J with
 |0,_=>simp at I;subst I;exact h.cell 1
 |1,_=>simp at I;subst I;exact h.cell 2
noncomputable def A8e(H:Nat->List Nat)(i g:Int)(s:ByteArray):Int:=
 if A0a [s]=0 then(if L4 H i g s=0 then mfE H (J6 H i g s)else L4 H i g s)else A0a [s]
noncomputable def B3A(E:Ev)(i g:Int)(s:ByteArray):CS:=
 (((⟨E.H,0⟩:CS).free E.M (J6 E.H i g s).i (J6 E.H i g s).g).leave E.M i g s).touch i g
section
variable {w:World} {E:Ev}
theorem B9z(h:So w E)(hs:Sw E.H E.M)(i g:Int)(s:ByteArray)(hm:s.size<=maxLen)(hl:A8e E.H i g s=0->LOk E (B3A E i g s)):
 Calls Tryz.prog 33 #[.pointer (some ⟨E.o,0,none⟩),.agg #[.int .i64 i,.int .i64 g],.string s] w λr w'=>
  (A8e E.H i g s≠0/\r= .returned (.int .i64 (A8e E.H i g s))/\B1 B5 w B5 w')\/
  (A8e E.H i g s=0/\r= .returned (.int .i64 (Q3 E (B3A E i g s)).2)/\OdR w E (Q3 E (B3A E i g s)) w'):=by
 have hv:=h.vu.rdv
 have HF:=C5Z (λV (a:B1 B5 w B5 V)=>A7l (hv.step a) hs.sd i g s)
 have HM:=C5Z (λV (a:B1 B5 w B5 V)=>A1k (hv.step a))
 have HC:=C5Z (λV z (r:Rd V 1 (.slice (some ⟨z,0,none⟩) 1 1) 1 ([s].map Value.string))=>A6g (.slice (some ⟨z,0,none⟩) 1 1) [s] V r (λt ht=>by rw[List.mem_singleton.1 ht];exact hm) (by simp))
 have aH:=C5Z (λV (a:B1 B5 w B5 V)=>A8B (hv.step a) hs.sd (J6 E.H i g s))
 have aT:=C5Z (λV (a:B1 B5 w B5 V)=>A19 (h.step a))
 have HL:=C5Z hl
 have HR:=C5Z (show A8e E.H i g s=if A0a [s]=0 then(if L4 E.H i g s=0 then mfE E.H (J6 E.H i g s)else L4 E.H i g s)else A0a [s]from rfl)
 have aE:=C5Z (show B3A E i g s=(((⟨E.H,0⟩:CS).free E.M (J6 E.H i g s).i (J6 E.H i g s).g).leave E.M i g s).touch i g from rfl)
 have aQ:=C5Z (B15 E.H i g s)
 have aO:=C5Z (λx:L4 E.H i g s=0=>B9y x)
 have HS:=C5Z hs
 obtain⟨H,hH⟩:∃H,H=vwH E.O E.L:=⟨_,rfl⟩
 obtain⟨X,hX⟩:∃X,X=J6 E.H i g s:=⟨_,rfl⟩
 obtain⟨fe,bA⟩:∃fe,fe=L4 E.H i g s:=⟨_,rfl⟩
 obtain⟨ck,bG⟩:∃ck,ck=A0a [s]:=⟨_,rfl⟩
 obtain⟨mf,bH⟩:∃mf,mf=mfE E.H (J6 E.H i g s):=⟨_,rfl⟩
 obtain⟨re,bI⟩:∃re,re=A8e E.H i g s:=⟨_,rfl⟩
 obtain⟨S3,bY⟩:∃S3,S3=B3A E i g s:=⟨_,rfl⟩
 rw[<-bH,<-bA,<-bG,<-bI]at HR
 rw[<-bY]at HL aE⊢
 rw[<-bI]at HL⊢
 rw[<-hX]at aE aQ
 rw[<-bA]at aO
 have HF:=C5Z (λV (a:B1 B5 w B5 V)=>(HF.out V a).mono (R':=λe w'=>e= .returned (.tuple #[.agg (ea X),.int .i64 fe])/\B1 B5 V B5 w') (λe w' y=>by rw[hX,bA];exact y))
 have aH:=C5Z (λV (a:B1 B5 w B5 V)=>show Calls Tryz.prog 81 #[.pointer (some ⟨E.o,0,none⟩),.agg (ea X)] V λe w'=>e= .returned (.int .i64 mf)/\B1 B5 V B5 w' by rw[hX,bH];exact aH.out V a)
 rw[<-bG]at HC
 have aZ:=C5Z h
 clear hX bA bG bH bI bY hH h hs hv hm hl
 by_cases h0:ck=0
 ·subst h0
  rw[if_pos rfl]at HR
  by_cases h1:fe=0
  ·subst h1
   rw[if_pos rfl]at HR
   by_cases h2:mf=0
   ·subst h2
    have aB:=C5Z HR.out
    have hi:=aO.out rfl
    have bJ:Sw (⟨E.H,0⟩:CS).H E.M:=HS.out
    have bQ:=C5Z (λW c m (k:Cs W E c m ⟨E.H,0⟩)=>B8Q k bJ X.i X.g aQ.out)
    have bB:=B0h bJ X.i X.g
    obtain⟨S1,bV⟩:∃S1,S1=(⟨E.H,0⟩:CS).free E.M X.i X.g:=⟨_,rfl⟩
    rw[<-bV]at bQ bB aE
    have bR:=C5Z (λW c m (k:Cs W E c m S1)=>B4G k bB i g hi s)
    have bK:=B1R bB i g s
    obtain⟨S2,bX⟩:∃S2,S2=S1.leave E.M i g s:=⟨_,rfl⟩
    rw[<-bX]at bR bK aE
    have bT:=C5Z (λW c m (k:Cs W E c m S2)=>A41 k bK i g hi)
    rw[<-aE.out]at bT
    have bP:=C5Z (λW c m (k:Cs W E c m S3)=>A8R k HS.out.sd.row (HL.out aB.out))
    obtain⟨R,hR⟩:∃R,R=Q3 E S3:=⟨_,rfl⟩
    rw[<-hR]at bP⊢
    obtain⟨o,Y⟩:∃o,o=E.o:=⟨_,rfl⟩
    rw[<-Y]at HM aT HF aH⊢
    clear bV bX bJ bB bK hR Y hi HL aE aO HR HS aZ aQ
    go_enter Tryz.func33,Tryz.ntmps33
    go_wp2_with (first
     |(refine C4 rfl _ rfl rfl ?_;intro Z w0 U J I;have aK:=C5Z J;have aA:=C5Z I;have bF:=C5Z U;clear U J I)
     |(go_at_call 73;refine(HM.out _ aA.out).mono ?_;rintro e w2 ⟨rfl,rfl⟩)
     |(refine M7 rfl _ rfl s rfl ?_;intro z3 w3 U J I;have aM:=C5Z J;have aI:=C5Z (aA.out.trans I);have aL:=C5Z (aK.out.over I);clear U J I)
     |(go_at_call 79;refine(HC.out _ _ aM.out).mono ?_;rintro e w4 ⟨rfl,I⟩;have aC:=C5Z (aI.out.trans I);have aD:=C5Z (aL.out.over I);clear I)
     |(refine B6 (t:=35) rfl _ rfl Z aD.out rfl Tryz.underlying35 rfl B0 rfl ?_)
     |(go_at_call 80;refine(HF.out _ aC.out).mono ?_;rintro e w5 ⟨rfl,I⟩;have aF:=C5Z (aC.out.trans I);have aG:=C5Z (aD.out.over I);clear I)
     |(refine B9 rfl rfl D1 ?_;intro z8 w6 U J I;have aW:=C5Z (Nat.le_trans aF.out.size U);have aV:=C5Z J;have aR:=C5Z (aF.out.trans I);have aS:=C5Z (aG.out.over I);have aU:=C5Z (show Z≠z8 fromλe=>by have:=aG.out.lt;omega);clear U J I)
     |(refine B7 rfl _ _ rfl z8 aV.out rfl rfl C7 (C6 _) (C6 _) (L8 _) ?_;intro w7 J I;have aP:=C5Z J;have aJ:=C5Z (aR.out.fresh aW.out I);have aX:=C5Z (aS.out.far1 I aU.out);clear J I)
     |(refine B6 (t:=74) rfl _ rfl z8 aP.out rfl Tryz.underlying74 rfl C7 (C6 _) ?_)
     |(go_at_call 81;refine(aH.out _ aJ.out).mono ?_;rintro e w8 ⟨rfl,I⟩;have aN:=C5Z (aJ.out.trans I);have bC:=C5Z (aX.out.over I);have bD:=C5Z (aP.out.over I);clear I)
     |(go_at_call 44;refine(aT.out _ aN.out).mono ?_;rintro e w9 ⟨c,m,rfl,hc,h1,h2,I⟩;have cG:=C5Z (show Cs _ E c m ⟨E.H,0⟩from hc);have bU:=C5Z (And.intro (Nat.le_trans aN.out.size h1) (Nat.le_trans aN.out.size h2));have bM:=C5Z (bC.out.over I);have cJ:=C5Z (bD.out.over I);have bS:=C5Z (show(¬CF c m Z)/\¬CF c m z8 from⟨λy=>by have:=bC.out.lt;rcases y with y|y<;>omega,λy=>by have:=bD.out.lt;rcases y with y|y<;>omega⟩);have cC:=C5Z (aN.out.trans I);have cH:=C5Z (Q0 cJ.out);clear hc h1 h2 I)
     |(refine wpList_load_mid rfl 35 (.tmp 40) rfl z8 1 rfl [.int .i64 X.i,.int .i64 X.g] _ cH.out Tryz.underlying35 rfl (by rw[B0];rfl) ?_)
     |(go_at_call 82;refine(bQ.out _ _ _ cG.out).mono ?_;rintro e cK ⟨rfl,hc,I⟩;have cD:=C5Z hc;have bZ:=C5Z I;have aY:=C5Z (bM.out.keep (I.block Z bM.out.lt bS.out.1));clear hc I aD)
     |(refine B6 (t:=35) rfl _ rfl Z aY.out rfl Tryz.underlying35 rfl B0 rfl ?_)
     |(go_at_call 83;refine(bR.out _ _ _ cD.out).mono ?_;rintro e cL ⟨rfl,hc,I⟩;have cE:=C5Z hc;have cA:=C5Z (bZ.out.trans I);have bO:=C5Z (aY.out.keep (I.block Z aY.out.lt bS.out.1));clear hc I aY)
     |(refine B6 (t:=35) rfl _ rfl Z bO.out rfl Tryz.underlying35 rfl B0 rfl ?_)
     |(go_at_call 84;refine(bT.out _ _ _ cE.out).mono ?_;rintro e cM ⟨rfl,hc,I⟩;have cF:=C5Z hc;have cB:=C5Z (cA.out.trans I);clear hc I bO)
     |(go_at_call 46;refine(bP.out _ _ _ cF.out).mono ?_;rintro e cN he;obtain⟨rfl,Y⟩:=he.op cC.out bU.out.1 bU.out.2 cB.out;have HO:=C5Z Y;clear he Y)
     |fail)
    go_ret
    exact .inr ⟨aB.out,rfl,HO.out⟩
   ·have J:(mf !=0)=true:=by rw[bne_iff_ne];exact h2
    have HN:=C5Z h2
    obtain⟨o,Y⟩:∃o,o=E.o:=⟨_,rfl⟩
    rw[<-Y]at HM HF aH⊢
    have aB:=C5Z HR.out
    clear h2 HL aE aO HR HS aZ aQ aT Y
    go_enter Tryz.func33,Tryz.ntmps33
    go_wp2_with (first
     |(refine C4 rfl _ rfl rfl ?_;intro Z w0 U J I;have aK:=C5Z J;have aA:=C5Z I;have bF:=C5Z U;clear U J I)
     |(go_at_call 73;refine(HM.out _ aA.out).mono ?_;rintro e w2 ⟨rfl,rfl⟩)
     |(refine M7 rfl _ rfl s rfl ?_;intro z3 w3 U J I;have aM:=C5Z J;have aI:=C5Z (aA.out.trans I);have aL:=C5Z (aK.out.over I);clear U J I)
     |(go_at_call 79;refine(HC.out _ _ aM.out).mono ?_;rintro e w4 ⟨rfl,I⟩;have aC:=C5Z (aI.out.trans I);have aD:=C5Z (aL.out.over I);clear I)
     |(refine B6 (t:=35) rfl _ rfl Z aD.out rfl Tryz.underlying35 rfl B0 rfl ?_)
     |(go_at_call 80;refine(HF.out _ aC.out).mono ?_;rintro e w5 ⟨rfl,I⟩;have aF:=C5Z (aC.out.trans I);have aG:=C5Z (aD.out.over I);clear I)
     |(refine B9 rfl rfl D1 ?_;intro z8 w6 U J I;have aW:=C5Z (Nat.le_trans aF.out.size U);have aV:=C5Z J;have aR:=C5Z (aF.out.trans I);have aS:=C5Z (aG.out.over I);have aU:=C5Z (show Z≠z8 fromλe=>by have:=aG.out.lt;omega);clear U J I)
     |(refine B7 rfl _ _ rfl z8 aV.out rfl rfl C7 (C6 _) (C6 _) (L8 _) ?_;intro w7 J I;have aP:=C5Z J;have aJ:=C5Z (aR.out.fresh aW.out I);have aX:=C5Z (aS.out.far1 I aU.out);clear J I)
     |(refine B6 (t:=74) rfl _ rfl z8 aP.out rfl Tryz.underlying74 rfl C7 (C6 _) ?_)
     |(go_at_call 81;refine(aH.out _ aJ.out).mono ?_;rintro e w8 ⟨rfl,I⟩;have aN:=C5Z (aJ.out.trans I);have bC:=C5Z (aX.out.over I);have bD:=C5Z (aP.out.over I);clear I)
     |fail)
    go_ret
    exact .inl ⟨by rw[aB.out];exact HN.out,(by rw[aB.out];rfl),aN.out⟩
  ·rw[if_neg h1]at HR
   have J:(fe !=0)=true:=by rw[bne_iff_ne];exact h1
   have HN:=C5Z h1
   obtain⟨o,Y⟩:∃o,o=E.o:=⟨_,rfl⟩
   rw[<-Y]at HM HF⊢
   have aB:=C5Z HR.out
   clear h1 HL aE aO HR HS aZ aQ aT aH Y
   go_enter Tryz.func33,Tryz.ntmps33
   go_wp2_with (first
    |(refine C4 rfl _ rfl rfl ?_;intro Z w0 U J I;have aK:=C5Z J;have aA:=C5Z I;have bF:=C5Z U;clear U J I)
    |(go_at_call 73;refine(HM.out _ aA.out).mono ?_;rintro e w2 ⟨rfl,rfl⟩)
    |(refine M7 rfl _ rfl s rfl ?_;intro z3 w3 U J I;have aM:=C5Z J;have aI:=C5Z (aA.out.trans I);have aL:=C5Z (aK.out.over I);clear U J I)
    |(go_at_call 79;refine(HC.out _ _ aM.out).mono ?_;rintro e w4 ⟨rfl,I⟩;have aC:=C5Z (aI.out.trans I);have aD:=C5Z (aL.out.over I);clear I)
    |(refine B6 (t:=35) rfl _ rfl Z aD.out rfl Tryz.underlying35 rfl B0 rfl ?_)
    |(go_at_call 80;refine(HF.out _ aC.out).mono ?_;rintro e w5 ⟨rfl,I⟩;have aF:=C5Z (aC.out.trans I);have aG:=C5Z (aD.out.over I);clear I)
    |(refine B9 rfl rfl D1 ?_;intro z8 w6 U J I;have aW:=C5Z (Nat.le_trans aF.out.size U);have aV:=C5Z J;have aR:=C5Z (aF.out.trans I);have aS:=C5Z (aG.out.over I);have aU:=C5Z (show Z≠z8 fromλe=>by have:=aG.out.lt;omega);clear U J I)
    |(refine B7 rfl _ _ rfl z8 aV.out rfl rfl C7 (C6 _) (C6 _) (L8 _) ?_;intro w7 J I;have aP:=C5Z J;have aJ:=C5Z (aR.out.fresh aW.out I);have aX:=C5Z (aS.out.far1 I aU.out);clear J I)
    |fail)
   go_ret
   exact .inl ⟨by rw[aB.out];exact HN.out,(by rw[aB.out];rfl),aJ.out⟩
 ·rw[if_neg h0]at HR
  have J:(ck !=0)=true:=by rw[bne_iff_ne];exact h0
  have HN:=C5Z h0
  obtain⟨o,Y⟩:∃o,o=E.o:=⟨_,rfl⟩
  rw[<-Y]at HM⊢
  have aB:=C5Z HR.out
  clear h0 HL aE aO HR HS aZ aQ aT aH HF Y
  go_enter Tryz.func33,Tryz.ntmps33
  go_wp2_with (first
   |(refine C4 rfl _ rfl rfl ?_;intro Z w0 U J I;have aK:=C5Z J;have aA:=C5Z I;have bF:=C5Z U;clear U J I)
   |(go_at_call 73;refine(HM.out _ aA.out).mono ?_;rintro e w2 ⟨rfl,rfl⟩)
   |(refine M7 rfl _ rfl s rfl ?_;intro z3 w3 U J I;have aM:=C5Z J;have aI:=C5Z (aA.out.trans I);have aL:=C5Z (aK.out.over I);clear U J I)
   |(go_at_call 79;refine(HC.out _ _ aM.out).mono ?_;rintro e w4 ⟨rfl,I⟩;have aC:=C5Z (aI.out.trans I);have aD:=C5Z (aL.out.over I);clear I)
   |fail)
  go_ret
  exact .inl ⟨by rw[aB.out];exact HN.out,(by rw[aB.out];rfl),aC.out⟩
end
end
section
open Go.RowKit Go.Maps
theorem A5U.from_{w w3 w4:World}{E:Ev}{c m:Nat}{R:(DS×LS)×Int}{x:Ending}(h:A5U w3 E c m R x w4)(a:B1 (CF c m) w (CF c m) w3):A5U w E c m R x w4:=by
 obtain⟨U,F',I,V,h3,J⟩:=h
 exact⟨U,F',I,V,h3,(a.same (G:=EF E c m) (λ_ y=>.inr (.inr y))).trans J⟩
theorem A5U.blk{w3 w4:World}{E:Ev}{c m z:Nat}{R:(DS×LS)×Int}{x:Ending}{t:TypeId}{C:Array Value}(h:A5U w3 E c m R x w4)(I:C3 w3 z t C)(U:¬EF E c m z):C3 w4 z t C:=by
 obtain⟨_,F',V,_,_,J⟩:=h
 exact I.keep (J.block z I.lt U)
noncomputable def ewS(s:CS)(q:Nat)(g:Int)(x:M5):CS:=(s.set q x).touch (q:Int) g
def ewV(x:M5)(I:Int):Nat:=if I=0 then Q4 ((x.v:Int)+1)else 0
section
variable {w:World} {E:Ev} {c m:Nat} {s:CS}
theorem A8S(h:Cs w E c m s)(aT:∀i,i<E.M->(E.H i).length=128/\∀x∈E.H i,x<256)(q:Nat)(hq:q<=40)(g:Int)(x:M5)(hx:WfI x)(hs:Sw (s.set q x).H E.M)(hl:LOk E (ewS s q g x)):
 Calls Tryz.prog 90 #[.pointer (some ⟨c,0,none⟩),.agg #[.int .i64 (q:Int),.int .i64 g],.agg (ic x)] w λr w'=>
  r= .returned (.tuple #[.int .u64 (ewV x (Q3 E (ewS s q g x)).2:Int),.int .i64 (Q3 E (ewS s q g x)).2])/\A5U w E c m (Q3 E (ewS s q g x)) (.returned (.int .i64 (Q3 E (ewS s q g x)).2)) w':=by
 have aO:=C5Z (λW (k:Cs W E c m s)=>show Calls Tryz.prog 104 #[.pointer (some ⟨c,0,none⟩),.int .i64 (q:Int),.agg (ic x)] W λr w'=>r= .returned (.tuple #[])/\Cs w' E c m (s.set q x)/\B1 (CF c m) W (CF c m) w' from A7p k q hq x hx hs.sd.hM.1)
 have aH:=C5Z (λW (k:Cs W E c m (s.set q x))=>show Calls Tryz.prog 84 #[.pointer (some ⟨c,0,none⟩),.agg #[.int .i64 (q:Int),.int .i64 g]] W λr w'=>r= .returned (.tuple #[])/\Cs w' E c m (ewS s q g x)/\B1 (CF c m) W (CF c m) w' from A41 k hs (q:Int) g ⟨by omega,by omega⟩)
 have aG:=C5Z (λW (k:Cs W E c m (ewS s q g x))=>A8R k aT hl)
 have aE:=C5Z (show∀z,w.heap.size<=z->¬EF E c m z fromλz U y=>by
  obtain⟨b1,b2,b3⟩:=h.so.bd
  obtain⟨l1,l2⟩:=h.lt
  rcases y with y|y|y|y
  ·have:=b1 _ y;omega
  ·omega
  ·omega
  ·omega)
 obtain⟨s1,aU⟩:∃s1,s1=s.set q x:=⟨_,rfl⟩
 obtain⟨s2,aV⟩:∃s2,s2=ewS s q g x:=⟨_,rfl⟩
 rw[<-aU]at aO aH
 rw[<-aV]at aH aG⊢
 obtain⟨R,hR⟩:∃R,R=Q3 E s2:=⟨_,rfl⟩
 rw[<-hR]at aG⊢
 have HC:=C5Z h
 obtain⟨⟨rs,rg⟩,er⟩:=R
 simp only
 have HV:=C5Z (show ewV x 0=Q4 ((x.v:Int)+1)from if_pos rfl)
 have aQ:=C5Z (show er≠0->ewV x er=0 fromλy=>if_neg y)
 have aR:=C5Z (show(ic x)[2]? =some (.int .u64 (x.v:Int))from rfl)
 have aX:IntKind.u64.wrap ((x.v:Int)+1)=((Q4 ((x.v:Int)+1):Nat):Int):=A2Y _
 obtain⟨v,hv⟩:∃v,v=x.v:=⟨_,rfl⟩
 rw[<-hv]at aR aX HV
 obtain⟨v1,aW⟩:∃v1,v1=Q4 ((v:Int)+1):=⟨_,rfl⟩
 rw[<-aW]at aX HV
 clear aU aV hR h aT hx hs hl hq hv aW
 by_cases h0:er=0
 ·subst h0
  go_enter Tryz.func90,Tryz.ntmps90
  go_wp2_with (first
   |(refine C4 (t:=35) rfl _ rfl rfl ?_;intro X w0 U J I;have aD:=C5Z J;have aB:=C5Z I;have aP:=C5Z U;clear U J I)
   |(refine C4 (t:=62) rfl _ rfl rfl ?_;intro Y w1 U J I;have aF:=C5Z J;have aC:=C5Z (aB.out.trans I);have aI:=C5Z (Nat.le_trans aB.out.size U);have aA:=C5Z (aD.out.over I);have c1:w1.cell? ⟨X,0,none⟩=some (.int .i64 (q:Int)):=aA.out.cell 0;clear U J I)
   |(refine B6 (t:=62) rfl _ rfl Y aF.out rfl Tryz.underlying62 rfl C0 (C2 _) ?_)
   |(go_at_call 104;refine(aO.out _ (HC.out.step aC.out)).mono ?_;rintro r w2 ⟨rfl,V,I⟩;have aM:=C5Z V;have aJ:=C5Z ((aC.out.same (G:=CF c m) (λ_ y=>y.elim)).trans I);have aL:=C5Z (aA.out.keep (I.block X aA.out.lt (λy=>aE.out X aP.out (.inr (.inr y)))));have aS:=C5Z (aF.out.keep (I.block Y aF.out.lt (λy=>aE.out Y aI.out (.inr (.inr y)))));clear V I c1 aD)
   |(refine B6 (t:=35) rfl _ rfl X aL.out rfl Tryz.underlying35 rfl B0 rfl ?_)
   |(go_at_call 84;refine(aH.out _ aM.out).mono ?_;rintro r w3 ⟨rfl,V,I⟩;have aN:=C5Z V;have aK:=C5Z (aJ.out.trans I);have aY:=C5Z (aS.out.keep (I.block Y aS.out.lt (λy=>aE.out Y aI.out (.inr (.inr y)))));clear V I)
   |(go_at_call 46;refine(aG.out _ aN.out).mono ?_;rintro r w4 Z;obtain⟨rfl,_⟩:=id Z;have HE:=C5Z Z;have c4:w4.cell? ⟨Y,2,none⟩=some (.int .u64 (v:Int)):=(by rw[(Z.blk aY.out (aE.out Y aI.out)).cell];exact aR.out);clear Z)
   |fail)
  go_ret2
  exact⟨by rw[HV.out];rfl,HE.out.from_ aK.out⟩
 ·have J:(er !=0)=true:=by rw[bne_iff_ne];exact h0
  have HN:=C5Z (aQ.out h0)
  clear h0 aQ HV
  go_enter Tryz.func90,Tryz.ntmps90
  go_wp2_with (first
   |(refine C4 (t:=35) rfl _ rfl rfl ?_;intro X w0 U J I;have aD:=C5Z J;have aB:=C5Z I;have aP:=C5Z U;clear U J I)
   |(refine C4 (t:=62) rfl _ rfl rfl ?_;intro Y w1 U J I;have aF:=C5Z J;have aC:=C5Z (aB.out.trans I);have aI:=C5Z (Nat.le_trans aB.out.size U);have aA:=C5Z (aD.out.over I);have c1:w1.cell? ⟨X,0,none⟩=some (.int .i64 (q:Int)):=aA.out.cell 0;clear U J I)
   |(refine B6 (t:=62) rfl _ rfl Y aF.out rfl Tryz.underlying62 rfl C0 (C2 _) ?_)
   |(go_at_call 104;refine(aO.out _ (HC.out.step aC.out)).mono ?_;rintro r w2 ⟨rfl,V,I⟩;have aM:=C5Z V;have aJ:=C5Z ((aC.out.same (G:=CF c m) (λ_ y=>y.elim)).trans I);have aL:=C5Z (aA.out.keep (I.block X aA.out.lt (λy=>aE.out X aP.out (.inr (.inr y)))));clear V I c1 aD)
   |(refine B6 (t:=35) rfl _ rfl X aL.out rfl Tryz.underlying35 rfl B0 rfl ?_)
   |(go_at_call 84;refine(aH.out _ aM.out).mono ?_;rintro r w3 ⟨rfl,V,I⟩;have aN:=C5Z V;have aK:=C5Z (aJ.out.trans I);clear V I)
   |(go_at_call 46;refine(aG.out _ aN.out).mono ?_;rintro r w4 Z;obtain⟨rfl,_⟩:=id Z;have HE:=C5Z Z;clear Z)
   |fail)
  go_ret2
  exact⟨by rw[HN.out];rfl,HE.out.from_ aK.out⟩
end
end
section
open Go.RowKit Go.Maps
theorem nef{w1:World}{E:Ev}{c m z:Nat}(J:w1.heap.size<=c)(U:w1.heap.size<=m)(V:z<w1.heap.size)(I:¬EO E z):¬EF E c m z:=λy=>by
 rcases y with y|y|y|y
 ·exact I (.inl y)
 ·exact I (.inr y)
 ·omega
 ·omega
theorem So.new{w:World}{E:Ev}(h:So w E)(z:Nat)(V:w.heap.size<=z):¬EO E z:=λy=>by
 obtain⟨I,J,U⟩:=h.bd
 rcases y with y|y
 ·have:=I _ y;omega
 ·omega
noncomputable def B2a(E:Ev)(X:M5):CS:=(⟨E.H,0⟩:CS).fill E.M X []
noncomputable def B0l(E:Ev)(X:M5):M5:=(⟨E.H,0⟩:CS).fillX E.M X []
noncomputable def B2b(E:Ev)(i g:Int):CS:=ewS (B2a E (fileX E.H i g)) i.toNat g (B0l E (fileX E.H i g))
section
variable {w:World} {E:Ev}
theorem C3j{c m:Nat}(h:Cs w E c m ⟨E.H,0⟩)(I:Sw E.H E.M)(i g:Int):Calls Tryz.prog 93 #[.pointer (some ⟨c,0,none⟩),.agg (ic (fileX E.H i g)),.slice none 0 0] w λr w'=>r= .returned (.agg (ic (B0l E (fileX E.H i g))))/\Cs w' E c m (B2a E (fileX E.H i g))/\B1 (CF c m) w (CF c m) w':=
 B3z h I (fileX E.H i g) (X9 I.sd i g).2.1 none 0 0 [] rfl (λr J=>by simp at J) (by simp) (A2e.nil _ _ _)
theorem C1s(h:So w E)(hs:Sw E.H E.M)(i g:Int)(hl:Q9 E.H i g 2=0->LOk E (B2b E i g)):
 Calls Tryz.prog 37 #[.pointer (some ⟨E.o,0,none⟩),.agg #[.int .i64 i,.int .i64 g]] w λr w'=>
  (Q9 E.H i g 2≠0/\r= .returned (.tuple #[.int .u64 0,.int .i64 (Q9 E.H i g 2)])/\B1 B5 w B5 w')\/
  (Q9 E.H i g 2=0/\r= .returned (.tuple #[.int .u64 (ewV (B0l E (fileX E.H i g)) (Q3 E (B2b E i g)).2:Int),.int .i64 (Q3 E (B2b E i g)).2])/\OdR w E (Q3 E (B2b E i g)) w'):=by
 have hv:=h.vu.rdv
 have HM:=C5Z (λV (a:B1 B5 w B5 V)=>A1k (hv.step a))
 have aH:=C5Z (λV (a:B1 B5 w B5 V)=>A23 (hv.step a) hs.sd i g 2)
 have aQ:=C5Z (λV (a:B1 B5 w B5 V)=>A19 (h.step a))
 have HG:=C5Z (h.new)
 by_cases W:Q9 E.H i g 2=0
 ·obtain⟨f1,f2,f3⟩:=A1h W
  have f4:=S9 f1
  obtain⟨q,rfl⟩:∃q:Nat,i=(q:Int):=⟨i.toNat,by omega⟩
  have HK:=C5Z W
  obtain⟨wf,pt,_⟩:=X9 hs.sd (q:Int) g
  have aL:Sw (⟨E.H,0⟩:CS).H E.M:=hs
  have aK:A0f []:=λr hr=>by simp at hr
  have bB:Sw (B2a E (fileX E.H (q:Int) g)).H E.M:=A40 aL aK pt 8 (Nat.le_refl _)
  have aW:WfI (B0l E (fileX E.H (q:Int) g)):=A7t aL aK pt wf
  have bC:Sw ((B2a E (fileX E.H (q:Int) g)).set q (B0l E (fileX E.H (q:Int) g))).H E.M:=A3R bB aW (λ_=>by omega) (λe=>B38 aL aK pt 8 (Nat.le_refl _) e)
  have aR:=C5Z (λV c m (k:Cs V E c m ⟨E.H,0⟩)=>C3j k hs (q:Int) g)
  have aA:=C5Z (λV c m (k:Cs V E c m (B2a E (fileX E.H (q:Int) g)))=>A8S k hs.sd.row q (by omega) g _ aW bC (hl W))
  rw[show ewS (B2a E (fileX E.H (q:Int) g)) q g (B0l E (fileX E.H (q:Int) g))=B2b E (q:Int) g from rfl]at aA
  obtain⟨X,hX⟩:∃X,X=fileX E.H (q:Int) g:=⟨_,rfl⟩
  have HF:=C5Z (λV (a:B1 B5 w B5 V)=>(aH.out V a).mono (R':=λe w'=>e= .returned (.tuple #[.agg (ic X),.int .i64 0])/\B1 B5 V B5 w') (λe w' y=>by
   obtain⟨y1,y2⟩:=y
   refine⟨y1.trans ?_,y2⟩
   show Ending.returned (.tuple #[.agg (ic (A7h E.H (q:Int) g 2)),.int .i64 (Q9 E.H (q:Int) g 2)])=_
   rw[f3,W,hX]))
  rw[<-hX]at aR aA⊢
  obtain⟨Y,hY⟩:∃Y,Y=B0l E X:=⟨_,rfl⟩
  obtain⟨S1,aZ⟩:∃S1,S1=B2a E X:=⟨_,rfl⟩
  obtain⟨S2,bA⟩:∃S2,S2=B2b E (q:Int) g:=⟨_,rfl⟩
  rw[<-hY,<-aZ]at aR aA
  rw[<-bA]at aA⊢
  rw[<-hY]
  obtain⟨R,hR⟩:∃R,R=Q3 E S2:=⟨_,rfl⟩
  rw[<-hR]at aA⊢
  obtain⟨o,ho⟩:∃o,o=E.o:=⟨_,rfl⟩
  rw[<-ho]at HM HF aQ⊢
  obtain⟨v,bD⟩:∃v,v=ewV Y R.2:=⟨_,rfl⟩
  rw[<-bD]at aA⊢
  clear hv h hs hl W f1 f2 f3 f4 wf pt aL aK bB aW bC hX hY aZ bA hR ho bD aH
  go_enter Tryz.func37,Tryz.ntmps37
  go_upto_region 7 with(first
   |(refine C4 (t:=35) rfl _ rfl rfl ?_;intro z0 w0 U J I;have aE:=C5Z J;have Z:=C5Z I;have aX:=C5Z U;clear U J I)
   |(go_at_call 73;refine(HM.out _ Z.out).mono ?_;rintro e w2 ⟨rfl,rfl⟩)
   |(refine B6 (t:=35) rfl _ rfl z0 aE.out rfl Tryz.underlying35 rfl B0 rfl ?_)
   |(go_at_call 86;refine(HF.out _ Z.out).mono ?_;rintro e w2 ⟨rfl,I⟩;have aD:=C5Z (Z.out.trans I);have aF:=C5Z (aE.out.over I);clear I)
   |(refine B9 rfl rfl C8 ?_;intro z6 w5 U J I;have aP:=C5Z J;have aM:=C5Z (aD.out.trans I);have aJ:=C5Z (Nat.le_trans aD.out.size U);have aN:=C5Z (aF.out.over I);have aS:=C5Z (show z0≠z6 fromλe=>by have:=aF.out.lt;omega);clear U J I)
   |(refine B7 rfl _ _ rfl z6 aP.out rfl rfl C0 (C2 _) (C2 _) (D6 _) ?_;intro w6 J I;have aU:=C5Z J;have aC:=C5Z (aM.out.fresh aJ.out I);have aO:=C5Z (aN.out.far1 I aS.out);clear J I)
   |(go_at_call 44;refine(aQ.out _ aC.out).mono ?_;rintro e w9 ⟨c,m,rfl,hc,h1,h2,I⟩;have bP:=C5Z (show Cs _ E c m ⟨E.H,0⟩from hc);have aY:=C5Z (And.intro (Nat.le_trans aC.out.size h1) (Nat.le_trans aC.out.size h2));have bK:=C5Z (aO.out.over I);have bQ:=C5Z (aU.out.over I);have aI:=C5Z (show(¬EF E c m z0)/\¬EF E c m z6 from⟨nef h1 h2 aO.out.lt (HG.out z0 aX.out),nef h1 h2 aU.out.lt (HG.out z6 aJ.out)⟩);have bI:=C5Z (aC.out.trans I);clear hc h1 h2 I)
   |fail)
  have bJ:=C5Z (show B1 (CF c m) w9 (CF c m) w9.drew from(B1.refl _ _).drew)
  have bM:=C5Z (bP.out.step ((B1.refl B5 w9).drew))
  have aB:=C5Z (show C3 w9.drew z0 35 #[.int .i64 (q:Int),.int .i64 g]/\C3 w9.drew z6 62 (ic X)from⟨bK.out,bQ.out⟩)
  refine D8 (S:=(λw'=>C3 w' z0 35 #[.int .i64 (q:Int),.int .i64 g]/\C3 w' z6 62 (ic X))) (by with_reducible first|exact aT.out|exact aG.out|exact aB.out) (λhH=>?_)
  refine C6e 0 rfl ?_
  refine C6h 1 (.agg #[.int .i64 (q:Int),.int .i64 g]) rfl (Q8 rfl (.tmp 3) rfl z0 rfl (λ_ h=>h.1) Tryz.underlying35 rfl B0 rfl) ?_
  refine C6e 2 rfl ?_
  refine C6h 3 (.agg (ic X)) rfl (Q8 rfl (.tmp 6) rfl z6 rfl (λ_ h=>h.2) Tryz.underlying62 rfl C0 (C2 _)) ?_
  refine C6b 4 rfl (λK hK=>?_)
  go_simp
  refine(aR.out _ c m bM.out).mono ?_
  rintro r bF ⟨rfl,hc,I⟩
  have bO:=C5Z hc
  have bH:=C5Z (bJ.out.trans I)
  have aG:=C5Z (show C3 bF z0 35 #[.int .i64 (q:Int),.int .i64 g]/\C3 bF z6 62 (ic X)from⟨aB.out.1.keep (I.block z0 aB.out.1.lt (λy=>aI.out.1 (.inr (.inr y)))),aB.out.2.keep (I.block z6 aB.out.2.lt (λy=>aI.out.2 (.inr (.inr y))))⟩)
  clear hc I
  go_wp2_with fail
  refine C6c hK (by with_reducible first|exact aT.out|exact aG.out|exact aB.out) ?_
  clear hK K hH
  intro hH
  try simp only[Act.put,sA,sB,sC]
  refine C6b 5 rfl (λK hK=>?_)
  go_simp
  refine(aA.out _ c m bO.out).mono ?_
  rintro r bG ⟨rfl,he⟩
  have aT:=C5Z (show C3 bG z0 35 #[.int .i64 (q:Int),.int .i64 g]/\C3 bG z6 62 (ic X)from⟨he.blk aG.out.1 aI.out.1,he.blk aG.out.2 aI.out.2⟩)
  have HO:=C5Z (he.op bI.out aY.out.1 aY.out.2 bH.out).2
  clear he
  go_wp2_with fail
  refine C6c hK (by with_reducible first|exact aT.out|exact aG.out|exact aB.out) ?_
  clear hK K hH
  intro hH
  try simp only[Act.put,sA,sB,sC]
  refine C6e 6 rfl ?_
  refine C6e 7 rfl ?_
  refine C6e 8 rfl ?_
  refine C6e 9 rfl ?_
  refine wpAnyH_done (by kernel_rfl) ?_ _
  go_wp2_with fail
  go_ret2
  exact .inr ⟨HK.out,rfl,HO.out⟩
 ·obtain⟨er,aV⟩:∃er,er=Q9 E.H i g 2:=⟨_,rfl⟩
  obtain⟨X,hX⟩:∃X,X=A7h E.H i g 2:=⟨_,rfl⟩
  have HF:=C5Z (λV (a:B1 B5 w B5 V)=>(aH.out V a).mono (R':=λe w'=>e= .returned (.tuple #[.agg (ic X),.int .i64 er])/\B1 B5 V B5 w') (λe w' y=>by rw[hX,aV];exact y))
  rw[<-aV]at W⊢
  have J:(er !=0)=true:=by rw[bne_iff_ne];exact W
  have HK:=C5Z W
  obtain⟨o,ho⟩:∃o,o=E.o:=⟨_,rfl⟩
  rw[<-ho]at HM HF⊢
  clear hv h hs hl W aV hX aH aQ ho
  go_enter Tryz.func37,Tryz.ntmps37
  go_wp2_with (first
   |(refine C4 (t:=35) rfl _ rfl rfl ?_;intro z0 w0 U J I;have aE:=C5Z J;have Z:=C5Z I;have aX:=C5Z U;clear U J I)
   |(go_at_call 73;refine(HM.out _ Z.out).mono ?_;rintro e w2 ⟨rfl,rfl⟩)
   |(refine B6 (t:=35) rfl _ rfl z0 aE.out rfl Tryz.underlying35 rfl B0 rfl ?_)
   |(go_at_call 86;refine(HF.out _ Z.out).mono ?_;rintro e w2 ⟨rfl,I⟩;have aD:=C5Z (Z.out.trans I);have aF:=C5Z (aE.out.over I);clear I)
   |(refine B9 rfl rfl C8 ?_;intro z6 w5 U J I;have aP:=C5Z J;have aM:=C5Z (aD.out.trans I);have aJ:=C5Z (Nat.le_trans aD.out.size U);have aN:=C5Z (aF.out.over I);have aS:=C5Z (show z0≠z6 fromλe=>by have:=aF.out.lt;omega);clear U J I)
   |(refine B7 rfl _ _ rfl z6 aP.out rfl rfl C0 (C2 _) (C2 _) (D6 _) ?_;intro w6 J I;have aU:=C5Z J;have aC:=C5Z (aM.out.fresh aJ.out I);have aO:=C5Z (aN.out.far1 I aS.out);clear J I)
   |fail)
  go_ret2
  exact .inl ⟨HK.out,rfl,aC.out⟩
end
end
end Go.Proofs.YtbefmjiclpobjaaGreat
