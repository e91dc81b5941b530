import Derived.Test.YtbefmjiclpobjaaGreatMj33
import Derived.Test.YtbefmjiclpobjaaGreatMj32
import Derived.Test.YtbefmjiclpobjaaGreatMj31
namespace Go.Proofs.YtbefmjiclpobjaaGreat
set_option maxHeartbeats 6400000
set_option maxRecDepth 3000
section
open Go.RowKit Go.Maps
def A0:As:=⟨λi=>if i=1 then⟨1,1,0,noB,[]⟩else Nd.gone 0,nou⟩
theorem C53:∀k,be k 0=List.replicate k 0
 |0=>rfl
 |k+1=>by
  have:=A1L 0 0 (k+1)
  simpa[be]using this
theorem B5y:∀j,nJ J9 j=0
 |0=>by decide
 |j+1=>by
  show nJ J9 j * 2^12+P9 (J9.a j)=0
  rw[B5y j]
  rfl
theorem B21:WfI J9:=⟨by decide,by decide,by decide,λj _=>by show -9223372036854775808<=(0:Int)/\(0:Int)<9223372036854775808;decide⟩
theorem B7g:secI J9=nou:=by
 unfold secI nou
 rw[B5y 8,Nat.zero_mul,C53]
theorem B9L:okI J9:=(B4A B21).1 ⟨λj _=>⟨Int.le_refl 0,(by decide:(0:Int)<=4095)⟩,by decide,by decide,by decide,by decide,by decide,.inr ⟨rfl,λ_ _=>rfl⟩⟩
theorem A7E:∃y,A1e nou=some y/\EqI y J9:=by
 have:=A4Z B21 B9L
 rwa[B7g]at this
theorem B5z:nou.length=128/\∀x∈nou,x<256:=⟨List.length_replicate,λx I=>by rw[List.eq_of_mem_replicate I];decide⟩
theorem B50(M:Nat):Rep nou (List.replicate M false):=Rep.zero M
theorem A9k(M:Nat)(I:M<=1024):∀j,j<=M->∃r,Rep r (R6 M j)
 |0,_=>⟨nou,by rw[A9c];exact B50 M⟩
 |j+1,h=>by
  obtain⟨r,J⟩:=A9k M I j (by omega)
  exact⟨_,J.put (i:=j) (by rw[T0];omega) (by rw[T0];exact I)⟩
theorem A7F(M:Nat):∀j,j<=M->A0C (R6 M j)+j=M
 |0,_=>by
  show(List.replicate M false).count false+0=M
  rw[List.count_replicate_self,Nat.add_zero]
 |j+1,h=>by
  have J:=A7F M j (by omega)
  have:=A72 (T:=R6 M j) (k:=j) true (by rw[T0];omega)
  have I:(R6 M j).getD j false=false:=by rw[A24 M j j (by omega)];exact decide_eq_false (by omega)
  rw[I]at this
  have e:A0C (R6 M (j+1))=A0C ((R6 M j).set j true):=rfl
  rw[e]
  simp at this
  omega
section
variable {M:Nat}
theorem C1P(I:46<=M/\M<=1024):Sx (λ_=>nou) M:=⟨I,λ_ _=>B5z⟩
theorem B7h(I:46<=M/\M<=1024):A1d nou (M:Int):=(A3H (B50 M) List.length_replicate (by omega) I.2).1
theorem C1Q{H H':Nat->List Nat}(h:Sx H M)(I:∀k,k<M->H' k=H k):Sx H' M:=⟨h.hM,λi hi=>by rw[I i hi];exact h.row i hi⟩
theorem B7i(J:46<=M/\M<=1024){H:Nat->List Nat}(I:∀k,k<M->H k=nou):A3u H M=0:=by
 obtain⟨y,U,_⟩:=A7E
 unfold A3u A43
 rw[I 1 (by omega),if_pos (B7h J),if_pos rfl]
 exact A78 λi hi=>by rw[I (2+i) (by omega)];unfold eI;rw[U];rfl
theorem B22(V:46<=M){H:Nat->List Nat}(I:∀k,k<M->H k=nou){i:Nat}(hi:i<=40):EqI (C9 H i) J9:=by
 obtain⟨y,J,U⟩:=A7E
 have:C9 H i=y:=by unfold C9 dI;rw[I (1+i) (by omega),J];rfl
 rw[this]
 exact U
theorem A7G:∀n,A0e (λ_ _=>[]) n=0
 |0=>rfl
 |n+1=>by
  show A0e (λ_ _=>[]) n+P6 (λ_=>[]) 8=0
  rw[A7G n]
  rfl
theorem B9M(V:46<=M/\M<=1024){H:Nat->List Nat}(X:∀k,k<M->H k=nou):ChD H M ((⟨H,0⟩:CS).begin M) A0:=by
 obtain⟨r,Y⟩:=A9k M V.2 42 (by omega)
 have aB:=T0 M 42
 obtain⟨o1,o2⟩:=A3H Y aB (by omega) V.2
 have aC:mapB (R6 M 42)=r:=Y.mapB
 have es:(⟨H,0⟩:CS).begin M=(⟨N6 H 1 r,0⟩:CS).set 1 B2o:=by
  unfold CS.begin CS.put A1g
  rw[aC]
  rfl
 have I:∀i,1<=i->i<=40->EqI (C9 (N6 H 1 r) i) J9:=λi U J=>by
  have:C9 (N6 H 1 r) i=C9 H i:=by unfold C9;rw[H7 _ _ (by omega)]
  rw[this]
  exact B22 V.1 X J
 have aA:D3 (N6 H 1 r) M=R6 M 42:=by unfold D3;rw[A0n];exact o2
 have aD:Rq (N6 H 1 r) M ⟨λ_=>Nd.gone 0,nou⟩:=by
  refine⟨⟨⟨V,λi hi=>?_,by rw[A0n];exact o1,λi U J=>?_⟩,λk hk=>?_⟩,λi U J=>⟨(I i U J).k,(I i U J).g,(I i U J).v⟩,⟨λi j hi=>.inl ((I i hi.1 hi.2.1).a j hi.2.2),λi j hi=>⟨λ_=>rfl,λ_=>(I i hi.1 hi.2.1).a j hi.2.2⟩,λi j hi hn=>absurd ((I i hi.1 hi.2.1).a j hi.2.2) hn,λi j i' j' hi aE hn _=>absurd ((I i hi.1 hi.2.1).a j hi.2.2) hn,λk U J=>?_,?_⟩,λi _ _=>OkN.gone (by decide),?_⟩
  ·by_cases e:i=1
   ·rw[e,A0n];exact⟨Y.len,Y.lt⟩
   ·rw[H7 _ _ e,X i hi];exact B5z
  ·rw[H7 _ _ (by omega),X (1+i) (by omega)]
   obtain⟨y,hy,hz⟩:=A7E
   exact⟨y,hy,λj hj=>.inl (hz.a j hj)⟩
  ·rw[aA,A24 M 42 k (by omega)]
   exact decide_eq_true hk
  ·rw[aA,A24 M 42 k (by omega)]
   constructor
   ·intro x;have:=of_decide_eq_true x;omega
   ·rintro⟨i,j,hi,e⟩
    have e2:=(I i hi.1 hi.2.1).a j hi.2.2
    have e3:(C9 (N6 H 1 r) i).a j=(k:Int):=e
    rw[e2]at e3
    have e4:(0:Int)=(k:Int):=e3
    omega
  ·rw[aA]
   have:=A7F M 42 (by omega)
   have hu:A0e (As.R ⟨λ_=>Nd.gone 0,nou⟩) 40=0:=A7G 40
   omega
  ·show N6 H 1 r 0=nou
   rw[H7 _ _ (by omega),X 0 (by omega)]
 obtain⟨a1,a2,a3⟩:=Rq.reset (s:=⟨N6 H 1 r,0⟩) aD rfl (i:=1) ⟨by decide,by decide⟩ (y:=⟨1,1,0,noB,[]⟩) ⟨.inr (.inl rfl),by decide,by decide,λx=>(by cases x),λ_=>Nat.zero_le _,λ_ _=>rfl,A5o,Nat.zero_le _,λ_=>rfl⟩ (λj _=>by
  unfold P7
  rw[if_pos rfl,List.getD_eq_getElem?_getD,List.getElem?_eq_none (by rw[M9];exact Nat.zero_le _)]
  rfl) (z:=B2o) rfl rfl rfl (λj hj=>((I 1 (by decide) (by decide)).a j hj).symm)
 rw[es]
 refine⟨a1,?_,[1]++[2],by decide,Dif.trans (λk hk=>?_) a3⟩
 ·have:(As.up ⟨λ_=>Nd.gone 0,nou⟩ 1 ⟨1,1,0,noB,[]⟩)=A0:=rfl
  rw[<-this]
  exact a2
 ·by_cases e:k=1
  ·exact List.mem_singleton.2 e
  ·exact absurd (H7 _ _ e) hk
theorem C4W:Tr A0:=by
 have U:∀i,(A0.n i).l=[]:=λi=>by unfold A0;simp only;split<;>rfl
 refine⟨⟨rfl,rfl⟩,λi x _ _ I=>?_,λi x _ _ _ _ _ _ I=>?_,λc _ _ J V=>?_⟩
 ·rw[U i]at I;simp at I
 ·rw[U i]at I;simp at I
 ·exfalso
  unfold A0 at J
  simp only[if_neg V]at J
  exact J rfl
end
structure OpD (w:World) (F:Nat->Prop) (d n N:Nat) (e:Ending) (E:Ev) (k:Nat) (A:As) (w':World):Prop where
 e:e= .returned (.tuple #[.pointer (some ⟨E.o,0,none⟩),.int .i64 0])
 st:Sto w' E k A
 d:E.d=d
 n:E.n=n
 N:E.N=N
 hi:OpB w E.l E.b E.o E.mo
 adv:B0 F w (EO E) w'
section
variable {w:World} {F:Nat->Prop} {d n N:Nat}
theorem B51{s:DS}{l b o I:Nat}(h:OpB w l b o I){k:Nat}(J:EO (D9 F d l b n N s o I) k):F k\/w.heap.size<=k:=by
 rcases J with(y|y|y)|y
 ·exact .inl y
 ·have e:k=l:=y
  rw[e];exact .inr h.l
 ·have e:k=b:=y
  rw[e];exact .inr h.b
 ·have e:k=I:=y
  rw[e];exact .inr h.mo
theorem B3Z(h:Dk w F d N (newS N))(hn:20<=n/\n+48<=N/\N<=n+1026/\N<=1100):
 Calls Tryz.prog 11 #[.pointer (some ⟨d,0,none⟩),.int .i64 (n:Int)] w λe w'=>∃E,OpD w F d n N e E 3 A0 w':=by
 have aC:2<=n/\n+3<=N/\N<=4096:=by omega
 have U:46<=N-2-n/\N-2-n<=1024:=by omega
 obtain⟨X,hx,hg⟩:=Ar.new aC
 have hA:(J4 (newS N) n N).A=λ_=>none:=X.A
 have aA:∀k,k<N-2-n->D8 (newS N) n (J4 (newS N) n N) k=nou:=λk V=>by rw[X.home V,hA];rfl
 have aB:∀l b o I,Lv (D9 F d l b n N (newS N) o I) 0:=λl b o I=>⟨⟨hn.1,by show N=N-2-n+2+n;omega,aC.2.2,U.1,U.2⟩,⟨_,_,X⟩,Nat.le_of_eq hx,Nat.le_of_eq hg,rfl,rfl⟩
 have Y:∀l b o I,ChD (D9 F d l b n N (newS N) o I).H (D9 F d l b n N (newS N) o I).M ((⟨(D9 F d l b n N (newS N) o I).H,0⟩:CS).begin (D9 F d l b n N (newS N) o I).M) A0:=λl b o I=>B9M U aA
 refine(B9K h X.sb_ hn (by have:=X.top aC;omega) (by rw[hA];exact AOk.none _) (C1Q (C1P U) aA) (B7i U aA) (B22 U.1 aA (by decide)).k (λl b o I=>⟨((aB l b o I).change (by decide) rfl (Y l b o I)).1,((aB l b o I).change (by decide) rfl (Y l b o I)).2.1⟩)).mono λe w' he=>?_
 obtain⟨l,b,o,I,w1,rfl,so,ob,J,F',O',h1,h2,h3⟩:=he
 obtain⟨_,e0,on,hl⟩:=(aB l b o I).change (by decide) rfl (Y l b o I)
 have hO:O'=(D9 F d l b n N (newS N) o I).O:=h2.none (.inl e0)
 rw[hO]at h1 h3
 obtain⟨l1,l2⟩:=hl F'
 refine⟨_,rfl,⟨h1,l1,on,(Y l b o I).rp.sameH l2,C4W⟩,rfl,rfl,rfl,ob,?_⟩
 refine⟨h3.os.trans J.os,h3.tape.trans J.tape,h3.output.trans J.output,Nat.le_trans J.size h3.size,λk V hF=>?_,λk V=>?_⟩
 ·refine(h3.block k (Nat.lt_of_lt_of_le V J.size) (λy=>?_)).trans (J.block k V (λy=>y))
  rcases B51 ob y with z|z
  ·exact hF z
  ·omega
 ·rcases h3.into k V with y|y
  ·exact B51 ob y
  ·exact .inr (Nat.le_trans J.size y)
end
end
section
open Go.RowKit Go.Maps
theorem A9l(A:As){i:Nat}(hi:1<=i/\i<=40)(y:Nd):(A.up i y).use<=A.use+8:=by
 have I:=B0o A hi y
 have J:=B5f (P7 y) 8
 omega
theorem B23{f:Nat->List Nat}:∀{n:Nat},(∀j,j<n->f j=[])->P6 f n=0
 |0,_=>rfl
 |n+1,h=>by
  show P6 f n+T7 (f n)=0
  rw[B23 (λj I=>h j (by omega)),h n (by omega)]
  rfl
theorem B4a(A:As){i:Nat}(hi:1<=i/\i<=40){y:Nd}(J:∀j,j<8->P7 y j=[]):(A.up i y).use<=A.use:=by
 have I:=B0o A hi y
 rw[B23 J]at I
 omega
theorem C35:A0.use=0:=by
 have:A0.use=A0e (λ_ _=>[]) 40:=A0f λi j _ _ _=>by
  show P7 (A0.n i) j=[]
  unfold A0
  simp only
  split
  ·unfold P7
   rw[if_pos rfl,List.getD_eq_getElem?_getD,List.getElem?_eq_none (by rw[M9];exact Nat.zero_le _)]
   rfl
  ·rfl
 rw[this,A7G]
def txA:ByteArray:=⟨#[97]⟩
def txH:ByteArray:=⟨#[104,101,108,108,111]⟩
theorem B52:Nam txA:=by
 unfold Nam A56 txA
 decide
def Al1:As:=V5 A0 1 txA 2 1
theorem C2r{M:Nat}(hM:50<=M):A1j A0 M 1 1 txA 2=(Al1,(2,1),0):=by
 have aA:U7 A0 1 1 1=0:=by decide
 have X:(Y5 (A0.n (1:Int).toNat).l txA).isSome=true↔False:=by
  rw[show(A0.n (1:Int).toNat).l=[]from rfl]
  simp[Y5]
 have Y:A22 A0=some 1:=by decide
 unfold A1j
 rw[if_pos B52,if_pos (.inr rfl),if_pos aA,if_neg (by rw[X];exact id),Y]
 have hu:(V5 A0 1 txA 2 1).use<=8:=by
  unfold V5
  simp only
  have I:=B4a A0 (i:=1+1) (by decide) (y:=Nd.new 2 ((A0.n (1+1)).g+1)) (λj _=>B2g _ _ j)
  obtain⟨B,U⟩:∃B,B=A0.up (1+1) (Nd.new 2 ((A0.n (1+1)).g+1)):=⟨_,rfl⟩
  rw[<-U]at I⊢
  have J:=A9l B (i:=(1:Int).toNat) (by decide) ((A0.n (1:Int).toNat).ls (S9 (A0.n (1:Int).toNat).l ⟨txA,((1+1:Nat):Int),(A0.n (1+1)).g+1,2⟩))
  obtain⟨C,V⟩:∃C,C=B.up (1:Int).toNat ((A0.n (1:Int).toNat).ls (S9 (A0.n (1:Int).toNat).l ⟨txA,((1+1:Nat):Int),(A0.n (1+1)).g+1,2⟩)):=⟨_,rfl⟩
  rw[<-V]at J⊢
  have h3:=A2Z C (1:Int).toNat
  have h0:=C35
  omega
 show(if _ then _ else _)=_
 rw[if_neg]
 ·rfl
 ·rintro(x|x|x)
  ·exact absurd x (by decide)
  ·omega
  ·exact absurd x (by decide)
theorem C1R:Al1.use<=8:=by
 have h:=C2r (M:=50) (by decide)
 unfold A1j at h
 have U:U7 A0 1 1 1=0:=by decide
 have J:A22 A0=some 1:=by decide
 rw[if_pos B52,if_pos (.inr rfl),if_pos U,if_neg (by rw[show(A0.n (1:Int).toNat).l=[]from rfl];simp[Y5]),J]at h
 have I:(if 24<(S9 (A0.n (1:Int).toNat).l ⟨txA,((1+1:Nat):Int),(A0.n (1+1)).g+1,2⟩).length\/50<(V5 A0 1 txA 2 1).use+42\/(A0.n (1:Int).toNat).v=1099511627775 then((A0,(0,0),8):As×(Int×Int)×Int)else(V5 A0 1 txA 2 1,(((1+1:Nat):Int),(A0.n (1+1)).g+1),0))=(Al1,(2,1),0):=h
 by_cases c:24<(S9 (A0.n (1:Int).toNat).l ⟨txA,((1+1:Nat):Int),(A0.n (1+1)).g+1,2⟩).length\/50<(V5 A0 1 txA 2 1).use+42\/(A0.n (1:Int).toNat).v=1099511627775
 ·rw[if_pos c]at I
  exact absurd (congrArg (λq=>q.2.2) I) (by decide)
 ·show(V5 A0 1 txA 2 1).use<=8
  omega
def Al2:As:=A1h Al1 2 1 txH
theorem C4X{M:Nat}(V:58<=M):A3h Al1 M 2 1 1 txH=(Al2,2,0):=by
 have I:U7 Al1 2 1 2=0:=by decide
 unfold A3h
 rw[if_pos (by decide),if_pos (by decide),if_pos I]
 have X:(A1h Al1 (2:Int).toNat (1:Int).toNat txH).use<=16:=by
  have J:=C1R
  have U:=A9l Al1 (i:=(2:Int).toNat) (by decide) ((Al1.n (2:Int).toNat).bk (λb=>if b=(1:Int).toNat then txH else(Al1.n (2:Int).toNat).b b)).inc
  unfold A1h
  omega
 rw[if_neg]
 ·rfl
 ·rintro(x|x)
  ·omega
  ·exact absurd x (by decide)
theorem C37:rbE Al2 2 1 1=0/\rbT Al2 2 1 1=txH/\rbV Al2 2 1 1=2:=by
 have h:rbE Al2 2 1 1=0:=by decide
 refine⟨h,?_,?_⟩
 ·unfold rbT;rw[if_pos h];rfl
 ·unfold rbV;rw[if_pos h];rfl
end
section
open Go.RowKit Go.Maps
structure Hs (W w:World) (Z:Nat->Prop) (d o n N k:Nat) (A:As):Prop where
 ex:∃E,Sto w E k A/\E.o=o/\E.d=d/\E.n=n/\E.N=N/\(∀j,(EO E j\/j=E.o)->W.heap.size<=j/\¬Z j)
 adv:B0 B5 W B5 w
 zb:∀j,Z j->j<w.heap.size
def R7(Z:Nat->Prop)(w w':World):Prop:=∀z,Z z->w'.heap[z]? =w.heap[z]?
section
variable {W w w':World} {Z:Nat->Prop} {d o n N k:Nat} {A A':As} {E:Ev}
theorem So.eo_bd(h:So w E):∀j,(EO E j\/j=E.o)->j<w.heap.size:=λj V=>by
 obtain⟨I,J,U⟩:=h.bd
 rcases V with(y|y)|y
 ·exact I j y
 ·rw[y];exact U
 ·rw[y];exact J
theorem Hs.step{F':Nat->Prop}(h:Hs W w Z d o n N k A)(I:B0 B5 w F' w'):Hs W w' Z d o n N k A:=by
 obtain⟨E,J,U⟩:=h.ex
 exact⟨⟨E,J.step I,U⟩,h.adv.trans I.nul,λj V=>Nat.lt_of_lt_of_le (h.zb j V) I.size⟩
theorem Hs.more{w1:World}(h:Hs W w Z d o n N k A)(J:B0 B5 w B5 w1)(z:Nat)(hz:w.heap.size<=z)(aA:z<w1.heap.size):Hs W w1 (λj=>Z j\/j=z) d o n N k A:=by
 obtain⟨E,U,X,h3,Y,h5,V⟩:=h.ex
 refine⟨⟨E,U.step J,X,h3,Y,h5,λj I=>⟨(V j I).1,λy=>?_⟩⟩,h.adv.trans J,λj I=>?_⟩
 ·rcases y with y|y
  ·exact(V j I).2 y
  ·have:=U.so.eo_bd j I
   omega
 ·rcases I with y|y
  ·exact Nat.lt_of_lt_of_le (h.zb j y) J.size
  ·rw[y];exact aA
theorem Hs.turn{F':Nat->Prop}{z:Nat}(h:Hs W w Z d o n N k A)(hz:Z z)(hw:W.heap.size<=z)(J:B0 (J0 z) w F' w'):Hs W w' Z d o n N k A:=by
 obtain⟨E,U,Y,h3,h4,h5,X⟩:=h.ex
 have V:∀j,(EO E j\/j=E.o)->¬J0 z j:=λj I y=>by
  unfold J0 at y
  subst y
  exact(X _ I).2 hz
 refine⟨⟨E,⟨U.so.far (J.same (λ_ y=>y)) (λj I hu=>V j (.inl (.inl hu)) I) (V _ (.inr rfl)) (V _ (.inl (.inr rfl))),U.lv,U.on,U.rq,U.tr⟩,Y,h3,h4,h5,X⟩,?_,λj I=>Nat.lt_of_lt_of_le (h.zb j I) J.size⟩
 exact⟨J.os.trans h.adv.os,J.tape.trans h.adv.tape,J.output.trans h.adv.output,Nat.le_trans h.adv.size J.size,λj I _=>(J.block j (Nat.lt_of_lt_of_le I h.adv.size) (λy=>by unfold J0 at y;omega)).trans (h.adv.block j I (λy=>y)),λ_ y=>y.elim⟩
theorem Hs.of_aft(h:Hs W w Z d o n N k A){E:Ev}(V:E.o=o/\E.d=d/\E.n=n/\E.N=N)(X:∀j,(EO E j\/j=E.o)->W.heap.size<=j/\¬Z j)(ha:Aft w E k A' w'):Hs W w' Z d o n N (k+3) A'/\R7 Z w w':=by
 obtain⟨Y,s',U,I⟩:=ha
 have aA:∀j,(EO Y j\/j=Y.o)->W.heap.size<=j/\¬Z j:=λj J=>by
  rcases J with y|y
  ·rcases I.into j y with z|z
   ·exact X j (.inl z)
   ·exact⟨Nat.le_trans h.adv.size z,λq=>by have:=h.zb j q;omega⟩
  ·rw[U.o]at y
   exact X j (.inr y)
 refine⟨⟨⟨Y,s',U.o.trans V.1,U.d.trans V.2.1,U.n.trans V.2.2.1,U.N.trans V.2.2.2,aA⟩,?_,λj J=>Nat.lt_of_lt_of_le (h.zb j J) I.size⟩,λz hz=>I.block z (h.zb z hz) (λy=>(X z (.inl y)).2 hz)⟩
 exact⟨I.os.trans h.adv.os,I.tape.trans h.adv.tape,I.output.trans h.adv.output,Nat.le_trans h.adv.size I.size,λj J _=>(I.block j (Nat.lt_of_lt_of_le J h.adv.size) (λy=>by have:=(X j (.inl y)).1;omega)).trans (h.adv.block j J (λy=>y)),λ_ y=>y.elim⟩
theorem Hs.M(I:E.n=n)(J:E.N=N):E.M=N-2-n:=by unfold Ev.M;rw[I,J]
theorem Hs.create(h:Hs W w Z d o n N k A)(hk:k<=127)(i g:Int)(s:ByteArray)(I:Int)(hm:s.size<=maxLen):
 Calls Tryz.prog 36 #[.pointer (some ⟨o,0,none⟩),.agg #[.int .i64 i,.int .i64 g],.string s,.int .i64 I] w λr w'=>
  r= .returned (.tuple #[.agg #[.int .i64 (A1j A (N-2-n) i g s I).2.1.1,.int .i64 (A1j A (N-2-n) i g s I).2.1.2],.int .i64 (A1j A (N-2-n) i g s I).2.2])/\Hs W w' Z d o n N (k+3) (A1j A (N-2-n) i g s I).1/\R7 Z w w':=by
 obtain⟨E,Y,J,h3,U,V,h6⟩:=h.ex
 have:=Y.create hk i g s I hm
 rw[Hs.M U V,J]at this
 exact this.mono λr w' X=>⟨X.1,h.of_aft ⟨J,h3,U,V⟩ h6 X.2⟩
theorem Hs.remove(h:Hs W w Z d o n N k A)(hk:k<=127)(i g:Int)(s:ByteArray)(hm:s.size<=maxLen):
 Calls Tryz.prog 33 #[.pointer (some ⟨o,0,none⟩),.agg #[.int .i64 i,.int .i64 g],.string s] w λr w'=>r= .returned (.int .i64 (A7D A i g s).2)/\Hs W w' Z d o n N (k+3) (A7D A i g s).1/\R7 Z w w':=by
 obtain⟨E,U,I,h3,V,X,Y⟩:=h.ex
 have:=U.remove hk i g s hm
 rw[I]at this
 exact this.mono λr w' J=>⟨J.1,h.of_aft ⟨I,h3,V,X⟩ Y J.2⟩
theorem Hs.write(h:Hs W w Z d o n N k A)(hk:k<=127)(i g a:Int)(s:ByteArray):
 Calls Tryz.prog 35 #[.pointer (some ⟨o,0,none⟩),.agg #[.int .i64 i,.int .i64 g],.int .i64 a,.string s] w λr w'=>
  r= .returned (.tuple #[.int .u64 ((A3h A (N-2-n) i g a s).2.1:Int),.int .i64 (A3h A (N-2-n) i g a s).2.2])/\Hs W w' Z d o n N (k+3) (A3h A (N-2-n) i g a s).1/\R7 Z w w':=by
 obtain⟨E,X,I,h3,J,U,Y⟩:=h.ex
 have:=X.write hk i g a s
 rw[Hs.M J U,I]at this
 exact this.mono λr w' V=>⟨V.1,h.of_aft ⟨I,h3,J,U⟩ Y V.2⟩
theorem Hs.truncate(h:Hs W w Z d o n N k A)(hk:k<=127)(i g:Int):
 Calls Tryz.prog 37 #[.pointer (some ⟨o,0,none⟩),.agg #[.int .i64 i,.int .i64 g]] w λr w'=>r= .returned (.tuple #[.int .u64 ((A5V A i g).2.1:Int),.int .i64 (A5V A i g).2.2])/\Hs W w' Z d o n N (k+3) (A5V A i g).1/\R7 Z w w':=by
 obtain⟨E,U,I,h3,V,X,Y⟩:=h.ex
 have:=U.truncate hk i g
 rw[I]at this
 exact this.mono λr w' J=>⟨J.1,h.of_aft ⟨I,h3,V,X⟩ Y J.2⟩
theorem Hs.read(h:Hs W w Z d o n N k A)(i g a:Int):Calls Tryz.prog 34 #[.pointer (some ⟨o,0,none⟩),.agg #[.int .i64 i,.int .i64 g],.int .i64 a] w λe w'=>e= .returned (.tuple #[.string (rbT A i g a),.int .u64 (rbV A i g a:Int),.int .i64 (rbE A i g a)])/\B0 B5 w B5 w':=by
 obtain⟨E,I,J,_⟩:=h.ex
 have:=I.read i g a
 rwa[J]at this
theorem Hs.attr(h:Hs W w Z d o n N k A)(i g:Int):Calls Tryz.prog 28 #[.pointer (some ⟨o,0,none⟩),.agg #[.int .i64 i,.int .i64 g]] w λe w'=>e= .returned (.tuple #[.agg (atV A i g),.int .i64 (atE A i g)])/\B0 B5 w B5 w':=by
 obtain⟨E,I,J,_⟩:=h.ex
 have:=I.attr i g
 rwa[J]at this
theorem Hs.list(h:Hs W w Z d o n N k A)(i g:Int):Calls Tryz.prog 27 #[.pointer (some ⟨o,0,none⟩),.agg #[.int .i64 i,.int .i64 g]] w (EsR w (lsA A i g) (U7 A i g 1)):=by
 obtain⟨E,I,J,_⟩:=h.ex
 have:=I.list i g
 rwa[J]at this
open Classical in
theorem Hs.new{F:Nat->Prop}(hF:∀j,F j->W.heap.size<=j)(J:B0 B5 W F w){e:Ending}(I:OpD w F d n N e E k A w'):Hs W w' B5 d E.o n N k A:=by
 refine⟨⟨E,I.st,rfl,I.d,I.n,I.N,λj U=>⟨?_,λy=>y⟩⟩,?_,λj U=>U.elim⟩
 ·rcases U with y|y
  ·rcases I.adv.into j y with z|z
   ·exact hF j z
   ·exact Nat.le_trans J.size z
  ·rw[y];exact Nat.le_trans J.size I.hi.o
 ·exact(J.trans I.adv).nul
theorem Hs.open_(W:World)(d n N:Nat)(V:20<=n/\n+48<=N/\N<=n+1026/\N<=1100){F:Nat->Prop}(h:Dk w F d N (newS N))(I:B0 B5 W F w):
 Calls Tryz.prog 11 #[.pointer (some ⟨d,0,none⟩),.int .i64 (n:Int)] w λe w'=>∃o,e= .returned (.tuple #[.pointer (some ⟨o,0,none⟩),.int .i64 0])/\Hs W w' B5 d o n N 3 A0:=
 (B3Z h V).mono λe w' ⟨E,J⟩=>⟨E.o,J.e,Hs.new (λj U=>by rcases I.into j U with y|y;exact y.elim;exact y) I J⟩
end
theorem C1S:txA.size<=maxLen:=by decide
theorem B0w(w:World):Calls Tryz.prog 17 #[] w λe w'=>e= .returned (.bool true)/\B0 B5 w B5 w':=by
 have aM:=C6x (λV=>C2c 90 (by decide) (by decide) V)
 have aN:=C6x (λV (F:Nat->Prop) d (h:Dk V F d 90 (newS 90)) (a:B0 B5 w F V)=>show Calls Tryz.prog 11 #[.pointer (some ⟨d,0,none⟩),.int .i64 20] V λe w'=>∃o,e= .returned (.tuple #[.pointer (some ⟨o,0,none⟩),.int .i64 0])/\Hs w w' B5 d o 20 90 3 A0 from Hs.open_ w d 20 90 (by decide) h a)
 have aL:=C6x (λV Z d o (h:Hs w V Z d o 20 90 3 A0)=>show Calls Tryz.prog 36 #[.pointer (some ⟨o,0,none⟩),.agg #[.int .i64 1,.int .i64 1],.string ⟨#[97]⟩,.int .i64 2] V λr w'=>r= .returned (.tuple #[.agg #[.int .i64 2,.int .i64 1],.int .i64 0])/\Hs w w' Z d o 20 90 6 Al1 from(by
  have:=h.create (by decide) 1 1 txA 2 C1S
  rw[C2r (by decide)]at this
  exact this.mono λr w' hr=>⟨hr.1,hr.2.1⟩))
 have aQ:=C6x (λV Z d o (h:Hs w V Z d o 20 90 6 Al1)=>show Calls Tryz.prog 35 #[.pointer (some ⟨o,0,none⟩),.agg #[.int .i64 2,.int .i64 1],.int .i64 1,.string ⟨#[104,101,108,108,111]⟩] V λr w'=>r= .returned (.tuple #[.int .u64 2,.int .i64 0])/\Hs w w' Z d o 20 90 9 Al2/\R7 Z V w' from(by
  have:=h.write (by decide) 2 1 1 txH
  rw[C4X (by decide)]at this
  exact this))
 have aO:=C6x (λV Z d o (h:Hs w V Z d o 20 90 9 Al2)=>show Calls Tryz.prog 34 #[.pointer (some ⟨o,0,none⟩),.agg #[.int .i64 2,.int .i64 1],.int .i64 1] V λr w'=>r= .returned (.tuple #[.string ⟨#[104,101,108,108,111]⟩,.int .u64 2,.int .i64 0])/\B0 B5 V B5 w' from(by
  have:=h.read 2 1 1
  rw[C37.1,C37.2.1,C37.2.2]at this
  exact this))
 go_enter Tryz.func17,Tryz.ntmps17
 go_wp2_with (first
  |(go_at_call 10;refine(aM.out _).mono ?_;rintro e w1 ⟨d,F,rfl,hd,I⟩;have aD:=C6x hd;have aB:=C6x I;clear hd I)
  |(go_at_call 11;refine(aN.out _ _ _ aD.out aB.out).mono ?_;rintro e w2 ⟨o,rfl,J⟩;have aE:=C6x J;clear J aD aB)
  |(go_at_call 32;refine(A25 _).mono ?_;rintro e w3 ⟨rfl,I⟩;have aF:=C6x (aE.out.step I);clear I aE)
  |(go_at_call 36;refine(aL.out _ _ _ _ aF.out).mono ?_;rintro e w4 ⟨rfl,J⟩;have aG:=C6x J;clear J aF)
  |(refine B9 rfl rfl P1 ?_;intro X w5 hz U I;have aI:=C6x hz;have aC:=C6x U;have aJ:=C6x I;clear hz U I)
  |(refine B7 rfl _ _ rfl X aC.out rfl rfl B1 rfl rfl (X7 _ _) ?_;intro w6 U I;have Y:=C6x U;have aH:=C6x (aG.out.more (aJ.out.fresh aI.out I) X aI.out U.lt);clear U I aG aC)
  |(refine B6 (t:=35) rfl _ rfl X Y.out rfl Tryz.underlying35 rfl B1 rfl ?_)
  |(go_at_call 35;refine(aQ.out _ _ _ _ aH.out).mono ?_;rintro e w7 ⟨rfl,J,hk⟩;have aA:=C6x J;have aK:=C6x (Y.out.keep (hk X (.inr rfl)));clear J hk aH Y)
  |(refine B6 (t:=35) rfl _ rfl X aK.out rfl Tryz.underlying35 rfl B1 rfl ?_)
  |(go_at_call 34;refine(aO.out _ _ _ _ aA.out).mono ?_;rintro e w8 ⟨rfl,I⟩;have aP:=C6x (aA.out.step I);clear I aA)
  |fail)
 go_ret
 exact⟨rfl,aP.out.adv⟩
end
section
open Go.RowKit
theorem A8q{w:World}{ty:TypeId}{v aB:Value}{n m:Nat}{U I:List Value}(V:w.ownsRow 0 35 2 v n U)(hr:Rd w 2 aB m I)(h1:∀u∈I,u.oneCell'=true)(hn:n+m<=1000000):
 ∃J w',(Builtin.append_ #[224,224] ty #[v,aB]).run Tryz.prog w= .ok J w'/\w'.ownsRow 0 35 2 J (n+m) (U++I)/\w.grownBy w' v.ownBlock/\(J.ownBlock=v.ownBlock\/J.ownBlock=some w.heap.size):=by
 obtain⟨i0,hi,aE,aF,aG⟩:=info_parts P1
 obtain⟨A,c,rfl,aI,_,aA,hA,hc⟩:=hr
 rcases A with _|X
 ·obtain rfl:c=0:=hA rfl
  obtain rfl:m=0:=by omega
  obtain rfl:I=[]:=List.eq_nil_of_length_eq_zero (by simpa using aA)
  exact⟨v,w,run_append_owned_none (P:=Tryz.prog) w 0 224 ty 35 i0 2 Tryz.underlying224 hi v n U V,by simpa using V,World.grownBy.refl _ _,.inl rfl⟩
 ·have aC:∀j u,I[j]? =some u->w.cell? (X.add j)=some u:=by
   intro j u Y
   have hj:j<I.length:=(List.getElem?_eq_some_iff.1 Y).1
   obtain⟨aH,e,_,h⟩:=hc (by omega)
   have e:=Option.some.inj e
   subst e
   exact h j u Y
  obtain⟨J,w',aD,h2,h3,_,h5⟩:=run_append_own_at (P:=Tryz.prog) w 0 224 ty 35 i0 _ 2 16 Tryz.underlying224 hi aE aF aG rfl (by decide) v n U V X m c I aA aC h1 (by unfold maxLen;omega) (by omega) (Nat.zero_le _)
  exact⟨J,w',aD,h2,h3,h5⟩
section
variable {w:World} {ops:Array Oper} {rest:List Oper} {o:Oper} {a:Act} {Q:Exit->Act->World->Prop}
theorem A5t(aA:o.guard=none)(s x:Operand)
 (ho:o.op= .call { callee:=.builtin .append,args:= #[s,x],argTypes:= #[224,224] })
 {v U:Value} {n m:Nat} {V J:List Value} (hs:a.eval s=v) (hx:a.eval x=U) (aB:w.ownsRow 0 35 2 v n V) (hr:Rd w 2 U m J) (X:∀u∈J,u.oneCell'=true) (hn:n+m<=1000000)
 (h:∀I w',w'.ownsRow 0 35 2 I (n+m) (V++J)->w.grownBy w' v.ownBlock->(I.ownBlock=v.ownBlock\/I.ownBlock=some w.heap.size)->wpList Tryz.prog ops Q rest (a.put o.dst I) w'):wpList Tryz.prog ops Q (o::rest) a w:=by
 refine wpList_plain aA λK hK=>?_
 obtain⟨I,w',aC,Y,h3,h4⟩:=A8q (ty:=o.type) aB hr X hn
 unfold Oper.wp execOp
 simp only[ho,resolve,invoke,builtin,Sem.run_bind,Sem.run_pure,Result.andThen_ok,List.map_toArray,List.map_cons,List.map_nil,hs,hx,aC]
 exact hK _ _ (h I w' Y h3 h4)
theorem C38(w:World)(f:Int×Int):FiO w [f] (.slice (some ⟨w.heap.size,0,none⟩) 1 1) (w.alloc (.cells (fic f).toArray 35)):=by
 have J:C3 (w.alloc (.cells (fic f).toArray 35)) w.heap.size 35 (fic f).toArray:=C3.new _ _ _
 refine⟨J0 w.heap.size,⟨⟨by simp[A2a,fic],.inr ⟨w.heap.size,1,_,rfl,Nat.zero_le _,J,Nat.le_refl _,by decide,by simp[fic],by simp[A2a,fic]⟩⟩,λk I=>?_,λk I=>?_⟩,?_⟩
 ·have:w.heap.size=k:=by simpa[Value.ownBlock]using I
  exact this.symm
 ·unfold J0 at I
  rw[I]
  exact J.lt
 ·have:=(B0.refl B5 w).alloc (.cells (fic f).toArray 35)
  exact⟨this.os,this.tape,this.output,this.size,this.block,λk I=>.inr (by unfold J0 at I;omega)⟩
theorem A7H(U:o.guard=none)(x:Operand)(X:o.op= .buildSlice 224 1 #[(0,x)])(i g:Int)(Y:a.eval x= .agg #[.int .i64 i,.int .i64 g])
 (h:∀z w',w.heap.size<=z->FiO w [(i,g)] (.slice (some ⟨z,0,none⟩) 1 1) w'->B0 B5 w B5 w'->wpList Tryz.prog ops Q rest (a.put o.dst (.slice (some ⟨z,0,none⟩) 1 1)) w'):wpList Tryz.prog ops Q (o::rest) a w:=by
 obtain⟨ie,V,hz,I,_⟩:=info_parts P1
 refine wpList_buildSlice U 224 35 1 _ X (fic (i,g)).toArray ie _ Tryz.underlying224 V hz (by rw[I];decide) (by rw[I];decide) ?_ (h _ _ (Nat.le_refl _) (C38 w (i,g)) ((B0.refl _ _).alloc _))
 rw[I]
 have J:=Great.fill_whole (s:=2) (by decide) [Value.agg (fic (i,g)).toArray] ((Array.range (1 * 2)).map ((Value.agg #[.int .i64 0,.int .i64 0]).cells[·%(Value.agg #[.int .i64 0,.int .i64 0]).cells.size]!)) (λv hv=>by
  rw[List.mem_singleton]at hv
  subst hv
  rfl) (by simp)
 simpa[Y,Value.cells,fic]using J
end
end
section
open Go.RowKit
theorem C39{ops:Array Oper}{S:World->Prop}{I:Oper}{a:Act}{t:TypeId}{C:List Value}{n:Nat}{d:TypeDesc}(hw:Region.wanted I (yielded ops a.tmps)=true)(x:Operand)(X:I.op= .load t x)(z k:Nat)(hx:a.eval x= .pointer (some ⟨z,k,none⟩))(U:∀w,S w->w.rangeAt z k C)
 (hu:Tryz.prog.underlying t=some d) (V:d.isRow=true) (Y:(Tryz.prog.info? t).map (·.size)=some n) (J:C.length=n):YieldsIf Tryz.prog ops S I (.agg C.toArray) a:=
 yieldsIf_load_mid (P:=Tryz.prog) (S:=S) hw t x X z k hx C d U hu V (by rw[Y,J])
theorem FiO.at_{W w:World}{l:List (Int×Int)}{n c k:Nat}{A:Option Addr}(h:FiO W l (.slice A n c) w)(V:k<l.length):∃b o,A=some ⟨b,o,none⟩/\w.rangeAt b (o+k * 2) [.int .i64 l[k].1,.int .i64 l[k].2]:=by
 have X:n=l.length:=by
  obtain⟨A',c',e⟩:=h.form
  injection e
 subst X
 obtain⟨b,o,rfl,_,J⟩:=h.rd.cells (by omega) (by decide)
 refine⟨b,o,rfl,λj u I=>?_⟩
 have U:j<2:=(List.getElem?_eq_some_iff.1 I).1
 have:=J (k * 2+j) u (by rw[C1G l k j U V];exact I)
 rw[<-Nat.add_assoc]at this
 exact this
theorem C3A{ops:Array Oper}{S:World->Prop}{J:Oper}{a:Act}{U V d1 d2:Int}(hw:Region.wanted J (yielded ops a.tmps)=true)(x y:Operand)(ty:TypeId)(Y:J.op= .binOp .eql 35 x y ty)(hx:a.eval x= .agg #[.int .i64 U,.int .i64 V])(hy:a.eval y= .agg #[.int .i64 d1,.int .i64 d2]):YieldsIf Tryz.prog ops S J (.bool (decide (U=d1/\V=d2))) a:=.inl ⟨hw,λw _=>by
 unfold execOp
 simp only[Y,hx,hy]
 go_simp
 by_cases I:U=d1
 ·by_cases X:V=d2
  ·simp[I,X]
  ·simp[I,X]
 ·simp[I]⟩
theorem B7j(f:Int×Int):∀u∈A2a [f],u.oneCell'=true:=λu I=>by
 rw[B9B]at I
 exact C1H f u I
structure MiS (F7:Nat->Prop) (w8:World) (l:List (Int×Int)) (v:Value) (w:World):Prop where
 ex:∃F,Sl w F 35 2 v l.length (A2a l)/\B0 F7 w8 F w
section
variable {F7 F':Nat->Prop} {w8 w w' w1:World} {l:List (Int×Int)} {v:Value}
theorem MiS.step(h:MiS F7 w8 l v w)(I:B0 B5 w F' w'):MiS F7 w8 l v w':=by
 obtain⟨F,J,U⟩:=h.ex
 exact⟨⟨F,J.far I (λ_ h _=>h),U.over I⟩⟩
theorem MiS.form(h:MiS F7 w8 l v w):∃A c,v= .slice A l.length c:=by
 obtain⟨F,I,J⟩:=h.ex
 obtain⟨A,c,e,_⟩:=I.form0
 exact⟨A,c,e⟩
theorem MiS.fi(h:MiS F7 w8 l v w)(U:B0 B5 w1 F7 w8):FiO w1 l v w:=by
 obtain⟨F,I,J⟩:=h.ex
 exact⟨⟨F,I,U.trans J⟩⟩
theorem MiS.en{u:Value}{L:List En}(h:MiS F7 w8 l v w)(J:M0 w8 u L)(X:∀k,u.ownBlock=some k->¬F7 k):M0 w u L:=by
 obtain⟨F,Y,I⟩:=h.ex
 exact⟨J.rd.far (λk U _ V=>I.block k V (X k U)) I.size,J.sz⟩
theorem MiS.more{m:List (Int×Int)}(h:MiS F7 w8 l v w):w.ownsRow 0 35 2 v l.length (A2a l)/\∀I J,J.ownsRow 0 35 2 I (l.length+m.length) (A2a l++A2a m)->w.grownBy J v.ownBlock->(I.ownBlock=v.ownBlock\/I.ownBlock=some w.heap.size)->MiS F7 w8 (l++m) I J:=by
 obtain⟨F,U,Y⟩:=h.ex
 refine⟨U.own,λI J aB hg aA=>?_⟩
 obtain⟨V,X⟩:=A1r U aB hg aA (Nat.le_refl _)
 exact⟨⟨_,by rw[List.length_append,B2p];exact V,Y.trans X⟩⟩
end
def MiQ(F7:Nat->Prop)(w8:World)(b:List (Int×Int))(L:List En)(t7 t49:Value)(wr:World):Prop:=
 ∃k:Nat,t49= .int .i64 (k:Int)/\k<=L.length/\MiS F7 w8 (b++A0l (L.take k)) t7 wr
def MhQ(w1:World)(H:Nat->List Nat)(d:Int×Int)(R:Int)(t7 t8:Value)(wr:World):Prop:=
 ∃(i:Nat) (b:List (Int×Int)),t8= .int .i64 (i:Int)/\i<=40/\b.length<=1+24 * i/\FiO w1 b t7 wr/\A14 H d (40-i) i b=R
section
variable {p M:Nat} {H:Nat->List Nat} {w:World}
theorem B7k(h:Rdv w p M H)(hs:Sd H M)(d:Int×Int)(x:En):Calls Tryz.prog 96 #[.pointer (some ⟨p,0,none⟩),.agg #[.int .i64 d.1,.int .i64 d.2],.agg (ea x)] w λe w'=>e= .returned (.int .i64 (B3W H d x))/\B0 B5 w B5 w':=by
 have HE:=C6x (λV (a:B0 B5 w B5 V) i g=>A0b (h.step a) hs i g)
 have hR:B3W H d x=if x.k=1 then A14 H d 40 0 [(x.i,x.g)]else 0:=rfl
 rw[hR]
 obtain⟨xk,aE⟩:∃xk,xk=x.k:=⟨_,rfl⟩
 have cH:=C6x aE
 rw[<-aE]
 clear h hs hR aE
 by_cases X:xk=1
 ·subst X
  rw[if_pos rfl]
  obtain⟨R,hR⟩:∃R,R=A14 H d 40 0 [(x.i,x.g)]:=⟨_,rfl⟩
  rw[<-hR]
  have HR:=C6x hR
  obtain⟨d1,d2⟩:=d
  simp only
  clear hR
  go_enter Tryz.func96,Tryz.ntmps96
  go_wp2_with (first
   |(refine C5 (t:=35) rfl _ rfl rfl ?_;intro z4 w0 U J I;have bC:=C6x J;have aZ:=C6x I;clear U J I)
   |(refine C5 (t:=74) rfl _ rfl rfl ?_;intro z5 w1 U J I;have aU:=C6x J;have aI:=C6x (aZ.out.trans I);have bD:=C6x (bC.out.over I);have c1:w1.cell? ⟨z5,3,none⟩=some (.int .i64 (1:Int)):=(by rw[J.cell,cH.out];rfl);have aK:=C6x (A13 J);clear U J I)
   |(refine wpList_load_mid rfl 35 (.tmp 16) rfl z5 1 rfl [.int .i64 x.i,.int .i64 x.g] _ aK.out Tryz.underlying35 rfl (by rw[B1];rfl) ?_)
   |(refine A7H rfl _ rfl x.i x.g rfl ?_;intro z7 w2 U Y I;have cQ:=C6x Y;have dL:=C6x (bD.out.over I);clear U Y I c1)
   |fail)
  go_loopw [7,8] (MhQ w1 H (d1,d2) R) (λ_ t _=>40-(intOf t).toNat)
  case atStart=>exact⟨0,_,rfl,by omega,by simp,cQ.out,HR.out.symm⟩
  case round=>
   obtain⟨j,b,rfl,hj,aM,aC,aD⟩:=hrel
   have aL:=bD.out.over aC.adv
   obtain⟨A,c,rfl⟩:=aC.form
   obtain⟨n,hn⟩:∃n,n=b.length:=⟨_,rfl⟩
   rw[<-hn]at aC aM⊢
   have aQ:=C6x aC
   have dM:=C6x aL
   have dN:=C6x aD
   have cD:=C6x hn
   have cC:=C6x aM
   have HJ:=C6x hj
   by_cases aX:j<n
   ·by_cases cJ:j<40
    ·have cM:(j:Int)<(n:Int):=by omega
     have dO:(j:Int)<40:=by omega
     have dP:(0:Int)<=(j:Int):=by omega
     have bQ:j<b.length:=by rw[<-hn];exact aX
     obtain⟨bb,oo,rfl,aN⟩:=aC.at_ bQ
     have hy:b[j]? =some b[j]:=List.getElem?_eq_getElem bQ
     obtain⟨y,cN⟩:∃y,y=b[j]:=⟨_,rfl⟩
     rw[<-cN]at aN hy
     obtain⟨f,Y⟩:∃f,40-j=f+1:=⟨39-j,by omega⟩
     have bX:A14 H (d1,d2) (40-j) j b=if y=(d1,d2)then 2 else if J3 H y.1 y.2=0 then A14 H (d1,d2) f (j+1) (b++A0l (L4 H y.1 y.2))else J3 H y.1 y.2:=by
      rw[Y,A14,hy]
     rw[aD]at bX
     have bK:=C6x bX
     have HF:=C6x Y
     obtain⟨y1,y2⟩:=y
     simp only at aN
     have cE:=C6x aN
     have bJ:=C6x (show wr.drew.rangeAt bb (oo+j * 2) [.int .i64 y1,.int .i64 y2]/\C3 wr.drew z4 35 #[.int .i64 d1,.int .i64 d2]from⟨aN,aL⟩)
     clear hj aM aC aL aD hn aX cJ bQ aN hy cN Y bX aK aU
     go_upto_region 7 with fail
     refine D6 (S:=(λw'=>w'.rangeAt bb (oo+j * 2) [.int .i64 y1,.int .i64 y2]/\C3 w' z4 35 #[.int .i64 d1,.int .i64 d2])) (by first|with_reducible exact bJ.out) (λhH=>?_)
     refine C62 0 rfl ?_
     refine C62 1 rfl ?_
     refine C62 2 rfl ?_
     refine C65 3 (.agg #[.int .i64 y1,.int .i64 y2]) rfl (C39 rfl (.tmp 31) rfl bb _ rfl (λ_ h=>h.1) Tryz.underlying35 rfl B1 rfl) ?_
     refine C65 4 (.agg #[.int .i64 d1,.int .i64 d2]) rfl (Q2 rfl (.tmp 4) rfl z4 rfl (λ_ h=>h.2) Tryz.underlying35 rfl B1 rfl) ?_
     refine C65 5 (.bool (decide (y1=d1/\y2=d2))) rfl (C3A rfl _ _ _ rfl rfl rfl) ?_
     refine wpAnyH_done (by kernel_rfl) ?_ _
     have aP:=C6x (show B0 B5 w B5 wr.drew from(aI.out.trans aQ.out.adv).drew)
     by_cases aF:y1=d1/\y2=d2
     ·have bI:=C6x (show R=2 by rw[bK.out,if_pos (by rw[aF.1,aF.2])])
      rw[decide_eq_true aF]
      clear aF bJ
      go_wp2_with fail
      go_ret
      exact⟨(by rw[bI.out]<;>rfl),aP.out⟩
     ·have bY:R=if J3 H y1 y2=0 then A14 H (d1,d2) f (j+1) (b++A0l (L4 H y1 y2))else J3 H y1 y2:=by
       rw[bK.out,if_neg (λe=>aF (by injection e with e1 e2;exact⟨e1,e2⟩))]
      rw[decide_eq_false aF]
      have aJ:=C6x (λV (a:B0 B5 w B5 V)=>HE.out V a y1 y2)
      obtain⟨_,bS⟩:=A2V H y1 y2
      obtain⟨ee,cK⟩:∃ee,ee=J3 H y1 y2:=⟨_,rfl⟩
      obtain⟨L,hL⟩:∃L,L=L4 H y1 y2:=⟨_,rfl⟩
      rw[<-cK,<-hL]at aJ bY
      rw[<-hL]at bS
      obtain⟨n8,bT⟩:∃n8,n8=L.length:=⟨_,rfl⟩
      unfold EsR at aJ
      rw[<-bT]at aJ
      have aT:=C6x bY
      have bF:=C6x bS
      have aB:=C6x bT
      clear aF bY bS cK hL bT bK bJ HR
      by_cases he:ee=0
      ·subst he
       have dB:=C6x (show A14 H (d1,d2) f (j+1) (b++A0l L)=R by rw[aT.out,if_pos rfl])
       clear aT
       go_wp2_with (first
        |(refine wpList_load_mid rfl 35 (.tmp 39) rfl bb _ rfl [.int .i64 y1,.int .i64 y2] _ cE.out Tryz.underlying35 rfl (by rw[B1];rfl) ?_)
        |(go_at_call 74;refine(aJ.out _ aP.out).mono ?_;rintro e w8 ⟨A8,c8,rfl,o8,a8⟩;have bG:=C6x o8;have aO:=C6x a8;clear o8 a8)
        |fail)
       obtain⟨F7,s7,a7⟩:=(aQ.out.step (B0.refl B5 wr).drew).ex
       obtain⟨F9,s9,a9⟩:=bG.out.ex
       have cX:=C6x (show∀k,(Value.slice A8 n8 c8).ownBlock=some k->¬F7 k fromλk hk Y=>by
        have X:=s7.bd k Y
        rcases a9.into k (s9.inF k hk)with y|y
        ·exact y.elim
        ·omega)
       have dC:=C6x (show MiS F7 w8 b _ w8 from⟨⟨F7,s7.far aO.out (λ_ h _=>h),B0.refl _ _⟩⟩)
       have cO:=C6x (show B0 B5 w1 F7 w8 from a7.over aO.out)
       clear s7 a7 s9 a9
       go_loopw [7,49] (MiQ F7 w8 b L) (λ_ t _=>n8-(intOf t).toNat)
       case atStart=>exact⟨0,rfl,Nat.zero_le _,by simpa[A0l]using dC.out⟩
       case round=>
        obtain⟨k,rfl,hk,aA⟩:=hrel
        obtain⟨Ak,ck,rfl⟩:=aA.form
        have cT:=C6x aA
        have HK:=C6x hk
        obtain⟨nk,aG⟩:∃nk,nk=(b++A0l (L.take k)).length:=⟨_,rfl⟩
        rw[<-aG]at cT aA⊢
        have cY:=C6x aG
        by_cases aW:k<n8
        ·have aV:k<L.length:=by rw[<-aB.out];exact aW
         obtain⟨x,hx⟩:∃x,x=L[k]:=⟨_,rfl⟩
         have aE:L[k]? =some x:=by rw[hx];exact List.getElem?_eq_getElem aV
         obtain⟨_,b8,o8,dG,bV⟩:=(aA.en bG.out.rd cX.out).range aB.out aE
         subst dG
         have cF:=C6x bV
         have bZ:A0l (L.take (k+1))=A0l (L.take k)++(if x.k=1 then [(x.i,x.g)]else []):=by
          unfold A0l
          rw[List.take_succ_eq_append_getElem aV,List.filter_append,List.map_append,<-hx]
          by_cases e:x.k=1
          ·simp[e]
          ·simp[e]
         have cG:=C6x bZ
         have dR:(k:Int)<(n8:Int):=by omega
         have dS:(n8:Int)<=24:=by have X:=bF.out;have h2:=aB.out;omega
         have bU:nk+1<=1000000:=by
          have X:=cY.out
          have h2:=cC.out
          have h3:=cD.out
          have h4:(A0l (L.take k)).length<=k:=by
           unfold A0l
           rw[List.length_map]
           exact Nat.le_trans (List.length_filter_le _ _) (by rw[List.length_take];omega)
          have h5:=bF.out
          have h6:=aB.out
          have h7:=HF.out
          rw[List.length_append]at X
          omega
         have cZ:=C6x bU
         obtain⟨kx,bR⟩:∃kx,kx=x.k:=⟨_,rfl⟩
         have aS:=C6x bR
         have aR:=C6x (λV (a:B0 B5 wr B5 V)=>(MiS.step aA a).more (m:=[(x.i,x.g)]))
         have cU:=C6x (λV (a:B0 B5 wr B5 V)=>MiS.step aA a)
         rw[<-aG]at aR
         by_cases aY:kx=1
         ·subst aY
          clear hk aA aW aG bU aV hx aE bV bZ bR
          go_wp2_with (first
           |(refine B9 rfl rfl E7 ?_;intro aH w9 U J I;have bO:=C6x U;have bM:=C6x J;have bB:=C6x I;clear U J I)
           |(refine B7 rfl _ _ rfl aH bM.out rfl rfl C8 (D1 _) (D1 _) (R4 _) ?_;intro cA J I;have dD:=C6x J;have bA:=C6x (bB.out.fresh bO.out I);have dF:cA.cell? ⟨aH,3,none⟩=some (.int .i64 (1:Int)):=(by rw[J.cell,aS.out];rfl);have dA:=C6x (A13 J);clear J I)
           |(refine wpList_load_mid rfl 74 (.tmp 51) rfl b8 _ rfl (ec x) _ cF.out Tryz.underlying74 rfl (by rw[C8];rfl) ?_)
           |(refine wpList_load_mid rfl 35 (.tmp 57) rfl aH 1 rfl [.int .i64 x.i,.int .i64 x.g] _ dA.out Tryz.underlying35 rfl (by rw[B1];rfl) ?_)
           |(refine A7H rfl _ rfl x.i x.g rfl ?_;intro dW dV U Y I;have cP:=C6x Y;have cB:=C6x (bA.out.trans I);clear U Y I)
           |(refine A5t rfl _ _ rfl rfl rfl (aR.out _ cB.out).1 cP.out.rd (B7j _) cZ.out ?_;intro dJ dK X h2 h3;have cV:=C6x ((aR.out _ cB.out).2 dJ dK X h2 h3);clear X h2 h3)
           |fail)
          exact⟨⟨k+1,by simp,by have:=HK.out;have:=aB.out;omega,by rw[cG.out,if_pos (aS.out.symm),<-List.append_assoc];exact cV.out⟩,by simp[intOf]<;>omega⟩
         ·have dU:(kx==1)=false:=by rw[beq_eq_false_iff_ne];exact aY
          have dE:=C6x aY
          clear hk aA aW aG bU aV hx aE bV bZ bR aY aR
          go_wp2_with (first
           |(refine B9 rfl rfl E7 ?_;intro aH w9 U J I;have bO:=C6x U;have bM:=C6x J;have bB:=C6x I;clear U J I)
           |(refine B7 rfl _ _ rfl aH bM.out rfl rfl C8 (D1 _) (D1 _) (R4 _) ?_;intro cA J I;have dD:=C6x J;have bA:=C6x (bB.out.fresh bO.out I);have dF:cA.cell? ⟨aH,3,none⟩=some (.int .i64 kx):=(by rw[J.cell,aS.out];rfl);clear J I)
           |(refine wpList_load_mid rfl 74 (.tmp 51) rfl b8 _ rfl (ec x) _ cF.out Tryz.underlying74 rfl (by rw[C8];rfl) ?_)
           |fail)
          exact⟨⟨k+1,by simp,by have:=HK.out;have:=aB.out;omega,by rw[cG.out,if_neg (by rw[<-aS.out];exact dE.out),List.append_nil];exact cU.out _ bA.out⟩,by simp[intOf]<;>omega⟩
        ·obtain rfl:k=n8:=by have:=aB.out;omega
         have bP:=aA
         rw[List.take_of_length_le (by rw[aB.out];exact Nat.le_refl _)]at bP
         have cR:=C6x bP
         have cL:(b++A0l L).length<=1+24 * (j+1):=by
          rw[List.length_append]
          have X:(A0l L).length<=L.length:=by
           unfold A0l
           rw[List.length_map]
           exact List.length_filter_le _ _
          have:=bF.out
          have:=cC.out
          have:=cD.out
          omega
         have cW:=C6x cL
         clear hk aA aW bP cL aG
         go_wp2_with fail
         exact⟨⟨j+1,b++A0l L,by simp,by have:=HF.out;omega,cW.out,cR.out.fi cO.out,by rw[show 40-(j+1)=f by have:=HF.out;omega];exact dB.out⟩,by have:=HF.out;simp[intOf]<;>omega⟩
      ·have bI:=C6x (show R=ee by rw[aT.out,if_neg he])
       have J:(ee !=0)=true:=by rw[bne_iff_ne];exact he
       clear he aT
       go_wp2_with (first
        |(refine wpList_load_mid rfl 35 (.tmp 39) rfl bb _ rfl [.int .i64 y1,.int .i64 y2] _ cE.out Tryz.underlying35 rfl (by rw[B1];rfl) ?_)
        |(go_at_call 74;refine(aJ.out _ aP.out).mono ?_;rintro e w8 ⟨A8,c8,rfl,o8,a8⟩;have bG:=C6x o8;have aO:=C6x a8;clear o8 a8)
        |fail)
       go_ret
       exact⟨(by rw[bI.out]<;>rfl),aP.out.trans aO.out⟩
    ·have bH:=C6x (show R=0 by
      rw[<-aD,show 40-j=0 by omega]
      rfl)
     have cM:(j:Int)<(n:Int):=by omega
     obtain rfl:j=40:=by omega
     clear hj aM aC aL aD hn aX cJ aK aU
     go_wp2_with fail
     go_ret
     exact⟨(by rw[bH.out]<;>rfl),aI.out.trans aQ.out.adv⟩
   ·have bH:=C6x (show R=0 by
     have dH:b[j]? =none:=List.getElem?_eq_none (by omega)
     rw[<-aD]
     cases 40-j with
     |zero=>rfl
     |succ f=>rw[A14,dH])
    have cM:¬(j:Int)<(n:Int):=by omega
    clear hj aM aC aL aD hn aX aK aU
    go_wp2_with fail
    go_ret
    exact⟨(by rw[bH.out]<;>rfl),aI.out.trans aQ.out.adv⟩
 ·rw[if_neg X]
  have dQ:(xk !=1)=true:=by rw[bne_iff_ne];exact X
  clear X HE
  go_enter Tryz.func96,Tryz.ntmps96
  go_wp2_with (first
   |(refine C5 (t:=35) rfl _ rfl rfl ?_;intro z4 w0 U J I;have bC:=C6x J;have aZ:=C6x I;clear U J I)
   |(refine C5 (t:=74) rfl _ rfl rfl ?_;intro z5 w1 U J I;have aU:=C6x J;have aI:=C6x (aZ.out.trans I);have bD:=C6x (bC.out.over I);have c1:w1.cell? ⟨z5,3,none⟩=some (.int .i64 xk):=(by rw[J.cell,cH.out];rfl);have aK:=C6x (A13 J);clear U J I)
   |fail)
  go_ret
  exact⟨rfl,aI.out⟩
end
end
end Go.Proofs.YtbefmjiclpobjaaGreat
