import Derived.Test.YtbefmjiclpobjaaGreatMh28
import Derived.Test.YtbefmjiclpobjaaGreatMh26
namespace Go.Proofs.YtbefmjiclpobjaaGreat
set_option maxHeartbeats 1600000
set_option maxRecDepth 3000
section
open Go.RowKit Go.Maps
def NoS(w:World)(v:Value):Prop:=∀V,A8 B0 w B0 V->Calls Tryz.prog 73 #[v] V λe w'=>e= .returned (.bool false)/\V=w'
theorem NoS.nil(w:World):NoS w (.pointer none):=λV _=>B6y V
theorem NoS.step{w w':World}{v:Value}(h:NoS w v)(a:A8 B0 w B0 w'):NoS w' v:=λV b=>h V (a.trans b)
theorem NoS.zero{w:World}{z:Nat}{t:TypeId}{cs:Array Value}(h:C0 w z t cs)(I:cs[0]? =some (.pointer none)):NoS w (.pointer (some ⟨z,0,none⟩)):=λV a=>
 B4k z V (by have c:=C0.cell (h.over a) 0;simp only[I]at c;exact c)
def NoR(w:World)(v:Value)(e:Ending)(w':World):Prop:=e= .returned v/\A8 B0 w B0 w'
section
variable {w:World} {v:Value}
theorem B15(h:NoS w v)(i1 g1:Int)(s2:ByteArray):
 Calls Tryz.prog 31 #[v,.agg #[.int .i64 i1,.int .i64 g1],.string s2] w (NoR w (.tuple #[.agg (ea A2j),.int .i64 1])):=by
 have HM:=C3t h
 have X:=C3t (A8.refl B0 w)
 unfold NoR
 clear h
 go_enter Tryz.func31,Tryz.ntmps31
 go_wp2_with (first
  |(refine C4 (t:=35) rfl _ rfl rfl ?_;intro aC aB U J I;have V:=C3t (X.out.trans I);clear U J I)
  |(refine B6 rfl rfl L5 ?_;intro z w1 U J I;have HZ:=C3t (Nat.le_trans V.out.size U);have aA:=C3t J;have W:=C3t (V.out.trans I);clear U J I)
  |(go_at_call 73;refine(HM.out _ W.out).mono ?_;rintro e w2 ⟨rfl,rfl⟩)
  |(refine S7 rfl rfl ?_)
  |(refine B5 rfl _ _ rfl z aA.out rfl rfl D9 (G9 _) (G9 _) (U0 _) ?_;intro w6 J I;have Z:=C3t J;have Y:=C3t (W.out.fresh HZ.out I);clear J I)
  |fail)
 exact bodyPost_ret (Q2 rfl _ _ rfl rfl Z.out Tryz.underlying74 rfl (by rw[D9];rfl)) rfl ⟨rfl,Y.out⟩
theorem B6V(h:NoS w v)(Z W:Int):
 Calls Tryz.prog 27 #[v,.agg #[.int .i64 Z,.int .i64 W]] w (NoR w (.tuple #[.slice none 0 0,.int .i64 1])):=by
 have V:=C3t h
 have U:=C3t (A8.refl B0 w)
 unfold NoR
 clear h
 go_enter Tryz.func27,Tryz.ntmps27
 go_wp2_with (first
  |(refine C4 (t:=35) rfl _ rfl rfl ?_;intro aB aA Y X J;have I:=C3t (U.out.trans J);clear Y X J)
  |(go_at_call 73;refine(V.out _ I.out).mono ?_;rintro e w2 ⟨rfl,rfl⟩)
  |fail)
 go_ret2
 exact⟨rfl,I.out⟩
theorem B6W(h:NoS w v)(i1 g1:Int):
 Calls Tryz.prog 28 #[v,.agg #[.int .i64 i1,.int .i64 g1]] w (NoR w (.tuple #[.agg #[.int .i64 0,.int .u64 0,.int .i64 0],.int .i64 1])):=by
 have HM:=C3t h
 have X:=C3t (A8.refl B0 w)
 unfold NoR
 clear h
 go_enter Tryz.func28,Tryz.ntmps28
 go_wp2_with (first
  |(refine C4 (t:=35) rfl _ rfl rfl ?_;intro aC aB U J I;have V:=C3t (X.out.trans I);clear U J I)
  |(refine B6 rfl rfl B0a ?_;intro z w1 U J I;have HZ:=C3t (Nat.le_trans V.out.size U);have aA:=C3t J;have W:=C3t (V.out.trans I);clear U J I)
  |(go_at_call 73;refine(HM.out _ W.out).mono ?_;rintro e w2 ⟨rfl,rfl⟩)
  |(refine A3n rfl rfl ?_)
  |(refine B5 rfl _ _ rfl z aA.out rfl rfl A3m rfl rfl (C0F _ _ _) ?_;intro w6 J I;have Z:=C3t J;have Y:=C3t (W.out.fresh HZ.out I);clear J I)
  |fail)
 exact bodyPost_ret (Q2 rfl _ _ rfl rfl Z.out Tryz.underlying70 rfl (by rw[A3m];rfl)) rfl ⟨rfl,Y.out⟩
theorem B6X(h:NoS w v)(Z W:Int)(n2:Int):
 Calls Tryz.prog 34 #[v,.agg #[.int .i64 Z,.int .i64 W],.int .i64 n2] w (NoR w (.tuple #[.string ByteArray.empty,.int .u64 0,.int .i64 1])):=by
 have V:=C3t h
 have U:=C3t (A8.refl B0 w)
 unfold NoR
 clear h
 go_enter Tryz.func34,Tryz.ntmps34
 go_wp2_with (first
  |(refine C4 (t:=35) rfl _ rfl rfl ?_;intro aB aA Y X J;have I:=C3t (U.out.trans J);clear Y X J)
  |(go_at_call 73;refine(V.out _ I.out).mono ?_;rintro e w2 ⟨rfl,rfl⟩)
  |fail)
 exact bodyPost_ret (results_tmp3 rfl _ _ _) rfl ⟨rfl,I.out⟩
theorem B16(h:NoS w v)(i1 g1:Int)(s2:ByteArray)(n3:Int):
 Calls Tryz.prog 36 #[v,.agg #[.int .i64 i1,.int .i64 g1],.string s2,.int .i64 n3] w (NoR w (.tuple #[.agg #[.int .i64 0,.int .i64 0],.int .i64 1])):=by
 have HM:=C3t h
 have X:=C3t (A8.refl B0 w)
 unfold NoR
 clear h
 go_enter Tryz.func36,Tryz.ntmps36
 go_wp2_with (first
  |(refine C4 (t:=35) rfl _ rfl rfl ?_;intro aC aB U J I;have V:=C3t (X.out.trans I);clear U J I)
  |(refine B6 rfl rfl J4 ?_;intro z w1 U J I;have HZ:=C3t (Nat.le_trans V.out.size U);have aA:=C3t J;have W:=C3t (V.out.trans I);clear U J I)
  |(go_at_call 73;refine(HM.out _ W.out).mono ?_;rintro e w2 ⟨rfl,rfl⟩)
  |(refine J9 rfl rfl ?_)
  |(refine B5 rfl _ _ rfl z aA.out rfl rfl B1 rfl rfl (by simp[Value.oneCell']) ?_;intro w6 J I;have Z:=C3t J;have Y:=C3t (W.out.fresh HZ.out I);clear J I)
  |fail)
 exact bodyPost_ret (Q2 rfl _ _ rfl rfl Z.out Tryz.underlying35 rfl (by rw[B1];rfl)) rfl ⟨rfl,Y.out⟩
theorem B47(h:NoS w v)(Z W:Int)(n2:Int)(s3:ByteArray):
 Calls Tryz.prog 35 #[v,.agg #[.int .i64 Z,.int .i64 W],.int .i64 n2,.string s3] w (NoR w (.tuple #[.int .u64 0,.int .i64 1])):=by
 have V:=C3t h
 have U:=C3t (A8.refl B0 w)
 unfold NoR
 clear h
 go_enter Tryz.func35,Tryz.ntmps35
 go_wp2_with (first
  |(refine C4 (t:=35) rfl _ rfl rfl ?_;intro aB aA Y X J;have I:=C3t (U.out.trans J);clear Y X J)
  |(go_at_call 73;refine(V.out _ I.out).mono ?_;rintro e w2 ⟨rfl,rfl⟩)
  |fail)
 go_ret2
 exact⟨rfl,I.out⟩
theorem B48(h:NoS w v)(Z W:Int):
 Calls Tryz.prog 37 #[v,.agg #[.int .i64 Z,.int .i64 W]] w (NoR w (.tuple #[.int .u64 0,.int .i64 1])):=by
 have V:=C3t h
 have U:=C3t (A8.refl B0 w)
 unfold NoR
 clear h
 go_enter Tryz.func37,Tryz.ntmps37
 go_wp2_with (first
  |(refine C4 (t:=35) rfl _ rfl rfl ?_;intro aB aA Y X J;have I:=C3t (U.out.trans J);clear Y X J)
  |(go_at_call 73;refine(V.out _ I.out).mono ?_;rintro e w2 ⟨rfl,rfl⟩)
  |fail)
 go_ret2
 exact⟨rfl,I.out⟩
theorem B17(h:NoS w v):
 Calls Tryz.prog 38 #[v] w (NoR w (.tuple #[.slice none 0 0,.int .i64 1])):=by
 have J:=C3t h
 have I:=C3t (A8.refl B0 w)
 unfold NoR
 clear h
 go_enter Tryz.func38,Tryz.ntmps38
 go_wp2_with (first
  |(go_at_call 73;refine(J.out _ I.out).mono ?_;rintro e w2 ⟨rfl,rfl⟩)
  |fail)
 go_ret2
 exact⟨rfl,I.out⟩
theorem B18(h:NoS w v)(Z W:Int)(s2:ByteArray):
 Calls Tryz.prog 33 #[v,.agg #[.int .i64 Z,.int .i64 W],.string s2] w (NoR w (.int .i64 1)):=by
 have V:=C3t h
 have U:=C3t (A8.refl B0 w)
 unfold NoR
 clear h
 go_enter Tryz.func33,Tryz.ntmps33
 go_wp2_with (first
  |(refine C4 (t:=35) rfl _ rfl rfl ?_;intro aB aA Y X J;have I:=C3t (U.out.trans J);clear Y X J)
  |(go_at_call 73;refine(V.out _ I.out).mono ?_;rintro e w2 ⟨rfl,rfl⟩)
  |fail)
 go_ret
 exact⟨rfl,I.out⟩
theorem B19(h:NoS w v)(i1 Z:Int)(s2:ByteArray)(i3 g3:Int)(s4:ByteArray):
 Calls Tryz.prog 39 #[v,.agg #[.int .i64 i1,.int .i64 Z],.string s2,.agg #[.int .i64 i3,.int .i64 g3],.string s4] w (NoR w (.int .i64 1)):=by
 have Y:=C3t h
 have W:=C3t (A8.refl B0 w)
 unfold NoR
 clear h
 go_enter Tryz.func39,Tryz.ntmps39
 go_wp2_with (first
  |(refine C4 (t:=35) rfl _ rfl rfl ?_;intro aC aA U J I;have X:=C3t (W.out.trans I);clear U J I)
  |(refine C4 (t:=35) rfl _ rfl rfl ?_;intro aD aB U J I;have V:=C3t (X.out.trans I);clear U J I)
  |(go_at_call 73;refine(Y.out _ V.out).mono ?_;rintro e w2 ⟨rfl,rfl⟩)
  |fail)
 go_ret
 exact⟨rfl,V.out⟩
theorem B1A(h:NoS w v):
 Calls Tryz.prog 40 #[v,.slice none 0 0] w (NoR w (.int .i64 1)):=by
 have J:=C3t h
 have I:=C3t (A8.refl B0 w)
 unfold NoR
 clear h
 go_enter Tryz.func40,Tryz.ntmps40
 go_wp2_with (first
  |(go_at_call 73;refine(J.out _ I.out).mono ?_;rintro e w2 ⟨rfl,rfl⟩)
  |fail)
 go_ret
 exact⟨rfl,I.out⟩
end
end
section
open Go.RowKit
def up2{α:Type}(P:Nat->Nat->α)(i j:Nat)(x:α):Nat->Nat->α:=λa b=>if a=i/\b=j then x else P a b
theorem U9{α:Type}(P:Nat->Nat->α)(i j:Nat)(x:α):up2 P i j x i j=x:=if_pos ⟨rfl,rfl⟩
theorem R1{α:Type}(P:Nat->Nat->α){i j a b:Nat}(x:α)(h:¬(a=i/\b=j)):up2 P i j x a b=P a b:=if_neg h
theorem B0c{α:Type}(P:Nat->Nat->α)(i j:Nat):up2 P i j (P i j)=P:=by
 funext a b
 unfold up2
 split
 ·rename_i h;rw[h.1,h.2]
 ·rfl
def T5(l:List Nat):Nat:=if l=[]then 0 else 1
def Q6(f:Nat->List Nat):Nat->Nat
 |0=>0
 |j+1=>Q6 f j+T5 (f j)
def V9(R:Nat->Nat->List Nat):Nat->Nat
 |0=>0
 |i+1=>V9 R i+Q6 (R (i+1)) 8
theorem A0d{f g:Nat->List Nat}:∀{n:Nat},(∀j,j<n->f j=g j)->Q6 f n=Q6 g n
 |0,_=>rfl
 |n+1,h=>by
  show Q6 f n+T5 (f n)=Q6 g n+T5 (g n)
  rw[A0d (λj I=>h j (by omega)),h n (by omega)]
theorem V1{R S:Nat->Nat->List Nat}:∀{n:Nat},(∀i j,1<=i->i<=n->j<8->R i j=S i j)->V9 R n=V9 S n
 |0,_=>rfl
 |n+1,h=>by
  show V9 R n+Q6 (R (n+1)) 8=V9 S n+Q6 (S (n+1)) 8
  rw[V1 (λi j I U h3=>h i j I (by omega) h3),A0d (λj J=>h (n+1) j (by omega) (by omega) J)]
theorem B2N{f g:Nat->List Nat}{j:Nat}(I:∀b,b≠j->g b=f b):∀{n:Nat},j<n->Q6 g n+T5 (f j)=Q6 f n+T5 (g j)
 |n+1,h=>by
  show Q6 g n+T5 (g n)+T5 (f j)=Q6 f n+T5 (f n)+T5 (g j)
  by_cases J:j=n
  ·subst J
   rw[A0d (f:=g) (g:=f) (λb U=>I b (by omega))]
   omega
  ·rw[I n (λe=>J e.symm)]
   have:=B2N I (n:=n) (by omega)
   omega
theorem B2P{R S:Nat->Nat->List Nat}{i j:Nat}(I:∀a b,¬(a=i/\b=j)->S a b=R a b)(U:1<=i)(J:j<8):∀{n:Nat},i<=n->V9 S n+T5 (R i j)=V9 R n+T5 (S i j)
 |0,h=>by omega
 |n+1,h=>by
  show V9 S n+Q6 (S (n+1)) 8+T5 (R i j)=V9 R n+Q6 (R (n+1)) 8+T5 (S i j)
  by_cases hi:i=n+1
  ·subst hi
   rw[V1 (R:=S) (S:=R) (λa b _ V _=>I a b (by omega))]
   have:=B2N (f:=R (n+1)) (g:=S (n+1)) (j:=j) (λb W=>I (n+1) b (by omega)) J
   omega
  ·rw[A0d (f:=S (n+1)) (g:=R (n+1)) (λb _=>I (n+1) b (by omega))]
   have:=B2P I U J (n:=n) (by omega)
   omega
theorem B2Q(f:Nat->List Nat):∀n,Q6 f n<=n
 |0=>Nat.le_refl _
 |n+1=>by
  show Q6 f n+T5 (f n)<=n+1
  have:=B2Q f n
  unfold T5
  split<;>omega
theorem B6Z:T5 []=0:=rfl
theorem A1Q{l:List Nat}(h:l≠[]):T5 l=1:=if_neg h
theorem B7a{T:List Bool}:J8 T<T.length↔0<Z6 T:=by
 unfold J8 Z6
 rw[List.findIdx_lt_length]
 constructor
 ·rintro⟨x,J,I⟩
  have:x=false:=by simpa using I
  subst this
  exact List.count_pos_iff.2 J
 ·intro h
  exact⟨false,List.count_pos_iff.1 h,rfl⟩
theorem B0d{T:List Bool}(h:J8 T<T.length):T.getD (J8 T) false=false:=by
 have I:(!T[J8 T])=true:=List.findIdx_getElem (w:=h)
 rw[Z5 h]
 simpa using I
theorem A5S{T:List Bool}{k:Nat}(b:Bool)(I:k<T.length):Z6 (T.set k b)+(if T.getD k false=false then 1 else 0)=Z6 T+(if b=false then 1 else 0):=by
 unfold Z6
 rw[List.count_set I,Z5 I]
 cases hb:T[k]
 ·have:0<T.count false:=List.count_pos_iff.2 (by rw[<-hb];exact List.getElem_mem I)
  cases b<;>simp<;>omega
 ·cases b<;>simp
def In8(i j:Nat):Prop:=1<=i/\i<=40/\j<8
structure Ow (H:Nat->List Nat) (M:Nat) (P:Nat->Nat->Int) (R:Nat->Nat->List Nat):Prop where
 pt:∀i j,In8 i j->P i j=0\/(42<=P i j/\P i j<M)
 nz:∀i j,In8 i j->(P i j=0↔R i j=[])
 at_:∀i j,In8 i j->P i j≠0->H (P i j).toNat=R i j
 inj:∀i j i' j',In8 i j->In8 i' j'->P i j≠0->P i j=P i' j'->i=i'/\j=j'
 bit:∀h:Nat,42<=h->h<M->((C8 H M).getD h false=true↔∃i j,In8 i j/\P i j=h)
 cnt:Z6 (C8 H M)+V9 R 40+42=M
theorem Ow.congr{H:Nat->List Nat}{M:Nat}{P W:Nat->Nat->Int}{R R':Nat->Nat->List Nat}(h:Ow H M P R)(I:∀i j,In8 i j->W i j=P i j)(V:∀i j,In8 i j->R' i j=R i j):Ow H M W R':=by
 refine⟨λi j hi=>by rw[I i j hi];exact h.pt i j hi,λi j hi=>by rw[I i j hi,V i j hi];exact h.nz i j hi,λi j hi=>by rw[I i j hi,V i j hi];exact h.at_ i j hi,λi j Y Z hi X=>by rw[I i j hi,I Y Z X];exact h.inj i j Y Z hi X,λk J U=>?_,?_⟩
 ·rw[h.bit k J U]
  constructor
  ·rintro⟨i,j,hi,e⟩;exact⟨i,j,hi,by rw[I i j hi];exact e⟩
  ·rintro⟨i,j,hi,e⟩;exact⟨i,j,hi,by rw[<-I i j hi];exact e⟩
 ·rw[V1 (R:=R') (S:=R) (λi j J U h3=>V i j ⟨J,U,h3⟩)]
  exact h.cnt
theorem Ow.homes{H H':Nat->List Nat}{M:Nat}{P:Nat->Nat->Int}{R:Nat->Nat->List Nat}(h:Ow H M P R)(I:∀k,k=1\/42<=k->H' k=H k):Ow H' M P R:=by
 have J:C8 H' M=C8 H M:=by unfold C8;rw[I 1 (.inl rfl)]
 refine⟨h.pt,h.nz,λi j hi U=>?_,h.inj,by rw[J];exact h.bit,by rw[J];exact h.cnt⟩
 have:=h.pt i j hi
 rw[I _ (.inr (by omega))]
 exact h.at_ i j hi U
theorem Ow.upd{H H':Nat->List Nat}{M i j:Nat}{P:Nat->Nat->Int}{R:Nat->Nat->List Nat}(h:Ow H M P R)(hi:In8 i j){a:Int}{l:List Nat}(aE:a=0\/(42<=a/\a<M))(aK:a=0↔l=[])(aG:a≠0->H' a.toNat=l)
 (hH:∀k:Nat,42<=k->(k:Int)≠a->H' k=H k) (aH:∀k:Nat,42<=k->k<M->(C8 H' M).getD k false=if(k:Int)=a then true else if(k:Int)=P i j then false else(C8 H M).getD k false)
 (aI:a≠0->a=P i j\/(C8 H M).getD a.toNat false=false) (aL:Z6 (C8 H' M)+T5 l=Z6 (C8 H M)+T5 (R i j)):Ow H' M (up2 P i j a) (up2 R i j l):=by
 have aB:∀I J,In8 I J->¬(I=i/\J=j)->a≠0->P I J≠a:=by
  intro I J V aJ ha e
  rcases aI ha with x|x
  ·have:=h.inj I J i j V hi (by rw[e];exact ha) (by rw[e];exact x)
   exact aJ this
  ·have hr:=aE
   have hb:=(h.bit a.toNat (by omega) (by omega)).2 ⟨I,J,V,by rw[e];omega⟩
   rw[x]at hb
   cases hb
 refine⟨λI J V=>?_,λI J V=>?_,λI J V=>?_,λi1 j1 i2 j2 h1 h2=>?_,λk aC aD=>?_,?_⟩
 ·by_cases U:I=i/\J=j
  ·rw[U.1,U.2,U9];exact aE
  ·rw[R1 _ _ U];exact h.pt I J V
 ·by_cases U:I=i/\J=j
  ·rw[U.1,U.2,U9,U9];exact aK
  ·rw[R1 _ _ U,R1 _ _ U];exact h.nz I J V
 ·by_cases U:I=i/\J=j
  ·rw[U.1,U.2,U9,U9];exact aG
  ·rw[R1 _ _ U,R1 _ _ U]
   intro Z
   have hp:=h.pt I J V
   rw[<-h.at_ I J V Z]
   refine hH _ (by omega) (λe=>?_)
   by_cases ha:a=0
   ·omega
   ·exact aB I J V U ha (by omega)
 ·by_cases X:i1=i/\j1=j
  ·by_cases W:i2=i/\j2=j
   ·intro _ _
    exact⟨X.1.trans W.1.symm,X.2.trans W.2.symm⟩
   ·rw[X.1,X.2,U9,R1 _ _ W]
    intro Z e
    exact absurd e.symm (aB i2 j2 h2 W Z)
  ·by_cases W:i2=i/\j2=j
   ·rw[W.1,W.2,U9,R1 _ _ X]
    intro Z e
    exact absurd e (aB i1 j1 h1 X (by rw[<-e];exact Z))
   ·rw[R1 _ _ X,R1 _ _ W]
    exact h.inj i1 j1 i2 j2 h1 h2
 ·rw[aH k aC aD]
  by_cases Y:(k:Int)=a
  ·rw[if_pos Y]
   refine⟨λ_=>⟨i,j,hi,by rw[U9];exact Y.symm⟩,λ_=>rfl⟩
  ·rw[if_neg Y]
   by_cases aA:(k:Int)=P i j
   ·rw[if_pos aA]
    refine⟨λx=>(by cases x),?_⟩
    rintro⟨I,J,V,e⟩
    by_cases U:I=i/\J=j
    ·rw[U.1,U.2,U9]at e;exact absurd e.symm Y
    ·rw[R1 _ _ U]at e
     exact absurd (h.inj I J i j V hi (by omega) (by omega)) U
   ·rw[if_neg aA,h.bit k aC aD]
    constructor
    ·rintro⟨I,J,V,e⟩
     have U:¬(I=i/\J=j):=λx=>aA (by rw[<-e,x.1,x.2])
     exact⟨I,J,V,by rw[R1 _ _ U];exact e⟩
    ·rintro⟨I,J,V,e⟩
     by_cases U:I=i/\J=j
     ·rw[U.1,U.2,U9]at e;exact absurd e.symm Y
     ·rw[R1 _ _ U]at e
      exact⟨I,J,V,e⟩
 ·have h1:=B2P (R:=R) (S:=up2 R i j l) (i:=i) (j:=j) (λa b aF=>R1 _ _ aF) hi.1 hi.2.2 hi.2.1
  rw[U9]at h1
  have h2:=h.cnt
  omega
section
variable {s:CS} {M:Nat}
theorem B7b{e I:Int}(h:e≠0):L7 e I=e:=if_neg h
theorem Y4(h:s.e≠0)(I:Int):s.note I=s:=by
 show(⟨s.H,L7 s.e I⟩:CS)=s
 rw[B7b h]
theorem A5T(h:s.e≠0)(i:Nat)(l:List Nat):s.put i l=s:=by
 show(⟨A0u s.e s.H i l,s.e⟩:CS)=s
 unfold A0u
 rw[if_neg h]
theorem A2C(h:s.e≠0)(i:Nat)(x:L6):s.set i x=s:=by
 unfold CS.set
 rw[Y4 h,A5T h]
theorem B8W(h:s.e≠0):s.take M=s:=by
 unfold CS.take
 rw[Y4 h,A5T h]
theorem B8X(h:s.e≠0)(a:Int):s.give M a=s:=by
 unfold CS.give
 rw[Y4 h,A5T h]
theorem B0e(h:s.e≠0)(a:Int)(l:List Nat):s.place M a l=s:=by
 unfold CS.place
 split
 ·split
  ·rfl
  ·exact B8X h a
 ·split
  ·rw[B8W h,A5T h]
  ·exact A5T h _ _
theorem B7c(h:s.e≠0)(x:L6)(bs:List (List Nat)):∀j,(fl M x bs s j).1=s
 |0=>rfl
 |j+1=>by
  show(fl M x bs s j).1.place M (x.a j) (bs.getD j [])=s
  rw[B7c h x bs j]
  exact B0e h _ _
theorem B7d(h:s.e≠0)(i g:Int)(l:List En):s.setEn M i g l=s:=by
 unfold CS.setEn
 rw[Y4 h,Y4 h]
 show CS.set (fl M _ _ s 8).1 _ _=s
 rw[B7c h]
 exact A2C h _ _
theorem B7e(h:s.e≠0)(i g:Int)(x:En):s.enter M i g x=s:=by
 unfold CS.enter
 rw[Y4 h]
 exact B7d h _ _ _
theorem A5U(h:s.e≠0)(i g:Int):s.touch i g=s:=by
 unfold CS.touch
 split
 ·rw[Y4 h,Y4 h];exact A2C h _ _
 ·rw[Y4 h];exact A2C h _ _
end
section
variable {s:CS} {M i j:Nat} {P:Nat->Nat->Int} {R:Nat->Nat->List Nat} {l:List Nat}
structure C21 (s s':CS) (M i j:Nat) (P:Nat->Nat->Int) (R:Nat->Nat->List Nat) (l:List Nat) (a:Int):Prop where
 e:s'.e=0
 ow:Ow s'.H M (up2 P i j a) (up2 R i j l)
 low:∀k,k≠1->k<42->s'.H k=s.H k
 df:∀k,s'.H k≠s.H k->k=1\/(l≠[]/\(k:Int)=a)
theorem Ow.place(h:Ow s.H M P R)(hw:Sw s.H M)(he:s.e=0)(hi:In8 i j)(hl:l=[]\/(l.length=128/\∀y∈l,y<256)):
 C21 s (s.place M (P i j) l) M i j P R l (s.placeI M (P i j) l)\/((s.place M (P i j) l).e=8/\P i j=0/\l≠[]/\Z6 (C8 s.H M)=0):=by
 obtain⟨aL,aF⟩:=hw.sd.rep
 have hM:=hw.sd.hM
 have aK:=h.pt i j hi
 have aD:=h.nz i j hi
 by_cases V:l=[]
 ·subst V
  have aB:s.placeI M (P i j) []=0:=if_pos rfl
  rw[aB]
  by_cases J:P i j=0
  ·have Z:s.place M (P i j) []=s:=by unfold CS.place;rw[if_pos rfl,if_pos J]
   rw[Z]
   refine .inl ⟨he,?_,λ_ _ _=>rfl,λk I=>absurd rfl I⟩
   rw[show(0:Int)=P i j from J.symm,B0c,show([]:List Nat)=R i j from(aD.1 J).symm,B0c]
   exact h
  ·have hp:42<=P i j/\P i j<M:=by rcases aK with x|x;exact absurd x J;exact x
   have hh:0<=P i j/\P i j<((C8 s.H M).length:Int):=by rw[aF];omega
   have aC:(C8 s.H M).getD (P i j).toNat false=true:=(h.bit _ (by omega) (by omega)).2 ⟨i,j,hi,by omega⟩
   have hg:A0W (C8 s.H M) (P i j)=0:=by unfold A0W;rw[if_pos (show R5 (C8 s.H M) (P i j)from hh),if_pos aC]
   have Z:s.place M (P i j) []=⟨M4 s.H 1 (mapB (U3 (C8 s.H M) (P i j))),0⟩:=by
    unfold CS.place CS.give CS.note CS.put A0u
    rw[if_pos rfl,if_neg J,he,hg]
    rfl
   have aG:U3 (C8 s.H M) (P i j)=(C8 s.H M).set (P i j).toNat false:=by unfold U3;rw[if_pos (show R5 (C8 s.H M) (P i j)from hh)]
   obtain⟨aP,Y⟩:=hw.map (T:=U3 (C8 s.H M) (P i j)) ⟨A4e (s.H 1) (P i j).toNat,by rw[aG];exact aL.drop (by omega) (by omega)⟩ (by rw[A3b,aF]) (λk I=>by rw[A5K hh,if_neg (by omega)];exact hw.low k I)
   rw[Z]
   refine .inl ⟨rfl,?_,λk I _=>E7 _ _ I,λk I=>?_⟩
   ·refine h.upd hi (.inl rfl) ⟨λ_=>rfl,λ_=>rfl⟩ (λx=>absurd rfl x) (λk I _=>E7 _ _ (by omega)) (λk aH aI=>?_) (λx=>absurd rfl x) ?_
    ·show(C8 (M4 s.H 1 _) M).getD k false=_
     rw[Y,A5K hh,if_neg (by omega:¬(k:Int)=0)]
     by_cases e:k=(P i j).toNat
     ·rw[if_pos e,if_pos (by omega)]
     ·rw[if_neg e,if_neg (by omega)]
    ·show Z6 (C8 (M4 s.H 1 _) M)+0=_
     rw[Y,aG,A1Q (λx=>J (aD.2 x))]
     have:=A5S (T:=C8 s.H M) (k:=(P i j).toNat) false (by omega)
     rw[aC]at this
     simpa using this
   ·by_cases e:k=1
    ·exact .inl e
    ·exact absurd (E7 _ _ e) I
 ·obtain⟨aQ,aR⟩:l.length=128/\∀y∈l,y<256:=by rcases hl with x|x;exact absurd x V;exact x
  by_cases J:P i j=0
  ·by_cases W:J8 (C8 s.H M)<(C8 s.H M).length
   ·have y1:T2 (C8 s.H M)=(J8 (C8 s.H M):Int):=by unfold T2;rw[if_pos W]
    have y2:T3 (C8 s.H M)=0:=by unfold T3;rw[if_pos W]
    have aB:s.placeI M (P i j) l=(J8 (C8 s.H M):Int):=by unfold CS.placeI;rw[if_neg V,if_pos J,y1]
    have aO:=A29 hw.low W
    obtain⟨U,aA⟩:∃U,U=J8 (C8 s.H M):=⟨_,rfl⟩
    have aE:=B0d W
    obtain⟨aP,Y⟩:=hw.map (T:=T9 (C8 s.H M)) ⟨_,aL.put W (by omega)⟩ (by rw[A3a,aF]) (λk I=>by
     rw[A5J W]
     split
     ·rfl
     ·exact hw.low k I)
    have Z:s.place M (P i j) l=⟨M4 (M4 s.H 1 (mapB (T9 (C8 s.H M)))) U l,0⟩:=by
     unfold CS.place CS.take CS.note CS.put A0u
     rw[if_neg V,if_pos J,he,y2,y1,aA]
     rfl
    rw[Z,aB,<-aA]
    rw[<-aA]at aO aE W
    have aJ:C8 (M4 (M4 s.H 1 (mapB (T9 (C8 s.H M)))) U l) M=T9 (C8 s.H M):=by
     have:∀X:Nat->List Nat,C8 (M4 X U l) M=C8 X M:=λX=>by unfold C8;rw[E7 _ _ (show 1≠U by omega)]
     exact(this _).trans Y
    refine .inl ⟨rfl,?_,λk I aM=>?_,λk I=>?_⟩
    ·refine h.upd hi (.inr (by omega)) ⟨λx=>by omega,λx=>absurd x V⟩ (λ_=>?_) (λk I aN=>?_) (λk aH aI=>?_) (λ_=>.inr (by simpa using aE)) ?_
     ·show M4 _ U l (U:Int).toNat=l
      rw[Int.toNat_natCast,V7]
     ·show M4 _ U l k=_
      rw[E7 _ _ (by omega),E7 _ _ (by omega)]
     ·show(C8 (M4 (M4 s.H 1 _) U l) M).getD k false=_
      rw[aJ,A5J (by rw[<-aA];exact W),<-aA]
      by_cases e:k=U
      ·rw[if_pos e,if_pos (by omega)]
      ·rw[if_neg e,if_neg (by omega),if_neg (by omega)]
     ·show Z6 (C8 (M4 (M4 s.H 1 _) U l) M)+_=_
      rw[aJ,A1Q V,aD.1 J,B6Z]
      have:=A5S (T:=C8 s.H M) (k:=U) true W
      rw[aE]at this
      unfold T9
      rw[<-aA]
      simpa using this
    ·show M4 _ U l k=_
     rw[E7 _ _ (by omega),E7 _ _ I]
    ·by_cases e:k=1
     ·exact .inl e
     ·refine .inr ⟨V,?_⟩
      by_cases e2:k=U
      ·rw[e2]
      ·exact absurd (by show M4 _ U l k=_;rw[E7 _ _ e2,E7 _ _ e]) I
   ·refine .inr ⟨?_,J,V,?_⟩
    ·have y2:T3 (C8 s.H M)=8:=by unfold T3;rw[if_neg W]
     unfold CS.place CS.take CS.note CS.put
     rw[if_neg V,if_pos J,he,y2]
     rfl
    ·have:=(not_congr (B7a (T:=C8 s.H M))).1 W
     omega
  ·have hp:42<=P i j/\P i j<M:=by rcases aK with x|x;exact absurd x J;exact x
   have aB:s.placeI M (P i j) l=P i j:=by unfold CS.placeI;rw[if_neg V,if_neg J]
   have Z:s.place M (P i j) l=⟨M4 s.H (P i j).toNat l,0⟩:=by
    unfold CS.place CS.put A0u
    rw[if_neg V,if_neg J,he]
    rfl
   have Y:C8 (M4 s.H (P i j).toNat l) M=C8 s.H M:=by unfold C8;rw[E7 _ _ (by omega)]
   have aC:(C8 s.H M).getD (P i j).toNat false=true:=(h.bit _ (by omega) (by omega)).2 ⟨i,j,hi,by omega⟩
   rw[Z,aB]
   refine .inl ⟨rfl,?_,λk I aM=>E7 _ _ (by omega),λk I=>?_⟩
   ·refine h.upd hi (.inr hp) ⟨λx=>absurd x J,λx=>absurd x V⟩ (λ_=>V7 _ _ _) (λk I aN=>E7 _ _ (by omega)) (λk aH aI=>?_) (λ_=>.inl rfl) ?_
    ·show(C8 (M4 s.H _ l) M).getD k false=_
     rw[Y]
     by_cases e:(k:Int)=P i j
     ·rw[if_pos e,<-aC]
      congr 1
      omega
     ·rw[if_neg e,if_neg e]
    ·show Z6 (C8 (M4 s.H _ l) M)+_=_
     rw[Y,A1Q V,A1Q (λx=>J (aD.2 x))]
   ·refine .inr ⟨V,?_⟩
    by_cases e:k=(P i j).toNat
    ·omega
    ·exact absurd (E7 _ _ e) I
end
def B7f(P:Nat->Nat->Int)(i n:Nat)(a:Nat->Int):Nat->Nat->Int:=λx b=>if x=i/\b<n then a b else P x b
def A62(R:Nat->Nat->List Nat)(i n:Nat)(bs:List (List Nat)):Nat->Nat->List Nat:=λx b=>if x=i/\b<n then bs.getD b []else R x b
structure FlD (s s':CS) (M i n:Nat) (P:Nat->Nat->Int) (R:Nat->Nat->List Nat) (bs:List (List Nat)) (a:Nat->Int):Prop where
 e:s'.e=0
 ow:Ow s'.H M (B7f P i n a) (A62 R i n bs)
 low:∀k,k≠1->k<42->s'.H k=s.H k
 df:∃K:List Nat,K.length<=min n bs.length/\∀k,s'.H k≠s.H k->k=1\/k∈K
theorem Ow.fl{s:CS}{M i:Nat}{P:Nat->Nat->Int}{R:Nat->Nat->List Nat}(h:Ow s.H M P R)(hw:Sw s.H M)(he:s.e=0)(hi:1<=i/\i<=40)(x:L6)(Z:∀j,j<8->x.a j=P i j){bs:List (List Nat)}(W:A0a bs):
 ∀n,n<=8->FlD s (fl M x bs s n).1 M i n P R bs (fl M x bs s n).2\/((Go.Proofs.YtbefmjiclpobjaaGreat.fl M x bs s n).1.e=8/\∃j,j<n/\R i j=[]/\bs.getD j []≠[]/\V9 (A62 R i j bs) 40+42=M)
 |0,_=>by
  refine .inl ⟨he,h.congr (λa b _=>?_) (λa b _=>?_),λ_ _ _=>rfl,⟨[],Nat.zero_le _,λk V=>absurd rfl V⟩⟩
  ·unfold B7f;rw[if_neg (by omega)]
  ·unfold A62;rw[if_neg (by omega)]
 |n+1,hn=>by
  have aE:∀j,j<8->x.a j=0\/(42<=x.a j/\x.a j<M):=λj Y=>by rw[Z j Y];exact h.pt i j ⟨hi.1,hi.2,Y⟩
  have aD:=A5M hw W aE n (by omega)
  rcases Ow.fl h hw he hi x Z W n (by omega)with J|⟨J,j,Y,aF⟩
  ·have aB:B7f P i n (Go.Proofs.YtbefmjiclpobjaaGreat.fl M x bs s n).2 i n=x.a n:=by unfold B7f;rw[if_neg (by omega),Z n (by omega)]
   have aC:A62 R i n bs i n=R i n:=by unfold A62;rw[if_neg (by omega)]
   have aA:=J.ow.place (i:=i) (j:=n) (l:=bs.getD n []) aD J.e ⟨hi.1,hi.2,by omega⟩ (W.at_ n)
   rw[aB]at aA
   rcases aA with⟨p1,p2,p3,p4⟩|⟨p1,p2,p3,p4⟩
   ·refine .inl ⟨p1,p2.congr (λa b _=>?_) (λa b _=>?_),λk h1 h2=>(p3 k h1 h2).trans (J.low k h1 h2),?_⟩
    ·unfold B7f up2
     show(if a=i/\b<n+1 then(if b=n then _ else _)else _)=(if a=i/\b=n then _ else(if a=i/\b<n then _ else _))
     by_cases I:a=i
     ·by_cases U:b=n
      ·rw[if_pos ⟨I,by omega⟩,if_pos U,if_pos ⟨I,U⟩]
      ·by_cases X:b<n
       ·rw[if_pos ⟨I,by omega⟩,if_neg U,if_neg (by omega),if_pos ⟨I,X⟩]
       ·rw[if_neg (by omega),if_neg (by omega),if_neg (by omega)]
     ·rw[if_neg (by omega),if_neg (by omega),if_neg (by omega)]
    ·unfold A62 up2
     show(if a=i/\b<n+1 then _ else _)=(if a=i/\b=n then _ else(if a=i/\b<n then _ else _))
     by_cases I:a=i
     ·by_cases U:b=n
      ·rw[if_pos ⟨I,by omega⟩,if_pos ⟨I,U⟩,U]
      ·by_cases X:b<n
       ·rw[if_pos ⟨I,by omega⟩,if_neg (by omega),if_pos ⟨I,X⟩]
       ·rw[if_neg (by omega),if_neg (by omega),if_neg (by omega)]
     ·rw[if_neg (by omega),if_neg (by omega),if_neg (by omega)]
    ·obtain⟨K,hK,hd⟩:=J.df
     by_cases hq:bs.getD n []=[]
     ·refine⟨K,by omega,λk V=>?_⟩
      by_cases e:((Go.Proofs.YtbefmjiclpobjaaGreat.fl M x bs s n).1.place M (x.a n) (bs.getD n [])).H k=(Go.Proofs.YtbefmjiclpobjaaGreat.fl M x bs s n).1.H k
      ·exact hd k (by rw[<-e];exact V)
      ·rcases p4 k e with y|⟨y,_⟩
       ·exact .inl y
       ·exact absurd hq y
     ·have aG:n<bs.length:=by
       rcases Nat.lt_or_ge n bs.length with y|y
       ·exact y
       ·exact absurd (by rw[List.getD_eq_getElem?_getD,List.getElem?_eq_none y];rfl) hq
      refine⟨((Go.Proofs.YtbefmjiclpobjaaGreat.fl M x bs s n).1.placeI M (x.a n) (bs.getD n [])).toNat::K,by rw[List.length_cons];omega,λk V=>?_⟩
      by_cases e:((Go.Proofs.YtbefmjiclpobjaaGreat.fl M x bs s n).1.place M (x.a n) (bs.getD n [])).H k=(Go.Proofs.YtbefmjiclpobjaaGreat.fl M x bs s n).1.H k
      ·rcases hd k (by rw[<-e];exact V)with y|y
       ·exact .inl y
       ·exact .inr (List.mem_cons_of_mem _ y)
      ·rcases p4 k e with y|⟨_,y⟩
       ·exact .inl y
       ·exact .inr (List.mem_cons.2 (.inl (by omega)))
   ·refine .inr ⟨p1,n,by omega,?_,p3,?_⟩
    ·rw[<-aC]
     exact(J.ow.nz i n ⟨hi.1,hi.2,by omega⟩).1 (by rw[aB];exact p2)
    ·have:=J.ow.cnt
     omega
  ·refine .inr ⟨?_,j,by omega,aF⟩
   show((Go.Proofs.YtbefmjiclpobjaaGreat.fl M x bs s n).1.place M (x.a n) (bs.getD n [])).e=8
   rw[B0e (by rw[J];decide),J]
end
section
open Go.RowKit
structure Nd where
 k:Int
 g:Int
 v:Nat
 b:Nat->ByteArray
 l:List En
def P5(x:Nd)(j:Nat):List Nat:=if x.k=1 then(E0 x.l).getD j []else if x.k=2 then K9 (x.b j)else []
structure As where
 n:Nat->Nd
 rc:List Nat
def As.up(A:As)(i:Nat)(x:Nd):As:=⟨λj=>if j=i then x else A.n j,A.rc⟩
theorem As.up_at(A:As)(i:Nat)(x:Nd):(A.up i x).n i=x:=if_pos rfl
theorem As.up_ne(A:As){i j:Nat}(x:Nd)(h:j≠i):(A.up i x).n j=A.n j:=if_neg h
structure OkN (x:Nd):Prop where
 k:x.k=0\/x.k=1\/x.k=2
 g:0<=x.g/\x.g<=2147483647
 v:x.v<=1099511627775
 fr:x.k=0->x.v=0
 b:∀j,(x.b j).size<=64
 nob:x.k≠2->∀j,x.b j=⟨#[]⟩
 rise:R0 x.l
 few:x.l.length<=24
 nol:x.k≠1->x.l=[]
def As.R(A:As):Nat->Nat->List Nat:=λi j=>P5 (A.n i) j
def As.use(A:As):Nat:=V9 A.R 40
structure Rq (H:Nat->List Nat) (M:Nat) (A:As):Prop where
 sw:Sw H M
 f:∀i,1<=i->i<=40->(C9 H i).k=(A.n i).k/\(C9 H i).g=(A.n i).g/\(C9 H i).v=(A.n i).v
 ow:Ow H M (λi j=>(C9 H i).a j) A.R
 ok:∀i,1<=i->i<=40->OkN (A.n i)
 rc:H 0=A.rc
theorem B7g{l:List En}(h:l.length<=24):(E0 l).length<=5:=by
 rw[N3]
 unfold nCh
 omega
theorem Rq.core{s:CS}{M i:Nat}{A:As}{P:Nat->Nat->Int}{R:Nat->Nat->List Nat}(he:s.e=0)(aH:Sw s.H M)(hf:∀k,1<=k->k<=40->k≠i->((C9 s.H k).k=(A.n k).k/\(C9 s.H k).g=(A.n k).g/\(C9 s.H k).v=(A.n k).v)/\OkN (A.n k))
 (aB:Ow s.H M P R) (hP:∀k j,In8 k j->k≠i->P k j=(C9 s.H k).a j) (hR:∀k j,In8 k j->k≠i->R k j=P5 (A.n k) j) (aI:s.H 0=A.rc) (hi:1<=i/\i<=40) {y:Nd} (J:OkN y) (aE:∀j,j<8->R i j=P5 y j)
 {z:L6} (W:z.k=y.k) (Y:z.g=y.g) (Z:z.v=y.v) (za:∀j,j<8->z.a j=P i j):s.set i z=⟨M4 s.H (1+i) (secI z),0⟩/\Rq (M4 s.H (1+i) (secI z)) M (A.up i y):=by
 have hM:=aH.sd.hM
 have aC:∀j,j<8->z.a j=0\/(42<=z.a j/\z.a j<M):=λj U=>by rw[za j U];exact aB.pt i j ⟨hi.1,hi.2,U⟩
 have aD:WfI z:=by
  refine⟨?_,?_,?_,λj U=>?_⟩
  ·rw[W];rcases J.k with x|x|x<;>rw[x]<;>decide
  ·rw[Y];have:=J.g;omega
  ·rw[Z];have:=J.v;omega
  ·have:=aC j U;omega
 have aA:okI z:=by
  refine(B2y aD).1 ⟨λj U=>by have:=aC j U;omega,?_,?_,?_,?_,?_,?_⟩
  ·rw[W];rcases J.k with x|x|x<;>rw[x]<;>decide
  ·rw[W];rcases J.k with x|x|x<;>rw[x]<;>decide
  ·rw[Y];exact J.g.1
  ·rw[Y];exact J.g.2
  ·rw[Z];exact J.v
  ·rw[W]
   rcases J.k with x|x|x
   ·refine .inr ⟨by rw[Z];exact J.fr x,λj U=>?_⟩
    rw[za j U]
    refine(aB.nz i j ⟨hi.1,hi.2,U⟩).2 ?_
    rw[aE j U]
    unfold P5
    rw[x]
    rfl
   ·exact .inl (by rw[x];decide)
   ·exact .inl (by rw[x];decide)
 have hs:s.set i z=⟨M4 s.H (1+i) (secI z),0⟩:=by
  unfold CS.set CS.note CS.put A0u A6z
  rw[if_pos aA,he]
  rfl
 refine⟨hs,?_⟩
 obtain⟨q,hq,X⟩:=A3C aD aA
 have aF:C9 (M4 s.H (1+i) (secI z)) i=q:=by unfold C9 dI;rw[V7,hq];rfl
 have aG:∀k,k≠i->C9 (M4 s.H (1+i) (secI z)) k=C9 s.H k:=λk I=>by unfold C9;rw[E7 _ _ (by omega)]
 refine⟨(aH.setI hi aD aA aC).1,λk h1 h2=>?_,?_,λk h1 h2=>?_,?_⟩
 ·by_cases I:k=i
  ·subst I
   rw[aF,As.up_at,X.k,X.g,X.v,W,Y,Z]
   exact⟨rfl,rfl,rfl⟩
  ·rw[aG k I,As.up_ne _ _ I]
   exact(hf k h1 h2 I).1
 ·refine(aB.homes (H':=M4 s.H (1+i) (secI z)) (λk I=>E7 _ _ (by omega))).congr (λk j V=>?_) (λk j V=>?_)
  ·by_cases I:k=i
   ·subst I
    show(C9 _ k).a j=_
    rw[aF,X.a j V.2.2,za j V.2.2]
   ·show(C9 _ k).a j=_
    rw[aG k I,hP k j V I]
  ·by_cases I:k=i
   ·subst I
    show P5 ((A.up k y).n k) j=_
    rw[As.up_at,aE j V.2.2]
   ·show P5 ((A.up i y).n k) j=_
    rw[As.up_ne _ _ I,hR k j V I]
 ·by_cases I:k=i
  ·subst I
   rw[As.up_at]
   exact J
  ·rw[As.up_ne _ _ I]
   exact(hf k h1 h2 I).2
 ·show M4 s.H (1+i) (secI z) 0=A.rc
  rw[E7 _ _ (by omega)]
  exact aI
def Dif(H H':Nat->List Nat)(K:List Nat):Prop:=∀k,H' k≠H k->k∈K
theorem Dif.trans{H H' I:Nat->List Nat}{K L:List Nat}(h:Dif H H' K)(J:Dif H' I L):Dif H I (K++L):=λk U=>by
 by_cases e:I k=H' k
 ·exact List.mem_append.2 (.inl (h k (by rw[<-e];exact U)))
 ·exact List.mem_append.2 (.inr (J k e))
theorem Rq.reset{s:CS}{M i:Nat}{A:As}(h:Rq s.H M A)(W:s.e=0)(hi:1<=i/\i<=40){y:Nd}(hy:OkN y)(Z:∀j,j<8->P5 y j=P5 (A.n i) j){z:L6}(zk:z.k=y.k)(zg:z.g=y.g)(zv:z.v=y.v)(za:∀j,j<8->z.a j=(C9 s.H i).a j):
 (s.set i z).e=0/\Rq (s.set i z).H M (A.up i y)/\Dif s.H (s.set i z).H [1+i]:=by
 obtain⟨U,V⟩:=Rq.core (s:=s) (i:=i) (A:=A) (z:=z) W h.sw (λk I J _=>⟨h.f k I J,h.ok k I J⟩) h.ow (λ_ _ _ _=>rfl) (λ_ _ _ _=>rfl) h.rc hi hy (λj X=>(Z j X).symm) zk zg zv za
 rw[U]
 refine⟨rfl,V,λk Y=>?_⟩
 by_cases e:k=1+i
 ·exact List.mem_singleton.2 e
 ·exact absurd (E7 _ _ e) Y
theorem Rq.ino_low{H H':Nat->List Nat}(I:∀k,k≠1->k<42->H' k=H k){i:Nat}(J:1<=i)(U:i<=40):C9 H' i=C9 H i:=by
 unfold C9
 rw[I (1+i) (by omega) (by omega)]
theorem Rq.refill{s:CS}{M i:Nat}{A:As}(h:Rq s.H M A)(he:s.e=0)(hi:1<=i/\i<=40){x:L6}(hx:∀j,j<8->x.a j=(C9 s.H i).a j){bs:List (List Nat)}(hb:A0a bs){y:Nd}(hy:OkN y)(hr:∀j,j<8->P5 y j=bs.getD j []){z:L6}(zk:z.k=y.k)(zg:z.g=y.g)(zv:z.v=y.v)(za:∀j,j<8->z.a j=(fl M x bs s 8).2 j):
 (((fl M x bs s 8).1.set i z).e=0/\Rq ((fl M x bs s 8).1.set i z).H M (A.up i y)/\∃K:List Nat,K.length<=bs.length/\Dif s.H ((fl M x bs s 8).1.set i z).H (1::(1+i)::K))\/
 (((fl M x bs s 8).1.set i z).e=8/\∃j,j<8/\P5 (A.n i) j=[]/\bs.getD j []≠[]/\V9 (A62 A.R i j bs) 40+42=M):=by
 rcases h.ow.fl h.sw he hi x hx hb 8 (Nat.le_refl _)with J|⟨J,I⟩
 ·have aG:∀j,j<8->x.a j=0\/(42<=x.a j/\x.a j<M):=λj I=>by rw[hx j I];exact h.ow.pt i j ⟨hi.1,hi.2,I⟩
  have aC:=A5M h.sw hb aG 8 (Nat.le_refl _)
  obtain⟨V,aB⟩:∃V,V=(fl M x bs s 8).1:=⟨_,rfl⟩
  obtain⟨Z,aA⟩:∃Z,Z=(fl M x bs s 8).2:=⟨_,rfl⟩
  rw[<-aB,<-aA]at J
  rw[<-aB]at aC⊢
  rw[<-aA]at za
  obtain⟨e1,aH,Y,K,hK,aD⟩:=J
  obtain⟨h1,h2⟩:=Rq.core (s:=V) (i:=i) (A:=A) (y:=y) (z:=z) e1 aC (λk W X _=>by rw[Rq.ino_low Y W X];exact⟨h.f k W X,h.ok k W X⟩) aH (λk j U aF=>by
   rw[Rq.ino_low Y U.1 U.2.1]
   show(if k=i/\j<8 then _ else _)=_
   rw[if_neg (by omega)]) (λk j U aF=>by
   show(if k=i/\j<8 then _ else _)=_
   rw[if_neg (by omega)]
   rfl) (by rw[Y 0 (by omega) (by omega)];exact h.rc) hi hy (λj I=>by
   show(if i=i/\j<8 then _ else _)=_
   rw[if_pos ⟨rfl,I⟩,hr j I]) zk zg zv (λj I=>by
   rw[za j I]
   show _=(if i=i/\j<8 then _ else _)
   rw[if_pos ⟨rfl,I⟩])
  rw[h1]
  refine .inl ⟨rfl,h2,K,by omega,λk U=>?_⟩
  by_cases e:k=1+i
  ·rw[e];exact List.mem_cons_of_mem _ List.mem_cons_self
  ·have aE:V.H k≠s.H k:=by rw[<-E7 V.H (secI z) e];exact U
   rcases aD k aE with x|x
   ·rw[x];exact List.mem_cons_self
   ·exact List.mem_cons_of_mem _ (List.mem_cons_of_mem _ x)
 ·refine .inr ⟨?_,I⟩
  rw[A2C (by rw[J];decide),J]
def thA(A:As)(i g:Int):Prop:=1<=i/\i<=40/\(A.n i.toNat).k≠0/\(A.n i.toNat).g=g
instance (A:As) (i g:Int):Decidable (thA A i g):=by unfold thA;infer_instance
def ofA(A:As)(i g k:Int):Int:=if thA A i g then(if(A.n i.toNat).k=k then 0 else 12)else 14
def lsA(A:As)(i g:Int):List En:=if ofA A i g 1=0 then(A.n i.toNat).l else []
section
variable {H:Nat->List Nat} {M:Nat} {A:As}
theorem Rq.fileE(h:Rq H M A)(i g:Int):fileE H i g=if thA A i g then 0 else 14:=by
 unfold Go.Proofs.YtbefmjiclpobjaaGreat.fileE
 by_cases J:i<1\/40<i
 ·rw[if_pos J,if_neg (by unfold thA;omega)]
 ·rw[if_neg J]
  obtain⟨U,V,_⟩:=h.f i.toNat (by omega) (by omega)
  rw[U,V]
  by_cases I:thA A i g
  ·rw[if_pos I,if_neg (by unfold thA at I;omega)]
  ·rw[if_neg I]
   by_cases W:(A.n i.toNat).k=0\/(A.n i.toNat).g≠g
   ·rw[if_pos W]
   ·exact absurd (show thA A i g by unfold thA;omega) I
theorem Rq.fileX(h:Rq H M A){i g:Int}(I:thA A i g):fileX H i g=C9 H i.toNat:=by
 unfold Go.Proofs.YtbefmjiclpobjaaGreat.fileX
 rw[h.fileE,if_pos I,if_pos rfl]
theorem Rq.ofk(h:Rq H M A)(i g k:Int):U2 H i g k=ofA A i g k:=by
 unfold U2 ofA
 rw[h.fileE]
 by_cases I:thA A i g
 ·rw[if_pos I,if_pos rfl,if_pos I,h.fileX I,(h.f i.toNat (by unfold thA at I;omega) (by unfold thA at I;omega)).1]
 ·rw[if_neg I,if_neg (by decide),if_neg I]
theorem B0f{x:L6}{L:List (List Nat)}{F:Int->List Nat}(V:∀r∈L,r≠[]):∀{n:Nat},(∀j,j<n->(x.a j=0↔L.getD j []=[])/\(x.a j≠0->F (x.a j)=L.getD j []))->(nzI x n).map F=L.take n
 |0,_=>by simp[nzI]
 |n+1,h=>by
  obtain⟨U,X⟩:=h n (by omega)
  have W:=B0f (F:=F) V (n:=n) (λj Z=>h j (by omega))
  unfold nzI
  by_cases I:x.a n=0
  ·rw[if_neg (by omega),W]
   have J:L.length<=n:=by
    rcases Nat.lt_or_ge n L.length with y|y
    ·have:=U.1 I
     rw[List.getD_eq_getElem?_getD,List.getElem?_eq_getElem y]at this
     exact absurd this (V _ (List.getElem_mem y))
    ·exact y
   rw[List.take_of_length_le J,List.take_of_length_le (by omega)]
  ·have Y:L.getD n []≠[]:=λe=>I (U.2 e)
   have J:n<L.length:=by
    rcases Nat.lt_or_ge n L.length with y|y
    ·exact y
    ·exact absurd (by rw[List.getD_eq_getElem?_getD,List.getElem?_eq_none y];rfl) Y
   rw[if_pos I,List.map_append,W,List.map_singleton,X I,List.take_succ_eq_append_getElem J,List.getD_eq_getElem?_getD,List.getElem?_eq_getElem J]
   rfl
theorem A5V(l:List En):∀r∈E0 l,r≠[]:=λr I e=>by
 have:=(A0k l r I).1
 rw[e]at this
 cases this
theorem Rq.rows(h:Rq H M A){i:Nat}(I:1<=i)(J:i<=40)(V:(A.n i).k=1):A5E H (C9 H i)=E0 (A.n i).l:=by
 unfold A5E
 have W:∀j,A.R i j=(E0 (A.n i).l).getD j []:=λj=>by show P5 _ _=_;unfold P5;rw[if_pos V]
 rw[B0f (L:=E0 (A.n i).l) (F:=λa=>H a.toNat) (A5V _) (λj U=>?_)]
 ·exact List.take_of_length_le (by have:=B7g (h.ok i I J).few;omega)
 ·rw[<-W j]
  exact⟨h.ow.nz i j ⟨I,J,U⟩,h.ow.at_ i j ⟨I,J,U⟩⟩
theorem Rq.bE(h:Rq H M A){i:Nat}(I:1<=i)(J:i<=40):bE (A.n i).l=0:=B6g (h.ok i I J).rise (h.ok i I J).few
theorem A5W{i g k:Int}(h:ofA A i g k=0):thA A i g/\(A.n i.toNat).k=k:=by
 unfold ofA at h
 split at h
 ·rename_i J
  split at h
  ·rename_i I;exact⟨J,I⟩
  ·cases h
 ·cases h
theorem Rq.ents(h:Rq H M A)(i g:Int):T4 H i g=lsA A i g/\R6 H i g=ofA A i g 1:=by
 unfold T4 R6 lsA
 rw[h.ofk]
 by_cases I:ofA A i g 1=0
 ·obtain⟨U,X⟩:=A5W I
  have J:1<=i.toNat/\i.toNat<=40:=by unfold thA at U;omega
  rw[if_pos I,if_pos I,if_pos I,h.fileX U,h.rows J.1 J.2 X,I]
  obtain⟨Y,Z⟩:=B1d (h.bE J.1 J.2)
  obtain⟨V,W⟩:=A7U Y
  rw[V,W,Z]
  exact⟨rfl,rfl⟩
 ·rw[if_neg I,if_neg I,if_neg I]
  exact⟨rfl,rfl⟩
def fdE(A:As)(i g:Int)(s:ByteArray):Int:=if ofA A i g 1=0 then(if(fnd (A.n i.toNat).l s).isSome=true then 0 else 11)else ofA A i g 1
def fdX(A:As)(i g:Int)(s:ByteArray):En:=if ofA A i g 1=0 then(fnd (A.n i.toNat).l s).getD A2j else A2j
theorem Rq.find(h:Rq H M A)(i g:Int)(s:ByteArray):A0m H i g s=fdE A i g s/\A9A H i g s=fdX A i g s:=by
 obtain⟨J,U⟩:=h.ents i g
 unfold A0m A9A fdE fdX
 rw[J,U]
 by_cases I:ofA A i g 1=0
 ·have:lsA A i g=(A.n i.toNat).l:=by unfold lsA;rw[if_pos I]
  rw[if_pos I,if_pos I,if_pos I,if_pos I,this]
  exact⟨rfl,rfl⟩
 ·rw[if_neg I,if_neg I,if_neg I,if_neg I]
  exact⟨rfl,rfl⟩
end
end
end Go.Proofs.YtbefmjiclpobjaaGreat
