import Derived.Test.YtbefmjiclpobjaaGreatMj30
import Derived.Test.YtbefmjiclpobjaaGreatMj28
namespace Go.Proofs.YtbefmjiclpobjaaGreat
set_option maxHeartbeats 3200000
set_option maxRecDepth 3000
section
open Go.RowKit Go.Maps
def R6(M:Nat):Nat->List Bool
 |0=>List.replicate M false
 |j+1=>(R6 M j).set j true
theorem T0(M:Nat):∀j,(R6 M j).length=M
 |0=>List.length_replicate
 |j+1=>by rw[R6,List.length_set,T0 M j]
theorem A24(M:Nat):∀j k,j<=M->(R6 M j).getD k false=decide (k<j)
 |0,k,_=>by
  rw[R6,List.getD_eq_getElem?_getD]
  by_cases h:k<M
  ·rw[List.getElem?_replicate,if_pos h];simp
  ·rw[List.getElem?_eq_none (by simpa using h)];simp
 |j+1,k,hj=>by
  have I:=A24 M j k (by omega)
  rw[List.getD_eq_getElem?_getD]at I⊢
  rw[R6,List.getElem?_set]
  by_cases h:j=k
  ·subst h
   rw[if_pos rfl,if_pos (by rw[T0];omega)]
   simp
  ·rw[if_neg h,I]
   simp only[decide_eq_decide]
   omega
theorem B3U{M j:Nat}(h:j<M):A6P (R6 M j) (j:Int)=0/\A6Q (R6 M j) (j:Int)=R6 M (j+1):=by
 have J:U0 (R6 M j) (j:Int):=⟨by omega,by rw[T0];omega⟩
 have I:=A24 M j j (by omega)
 rw[decide_eq_false (by omega)]at I
 refine⟨?_,?_⟩
 ·unfold A6P
  rw[if_pos J,Int.toNat_natCast,I]
  rfl
 ·unfold A6Q
  rw[if_pos J,Int.toNat_natCast]
  rfl
def B2o:L6:=⟨1,1,0,λ_=>0⟩
noncomputable def CS.begin(s:CS)(M:Nat):CS:=(s.put 1 (mapB (R6 M 42))).set 1 B2o
theorem A79:Tryz.prog.built 62 [(0,.int .i64 1),(1,.int .i64 1)]=some (ic B2o):=by kernel_rfl
theorem A7A{ops:Array Oper}{rest:List Oper}{o:Oper}{a:Act}{w:World}{Q:Exit->Act->World->Prop}(I:o.guard=none)(x y:Operand)(J:o.op= .build 62 #[(0,x),(1,y)])(U:a.eval x= .int .i64 1)(V:a.eval y= .int .i64 1)
 (h:wpList Tryz.prog ops Q rest (a.put o.dst (.agg (ic B2o))) w):wpList Tryz.prog ops Q (o::rest) a w:=by
 have e:((#[(0,x),(1,y)]:Array (Nat×Operand)).map λ(i,x)=>(i,a.eval x)).toList=[(0,.int .i64 1),(1,.int .i64 1)]:=by simp[U,V]
 refine wpList_build I 62 _ J (by rw[e,A79];rfl) ?_
 rw[e,A79]
 exact h
theorem A9b:Tryz.prog.built 35 [(0,.int .i64 1),(1,.int .i64 1)]=some #[.int .i64 1,.int .i64 1]:=by kernel_rfl
theorem A8n{ops:Array Oper}{rest:List Oper}{o:Oper}{a:Act}{w:World}{Q:Exit->Act->World->Prop}(I:o.guard=none)(x y:Operand)(J:o.op= .build 35 #[(0,x),(1,y)])(U:a.eval x= .int .i64 1)(V:a.eval y= .int .i64 1)
 (h:wpList Tryz.prog ops Q rest (a.put o.dst (.agg #[.int .i64 1,.int .i64 1])) w):wpList Tryz.prog ops Q (o::rest) a w:=by
 have e:((#[(0,x),(1,y)]:Array (Nat×Operand)).map λ(i,x)=>(i,a.eval x)).toList=[(0,.int .i64 1),(1,.int .i64 1)]:=by simp[U,V]
 refine wpList_build I 35 _ J (by rw[e,A9b];rfl) ?_
 rw[e,A9b]
 exact h
theorem A25(w:World):Calls Tryz.prog 32 #[] w λe w'=>e= .returned (.agg #[.int .i64 1,.int .i64 1])/\B0 B5 w B5 w':=by
 go_enter Tryz.func32,Tryz.ntmps32
 go_wp2_with (first
  |(refine B9 rfl rfl P1 ?_;intro z w1 U J I;have HZ:=C6x U;have Y:=C6x J;have V:=C6x I;clear U J I)
  |(refine A8n rfl _ _ rfl rfl rfl ?_)
  |(refine B7 rfl _ _ rfl z Y.out rfl rfl B1 rfl rfl (X7 _ _) ?_;intro w2 J I;have Z:=C6x J;have X:=C6x (V.out.fresh HZ.out I);clear J I)
  |fail)
 exact bodyPost_ret (A3r rfl _ _ rfl Z.out Tryz.underlying35 rfl (by rw[B1];rfl)) rfl ⟨rfl,X.out⟩
def C50(w:World)(E:Ev)(c m:Nat)(H:Nat->List Nat)(e:Int)(d:Nat)(t18:Value)(wr:World):Prop:=
 ∃j:Nat,t18= .int .i64 (j:Int)/\j<=42/\Cg wr E c m H e/\Am wr d (R6 E.M j)/\B0 (CF c m) w (CF c m) wr
theorem A9c(M:Nat):R6 M 0=List.replicate M false:=rfl
section
variable {w:World} {E:Ev} {c m:Nat} {H:Nat->List Nat} {e:Int}
theorem C1E:WfI B2o:=⟨by decide,by decide,by decide,λj _=>by show -9223372036854775808<=(0:Int)/\(0:Int)<9223372036854775808;decide⟩
theorem C1F(h:Cg w E c m H e)(Y:46<=E.M/\E.M<=1024):
 Calls Tryz.prog 45 #[.pointer (some ⟨c,0,none⟩)] w λr w'=>r= .returned (.tuple #[])/\Cs w' E c m ((⟨H,e⟩:CS).begin E.M)/\B0 (CF c m) w (CF c m) w':=by
 have V:=C6x h
 have HV:=C6x h.rdv
 have aJ:=C6x (λW=>B49 E.M (by omega) Y.2 W)
 have aL:M8 e 0=e:=by unfold M8;split<;>simp_all
 have aI:=C6x (λ(W:World) (a:Cg W E c m H e)=>show Calls Tryz.prog 101 #[.pointer (some ⟨c,0,none⟩),.int .i64 0] W λr w'=>r= .returned (.tuple #[])/\Cg w' E c m H e/\B0 (CF c m) W (CF c m) w' by have:=T6 a 0;rwa[aL]at this)
 have aK:=C6x (λ(W:World) (a:Cs W E c m ((⟨H,e⟩:CS).put 1 (mapB (R6 E.M 42))))=>show Calls Tryz.prog 104 #[.pointer (some ⟨c,0,none⟩),.int .i64 1,.agg (ic B2o)] W λr w'=>r= .returned (.tuple #[])/\Cs w' E c m ((⟨H,e⟩:CS).begin E.M)/\B0 (CF c m) W (CF c m) w' from A7s a 1 (by decide) B2o C1E Y.1)
 have bH:=C6x (λ(j:Nat) (hj:j<42) (W:World) (d:Nat) (a:Am W d (R6 E.M j))=>show Calls Tryz.prog 102 #[.pointer (some ⟨d,0,none⟩),.int .i64 (j:Int)] W λe w'=>e= .returned (.int .i64 0)/\Am w' d (R6 E.M (j+1))/\B0 (J0 d) W (J0 d) w' by
  have:=C0D W d _ a (j:Int)
  obtain⟨s1,s2⟩:=B3U (M:=E.M) (j:=j) (by omega)
  rwa[s1,s2]at this)
 have HM:=C6x Y
 obtain⟨Sb,aM⟩:∃Sb,Sb=(⟨H,e⟩:CS).begin E.M:=⟨_,rfl⟩
 rw[<-aM]at aK⊢
 have bJ:=C6x (λ(W:World) (r:List Nat) (a:Cg W E c m (A1g e H 1 r) e) (hr:Rep r (R6 E.M 42))=>show Cs W E c m ((⟨H,e⟩:CS).put 1 (mapB (R6 E.M 42)))by
  rw[hr.mapB]
  exact a)
 obtain⟨Mn,aD⟩:∃Mn,Mn=E.M:=⟨_,rfl⟩
 have bI:=C6x aD
 have aB:=C6x (λF' W (a:B0 B5 w F' W)=>HV.out.homes F' W a)
 rw[<-aD]at aJ aB
 clear h aL Y aM aD
 obtain⟨l0,c0,aN⟩:=aB.out _ _ (B0.refl B5 w)
 have bG:=C6x aN
 clear aN aB
 go_enter Tryz.func45,Tryz.ntmps45
 go_wp2_with (first
  |(go_at_call 65;refine bG.out.mono ?_;rintro r w1 ⟨rfl,k2,rfl⟩;have aO:=C6x (show B0 B5 w B5 (w.drewN k2)from(B0.refl _ _).drewN k2))
  |(go_at_call 68;refine(aJ.out _).mono ?_;rintro r w2 ⟨d,rfl,I,J⟩;have aV:=C6x (show Am w2 d (R6 E.M 0)by(rw[A9c,<-bI.out];exact I));have U:=aO.out.trans J;have X:=C6x (U.newS d rfl);have aZ:=C6x (V.out.step U);have aP:=C6x (U.same (G:=CF c m) (λ_ x=>x.elim));clear I J U)
  |(go_at_call 101;refine(aI.out w2 aZ.out).mono ?_;rintro r w3 ⟨rfl,I,J⟩;have bA:=C6x I;have aQ:=C6x (aP.out.trans J);have aW:=C6x (aV.out.past V.out X.out J);clear I J)
  |fail)
 go_loopw [18] (C50 w E c m H e d) (λt _=>42-(intOf t).toNat)
 case atStart=>exact⟨0,rfl,by omega,bA.out,aW.out,aQ.out⟩
 case round=>
  obtain⟨j,rfl,hj,hc,hm,U⟩:=hrel
  have aH:=C6x hc
  have aG:=C6x hm
  have aF:=C6x U
  by_cases aE:j<42
  ·have aC:=C6x aE
   have bO:(j:Int)<42:=by omega
   clear hc hm U aE hj c0
   go_wp2_with (first
    |(go_at_call 102;refine(bH.out j aC.out _ d aG.out).mono ?_;rintro r w4 ⟨rfl,I,J⟩;have aX:=C6x I;have bB:=C6x (V.out.fresh aH.out X.out J);have aR:=C6x (aF.out.freshG X.out J);clear I J)
    |(go_at_call 101;refine(aI.out w4 bB.out).mono ?_;rintro r w5 ⟨rfl,I,J⟩;have aA:=C6x I;have Z:=C6x (aR.out.trans J);have aY:=C6x (aX.out.past V.out X.out J);clear I J)
    |fail)
   exact⟨⟨j+1,by simp,aC.out,aA.out,aY.out,Z.out⟩,by have:=aC.out;simp[intOf]<;>omega⟩
  ·obtain rfl:j=42:=by omega
   have bK:∀w:World,(Instr.field 35 (.agg #[.int .i64 1,.int .i64 1]) 0).run Tryz.prog w= .ok (.int .i64 1) w:=λ_=>by kernel_rfl
   have bM:∀w:World,(Instr.field 35 (.agg #[.int .i64 1,.int .i64 1]) 1).run Tryz.prog w= .ok (.int .i64 1) w:=λ_=>by kernel_rfl
   clear hc hm U aE hj c0
   go_wp2_with (first
    |(go_at_call 103;refine(A6V _ d _ aG.out).mono ?_;rintro r w5 ⟨z,rr,rfl,I,J,h3⟩;have HR:=C6x I;have HS:=C6x J;have aA:=C6x (aH.out.step h3);have Z:=C6x (aF.out.over h3);clear I J h3)
    |(go_at_call 98;refine(A8Q aA.out 1 (some ⟨z,0,none⟩) 128 128 rr (λ_=>⟨1,rfl,by have:=HM.out;omega,rfl,HR.out.len,HR.out.lt,HS.out.rd⟩)).mono ?_;rintro r w6 ⟨rfl,I,J⟩;have bC:=C6x (bJ.out _ rr I HR.out);have aS:=C6x (Z.out.trans J);clear I J)
    |(go_at_call 32;refine(A25 w6).mono ?_;rintro r w7 ⟨rfl,I⟩;have bD:=C6x (bC.out.step I);have aT:=C6x (aS.out.over I);clear I)
    |(go_at_call 32;refine(A25 w7).mono ?_;rintro r w8 ⟨rfl,I⟩;have bF:=C6x (bD.out.step I);have aU:=C6x (aT.out.over I);clear I)
    |(refine A7A rfl _ _ rfl rfl rfl ?_)
    |(go_at_call 104;refine(aK.out _ bF.out).mono ?_;rintro r w9 ⟨rfl,I,J⟩;have HF:=C6x (And.intro I (aU.out.trans J));clear I J)
    |fail)
   exact bodyPost_end (results_none rfl _ _ _) rfl ⟨rfl,HF.out.1,HF.out.2⟩
end
end
section
open Go.RowKit
def fic(f:Int×Int):List Value:=[.int .i64 f.1,.int .i64 f.2]
def A2a(l:List (Int×Int)):List Value:=l.flatMap fic
theorem B2p(l m:List (Int×Int)):A2a (l++m)=A2a l++A2a m:=by simp[A2a]
theorem B9B(f:Int×Int):A2a [f]=fic f:=by simp[A2a]
theorem C1G(l:List (Int×Int))(k j:Nat)(J:j<2)(I:k<l.length):(A2a l)[k * 2+j]? =(fic l[k])[j]? :=by
 induction l generalizing k with
 |nil=>simp at I
 |cons d l ih=>
  cases k with
  |zero=>
   simp only[A2a,List.flatMap_cons,Nat.zero_mul,Nat.zero_add,List.getElem_cons_zero]
   rw[List.getElem?_append_left (by simpa[fic]using J)]
  |succ k=>
   have h:=ih k (by simpa using I)
   simp only[A2a,List.flatMap_cons,List.getElem_cons_succ]at h⊢
   rw[List.getElem?_append_right (by simp[fic];omega),<-h]
   congr 1
   simp[fic]
   omega
theorem C1H(f:Int×Int):∀u∈fic f,u.oneCell'=true:=λu I=>by
 simp[fic]at I
 rcases I with rfl|rfl<;>rfl
structure FiO (W:World) (l:List (Int×Int)) (v:Value) (w:World):Prop where
 ex:∃F,Sl w F 35 2 v l.length (A2a l)/\B0 B5 W F w
section
variable {W w w':World} {l:List (Int×Int)} {v:Value}
theorem FiO.adv(h:FiO W l v w):B0 B5 W B5 w:=by
 obtain⟨F,_,I⟩:=h.ex
 exact I.sub (λ_ h=>h.elim)
theorem FiO.step{F':Nat->Prop}(h:FiO W l v w)(I:B0 B5 w F' w'):FiO W l v w':=by
 obtain⟨F,J,U⟩:=h.ex
 exact⟨⟨F,J.far I (λ_ h _=>h),U.over I⟩⟩
theorem FiO.form(h:FiO W l v w):∃A c,v= .slice A l.length c:=by
 obtain⟨F,I,_⟩:=h.ex
 obtain⟨A,c,e,_⟩:=I.form0
 exact⟨A,c,e⟩
theorem FiO.rd(h:FiO W l v w):Rd w 2 v l.length (A2a l):=by
 obtain⟨F,I,_⟩:=h.ex
 exact I.rd
end
def A0l(l:List En):List (Int×Int):=(l.filter (λy=>decide (y.k=1))).map (λy=>(y.i,y.g))
noncomputable def A14(H:Nat->List Nat)(d:Int×Int):Nat->Nat->List (Int×Int)->Int
 |0,_,_=>0
 |f+1,i,b=>
  match b[i]? with
  |none=>0
  |some y=>if y=d then 2 else if J3 H y.1 y.2=0 then A14 H d f (i+1) (b++A0l (L4 H y.1 y.2))else J3 H y.1 y.2
noncomputable def B3W(H:Nat->List Nat)(d:Int×Int)(x:En):Int:=if x.k=1 then A14 H d 40 0 [(x.i,x.g)]else 0
end
section
open Go.RowKit
theorem A00{l:List En}{s:ByteArray}{x:En}(h:Y5 l s=some x):x∈l/\x.s=s:=by
 unfold Y5 at h
 exact⟨List.mem_of_find?_eq_some h,by simpa using List.find?_some h⟩
theorem B2q{l:List En}{s:ByteArray}(h:Y5 l s=none):∀x∈l,x.s≠s:=λx I e=>by
 unfold Y5 at h
 have:=List.find?_eq_none.1 h x I
 simp[e]at this
theorem A05{l:List En}{s:ByteArray}{x:En}:x∈dropL l s↔x∈l/\x.s≠s:=by
 unfold dropL lo hi
 rw[List.mem_append,List.mem_filter,List.mem_filter]
 constructor
 ·rintro(⟨h,k⟩|⟨h,k⟩)
  ·exact⟨h,λe=>by rw[e]at k;exact Z0 s (by simpa using k)⟩
  ·exact⟨h,λe=>by rw[e]at k;exact Z0 s (by simpa using k)⟩
 ·rintro⟨h,k⟩
  rcases A9H x.s s with y|y|y
  ·exact .inl ⟨h,by simpa using y⟩
  ·exact absurd y k
  ·exact .inr ⟨h,by simpa using y⟩
theorem B2r{l:List En}{e x:En}:x∈S9 l e↔x=e\/(x∈l/\x.s≠e.s):=by
 have h:=@A05 l e.s x
 unfold dropL at h
 unfold S9
 rw[List.mem_append,List.mem_cons]
 rw[List.mem_append]at h
 constructor
 ·rintro(y|y|y)
  ·exact .inr (h.1 (.inl y))
  ·exact .inl y
  ·exact .inr (h.1 (.inr y))
 ·rintro(y|y)
  ·exact .inr (.inl y)
  ·rcases h.2 y with z|z
   ·exact .inl z
   ·exact .inr (.inr z)
structure Tr (A:As):Prop where
 root:(A.n 1).k=1/\(A.n 1).g=1
 ent:∀i x,1<=i->i<=40->x∈(A.n i).l->(A.n x.i.toNat).k=x.k/\(A.n x.i.toNat).g=x.g/\x.i.toNat≠1
 one:∀i x i' x',1<=i->i<=40->1<=i'->i'<=40->x∈(A.n i).l->x'∈(A.n i').l->x.i.toNat=x'.i.toNat->i=i'/\x=x'
 par:∀c,1<=c->c<=40->(A.n c).k≠0->c≠1->∃i x,1<=i/\i<=40/\x∈(A.n i).l/\x.i.toNat=c
structure OkA (A:As):Prop where
 ok:∀i,1<=i->i<=40->OkN (A.n i)
 tr:Tr A
theorem OkA.okE{A:As}(h:OkA A){i:Nat}{x:En}(J:1<=i)(U:i<=40)(V:x∈(A.n i).l):okE x/\1<=x.i.toNat/\x.i.toNat<=40/\T4 A x.i x.g:=by
 have I:=(h.ok i J U).rise.all x V
 have X:=h.tr.ent i x J U V
 have Z:0<x.i/\x.i<41:=⟨I.2.1,I.2.2.1⟩
 have Y:0<x.k:=I.2.2.2.2.2.1
 exact⟨I,by omega,by omega,by omega,by omega,by omega,X.2.1⟩
theorem B9C{A B:As}(h:∀i j,1<=i->i<=40->j<8->P7 (A.n i) j=P7 (B.n i) j):A.use=B.use:=A0f h
theorem A2Z(A:As)(i:Nat):(A.up i (A.n i).inc).use=A.use:=B9C λk j _ _ _=>by
 by_cases e:k=i
 ·subst e;rw[As.up_at];rfl
 ·rw[As.up_ne _ _ e]
theorem C2q(A:As)(i:Nat)(x y:Nd):(A.up i x).up i y=A.up i y:=by
 unfold As.up
 congr 1
 funext j
 show(if j=i then y else(if j=i then x else A.n j))=_
 split<;>rfl
theorem A26{A:As}{i g:Int}{k:Nat}{y:Nd}(h:T4 A i g)(V:k=i.toNat->y.k≠0/\y.g=g):T4 (A.up k y) i g:=by
 obtain⟨I,J,h3,U⟩:=h
 refine⟨I,J,?_⟩
 by_cases e:i.toNat=k
 ·rw[e,As.up_at]
  exact V e.symm
 ·rw[As.up_ne _ _ e]
  exact⟨h3,U⟩
theorem A5p{A:As}{i g k:Int}(J:T4 A i g)(I:(A.n i.toNat).k=k):U7 A i g k=0:=by
 unfold U7
 rw[if_pos J,if_pos I]
def V5(A:As)(i:Int)(s:ByteArray)(J:Int)(j:Nat):As:=
 let U:=A.up (1+j) (Nd.new J ((A.n (1+j)).g+1))
 let I:=U.up i.toNat ((A.n i.toNat).ls (S9 (A.n i.toNat).l ⟨s,((1+j:Nat):Int),(A.n (1+j)).g+1,J⟩))
 I.up i.toNat (I.n i.toNat).inc
noncomputable def B5l(H:Nat->List Nat)(M:Nat)(i g:Int)(s:ByteArray)(I:Int):CS:=
 (((⟨H,0⟩:CS).add I).enter M i g ⟨s,(addF H).1,(addF H).2,I⟩).touch i g
section
variable {H:Nat->List Nat} {M:Nat} {A:As}
structure ChD (H:Nat->List Nat) (M:Nat) (s:CS) (A':As):Prop where
 e:s.e=0
 rp:Rq s.H M A'
 df:∃K:List Nat,K.length<=14/\Dif H s.H K
theorem Rq.cre(h:Rq H M A){i g:Int}(ht:T4 A i g)(hk:(A.n i.toNat).k=1){s:ByteArray}(hs:Nam s){I:Int}(aH:I=1\/I=2):
 (∃j,A22 A=some j/\ChD H M (B5l H M i g s I) (V5 A i s I j))\/
 ((B5l H M i g s I).e=8/\∀j,A22 A=some j->24<(S9 (A.n i.toNat).l ⟨s,((1+j:Nat):Int),(A.n (1+j)).g+1,I⟩).length\/M<(V5 A i s I j).use+42\/(A.n i.toNat).v=1099511627775):=by
 obtain⟨r1,r2⟩:=N8 ht
 unfold B5l
 cases X:A22 A with
 |none=>
  refine .inr ⟨?_,λj X=>by cases X⟩
  have h8:((⟨H,0⟩:CS).add I).e=8:=Rq.add_none (s:=⟨H,0⟩) h rfl I X
  rw[B2d (by rw[h8];decide),A0k (by rw[h8];decide),h8]
 |some j=>
  obtain⟨j1,j2,j3⟩:=A2Y X
  obtain⟨a1,a2,a3⟩:=Rq.add (s:=⟨H,0⟩) h rfl aH X
  have aD:i.toNat≠1+j:=λe=>by
   have:=ht.2.2.1
   rw[e]at this
   exact this j2
  rw[show Go.Proofs.YtbefmjiclpobjaaGreat.addF H=_ from Rq.addF (s:=⟨H,0⟩) h X]
  obtain⟨s1,aK⟩:∃s1,s1=(⟨H,0⟩:CS).add I:=⟨_,rfl⟩
  rw[<-aK]at a1 a2 a3⊢
  obtain⟨J,aA⟩:∃J,J=A.up (1+j) (Nd.new I ((A.n (1+j)).g+1)):=⟨_,rfl⟩
  rw[<-aA]at a2
  have Z:J.n i.toNat=A.n i.toNat:=by rw[aA,As.up_ne _ _ aD]
  have aE:T4 J i g:=by rw[aA];exact A26 ht (λe=>absurd e.symm aD)
  have aM:=(h.ok (1+j) (by omega) (by omega)).g
  obtain⟨x,hx⟩:∃x:En,x=⟨s,((1+j:Nat):Int),(A.n (1+j)).g+1,I⟩:=⟨_,rfl⟩
  have aJ:okE x:=by
   rw[hx]
   exact⟨hs,by show(0:Int)<((1+j:Nat):Int);omega,by show((1+j:Nat):Int)<41;omega,by show 0<=(A.n (1+j)).g+1;omega,by show(A.n (1+j)).g+1<2147483648;omega,by show 0<I;omega,by show I<3;omega⟩
  have aC:V5 A i s I j=(J.up i.toNat ((J.n i.toNat).ls (S9 (J.n i.toNat).l x))).up i.toNat ((J.up i.toNat ((J.n i.toNat).ls (S9 (J.n i.toNat).l x))).n i.toNat).inc:=by
   unfold V5
   rw[Z,aA,hx]
  simp only
  rw[<-hx]
  rcases a2.enter a1 aE (by rw[Z];exact hk) aJ with⟨V,_,U,K,hK,b3⟩|⟨V,U⟩
  ·obtain⟨s2,aL⟩:∃s2,s2=s1.enter M i g x:=⟨_,rfl⟩
   rw[<-aL]at V U b3⊢
   obtain⟨Y,aB⟩:∃Y,Y=J.up i.toNat ((J.n i.toNat).ls (S9 (J.n i.toNat).l x)):=⟨_,rfl⟩
   rw[<-aB]at U aC
   have aI:Y.n i.toNat=(A.n i.toNat).ls (S9 (A.n i.toNat).l x):=by rw[aB,As.up_at,Z]
   have aF:T4 Y i g:=by rw[aB];exact A26 aE (λ_=>by rw[Z];exact⟨by show(A.n i.toNat).k≠0;omega,ht.2.2.2⟩)
   have aG:(Y.n i.toNat).v=(A.n i.toNat).v:=by rw[aI];rfl
   by_cases hv:(A.n i.toNat).v=1099511627775
   ·exact .inr ⟨U.touch_full V aF (by rw[aG];exact hv),λj' e=>.inr (.inr hv)⟩
   ·obtain⟨c1,c2,c3⟩:=U.touch V aF (by rw[aG];exact hv)
    refine .inl ⟨j,rfl,c1,by rw[aC];exact c2,_,?_,(a3.trans b3).trans c3⟩
    simp only[List.length_append,List.length_cons,List.length_nil]
    omega
  ·refine .inr ⟨?_,λj' e=>?_⟩
   ·rw[A0k (by rw[V];decide),V]
   ·obtain rfl:j=j':=Option.some.inj e
    rw[<-hx]
    rcases U with U|U
    ·exact .inl (by rw[<-Z];exact U)
    ·refine .inr (.inl ?_)
     rw[aC,A2Z]
     exact U
def A1Q(A:As)(i:Int)(s:ByteArray)(x:En):As:=
 let J:=A.up x.i.toNat (Nd.gone x.g)
 let I:=J.up i.toNat ((A.n i.toNat).ls (dropL (A.n i.toNat).l s))
 I.up i.toNat (I.n i.toNat).inc
noncomputable def A7B(H:Nat->List Nat)(M:Nat)(i g:Int)(s:ByteArray)(x:En):CS:=
 (((⟨H,0⟩:CS).free M x.i x.g).leave M i g s).touch i g
theorem Rq.rem(h:Rq H M A){i g:Int}(ht:T4 A i g)(hk:(A.n i.toNat).k=1)(s:ByteArray){x:En}(hx:T4 A x.i x.g)(aA:i.toNat≠x.i.toNat):
 ChD H M (A7B H M i g s x) (A1Q A i s x)\/((A7B H M i g s x).e=8/\(A.n i.toNat).v=1099511627775):=by
 unfold A7B
 obtain⟨a1,Z,a3⟩:=Rq.free (s:=⟨H,0⟩) h rfl hx
 obtain⟨s1,aG⟩:∃s1,s1=(⟨H,0⟩:CS).free M x.i x.g:=⟨_,rfl⟩
 rw[<-aG]at a1 Z a3⊢
 obtain⟨I,V⟩:∃I,I=A.up x.i.toNat (Nd.gone x.g):=⟨_,rfl⟩
 rw[<-V]at Z
 have Y:I.n i.toNat=A.n i.toNat:=by rw[V,As.up_ne _ _ aA]
 have aB:T4 I i g:=by rw[V];exact A26 ht (λe=>absurd e.symm aA)
 obtain⟨b1,U,K,hK,b3⟩:=Z.leave a1 aB (by rw[Y];exact hk) s
 obtain⟨s2,aH⟩:∃s2,s2=s1.leave M i g s:=⟨_,rfl⟩
 rw[<-aH]at b1 U b3⊢
 obtain⟨J,X⟩:∃J,J=I.up i.toNat ((I.n i.toNat).ls (dropL (I.n i.toNat).l s)):=⟨_,rfl⟩
 rw[<-X]at U
 have aF:A1Q A i s x=J.up i.toNat (J.n i.toNat).inc:=by
  unfold A1Q
  rw[X,Y,V]
 have aE:J.n i.toNat=(A.n i.toNat).ls (dropL (A.n i.toNat).l s):=by rw[X,As.up_at,Y]
 have aC:T4 J i g:=by rw[X];exact A26 aB (λ_=>by rw[Y];exact⟨by show(A.n i.toNat).k≠0;omega,ht.2.2.2⟩)
 have aD:(J.n i.toNat).v=(A.n i.toNat).v:=by rw[aE];rfl
 by_cases hv:(A.n i.toNat).v=1099511627775
 ·exact .inr ⟨U.touch_full b1 aC (by rw[aD];exact hv),hv⟩
 ·obtain⟨c1,c2,c3⟩:=U.touch b1 aC (by rw[aD];exact hv)
  refine .inl ⟨c1,by rw[aF];exact c2,_,?_,(a3.trans b3).trans c3⟩
  simp only[List.length_append,List.length_cons,List.length_nil]
  omega
noncomputable def B2t(H:Nat->List Nat)(M:Nat)(q:Nat)(g:Int)(X:L6)(j:Nat)(d:ByteArray):CS:=
 (((⟨H,0⟩:CS).place M (X.a j) (M5 d)).set q (atX X (λb=>if b=j then(⟨H,0⟩:CS).placeI M (X.a j) (M5 d)else X.a b))).touch (q:Int) g
def A1h(A:As)(i:Nat)(j:Nat)(d:ByteArray):As:=A.up i ((A.n i).bk (λb=>if b=j then d else(A.n i).b b)).inc
theorem Rq.wri(h:Rq H M A){i g:Int}(U:T4 A i g)(hk:(A.n i.toNat).k=2){j:Nat}(hj:j<8){d:ByteArray}(hd:d.size<=64):
 ChD H M (B2t H M i.toNat g (C9 H i.toNat) j d) (A1h A i.toNat j d)\/((B2t H M i.toNat g (C9 H i.toNat) j d).e=8/\(M<(A1h A i.toNat j d).use+42\/(A.n i.toNat).v=1099511627775)):=by
 obtain⟨r1,r2⟩:=N8 U
 have hi:((i.toNat:Nat):Int)=i:=by have:=U.1;omega
 unfold B2t
 rw[hi]
 have Y:=Rq.write1 (s:=⟨H,0⟩) h rfl U hk hj hd rfl
 simp only at Y
 obtain⟨s1,aC⟩:∃s1,s1=((⟨H,0⟩:CS).place M ((C9 H i.toNat).a j) (M5 d)).set i.toNat (atX (C9 H i.toNat) (λb=>if b=j then(⟨H,0⟩:CS).placeI M ((C9 H i.toNat).a j) (M5 d)else(C9 H i.toNat).a b)):=⟨_,rfl⟩
 rw[<-aC]at Y⊢
 obtain⟨I,X⟩:∃I,I=A.up i.toNat ((A.n i.toNat).bk (λb=>if b=j then d else(A.n i.toNat).b b)):=⟨_,rfl⟩
 rw[<-X]at Y
 have Z:I.n i.toNat=(A.n i.toNat).bk (λb=>if b=j then d else(A.n i.toNat).b b):=by rw[X,As.up_at]
 have hw:A1h A i.toNat j d=I.up i.toNat (I.n i.toNat).inc:=by
  rw[Z,X,C2q]
  rfl
 rw[hw,A2Z]
 rcases Y with⟨J,V,K,hK,b3⟩|⟨J,V⟩
 ·have aA:T4 I i g:=by rw[X];exact A26 U (λ_=>⟨by show(A.n i.toNat).k≠0;omega,U.2.2.2⟩)
  have aB:(I.n i.toNat).v=(A.n i.toNat).v:=by rw[Z];rfl
  by_cases hv:(A.n i.toNat).v=1099511627775
  ·exact .inr ⟨V.touch_full J aA (by rw[aB];exact hv),.inr hv⟩
  ·obtain⟨c1,c2,c3⟩:=V.touch J aA (by rw[aB];exact hv)
   refine .inl ⟨c1,c2,_,?_,b3.trans c3⟩
   simp only[List.length_append,List.length_cons,List.length_nil]
   omega
 ·exact .inr ⟨by rw[A0k (by rw[J];decide),J],.inl V⟩
noncomputable def B2u(H:Nat->List Nat)(M:Nat)(q:Nat)(g:Int)(X:L6):CS:=
 (((⟨H,0⟩:CS).fill M X []).set q ((⟨H,0⟩:CS).fillX M X [])).touch (q:Int) g
def A5U(A:As)(i:Nat):As:=A.up i ((A.n i).bk noB).inc
theorem Rq.tru(h:Rq H M A){i g:Int}(X:T4 A i g)(hk:(A.n i.toNat).k=2):
 ChD H M (B2u H M i.toNat g (C9 H i.toNat)) (A5U A i.toNat)\/((B2u H M i.toNat g (C9 H i.toNat)).e=8/\(A.n i.toNat).v=1099511627775):=by
 have hi:((i.toNat:Nat):Int)=i:=by have:=X.1;omega
 unfold B2u
 rw[hi]
 obtain⟨U,J,Y⟩:=Rq.trunc1 (s:=⟨H,0⟩) h rfl X hk
 simp only at U J Y
 obtain⟨s1,aC⟩:∃s1,s1=((⟨H,0⟩:CS).fill M (C9 H i.toNat) []).set i.toNat ((⟨H,0⟩:CS).fillX M (C9 H i.toNat) []):=⟨_,rfl⟩
 rw[<-aC]at U J Y⊢
 obtain⟨I,V⟩:∃I,I=A.up i.toNat ((A.n i.toNat).bk noB):=⟨_,rfl⟩
 rw[<-V]at J
 have Z:I.n i.toNat=(A.n i.toNat).bk noB:=by rw[V,As.up_at]
 have hw:A5U A i.toNat=I.up i.toNat (I.n i.toNat).inc:=by
  rw[Z,V,C2q]
  rfl
 have aA:T4 I i g:=by rw[V];exact A26 X (λ_=>⟨by show(A.n i.toNat).k≠0;omega,X.2.2.2⟩)
 have aB:(I.n i.toNat).v=(A.n i.toNat).v:=by rw[Z];rfl
 by_cases hv:(A.n i.toNat).v=1099511627775
 ·exact .inr ⟨J.touch_full U aA (by rw[aB];exact hv),hv⟩
 ·obtain⟨c1,c2,c3⟩:=J.touch U aA (by rw[aB];exact hv)
  refine .inl ⟨c1,by rw[hw];exact c2,_,?_,Y.trans c3⟩
  simp only[List.length_append,List.length_cons,List.length_nil]
  omega
end
end
section
open Go.RowKit
def As.opt(A:As):Option En->As
 |none=>A
 |some y=>A.up y.i.toNat (Nd.gone y.g)
def Z3(A:As)(i i2:Nat)(s t:ByteArray)(x:En)(X:Option En):As:=
 let I:=A.opt X
 let J:=I.up i ((I.n i).ls (dropL (I.n i).l s))
 let V:=J.up i2 ((J.n i2).ls (S9 (J.n i2).l ⟨t,x.i,x.g,x.k⟩))
 let U:=V.up i (V.n i).inc
 if i2=i then U else U.up i2 (U.n i2).inc
def A8o(A:As)(i i2:Nat)(s t:ByteArray)(x:En):List En:=
 S9 (if i2=i then dropL (A.n i).l s else(A.n i2).l) ⟨t,x.i,x.g,x.k⟩
noncomputable def A27(H:Nat->List Nat)(M:Nat)(i g:Int)(s:ByteArray)(i2 I:Int)(t:ByteArray)(x:En):CS:=
 if i2=i/\I=g then((((⟨H,0⟩:CS).repl M i2 I t x.k).leave M i g s).enter M i2 I ⟨t,x.i,x.g,x.k⟩).touch i g
 else(((((⟨H,0⟩:CS).repl M i2 I t x.k).leave M i g s).enter M i2 I ⟨t,x.i,x.g,x.k⟩).touch i g).touch i2 I
section
variable {H:Nat->List Nat} {M:Nat} {A:As}
theorem B9D(h:Rq H M A){y:En}(V:T4 A y.i y.g)(U:(A.n y.i.toNat).k=y.k):mfE H y=if(A.n y.i.toNat).l.length=0 then 0 else 13:=by
 obtain⟨X,Y⟩:=h.ents y.i y.g
 obtain⟨r1,r2⟩:=N8 V
 unfold mfE
 rw[X,Y]
 by_cases I:y.k=1
 ·have J:U7 A y.i y.g 1=0:=A5p V (by rw[U,I])
  have Z:lsA A y.i y.g=(A.n y.i.toNat).l:=by unfold lsA;rw[if_pos J]
  rw[if_pos I,Z,J]
 ·rw[if_neg I,(h.ok _ r1 r2).nol (by rw[U];exact I)]
  rfl
theorem Rq.repl(h:Rq H M A){i2 I:Int}(hb:T4 A i2 I)(aB:(A.n i2.toNat).k=1)(t:ByteArray)(J:Int)(hy:∀y,Y5 (A.n i2.toNat).l t=some y->T4 A y.i y.g/\(A.n y.i.toNat).k=y.k):
 (((⟨H,0⟩:CS).repl M i2 I t J).e=0/\(∀y,Y5 (A.n i2.toNat).l t=some y->y.k=J/\(A.n y.i.toNat).l=[])/\Rq ((⟨H,0⟩:CS).repl M i2 I t J).H M (A.opt (Y5 (A.n i2.toNat).l t))/\∃q,Dif H ((⟨H,0⟩:CS).repl M i2 I t J).H [1,q])\/
 (((⟨H,0⟩:CS).repl M i2 I t J).e=12/\∃y,Y5 (A.n i2.toNat).l t=some y/\y.k≠J)\/
 (((⟨H,0⟩:CS).repl M i2 I t J).e=13/\∃y,Y5 (A.n i2.toNat).l t=some y/\y.k=J/\(A.n y.i.toNat).l≠[]):=by
 obtain⟨f1,f2⟩:=h.find i2 I t
 have h0:U7 A i2 I 1=0:=A5p hb aB
 cases hf:Y5 (A.n i2.toNat).l t with
 |none=>
  have V:M4 H i2 I t=11:=by rw[f1];unfold fdE;rw[if_pos h0,hf];rfl
  have es:(⟨H,0⟩:CS).repl M i2 I t J=⟨H,0⟩:=by unfold CS.repl;exact if_pos V
  rw[es]
  exact .inl ⟨rfl,λy hy=>(by cases hy),h,0,Dif.refl _ _⟩
 |some y=>
  obtain⟨y1,y2⟩:=hy y hf
  have V:M4 H i2 I t=0:=by rw[f1];unfold fdE;rw[if_pos h0,hf];rfl
  have Z:L5 H i2 I t=y:=by rw[f2];unfold fdX;rw[if_pos h0,hf];rfl
  have em:=B9D h y1 y2
  by_cases U:y.k=J
  ·by_cases X:(A.n y.i.toNat).l.length=0
   ·have es:(⟨H,0⟩:CS).repl M i2 I t J=(⟨H,0⟩:CS).free M y.i y.g:=by
     unfold CS.repl
     rw[show M4 (⟨H,0⟩:CS).H i2 I t=0 from V,show L5 (⟨H,0⟩:CS).H i2 I t=y from Z,if_neg (by decide),if_pos U,A0p,show mfE (⟨H,0⟩:CS).H y=_ from em,if_pos X,A0p]
    rw[es]
    obtain⟨a1,a2,a3⟩:=Rq.free (s:=⟨H,0⟩) h rfl y1
    exact .inl ⟨a1,λy' e=>(by obtain rfl:=Option.some.inj e;exact⟨U,List.eq_nil_of_length_eq_zero X⟩),a2,_,a3⟩
   ·refine .inr (.inr ⟨?_,y,rfl,U,λe=>X (by rw[e];rfl)⟩)
    unfold CS.repl
    rw[show M4 (⟨H,0⟩:CS).H i2 I t=0 from V,show L5 (⟨H,0⟩:CS).H i2 I t=y from Z,if_neg (by decide),if_pos U,A0p,show mfE (⟨H,0⟩:CS).H y=_ from em,if_neg X]
    have aA:((⟨H,0⟩:CS).note 13).e=13:=rfl
    rw[B5h (by rw[aA];decide),aA]
  ·refine .inr (.inl ⟨?_,y,rfl,U⟩)
   unfold CS.repl
   rw[show M4 (⟨H,0⟩:CS).H i2 I t=0 from V,show L5 (⟨H,0⟩:CS).H i2 I t=y from Z,if_neg (by decide),if_neg U,A0p]
   have Y:((⟨H,0⟩:CS).note 12).e=12:=rfl
   rw[V9 (by rw[Y];decide),B5h (by rw[Y];decide),Y]
theorem A1i{I:Option En}{i:Nat}(h:∀y,I=some y->y.i.toNat≠i):(A.opt I).n i=A.n i:=by
 cases I with
 |none=>rfl
 |some y=>exact As.up_ne _ _ (λe=>h y rfl e.symm)
theorem B9E{I:Option En}{i g:Int}(X:T4 A i g)(h:∀y,I=some y->y.i.toNat≠i.toNat):T4 (A.opt I) i g:=by
 obtain⟨J,U,h3,V⟩:=X
 exact⟨J,U,by rw[A1i h];exact h3,by rw[A1i h];exact V⟩
theorem Rq.ren(h:Rq H M A){i g i2 I:Int}(ha:T4 A i g)(aH:(A.n i.toNat).k=1)(hb:T4 A i2 I)(aI:(A.n i2.toNat).k=1)(s:ByteArray){t:ByteArray}(X:Nam t){x:En}(hx:okE x)(aW:(A.n i.toNat).l≠[])
 (hy:∀y,Y5 (A.n i2.toNat).l t=some y->T4 A y.i y.g/\(A.n y.i.toNat).k=y.k):
 (ChD H M (A27 H M i g s i2 I t x) (Z3 A i.toNat i2.toNat s t x (Y5 (A.n i2.toNat).l t))/\(∀y,Y5 (A.n i2.toNat).l t=some y->y.k=x.k/\(A.n y.i.toNat).l=[])/\(A8o A i.toNat i2.toNat s t x).length<=24)\/
 ((A27 H M i g s i2 I t x).e=12/\∃y,Y5 (A.n i2.toNat).l t=some y/\y.k≠x.k)\/
 ((A27 H M i g s i2 I t x).e=13/\∃y,Y5 (A.n i2.toNat).l t=some y/\y.k=x.k/\(A.n y.i.toNat).l≠[])\/
 ((A27 H M i g s i2 I t x).e=8/\(∀y,Y5 (A.n i2.toNat).l t=some y->y.k=x.k/\(A.n y.i.toNat).l=[])/\(24<(A8o A i.toNat i2.toNat s t x).length\/M<(Z3 A i.toNat i2.toNat s t x (Y5 (A.n i2.toNat).l t)).use+42\/(A.n i.toNat).v=1099511627775\/(A.n i2.toNat).v=1099511627775)):=by
 obtain⟨r1,r2⟩:=N8 ha
 obtain⟨q1,q2⟩:=N8 hb
 have aL:(i2=i/\I=g)↔i2.toNat=i.toNat:=by
  constructor
  ·rintro⟨e,_⟩;rw[e]
  ·intro e
   have h1:=ha.1;have h2:=hb.1
   have U:i2=i:=by omega
   refine⟨U,?_⟩
   rw[<-ha.2.2.2,<-hb.2.2.2,U]
 have aO:∀{Y:CS} {e:Int},Y.e=e->e≠0->(if i2=i/\I=g then((Y.leave M i g s).enter M i2 I ⟨t,x.i,x.g,x.k⟩).touch i g else(((Y.leave M i g s).enter M i2 I ⟨t,x.i,x.g,x.k⟩).touch i g).touch i2 I).e=e:=by
  intro Y e he hz
  have hs:Y.e≠0:=by rw[he];exact hz
  rw[B90 hs,B2d hs,A0k hs,A0k hs]
  split<;>exact he
 unfold A27
 rcases h.repl hb aI t x.k hy with⟨a1,ay,Z,q,a3⟩|⟨a1,Z⟩|⟨a1,Z⟩
 ·obtain⟨Y,aX⟩:∃Y,Y=(⟨H,0⟩:CS).repl M i2 I t x.k:=⟨_,rfl⟩
  rw[<-aX]at a1 Z a3⊢
  obtain⟨yo,aN⟩:∃yo,yo=Y5 (A.n i2.toNat).l t:=⟨_,rfl⟩
  rw[<-aN]at ay Z⊢
  have y1:∀y,yo=some y->y.i.toNat≠i.toNat:=λy e U=>by
   have:=(ay y e).2
   rw[U]at this
   exact aW this
  have y2:∀y,yo=some y->y.i.toNat≠i2.toNat:=λy e U=>by
   have h1:=(ay y e).2
   rw[U]at h1
   have h2:=(A00 (aN.symm.trans e)).1
   rw[h1]at h2
   simp at h2
  obtain⟨V,aA⟩:∃V,V=A.opt yo:=⟨_,rfl⟩
  rw[<-aA]at Z
  have n1:V.n i.toNat=A.n i.toNat:=by rw[aA];exact A1i y1
  have bC:V.n i2.toNat=A.n i2.toNat:=by rw[aA];exact A1i y2
  have aP:T4 V i g:=by rw[aA];exact B9E ha y1
  have bF:T4 V i2 I:=by rw[aA];exact B9E hb y2
  obtain⟨b1,b2,K,hK,b3⟩:=Z.leave a1 aP (by rw[n1];exact aH) s
  obtain⟨s2,aY⟩:∃s2,s2=Y.leave M i g s:=⟨_,rfl⟩
  rw[<-aY]at b1 b2 b3⊢
  obtain⟨J,aB⟩:∃J,J=V.up i.toNat ((V.n i.toNat).ls (dropL (V.n i.toNat).l s)):=⟨_,rfl⟩
  rw[<-aB]at b2
  have n2:J.n i.toNat=(A.n i.toNat).ls (dropL (A.n i.toNat).l s):=by rw[aB,As.up_at,n1]
  have tw:∀{i3 g3:Int} {B B':As} {y:Nd},B'=B.up i.toNat y->T4 B i3 g3->y.k=(B.n i.toNat).k->y.g=(B.n i.toNat).g->T4 B' i3 g3:=by
   intro i3 g3 B B' y e X hk hg
   rw[e]
   refine A26 X (λU=>?_)
   rw[hk,hg,U]
   exact⟨X.2.2.1,X.2.2.2⟩
  have aT:∀{i3 g3:Int} {B B':As} {y:Nd},B'=B.up i2.toNat y->T4 B i3 g3->y.k=(B.n i2.toNat).k->y.g=(B.n i2.toNat).g->T4 B' i3 g3:=by
   intro i3 g3 B B' y e X hk hg
   rw[e]
   refine A26 X (λU=>?_)
   rw[hk,hg,U]
   exact⟨X.2.2.1,X.2.2.2⟩
  have bD:T4 J i g:=tw aB aP rfl rfl
  have aR:T4 J i2 I:=tw aB bF rfl rfl
  have aE:(J.n i2.toNat).k=1/\(J.n i2.toNat).v=(A.n i2.toNat).v/\(J.n i2.toNat).l=(if i2.toNat=i.toNat then dropL (A.n i.toNat).l s else(A.n i2.toNat).l):=by
   by_cases e:i2.toNat=i.toNat
   ·rw[e,n2,if_pos rfl];exact⟨aH,rfl,rfl⟩
   ·rw[aB,As.up_ne _ _ e,bC,if_neg e];exact⟨aI,rfl,rfl⟩
  obtain⟨z,hz⟩:∃z:En,z=⟨t,x.i,x.g,x.k⟩:=⟨_,rfl⟩
  have bB:okE z:=by rw[hz];exact⟨X,hx.2⟩
  have hL:S9 (J.n i2.toNat).l z=A8o A i.toNat i2.toNat s t x:=by rw[aE.2.2,hz];rfl
  rw[<-hz]
  rcases b2.enter b1 aR aE.1 bB with⟨c1,c0,c2,K',bH,c3⟩|⟨c1,c2⟩
  ·obtain⟨s3,aZ⟩:∃s3,s3=s2.enter M i2 I z:=⟨_,rfl⟩
   rw[<-aZ]at c1 c2 c3⊢
   rw[hL]at c0
   obtain⟨A3,aC⟩:∃A3,A3=J.up i2.toNat ((J.n i2.toNat).ls (S9 (J.n i2.toNat).l z)):=⟨_,rfl⟩
   rw[<-aC]at c2
   have aQ:T4 A3 i g:=aT aC bD rfl rfl
   have bG:T4 A3 i2 I:=aT aC aR rfl rfl
   have aU:(A3.n i.toNat).v=(A.n i.toNat).v:=by
    by_cases e:i.toNat=i2.toNat
    ·rw[aC,e,As.up_at]
     show(J.n i2.toNat).v=_
     rw[aE.2.1]
    ·rw[aC,As.up_ne _ _ e,n2];rfl
   have aK:∀{s':CS},Dif H s'.H (([1,q]++(1::(1+i.toNat)::K))++(1::(1+i2.toNat)::K')++[1+i.toNat]++[1+i2.toNat])->∃L:List Nat,L.length<=14/\Dif H s'.H L:=by
    intro s' hd
    refine⟨[1,q,1+i.toNat,1+i2.toNat]++K++K',by simp only[List.length_append,List.length_cons,List.length_nil];omega,hd.mono λk hk=>?_⟩
    simp only[List.mem_append,List.mem_cons,List.not_mem_nil,or_false]at hk⊢
    rcases hk with((((e|e)|e|e|e)|e|e|e)|e)|e
    ·exact .inl (.inl (.inl e))
    ·exact .inl (.inl (.inr (.inl e)))
    ·exact .inl (.inl (.inl e))
    ·exact .inl (.inl (.inr (.inr (.inl e))))
    ·exact .inl (.inr e)
    ·exact .inl (.inl (.inl e))
    ·exact .inl (.inl (.inr (.inr (.inr e))))
    ·exact .inr e
    ·exact .inl (.inl (.inr (.inr (.inl e))))
    ·exact .inl (.inl (.inr (.inr (.inr e))))
   by_cases aF:(A.n i.toNat).v=1099511627775
   ·right;right;right
    refine⟨?_,ay,.inr (.inr (.inl aF))⟩
    have t8:=c2.touch_full c1 aQ (by rw[aU];exact aF)
    split
    ·exact t8
    ·rw[A0k (by rw[t8];decide),t8]
   ·obtain⟨d1,d2,d3⟩:=c2.touch c1 aQ (by rw[aU];exact aF)
    obtain⟨s4,bA⟩:∃s4,s4=s3.touch i g:=⟨_,rfl⟩
    rw[<-bA]at d1 d2 d3⊢
    obtain⟨A4,aD⟩:∃A4,A4=A3.up i.toNat (A3.n i.toNat).inc:=⟨_,rfl⟩
    rw[<-aD]at d2
    have aJ:=((a3.trans b3).trans c3).trans d3
    by_cases e:i2.toNat=i.toNat
    ·rw[if_pos (aL.2 e)]
     refine .inl ⟨⟨d1,?_,aK (aJ.mono λk hk=>List.mem_append.2 (.inl hk))⟩,ay,c0⟩
     have er:Z3 A i.toNat i2.toNat s t x yo=A4:=by
      unfold Z3
      simp only
      rw[if_pos e,<-aA,<-aB,<-hz,<-aC,<-aD]
     rw[er]
     exact d2
    ·rw[if_neg (λy=>e (aL.1 y))]
     have aS:T4 A4 i2 I:=tw aD bG rfl rfl
     have aV:(A4.n i2.toNat).v=(A.n i2.toNat).v:=by
      rw[aD,As.up_ne _ _ e,aC,As.up_at]
      exact aE.2.1
     by_cases aG:(A.n i2.toNat).v=1099511627775
     ·right;right;right
      exact⟨d2.touch_full d1 aS (by rw[aV];exact aG),ay,.inr (.inr (.inr aG))⟩
     ·obtain⟨f1,f2,f3⟩:=d2.touch d1 aS (by rw[aV];exact aG)
      refine .inl ⟨⟨f1,?_,aK (aJ.trans f3)⟩,ay,c0⟩
      have er:Z3 A i.toNat i2.toNat s t x yo=A4.up i2.toNat (A4.n i2.toNat).inc:=by
       unfold Z3
       simp only
       rw[if_neg e,<-aA,<-aB,<-hz,<-aC,<-aD]
      rw[er]
      exact f2
  ·right;right;right
   have aM:(s2.enter M i2 I z).e≠0:=by rw[c1];decide
   refine⟨?_,ay,?_⟩
   ·rw[A0k aM,A0k aM]
    split<;>exact c1
   ·rcases c2 with c2|c2
    ·exact .inl (by rw[<-hL];exact c2)
    ·refine .inr (.inl ?_)
     have er:(Z3 A i.toNat i2.toNat s t x yo).use=(J.up i2.toNat ((J.n i2.toNat).ls (S9 (J.n i2.toNat).l z))).use:=by
      unfold Z3
      simp only
      rw[<-aA,<-aB,<-hz]
      split
      ·rw[A2Z]
      ·rw[A2Z,A2Z]
     rw[er]
     exact c2
 ·exact .inr (.inl ⟨aO a1 (by decide),Z⟩)
 ·exact .inr (.inr (.inl ⟨aO a1 (by decide),Z⟩))
end
end
end Go.Proofs.YtbefmjiclpobjaaGreat
