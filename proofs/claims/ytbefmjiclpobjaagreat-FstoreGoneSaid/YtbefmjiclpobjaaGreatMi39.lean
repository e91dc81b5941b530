import Derived.Test.YtbefmjiclpobjaaGreatMi38
import Derived.Test.YtbefmjiclpobjaaGreatMi15
import Derived.Deep.Slices
import Derived.Deep.Fields
import Derived.ChangeArms
import Derived.Test.YtbefmjiclpobjaaGreatMi06
import Derived.Test.YtbefmjiclpobjaaGreatMi00
import Derived.Test.YtbefmjiclpobjaaGreatMi25
namespace Go.Proofs.YtbefmjiclpobjaaGreat
set_option maxHeartbeats 25600000
set_option maxRecDepth 3000
section
open Go.RowKit Go.Maps
structure D7 (A B:As):Prop where
 g:∀i,(A.n i).g<=(B.n i).g
 k:∀i,(B.n i).k≠0->(B.n i).g=(A.n i).g->(A.n i).k≠0
theorem D7.refl(A:As):D7 A A:=⟨λ_=>Int.le_refl _,λ_ h _=>h⟩
theorem D7.trans{A B C:As}(h:D7 A B)(k:D7 B C):D7 A C:=by
 refine⟨λi=>Int.le_trans (h.g i) (k.g i),λi I V=>?_⟩
 have J:=h.g i
 have U:=k.g i
 exact h.k i (k.k i I (by omega)) (by omega)
theorem D7.up{A:As}{i:Nat}{y:Nd}(U:(A.n i).g<=y.g)(V:y.k≠0->y.g=(A.n i).g->(A.n i).k≠0):D7 A (A.up i y):=by
 refine⟨λj=>?_,λj I J=>?_⟩
 ·by_cases e:j=i
  ·rw[e,As.up_at];exact U
  ·rw[As.up_ne _ _ e];exact Int.le_refl _
 ·by_cases e:j=i
  ·rw[e,As.up_at]at I J
   rw[e]
   exact V I J
  ·rwa[As.up_ne _ _ e]at I
theorem D7.same{A:As}{i:Nat}{y:Nd}(I:y.g=(A.n i).g)(J:y.k=(A.n i).k\/y.k=0):D7 A (A.up i y):=
 D7.up (by rw[I];exact Int.le_refl _) (λh _=>by
  rcases J with x|x
  ·rw[<-x];exact h
  ·exact absurd x h)
theorem D7.inc(A:As)(i:Nat):D7 A (A.up i (A.n i).inc):=D7.same rfl (.inl rfl)
theorem D7.ls(A:As)(i:Nat)(l:List En):D7 A (A.up i ((A.n i).ls l)):=D7.same rfl (.inl rfl)
section
variable {A:As} {M:Nat}
theorem D7.cre{i:Int}{s:ByteArray}{J:Int}{j:Nat}(V:(A.n (1+j)).k=0)(hi:(A.n i.toNat).k≠0):D7 A (V5 A i s J j):=by
 have I:i.toNat≠1+j:=λe=>hi (by rw[e];exact V)
 have U:D7 A (A.up (1+j) (Nd.new J ((A.n (1+j)).g+1))):=D7.up (by show _<=(A.n (1+j)).g+1;omega) (λ_ h=>by have:(A.n (1+j)).g+1=(A.n (1+j)).g:=h;omega)
 unfold V5
 simp only
 refine U.trans (D7.trans (D7.same ?_ (.inl ?_)) (D7.same rfl (.inl rfl)))
 ·rw[As.up_ne _ _ I];rfl
 ·rw[As.up_ne _ _ I];rfl
theorem D7.rem{i:Int}{s:ByteArray}{x:En}(J:(A.n x.i.toNat).g=x.g)(I:i.toNat≠x.i.toNat):D7 A (A05 A i s x):=by
 unfold A05
 simp only
 refine D7.trans (D7.same (y:=Nd.gone x.g) J.symm (.inr rfl)) (D7.trans (D7.same ?_ (.inl ?_)) (D7.same rfl (.inl rfl)))
 ·rw[As.up_ne _ _ I];rfl
 ·rw[As.up_ne _ _ I];rfl
theorem D7.ren{i i2:Nat}{s t:ByteArray}{x:En}{I:Option En}(V:∀y,I=some y->(A.n y.i.toNat).g=y.g):D7 A (Y5 A i i2 s t x I):=by
 have U:D7 A (A.opt I):=by
  cases I with
  |none=>exact D7.refl _
  |some y=>exact D7.same (y:=Nd.gone y.g) (V y rfl).symm (.inr rfl)
 unfold Y5
 simp only
 have J:=((U.trans (D7.ls _ i (dropL ((A.opt I).n i).l s))).trans (D7.ls _ i2 (T1 (((A.opt I).up i (((A.opt I).n i).ls (dropL ((A.opt I).n i).l s))).n i2).l ⟨t,x.i,x.g,x.k⟩))).trans (D7.inc _ i)
 split
 ·exact J
 ·exact J.trans (D7.inc _ i2)
theorem D7.wri(i j:Nat)(d:ByteArray):D7 A (A0Z A i j d):=D7.same rfl (.inl rfl)
theorem D7.tru(i:Nat):D7 A (A5q A i):=D7.same rfl (.inl rfl)
theorem D7.create(i g:Int)(s:ByteArray)(U:Int):D7 A (A0U A M i g s U).1:=by
 unfold A0U
 split
 ·split
  ·split
   ·rename_i J
    split
    ·exact D7.refl _
    ·split
     ·exact D7.refl _
     ·rename_i j I
      split
      ·exact D7.refl _
      ·exact D7.cre (A1B I).2.1 (Z1 J).1.2.2.1
   ·exact D7.refl _
  ·exact D7.refl _
 ·exact D7.refl _
theorem D7.remove(h:OkA A)(i g:Int)(s:ByteArray):D7 A (A2H A i g s).1:=by
 unfold A2H
 split
 ·split
  ·rename_i W
   split
   ·rename_i J
    split
    ·exact D7.refl _
    ·obtain⟨U,Z,V⟩:=A7A W
     obtain⟨X,Y⟩:=N6 U
     have I:=(Y1 V).1
     refine D7.rem (h.tr.ent _ _ X Y I).2.1 (λe=>?_)
     rw[<-e]at J
     rw[J]at I
     simp at I
   ·exact D7.refl _
  ·exact D7.refl _
 ·exact D7.refl _
theorem D7.rename(h:OkA A)(i g:Int)(s:ByteArray)(i2 I:Int)(t:ByteArray):D7 A (A5u A M i g s i2 I t).1:=by
 unfold A5u
 split
 ·split
  ·split
   ·rename_i J
    split
    ·split
     ·exact D7.refl _
     ·split
      ·split
       ·exact D7.refl _
       ·split
        ·exact D7.refl _
        ·split
         ·exact D7.refl _
         ·refine D7.ren λy U=>?_
          obtain⟨V,W⟩:=N6 (Z1 J).1
          exact(h.tr.ent _ _ V W (Y1 U).1).2.1
      ·exact D7.refl _
    ·exact D7.refl _
   ·exact D7.refl _
  ·exact D7.refl _
 ·exact D7.refl _
theorem D7.write(i g a:Int)(d:ByteArray):D7 A (A1F A M i g a d).1:=by
 unfold A1F
 split
 ·split
  ·split
   ·split
    ·exact D7.refl _
    ·exact D7.wri _ _ _
   ·exact D7.refl _
  ·exact D7.refl _
 ·exact D7.refl _
theorem D7.trunc(i g:Int):D7 A (A48 A i g).1:=by
 unfold A48
 split
 ·split
  ·exact D7.refl _
  ·exact D7.tru _
 ·exact D7.refl _
theorem D7.does(h:OkA A)(x:D11):D7 A (doR A M x).1:=by
 unfold doR
 split
 ·exact D7.create _ _ _ _
 ·split
  ·exact D7.remove h _ _ _
  ·split
   ·exact D7.rename h _ _ _ _ _ _
   ·split
    ·exact D7.write _ _ _ _
    ·exact D7.trunc _ _
end
structure A1m (A:As) (i g:Int):Prop where
 le:g<=(A.n i.toNat).g
 n:¬U2 A i g
theorem A1m.step{A B:As}{i g:Int}(h:A1m A i g)(k:D7 A B):A1m B i g:=by
 have I:=k.g i.toNat
 have J:=h.le
 refine⟨Int.le_trans J I,λ⟨t1,t2,t3,t4⟩=>h.n ⟨t1,t2,k.k _ t3 (by omega),by omega⟩⟩
theorem A1m.of{A:As}{i:Nat}{s:ByteArray}{x:En}(J:i≠x.i.toNat):A1m (A05 A i s x) x.i x.g:=by
 have I:(A05 A i s x).n x.i.toNat=Nd.gone x.g:=by
  unfold A05
  simp only
  rw[As.up_ne _ _ (λe=>J (by rw[e];simp)),As.up_ne _ _ (λe=>J (by rw[e];simp)),As.up_at]
 refine⟨by rw[I];exact Int.le_refl _,λ⟨_,_,t3,_⟩=>t3 ?_⟩
 rw[I];rfl
theorem A1m.says{A:As}{i g:Int}(h:A1m A i g)(a:Int)(I:0<=a/\a<8)(d:ByteArray)(U:d.size<=64)(M:Nat):atV A i g= #[.int .i64 0,.int .u64 0,.int .i64 0]/\atE A i g=14/\rbE A i g a=14/\A1F A M i g a d=(A,0,14):=by
 have J:V1 A i g 2=14:=by unfold V1;rw[if_neg h.n]
 refine⟨by unfold atV;rw[if_neg h.n];rfl,by unfold atE;rw[if_neg h.n],by unfold rbE;rw[if_pos I,J],?_⟩
 unfold A1F
 rw[if_pos I,if_pos U,J]
 rfl
theorem B7a{A:As}{i g:Int}{s:ByteArray}(I:(A2H A i g s).2=0):Nam s/\fdE A i g s=0/\A1m (A2H A i g s).1 (fdX A i g s).i (fdX A i g s).g:=by
 unfold A2H at I⊢
 split at I
 ·rename_i V
  split at I
  ·rename_i J
   split at I
   ·rename_i h3
    split at I
    ·cases I
    ·rename_i Y
     rw[if_pos V,if_pos J,if_pos h3,if_neg Y]
     obtain⟨U,a2,X⟩:=A7A J
     obtain⟨r1,r2⟩:=N6 U
     have W:=(Y1 X).1
     have Z:i.toNat≠(fdX A i g s).i.toNat:=λe=>by
      rw[<-e]at h3
      rw[h3]at W
      simp at W
     have hi:((i.toNat:Nat):Int)=i:=by have:=U.1;omega
     have:=A1m.of (A:=A) (s:=s) Z
     rw[hi]at this
     exact⟨V,J,this⟩
   ·cases I
  ·rename_i J;exact absurd I J
 ·cases I
end
section
open Go.ChangeShapes Go.WideShapes Go.ChangeAt Go.RowKit Go.Deep
theorem B20{H:Type}{enc:TypeId×Value->H}{P:Program}{W:World}{t e:TypeId}{k:IntKind}{aA:Nat}{v:Value}{x:DataW H×List MemPlace}(ht:P.underlying t=some (.slice e))(he:P.underlying e=some (.int k))(hc:P.cellsOf e=1)
 (hf:DataW.trod enc P W 0 (λ_=>true) true aA t [v]=some x):
 ∃(n:Nat) (J:List Int),Rd W 1 v n (J.map (Value.int k))/\J.length=n/\(∀z∈J,(Lit.int k z).wf=true)/\(∀b,v.ownBlock=some b->0<n->b<W.heap.size):=by
 rcases open_ints ht he hc hf with⟨U,_⟩|⟨x,l,c,J,U,_,hl,hm,X,_,Y,aB⟩
 ·simp at U
  subst U
  exact⟨0,[],⟨none,0,rfl,Nat.le_refl _,Nat.zero_le _,rfl,λ_=>rfl,λI=>absurd I (by omega)⟩,rfl,λ_ X=>by simp at X,λb V=>by simp[Value.ownBlock]at V⟩
 ·simp at U
  subst U
  have aD:J.length=c:=by simpa using X
  have Z:0<l->x.block<W.heap.size:=λI=>by
   have h:=World.block_lt_of_cell? _ _ (Y 0 (by omega))
   rwa[A06]at h
  refine⟨l,J.take l,⟨some x,c,rfl,hl,hm,by simp;omega,λI=>(by cases I),λI=>⟨x,rfl,Z I,λj u hu=>?_⟩⟩,by simp;omega,λz aC=>aB z (List.mem_of_mem_take aC),λb V I=>?_⟩
  ·obtain⟨h1,h2,rfl⟩:=A9m k J l j u hu
   exact Y j (by omega)
  ·have:x.block=b:=by simpa[Value.ownBlock]using V
   rw[<-this];exact Z I
theorem B21:Tryz.prog.cellsOf 35=2:=by kernel_rfl
theorem A3W:Tryz.prog.cellsOf 3=1:=by kernel_rfl
theorem A8m:Tryz.prog.cellsOf 9=1:=by kernel_rfl
end
section
open Go.ChangeShapes Go.WideShapes Go.ChangeAt Go.RowKit Go.Deep
end
section
open Go.ChangeShapes Go.WideShapes Go.ChangeAt Go.RowKit Go.Deep
theorem A7J{α:Type}{H:Type}{enc:TypeId×Value->H}{W:World}(J:α->List Value)(c:Nat)(U:α->Prop){t e:TypeId}(ht:Tryz.prog.underlying t=some (.slice e))(aH:Tryz.prog.cellsOf e=c)(aA:0<c)(aB:∀x,(J x).length=c)
 (aK:∀{n:Nat} {cs:List Value} {x:DataW H×List MemPlace},DataW.trod enc Tryz.prog W 0 (λ_=>true) true n e cs=some x->∃d,cs=J d/\U d) {aF:Nat} {v:Value} {x:DataW H×List MemPlace} (hf:DataW.trod enc Tryz.prog W 0 (λ_=>true) true aF t [v]=some x):
 ∃I:List α,Rd W c v I.length (I.flatMap J)/\∀d∈I,U d:=by
 rcases open_slice ht hf with⟨V,_⟩|⟨x,l,cp,m,n,D,Pl,V,_,hl,hm,aM,_,hi⟩
 ·simp at V
  subst V
  exact⟨[],⟨none,0,rfl,Nat.le_refl _,Nat.zero_le _,by simp,λ_=>rfl,λY=>absurd Y (by simp)⟩,λ_ hz=>by simp at hz⟩
 ·simp at V
  subst V
  simp only[if_true]at aM
  have H1:∀i,i<l->∃d:α,(∀j,j<c->W.cell? (x.add (i * c+j))=(J d)[j]?)/\U d:=by
   intro i aP
   obtain⟨aO,hc,aN⟩:=hi i (by omega)
   rw[aH]at hc
   obtain⟨d,rfl,h1⟩:=aK aN
   obtain⟨_,_,aG⟩:=World.cells?_some hc
   refine⟨d,λj hj=>?_,h1⟩
   rw[<-aG j hj,Go.Deep.add_add]
  obtain⟨I,aI,X⟩:∃I:List α,I.length=l/\∀i (h:i<I.length),(∀j,j<c->W.cell? (x.add (i * c+j))=(J I[i])[j]?)/\U I[i]:=by
   clear hi hf
   have:∀n:Nat,(∀i,i<n->∃d:α,(∀j,j<c->W.cell? (x.add (i * c+j))=(J d)[j]?)/\U d)->∃I:List α,I.length=n/\∀i (h:i<I.length),(∀j,j<c->W.cell? (x.add (i * c+j))=(J I[i])[j]?)/\U I[i]:=by
    intro n
    induction n with
    |zero=>exactλ_=>⟨[],rfl,λi h=>absurd h (by simp)⟩
    |succ n ih=>
     intro H
     obtain⟨I,hl,X⟩:=ih (λi hi=>H i (by omega))
     obtain⟨d,hq⟩:=H n (by omega)
     refine⟨I++[d],by simp[hl],λi h=>?_⟩
     rw[List.length_append,List.length_singleton]at h
     by_cases hi:i<I.length
     ·rw[List.getElem_append_left hi];exact X i hi
     ·have e:i=n:=by omega
      subst e
      rw[List.getElem_append_right (by omega)]
      simpa[hl]using hq
   exact this l H1
  have aC:(I.flatMap J).length=I.length * c:=A51 J c I (λ_ _=>aB _)
  refine⟨I,⟨some x,cp,by rw[aI],by omega,hm,aC,λY=>(by cases Y),λY=>⟨x,rfl,?_,?_⟩⟩,?_⟩
  ·have h0:=(X 0 Y).1 0 aA
   have hs:∃u,(J I[0])[0]? =some u:=⟨_,List.getElem?_eq_getElem (by rw[aB];exact aA)⟩
   obtain⟨u,Z⟩:=hs
   have:=World.block_lt_of_cell? _ _ (h0.trans Z)
   rwa[A06]at this
  ·intro j u Z
   have aE:j<(I.flatMap J).length:=(List.getElem?_eq_some_iff.1 Z).1
   rw[aC]at aE
   have hk:j/c<I.length:=Nat.div_lt_of_lt_mul (by rw[Nat.mul_comm];exact aE)
   have aD:j%c<c:=Nat.mod_lt _ aA
   have e:j=j/c * c+j%c:=by rw[Nat.mul_comm];exact(Nat.div_add_mod j c).symm
   rw[e]at Z⊢
   rw[(X (j/c) hk).1 (j%c) aD,<-Z,A90 J c I (λ_ _=>aB _) (j/c) (j%c) hk aD]
  ·intro d aJ
   obtain⟨i,aL,rfl⟩:=List.getElem_of_mem aJ
   exact(X i aL).2
end
section
open Go.ChangeShapes Go.WideShapes Go.ChangeAt Go.RowKit Go.Deep
theorem B5v:Tryz.prog.cellsOf 38=9:=by kernel_rfl
theorem B9G:Tryz.prog.cellsOf 36=1:=by kernel_rfl
def C36(W:World)(x:D11):Prop:=∃I:List Int,Rd W 1 x.kv I.length (I.map (Value.int .i64))/\(∀b,x.kv.ownBlock=some b->0<I.length->b<W.heap.size)
structure C2f (z:Int):Prop where
 lo: -9223372036854775808<=z
 hi:z<9223372036854775808
def B9H(W:World)(x:D11):Prop:=(x.s.size<=maxLen/\x.t.size<=maxLen)/\x.kv.oneCell'=true/\C36 W x/\C2f x.n
theorem C5j{z:Int}(h:(Lit.int .i64 z).wf=true):C2f z:=by
 have I:=bounds_i64 h
 exact⟨by omega,by omega⟩
theorem B9J{H:Type}{enc:TypeId×Value->H}{W:World}{n:Nat}{cs:List Value}{x:DataW H×List MemPlace}(h:DataW.trod enc Tryz.prog W 0 (λ_=>true) true n 38 cs=some x):
 ∃e:D11,cs=(d11 e).toList/\B9H W e:=by
 obtain⟨xs,m,_,_,aC,aD,I⟩:=DataW.trod_struct Tryz.underlying38 h
 rw[B5v]at aC
 match cs,aC with
 |[c0,c1,c2,c3,c4,c5,c6,c7,c8],_=>
  match xs,aD with
  |[y0,y1,y2,y3,y4,y5,y6],_=>
   have J:=I 0 _ rfl
   have U:=I 1 _ rfl
   have V:=I 2 _ rfl
   have X:=I 3 _ rfl
   have Y:=I 4 _ rfl
   have Z:=I 5 _ rfl
   have f6:=I 6 _ rfl
   change DataW.trod enc Tryz.prog W 0 (λ_=>true) true m 3 ((([c0,c1,c2,c3,c4,c5,c6,c7,c8]:List Value).drop 0).take (Tryz.prog.cellsOf 3))=some y0 at J
   change DataW.trod enc Tryz.prog W 0 (λ_=>true) true m 3 ((([c0,c1,c2,c3,c4,c5,c6,c7,c8]:List Value).drop 1).take (Tryz.prog.cellsOf 3))=some y1 at U
   change DataW.trod enc Tryz.prog W 0 (λ_=>true) true m 35 ((([c0,c1,c2,c3,c4,c5,c6,c7,c8]:List Value).drop 2).take (Tryz.prog.cellsOf 35))=some y2 at V
   change DataW.trod enc Tryz.prog W 0 (λ_=>true) true m 35 ((([c0,c1,c2,c3,c4,c5,c6,c7,c8]:List Value).drop 4).take (Tryz.prog.cellsOf 35))=some y3 at X
   change DataW.trod enc Tryz.prog W 0 (λ_=>true) true m 9 ((([c0,c1,c2,c3,c4,c5,c6,c7,c8]:List Value).drop 6).take (Tryz.prog.cellsOf 9))=some y4 at Y
   change DataW.trod enc Tryz.prog W 0 (λ_=>true) true m 9 ((([c0,c1,c2,c3,c4,c5,c6,c7,c8]:List Value).drop 7).take (Tryz.prog.cellsOf 9))=some y5 at Z
   change DataW.trod enc Tryz.prog W 0 (λ_=>true) true m 36 ((([c0,c1,c2,c3,c4,c5,c6,c7,c8]:List Value).drop 8).take (Tryz.prog.cellsOf 36))=some y6 at f6
   rw[A3W]at J U
   rw[B21]at V X
   rw[A8m]at Y Z
   rw[B9G]at f6
   obtain⟨a0,e0,_,_⟩:=DataW.trod_int Tryz.underlying3 J
   obtain⟨a1,e1,_,w1⟩:=DataW.trod_int Tryz.underlying3 U
   obtain⟨z2,m2,_,_,_,aE,aA⟩:=DataW.trod_struct Tryz.underlying35 V
   obtain⟨z3,m3,_,_,_,aF,aB⟩:=DataW.trod_struct Tryz.underlying35 X
   obtain⟨s,e4,_,hs⟩:=DataW.trod_string Tryz.underlying9 Y
   obtain⟨t,e5,_,ht⟩:=DataW.trod_string Tryz.underlying9 Z
   obtain⟨nk,ks,k1,k2,_,k4⟩:=B20 Tryz.underlying36 Tryz.underlying3 A3W (v:=c8) f6
   match z2,aE with
   |[u0,u1],_=>
    match z3,aF with
    |[v0,v1],_=>
     have g0:=aA 0 _ rfl
     have g1:=aA 1 _ rfl
     have g2:=aB 0 _ rfl
     have g3:=aB 1 _ rfl
     change DataW.trod enc Tryz.prog W 0 (λ_=>true) true m2 3 ((([c2,c3]:List Value).drop 0).take (Tryz.prog.cellsOf 3))=some u0 at g0
     change DataW.trod enc Tryz.prog W 0 (λ_=>true) true m2 3 ((([c2,c3]:List Value).drop 1).take (Tryz.prog.cellsOf 3))=some u1 at g1
     change DataW.trod enc Tryz.prog W 0 (λ_=>true) true m3 3 ((([c4,c5]:List Value).drop 0).take (Tryz.prog.cellsOf 3))=some v0 at g2
     change DataW.trod enc Tryz.prog W 0 (λ_=>true) true m3 3 ((([c4,c5]:List Value).drop 1).take (Tryz.prog.cellsOf 3))=some v1 at g3
     rw[A3W]at g0 g1 g2 g3
     obtain⟨b0,q0,_,_⟩:=DataW.trod_int Tryz.underlying3 g0
     obtain⟨b1,q1,_,_⟩:=DataW.trod_int Tryz.underlying3 g1
     obtain⟨b2,q2,_,_⟩:=DataW.trod_int Tryz.underlying3 g2
     obtain⟨b3,q3,_,_⟩:=DataW.trod_int Tryz.underlying3 g3
     simp at e0 e1 e4 e5 q0 q1 q2 q3
     subst e0 e1 e4 e5 q0 q1 q2 q3 k2
     refine⟨⟨a0,a1,b0,b1,b2,b3,s,t,c8⟩,rfl,⟨hs,ht⟩,?_,⟨ks,k1,k4⟩,C5j w1⟩
     obtain⟨A,c,e,_⟩:=k1.form
     show c8.oneCell'=true
     rw[e]
     rfl
structure C37 (W:World) (v:Value) (l:List D11):Prop where
 r:DsR W v l
 f:∀x∈l,B9H W x
theorem A9k{H:Type}{enc:TypeId×Value->H}{W:World}{U:Nat}{r:Reach}{v:Value}{d:DataW H}{p:List MemPlace}(hv:Value.okWide Tryz.prog W r U 22 v)(h:DataW.Trod enc Tryz.prog W 0 (λ_=>true) true 22 v d p):∃l,C37 W v l:=by
 obtain⟨a,aA,Y,rfl⟩:=okWide_slice Tryz.underlying22 hv
 obtain⟨Z,X⟩:=h
 obtain⟨l,V,I⟩:=A7J (λx=>(d11 x).toList) 9 (λd=>B9H W d) Tryz.underlying22 B5v (by decide) (λ_=>rfl) (λh=>B9J h) (by simpa[Value.cells]using X)
 exact⟨l,⟨V,λx J=>(I x J).1,λx J=>(I x J).2.1⟩,I⟩
end
section
open Go.RowKit Go.Maps
theorem Hs.ok{W w:World}{Z:Nat->Prop}{d o n N k:Nat}{A:As}(h:Hs W w Z d o n N k A):OkA A:=by
 obtain⟨E,I,_⟩:=h.ex
 exact I.ok
theorem Hs.same{W w:World}{Z:Nat->Prop}{d o n N k:Nat}{A:As}(h:Hs W w Z d o n N k A){I:Nat}(V:I=k+3):Hs W w Z d o n N I A:=by
 obtain⟨E,J,U⟩:=h.ex
 rw[V]
 exact⟨⟨E,J.later,U⟩,h.adv,h.zb⟩
theorem Hs.nowrite{W w:World}{Z:Nat->Prop}{d o n N k:Nat}{A:As}(h:Hs W w Z d o n N k A){i g a:Int}{s:ByteArray}{e:Int}(I:V1 A i g 2=e/\e≠0/\(0<=a/\a<8)/\s.size<=64):
 Calls Tryz.prog 35 #[.pointer (some ⟨o,0,none⟩),.agg #[.int .i64 i,.int .i64 g],.int .i64 a,.string s] w λr w'=>r= .returned (.tuple #[.int .u64 0,.int .i64 e])/\B1 B5 w B5 w':=by
 obtain⟨E,J,h2,_⟩:=h.ex
 have U:A3m E.H i g a s=e:=by unfold A3m;rw[if_pos I.2.2.1,if_pos I.2.2.2,J.rq.ofk,I.1]
 have:=B4Y J.so J.rq.sw i g a s (λh0=>absurd (U.symm.trans h0) I.2.1)
 rw[h2]at this
 refine this.mono λr w' hr=>?_
 rcases hr with⟨_,X,Y⟩|⟨V,_⟩
 ·rw[U]at X;exact⟨X,Y⟩
 ·rw[U]at V;exact absurd V I.2.1
theorem A9l{w:World}{b o:Nat}{x:D11}(h:w.rangeAt b o (d11 x).toList):w.cell? ⟨b,o,none⟩=some (.int .i64 x.k):=h 0 _ rfl
def GnQ(W:World)(d o:Nat)(I:Nat)(t11:Value)(wr:World):Prop:=∃(i:Nat) (A:As),t11= .int .i64 (i:Int)/\i<=I/\Hs W wr B5 d o 20 102 (3 * i+3) A
def GmQ(W:World)(d o I:Nat)(U J:Nat)(X:En)(t13:Value)(wr:World):Prop:=∃(i:Nat) (A:As),t13= .int .i64 (i:Int)/\i<=U/\Hs W wr (λj=>B5 j\/j=I) d o 20 102 (3 * i+J) A/\A1m A X.i X.g/\C3 wr I 74 (ea X)
theorem B7b(w:World)(v1:Value)(h1:∃l,C37 w v1 l)(v2:Value)(h2:∃l,C37 w v2 l)(s:ByteArray)(U:s.size<=maxLen):Calls Tryz.prog 6 #[v1,v2,.string s] w λe w'=>e= .returned (.bool true)/\Below w.heap.size w w':=by
 obtain⟨l1,q1⟩:=h1
 obtain⟨l2,q2⟩:=h2
 have cO:=C5Z (show Calls Tryz.prog 9 #[v1,.int .i64 15] w λx w'=>∃v',x= .returned v'/\DsO w (T9 15 l1) v' w' from A9j v1 l1 15 (by decide) w q1.r)
 have cP:=C5Z (λV (a:B1 B5 w B5 V)=>show Calls Tryz.prog 9 #[v2,.int .i64 20] V λx w'=>∃v',x= .returned v'/\DsO V (T9 20 l2) v' w' from A9j v2 l2 20 (by decide) V (q2.r.step a))
 have HL:=C5Z (And.intro q1.r.one q2.r.one)
 have cV:=C5Z (λV=>show Calls Tryz.prog 30 #[.string s,.int .i64 20] V λe w'=>e= .returned (.string (A3V 20 s))/\V=w' from A5f s 20 V (by decide) U)
 have cY:=A5v 20 s
 obtain⟨s',cX⟩:∃s',s'=A3V 20 s:=⟨_,rfl⟩
 rw[<-cX]at cV cY
 have aE:=C5Z (show s'.size<=maxLen by unfold maxLen;omega)
 obtain⟨n1,cH⟩:∃n1,n1=(T9 15 l1).length:=⟨_,rfl⟩
 obtain⟨n2,cJ⟩:∃n2,n2=(T9 20 l2).length:=⟨_,rfl⟩
 have bY:=C5Z cH
 have bZ:=C5Z cJ
 have bO:=C5Z (show n1<=15 by rw[cH,A1Y];omega)
 have cT:=C5Z (show n2<=20 by rw[cJ,A1Y];omega)
 have dN:(n1:Int)<=15:=by have:=bO.out;omega
 have dO:(n2:Int)<=20:=by have:=cT.out;omega
 have dG:=C5Z (λV=>C1M 102 (by decide) (by decide) V)
 have dJ:=C5Z (λV0 V (F:Nat->Prop) d (h:Dk V F d 102 (newS 102)) (a:B1 B5 V0 F V)=>show Calls Tryz.prog 11 #[.pointer (some ⟨d,0,none⟩),.int .i64 20] V λe w'=>∃o,e= .returned (.tuple #[.pointer (some ⟨o,0,none⟩),.int .i64 0])/\Hs V0 w' B5 d o 20 102 3 A0 from Hs.open_ V0 d 20 102 (by decide) h a)
 clear q1 q2 U cY cX cH cJ
 go_enter Tryz.func6,Tryz.ntmps6
 go_wp2_with (first
  |(go_at_call 9;refine cO.out.mono ?_;rintro e w1 ⟨v5,rfl,ho⟩;obtain⟨A5,c5,rfl⟩:=ho.form;rw[<-bY.out]at ho⊢;have bP:=C5Z ho;clear ho cO)
  |(go_at_call 9;refine(cP.out _ bP.out.adv).mono ?_;rintro e w2 ⟨v6,rfl,ho⟩;obtain⟨A6,c6,rfl⟩:=ho.form;rw[<-bZ.out]at ho⊢;have cL:=C5Z ho.adv;have cQ:=C5Z ((bP.out.step cL.out).dsr HL.out.1);have cR:=C5Z (ho.dsr HL.out.2);have bS:=C5Z (bP.out.adv.trans cL.out);clear ho cP bP)
  |(go_at_call 30;refine(cV.out _).mono ?_;rintro e w3 ⟨rfl,rfl⟩)
  |(go_at_call 10;refine(dG.out _).mono ?_;rintro e w3 ⟨d,F,rfl,hd,I⟩;have cN:=C5Z hd;have cK:=C5Z I;clear hd I)
  |(go_at_call 11;refine(dJ.out _ _ _ _ cN.out cK.out).mono ?_;rintro e w4 ⟨o,rfl,U⟩;have cU:=C5Z U;clear U cN cK)
  |fail)
 go_loopw [11] (GnQ w2 d o n1) (λt _=>n1-(intOf t).toNat)
 case atStart=>exact⟨0,A0,rfl,Nat.zero_le _,cU.out⟩
 case round=>
  obtain⟨i,A,rfl,hi,U⟩:=hrel
  have HS:=C5Z U
  have HI:=C5Z hi
  clear cU
  by_cases aS:i<n1
  ·have aB:=C5Z aS
   have bJ:i<(T9 15 l1).length:=by have:=bY.out;omega
   obtain⟨x,hx⟩:∃x,x=(T9 15 l1)[i]:=⟨_,rfl⟩
   have aU:(T9 15 l1)[i]? =some x:=by rw[hx];exact List.getElem?_eq_getElem bJ
   obtain⟨_,b,o',cE,aT⟩:=(cQ.out.step HS.out.adv).range bY.out aU
   subst cE
   have cB:=C5Z aT
   have c0:=A9l aT
   have bK:=cQ.out.sz x (List.mem_of_getElem? aU)
   have aI:=C5Z (λ(hk:0<=x.k/\x.k<5)=>B2y HS.out (by have:=HI.out;have:=bO.out;omega) x hk bK)
   obtain⟨W,aV⟩:∃W,W=x.k:=⟨_,rfl⟩
   have cD:=C5Z aV
   rw[<-aV]at c0
   have cG:(i:Int)<(n1:Int):=by omega
   clear aS bJ hx aU aT bK aV hi U
   have cF:W<0\/5<=W\/(0<=W/\W<5):=by omega
   rcases cF with aA|aA|aA
   ·have k1:(0<=W)=False:=eq_false (by omega)
    clear aA aI
    go_wp2_with fail
    exact⟨⟨i+1,A,by simp,by have:=aB.out;omega,HS.out.same (by omega)⟩,by have:=aB.out;simp[intOf]<;>omega⟩
   ·have k1:(0<=W)=True:=eq_true (by omega)
    have k2:(W<5)=False:=eq_false (by omega)
    clear aA aI
    go_wp2_with fail
    exact⟨⟨i+1,A,by simp,by have:=aB.out;omega,HS.out.same (by omega)⟩,by have:=aB.out;simp[intOf]<;>omega⟩
   ·have k1:(0<=W)=True:=eq_true aA.1
    have k2:(W<5)=True:=eq_true aA.2
    have bV:=C5Z (aI.out (by rw[<-cD.out];exact aA))
    clear aA aI
    go_wp2_with (first
     |(refine wpList_load_mid rfl 38 (.tmp 61) rfl b _ rfl ((d11 x).toList) _ cB.out Tryz.underlying38 rfl (by rw[A0X];rfl) ?_)
     |(go_at_call 14;refine bV.out.mono ?_;rintro e w6 ⟨rfl,U,hk⟩;have bR:=C5Z U;have dM:=C5Z hk;clear U hk)
     |fail)
    exact⟨⟨i+1,_,by simp,by have:=aB.out;omega,by rw[show 3 * (i+1)+3=3 * i+3+3 by omega];exact bR.out⟩,by have:=aB.out;simp[intOf]<;>omega⟩
  ·obtain rfl:i=n1:=by omega
   have cG:¬(i:Int)<(i:Int):=by omega
   clear aS hi U
   obtain⟨X,hX⟩:∃X,X=(open Classical in if Nam s' then fdX A 1 1 s' else A1i):=⟨_,rfl⟩
   obtain⟨le,cW⟩:∃le,le=(open Classical in if Nam s' then fdE A 1 1 s' else 9):=⟨_,rfl⟩
   have bX:=C5Z (λV (h:Hs w2 V B5 d o 20 102 (3 * i+3) A)=>show Calls Tryz.prog 31 #[.pointer (some ⟨o,0,none⟩),.agg #[.int .i64 1,.int .i64 1],.string s'] V λe w'=>e= .returned (.tuple #[.agg (ea X),.int .i64 le])/\B1 B5 V B5 w' from(by rw[hX,cW];exact h.lookup 1 1 s' aE.out))
   obtain⟨R,hR⟩:∃R,R=A2H A 1 1 s':=⟨_,rfl⟩
   have bD:=C5Z (λV Z (h:Hs w2 V Z d o 20 102 (3 * i+3) A)=>show Calls Tryz.prog 33 #[.pointer (some ⟨o,0,none⟩),.agg #[.int .i64 1,.int .i64 1],.string s'] V λr w'=>r= .returned (.int .i64 R.2)/\Hs w2 w' Z d o 20 102 (3 * i+3+3) R.1/\R6 Z V w' from(by rw[hR];exact h.remove (by have:=bO.out;omega) 1 1 s' aE.out))
   obtain⟨K,hK⟩:∃K,K=3 * i+3+3:=⟨_,rfl⟩
   have HK:=C5Z (show K<=51 by have:=bO.out;omega)
   have bB:=C5Z (λ(h0:R.2=0)=>show A1m R.1 X.i X.g from(by
    rw[hR]at h0⊢
    obtain⟨a1,_,a3⟩:=B7a h0
    rw[hX,if_pos a1]
    exact a3))
   rw[<-hK]at bD
   obtain⟨R1,R2⟩:=R
   simp only at bD bB
   clear hX cW hR hK
   by_cases h0:le=0
   ·subst h0
    by_cases h1:R2=0
    ·subst h1
     have dF:=C5Z (bB.out rfl)
     have bT:=C5Z (λ(Z:Nat->Prop) V B k (h:Hs w2 V Z d o 20 102 k B) (g:A1m B X.i X.g)=>show Calls Tryz.prog 28 #[.pointer (some ⟨o,0,none⟩),.agg #[.int .i64 X.i,.int .i64 X.g]] V λe w'=>e= .returned (.tuple #[.agg #[.int .i64 0,.int .u64 0,.int .i64 0],.int .i64 14])/\B1 B5 V B5 w' from(by
      have hh:=h.attr X.i X.g
      obtain⟨g1,g2,_⟩:=g.says 0 (by decide) ⟨#[120]⟩ (by decide) (102-2-20)
      rw[g1,g2]at hh
      exact hh))
     have cA:=C5Z (λ(Z:Nat->Prop) V B k (h:Hs w2 V Z d o 20 102 k B) (g:A1m B X.i X.g)=>show Calls Tryz.prog 34 #[.pointer (some ⟨o,0,none⟩),.agg #[.int .i64 X.i,.int .i64 X.g],.int .i64 0] V λe w'=>e= .returned (.tuple #[.string ⟨#[]⟩,.int .u64 0,.int .i64 14])/\B1 B5 V B5 w' from(by
      have hh:=h.read X.i X.g 0
      obtain⟨_,_,g3,_⟩:=g.says 0 (by decide) ⟨#[120]⟩ (by decide) (102-2-20)
      have g4:rbT B X.i X.g 0=⟨#[]⟩:=by unfold rbT;rw[g3];rfl
      have g5:rbV B X.i X.g 0=0:=by unfold rbV;rw[g3];rfl
      rw[g3,g4,g5]at hh
      exact hh))
     have cC:=C5Z (λ(Z:Nat->Prop) V B k (h:Hs w2 V Z d o 20 102 k B) (g:A1m B X.i X.g)=>show Calls Tryz.prog 35 #[.pointer (some ⟨o,0,none⟩),.agg #[.int .i64 X.i,.int .i64 X.g],.int .i64 0,.string ⟨#[120]⟩] V λe w'=>e= .returned (.tuple #[.int .u64 0,.int .i64 14])/\B1 B5 V B5 w' from(by
      exact h.nowrite ⟨by unfold V1;rw[if_neg g.n],by decide,by decide,by decide⟩))
     clear bB
     go_wp2_with (first
      |(go_at_call 32;refine(X6 _).mono ?_;rintro e w7 ⟨rfl,I⟩;have aH:=C5Z (HS.out.step I);clear I HS)
      |(go_at_call 31;refine(bX.out _ aH.out).mono ?_;rintro e w8 ⟨rfl,I⟩;have aL:=C5Z (aH.out.step I);clear I aH)
      |(refine B9 rfl rfl D1 ?_;intro Y w9 hz J I;have aP:=C5Z hz;have aK:=C5Z J;have aY:=C5Z I;clear hz J I)
      |(refine B7 (t:=74) rfl _ _ rfl Y aK.out rfl rfl C7 (C6 _) (C6 _) (L8 _) ?_;intro cZ J I;have aW:=C5Z J;have aR:=C5Z (aL.out.more (aY.out.fresh aP.out I) Y aP.out J.lt);clear J I aL aK)
      |(go_at_call 32;refine(X6 _).mono ?_;rintro e dK ⟨rfl,I⟩;have bF:=C5Z (aR.out.step I);have aZ:=C5Z (aW.out.over I);clear I aR aW)
      |(go_at_call 33;refine(bD.out _ _ bF.out).mono ?_;rintro e dL ⟨rfl,U,hk⟩;have bQ:=C5Z U;have bU:=C5Z (aZ.out.keep (hk Y (.inr rfl)));clear U hk bF aZ)
      |fail)
     go_loopw [13] (GmQ w2 d o Y n2 K X) (λt _=>n2-(intOf t).toNat)
     case atStart=>exact⟨0,R1,rfl,Nat.zero_le _,by rw[Nat.mul_zero,Nat.zero_add];exact bQ.out,dF.out,bU.out⟩
     case round=>
      obtain⟨i,A,rfl,hi,U,hg,J⟩:=hrel
      have HS:=C5Z U
      have HI:=C5Z hi
      have HG:=C5Z hg
      have HB:=C5Z J
      have dH:=C5Z U.ok
      clear bQ bU hg J
      by_cases aS:i<n2
      ·have aB:=C5Z aS
       have bJ:i<(T9 20 l2).length:=by have:=bZ.out;omega
       obtain⟨x,hx⟩:∃x,x=(T9 20 l2)[i]:=⟨_,rfl⟩
       have aU:(T9 20 l2)[i]? =some x:=by rw[hx];exact List.getElem?_eq_getElem bJ
       obtain⟨_,b,o',cE,aT⟩:=(cR.out.step HS.out.adv).range bZ.out aU
       subst cE
       have cB:=C5Z aT
       have c0:=A9l aT
       have bK:=cR.out.sz x (List.mem_of_getElem? aU)
       have aI:=C5Z (λ(hk:0<=x.k/\x.k<5)=>B2y HS.out (by have:=HI.out;have:=cT.out;have:=HK.out;omega) x hk bK)
       obtain⟨W,aV⟩:∃W,W=x.k:=⟨_,rfl⟩
       have cD:=C5Z aV
       rw[<-aV]at c0
       have cG:(i:Int)<(n2:Int):=by omega
       clear aS bJ hx aU aT bK aV hi U
       have cF:W<0\/5<=W\/(0<=W/\W<5):=by omega
       rcases cF with aA|aA|aA
       ·have k1:(0<=W)=False:=eq_false (by omega)
        clear aA aI
        go_wp2_with (first
         |(refine wpList_load_mid rfl 35 (.tmp 109) rfl Y 1 rfl [.int .i64 X.i,.int .i64 X.g] _ (Q0 HB.out) Tryz.underlying35 rfl (by rw[B0];rfl) ?_)
         |(go_at_call 28;refine(bT.out _ _ _ _ HS.out HG.out).mono ?_;rintro e dA ⟨rfl,I⟩;have aE:=C5Z (HS.out.step I);have aJ:=C5Z (HB.out.over I);clear I)
         |(refine B9 rfl rfl A0S ?_;intro aQ dB hz J I;have bI:=C5Z hz;have aX:=C5Z I;have aM:=C5Z J;clear hz J I)
         |(refine B7 (t:=70) rfl _ _ rfl aQ aM.out rfl rfl R0 rfl rfl (A3T _ _ _) ?_;intro dC J I;have hA:=aX.out.fresh bI.out I;have aN:=C5Z J;have aF:=C5Z (aE.out.step hA);have aC:=C5Z (aJ.out.over hA);clear J I hA aE aJ aM)
         |(refine wpList_load_mid rfl 35 (.tmp 116) rfl Y 1 rfl [.int .i64 X.i,.int .i64 X.g] _ (Q0 aC.out) Tryz.underlying35 rfl (by rw[B0];rfl) ?_)
         |(go_at_call 34;refine(cA.out _ _ _ _ aF.out HG.out).mono ?_;rintro e dD ⟨rfl,I⟩;have aG:=C5Z (aF.out.step I);have aD:=C5Z (aC.out.over I);have aO:=C5Z (aN.out.over I);clear I aF aC aN)
         |(refine wpList_load_mid rfl 35 (.tmp 124) rfl Y 1 rfl [.int .i64 X.i,.int .i64 X.g] _ (Q0 aD.out) Tryz.underlying35 rfl (by rw[B0];rfl) ?_)
         |(go_at_call 35;refine(cC.out _ _ _ _ aG.out HG.out).mono ?_;rintro e dE ⟨rfl,I⟩;have bG:=C5Z (aG.out.step I);have bA:=C5Z (aD.out.over I);have bH:=C5Z (aO.out.over I);clear I aG aD aO)
         |(refine B6 (t:=70) rfl _ rfl aQ bH.out rfl Tryz.underlying70 rfl R0 rfl ?_)
         |(refine Z8 rfl rfl ?_)
         |fail)
        exact⟨⟨i+1,A,by simp,by have:=aB.out;omega,bG.out.same (by omega),HG.out,bA.out⟩,by have:=aB.out;simp[intOf]<;>omega⟩
       ·have k1:(0<=W)=True:=eq_true (by omega)
        have k2:(W<5)=False:=eq_false (by omega)
        clear aA aI
        go_wp2_with (first
         |(refine wpList_load_mid rfl 35 (.tmp 109) rfl Y 1 rfl [.int .i64 X.i,.int .i64 X.g] _ (Q0 HB.out) Tryz.underlying35 rfl (by rw[B0];rfl) ?_)
         |(go_at_call 28;refine(bT.out _ _ _ _ HS.out HG.out).mono ?_;rintro e dA ⟨rfl,I⟩;have aE:=C5Z (HS.out.step I);have aJ:=C5Z (HB.out.over I);clear I)
         |(refine B9 rfl rfl A0S ?_;intro aQ dB hz J I;have bI:=C5Z hz;have aX:=C5Z I;have aM:=C5Z J;clear hz J I)
         |(refine B7 (t:=70) rfl _ _ rfl aQ aM.out rfl rfl R0 rfl rfl (A3T _ _ _) ?_;intro dC J I;have hA:=aX.out.fresh bI.out I;have aN:=C5Z J;have aF:=C5Z (aE.out.step hA);have aC:=C5Z (aJ.out.over hA);clear J I hA aE aJ aM)
         |(refine wpList_load_mid rfl 35 (.tmp 116) rfl Y 1 rfl [.int .i64 X.i,.int .i64 X.g] _ (Q0 aC.out) Tryz.underlying35 rfl (by rw[B0];rfl) ?_)
         |(go_at_call 34;refine(cA.out _ _ _ _ aF.out HG.out).mono ?_;rintro e dD ⟨rfl,I⟩;have aG:=C5Z (aF.out.step I);have aD:=C5Z (aC.out.over I);have aO:=C5Z (aN.out.over I);clear I aF aC aN)
         |(refine wpList_load_mid rfl 35 (.tmp 124) rfl Y 1 rfl [.int .i64 X.i,.int .i64 X.g] _ (Q0 aD.out) Tryz.underlying35 rfl (by rw[B0];rfl) ?_)
         |(go_at_call 35;refine(cC.out _ _ _ _ aG.out HG.out).mono ?_;rintro e dE ⟨rfl,I⟩;have bG:=C5Z (aG.out.step I);have bA:=C5Z (aD.out.over I);have bH:=C5Z (aO.out.over I);clear I aG aD aO)
         |(refine B6 (t:=70) rfl _ rfl aQ bH.out rfl Tryz.underlying70 rfl R0 rfl ?_)
         |(refine Z8 rfl rfl ?_)
         |fail)
        exact⟨⟨i+1,A,by simp,by have:=aB.out;omega,bG.out.same (by omega),HG.out,bA.out⟩,by have:=aB.out;simp[intOf]<;>omega⟩
       ·have k1:(0<=W)=True:=eq_true aA.1
        have k2:(W<5)=True:=eq_true aA.2
        have bV:=C5Z (aI.out (by rw[<-cD.out];exact aA))
        clear aA aI
        go_wp2_with (first
         |(refine wpList_load_mid rfl 38 (.tmp 104) rfl b _ rfl ((d11 x).toList) _ cB.out Tryz.underlying38 rfl (by rw[A0X];rfl) ?_)
         |(go_at_call 14;refine bV.out.mono ?_;rintro e w6 ⟨rfl,U,hk⟩;have bR:=C5Z U;have cM:=C5Z (HB.out.keep (hk Y (.inr rfl)));have bM:=C5Z (HG.out.step (D7.does (M:=102-2-20) dH.out x));clear U hk HB)
         |(refine wpList_load_mid rfl 35 (.tmp 109) rfl Y 1 rfl [.int .i64 X.i,.int .i64 X.g] _ (Q0 cM.out) Tryz.underlying35 rfl (by rw[B0];rfl) ?_)
         |(go_at_call 28;refine(bT.out _ _ _ _ bR.out bM.out).mono ?_;rintro e dA ⟨rfl,I⟩;have aE:=C5Z (bR.out.step I);have aJ:=C5Z (cM.out.over I);clear I)
         |(refine B9 rfl rfl A0S ?_;intro aQ dB hz J I;have bI:=C5Z hz;have aX:=C5Z I;have aM:=C5Z J;clear hz J I)
         |(refine B7 (t:=70) rfl _ _ rfl aQ aM.out rfl rfl R0 rfl rfl (A3T _ _ _) ?_;intro dC J I;have hA:=aX.out.fresh bI.out I;have aN:=C5Z J;have aF:=C5Z (aE.out.step hA);have aC:=C5Z (aJ.out.over hA);clear J I hA aE aJ aM)
         |(refine wpList_load_mid rfl 35 (.tmp 116) rfl Y 1 rfl [.int .i64 X.i,.int .i64 X.g] _ (Q0 aC.out) Tryz.underlying35 rfl (by rw[B0];rfl) ?_)
         |(go_at_call 34;refine(cA.out _ _ _ _ aF.out bM.out).mono ?_;rintro e dD ⟨rfl,I⟩;have aG:=C5Z (aF.out.step I);have aD:=C5Z (aC.out.over I);have aO:=C5Z (aN.out.over I);clear I aF aC aN)
         |(refine wpList_load_mid rfl 35 (.tmp 124) rfl Y 1 rfl [.int .i64 X.i,.int .i64 X.g] _ (Q0 aD.out) Tryz.underlying35 rfl (by rw[B0];rfl) ?_)
         |(go_at_call 35;refine(cC.out _ _ _ _ aG.out bM.out).mono ?_;rintro e dE ⟨rfl,I⟩;have bG:=C5Z (aG.out.step I);have bA:=C5Z (aD.out.over I);have bH:=C5Z (aO.out.over I);clear I aG aD aO)
         |(refine B6 (t:=70) rfl _ rfl aQ bH.out rfl Tryz.underlying70 rfl R0 rfl ?_)
         |(refine Z8 rfl rfl ?_)
         |fail)
        exact⟨⟨i+1,_,by simp,by have:=aB.out;omega,by rw[show 3 * (i+1)+K=3 * i+K+3 by omega];exact bG.out,bM.out,bA.out⟩,by have:=aB.out;simp[intOf]<;>omega⟩
      ·obtain rfl:i=n2:=by omega
       have cG:¬(i:Int)<(i:Int):=by omega
       clear aS hi U
       go_wp2_with (first
        |(go_at_call 17;refine(A1X _).mono ?_;rintro e wL ⟨rfl,I⟩;have bC:=C5Z ((bS.out.trans HS.out.adv).trans I);clear I)
        |fail)
       go_ret
       exact⟨rfl,bC.out.toBelow⟩
    ·have J:(R2 !=0)=true:=by rw[bne_iff_ne];exact h1
     clear h1 bB
     go_wp2_with (first
      |(go_at_call 32;refine(X6 _).mono ?_;rintro e w7 ⟨rfl,I⟩;have aH:=C5Z (HS.out.step I);clear I HS)
      |(go_at_call 31;refine(bX.out _ aH.out).mono ?_;rintro e w8 ⟨rfl,I⟩;have aL:=C5Z (aH.out.step I);clear I aH)
      |(refine B9 rfl rfl D1 ?_;intro Y w9 hz J I;have aP:=C5Z hz;have aK:=C5Z J;have aY:=C5Z I;clear hz J I)
      |(refine B7 (t:=74) rfl _ _ rfl Y aK.out rfl rfl C7 (C6 _) (C6 _) (L8 _) ?_;intro cZ J I;have aW:=C5Z J;have aR:=C5Z (aL.out.more (aY.out.fresh aP.out I) Y aP.out J.lt);clear J I aL aK)
      |(go_at_call 32;refine(X6 _).mono ?_;rintro e dK ⟨rfl,I⟩;have bF:=C5Z (aR.out.step I);have aZ:=C5Z (aW.out.over I);clear I aR aW)
      |(go_at_call 33;refine(bD.out _ _ bF.out).mono ?_;rintro e dL ⟨rfl,U,hk⟩;have bQ:=C5Z U;have bU:=C5Z (aZ.out.keep (hk Y (.inr rfl)));clear U hk bF aZ)
      |(go_at_call 17;refine(A1X _).mono ?_;rintro e wL ⟨rfl,I⟩;have bC:=C5Z ((bS.out.trans bQ.out.adv).trans I);clear I)
      |fail)
     go_ret
     exact⟨rfl,bC.out.toBelow⟩
   ·have J:(le !=0)=true:=by rw[bne_iff_ne];exact h0
    clear h0 bB bD
    go_wp2_with (first
     |(go_at_call 32;refine(X6 _).mono ?_;rintro e w7 ⟨rfl,I⟩;have aH:=C5Z (HS.out.step I);clear I HS)
     |(go_at_call 31;refine(bX.out _ aH.out).mono ?_;rintro e w8 ⟨rfl,I⟩;have aL:=C5Z (aH.out.step I);clear I aH)
     |(refine B9 rfl rfl D1 ?_;intro Y w9 hz J I;have aP:=C5Z hz;have aK:=C5Z J;have aY:=C5Z I;clear hz J I)
     |(refine B7 (t:=74) rfl _ _ rfl Y aK.out rfl rfl C7 (C6 _) (C6 _) (L8 _) ?_;intro cZ J I;have aW:=C5Z J;have aR:=C5Z (aL.out.more (aY.out.fresh aP.out I) Y aP.out J.lt);clear J I aL aK)
     |(go_at_call 17;refine(A1X _).mono ?_;rintro e wL ⟨rfl,I⟩;have bC:=C5Z ((bS.out.trans aR.out.adv).trans I);clear I)
     |fail)
    go_ret
    exact⟨rfl,bC.out.toBelow⟩
end
end Go.Proofs.YtbefmjiclpobjaaGreat
