import Derived.Test.YtbefmjiclpobjaaGreatMj36
import Derived.Test.YtbefmjiclpobjaaGreatMj34
namespace Go.Proofs.YtbefmjiclpobjaaGreat
set_option maxRecDepth 3000
section
open Go.ChangeShapes Go.WideShapes Go.ChangeAt Go.RowKit Go.Deep
theorem B57:Tryz.prog.cellsOf 38=9:=by kernel_rfl
theorem B9R:Tryz.prog.cellsOf 36=1:=by kernel_rfl
def C3K(W:World)(x:D11):Prop:=∃I:List Int,Rd W 1 x.kv I.length (I.map (Value.int .i64))/\(∀b,x.kv.ownBlock=some b->0<I.length->b<W.heap.size)
structure C2s (z:Int):Prop where
 lo: -9223372036854775808<=z
 hi:z<9223372036854775808
def B9S(W:World)(x:D11):Prop:=(x.s.size<=maxLen/\x.t.size<=maxLen)/\x.kv.oneCell'=true/\C3K W x/\C2s x.n
theorem C54{z:Int}(h:(Lit.int .i64 z).wf=true):C2s z:=by
 have I:=bounds_i64 h
 exact⟨by omega,by omega⟩
theorem B9T{H:Type}{enc:TypeId×Value->H}{W:World}{n:Nat}{cs:List Value}{x:DataW H×List MemPlace}(h:DataW.trod enc Tryz.prog W 0 (λ_=>true) true n 38 cs=some x):
 ∃e:D11,cs=(d11 e).toList/\B9S W e:=by
 obtain⟨xs,m,_,_,aC,aD,I⟩:=DataW.trod_struct Tryz.underlying38 h
 rw[B57]at aC
 match cs,aC with
 |[c0,c1,c2,c3,c4,c5,c6,c7,c8],_=>
  match xs,aD with
  |[y0,y1,y2,y3,y4,y5,y6],_=>
   have J:=I 0 _ rfl
   have U:=I 1 _ rfl
   have V:=I 2 _ rfl
   have X:=I 3 _ rfl
   have Y:=I 4 _ rfl
   have Z:=I 5 _ rfl
   have f6:=I 6 _ rfl
   change DataW.trod enc Tryz.prog W 0 (λ_=>true) true m 3 ((([c0,c1,c2,c3,c4,c5,c6,c7,c8]:List Value).drop 0).take (Tryz.prog.cellsOf 3))=some y0 at J
   change DataW.trod enc Tryz.prog W 0 (λ_=>true) true m 3 ((([c0,c1,c2,c3,c4,c5,c6,c7,c8]:List Value).drop 1).take (Tryz.prog.cellsOf 3))=some y1 at U
   change DataW.trod enc Tryz.prog W 0 (λ_=>true) true m 35 ((([c0,c1,c2,c3,c4,c5,c6,c7,c8]:List Value).drop 2).take (Tryz.prog.cellsOf 35))=some y2 at V
   change DataW.trod enc Tryz.prog W 0 (λ_=>true) true m 35 ((([c0,c1,c2,c3,c4,c5,c6,c7,c8]:List Value).drop 4).take (Tryz.prog.cellsOf 35))=some y3 at X
   change DataW.trod enc Tryz.prog W 0 (λ_=>true) true m 9 ((([c0,c1,c2,c3,c4,c5,c6,c7,c8]:List Value).drop 6).take (Tryz.prog.cellsOf 9))=some y4 at Y
   change DataW.trod enc Tryz.prog W 0 (λ_=>true) true m 9 ((([c0,c1,c2,c3,c4,c5,c6,c7,c8]:List Value).drop 7).take (Tryz.prog.cellsOf 9))=some y5 at Z
   change DataW.trod enc Tryz.prog W 0 (λ_=>true) true m 36 ((([c0,c1,c2,c3,c4,c5,c6,c7,c8]:List Value).drop 8).take (Tryz.prog.cellsOf 36))=some y6 at f6
   rw[A3P]at J U
   rw[B29]at V X
   rw[A8s]at Y Z
   rw[B9R]at f6
   obtain⟨a0,e0,_,_⟩:=DataW.trod_int Tryz.underlying3 J
   obtain⟨a1,e1,_,w1⟩:=DataW.trod_int Tryz.underlying3 U
   obtain⟨z2,m2,_,_,_,aE,aA⟩:=DataW.trod_struct Tryz.underlying35 V
   obtain⟨z3,m3,_,_,_,aF,aB⟩:=DataW.trod_struct Tryz.underlying35 X
   obtain⟨s,e4,_,hs⟩:=DataW.trod_string Tryz.underlying9 Y
   obtain⟨t,e5,_,ht⟩:=DataW.trod_string Tryz.underlying9 Z
   obtain⟨nk,ks,k1,k2,_,k4⟩:=B28 Tryz.underlying36 Tryz.underlying3 A3P (v:=c8) f6
   match z2,aE with
   |[u0,u1],_=>
    match z3,aF with
    |[v0,v1],_=>
     have g0:=aA 0 _ rfl
     have g1:=aA 1 _ rfl
     have g2:=aB 0 _ rfl
     have g3:=aB 1 _ rfl
     change DataW.trod enc Tryz.prog W 0 (λ_=>true) true m2 3 ((([c2,c3]:List Value).drop 0).take (Tryz.prog.cellsOf 3))=some u0 at g0
     change DataW.trod enc Tryz.prog W 0 (λ_=>true) true m2 3 ((([c2,c3]:List Value).drop 1).take (Tryz.prog.cellsOf 3))=some u1 at g1
     change DataW.trod enc Tryz.prog W 0 (λ_=>true) true m3 3 ((([c4,c5]:List Value).drop 0).take (Tryz.prog.cellsOf 3))=some v0 at g2
     change DataW.trod enc Tryz.prog W 0 (λ_=>true) true m3 3 ((([c4,c5]:List Value).drop 1).take (Tryz.prog.cellsOf 3))=some v1 at g3
     rw[A3P]at g0 g1 g2 g3
     obtain⟨b0,q0,_,_⟩:=DataW.trod_int Tryz.underlying3 g0
     obtain⟨b1,q1,_,_⟩:=DataW.trod_int Tryz.underlying3 g1
     obtain⟨b2,q2,_,_⟩:=DataW.trod_int Tryz.underlying3 g2
     obtain⟨b3,q3,_,_⟩:=DataW.trod_int Tryz.underlying3 g3
     simp at e0 e1 e4 e5 q0 q1 q2 q3
     subst e0 e1 e4 e5 q0 q1 q2 q3 k2
     refine⟨⟨a0,a1,b0,b1,b2,b3,s,t,c8⟩,rfl,⟨hs,ht⟩,?_,⟨ks,k1,k4⟩,C54 w1⟩
     obtain⟨A,c,e,_⟩:=k1.form
     show c8.oneCell'=true
     rw[e]
     rfl
structure C4Y (W:World) (v:Value) (l:List D11):Prop where
 r:DsR W v l
 f:∀x∈l,B9S W x
theorem B7o{H:Type}{enc:TypeId×Value->H}{W:World}{U:Nat}{r:Reach}{v:Value}{d:DataW H}{p:List MemPlace}(hv:Value.okWide Tryz.prog W r U 22 v)(h:DataW.Trod enc Tryz.prog W 0 (λ_=>true) true 22 v d p):∃l,C4Y W v l:=by
 obtain⟨a,aA,Y,rfl⟩:=okWide_slice Tryz.underlying22 hv
 obtain⟨Z,X⟩:=h
 obtain⟨l,V,I⟩:=A7P (λx=>(d11 x).toList) 9 (λd=>B9S W d) Tryz.underlying22 B57 (by decide) (λ_=>rfl) (λh=>B9T h) (by simpa[Value.cells]using X)
 exact⟨l,⟨V,λx J=>(I x J).1,λx J=>(I x J).2.1⟩,I⟩
end
section
open Go.RowKit Go.Maps
theorem Hs.ok{W w:World}{Z:Nat->Prop}{d o n N k:Nat}{A:As}(h:Hs W w Z d o n N k A):OkA A:=by
 obtain⟨E,I,_⟩:=h.ex
 exact I.ok
theorem Hs.same{W w:World}{Z:Nat->Prop}{d o n N k:Nat}{A:As}(h:Hs W w Z d o n N k A){I:Nat}(V:I=k+3):Hs W w Z d o n N I A:=by
 obtain⟨E,J,U⟩:=h.ex
 rw[V]
 exact⟨⟨E,J.later,U⟩,h.adv,h.zb⟩
theorem B7p{w:World}{b o:Nat}{x:D11}(h:w.rangeAt b o (d11 x).toList):w.cell? ⟨b,o,none⟩=some (.int .i64 x.k):=h 0 _ rfl
end
section
open Go.RowKit Go.Maps
theorem A18:∀{l:List Int},l.Pairwise (·≠·)->∀a,l.count a<=1
 |[],_,_=>by simp
 |x::l,h,a=>by
  obtain⟨I,J⟩:=List.pairwise_cons.1 h
  rw[List.count_cons]
  by_cases e:x=a
  ·have h3:l.count a=0:=List.count_eq_zero.2 (λU=>I a U e)
   rw[h3]
   split<;>omega
  ·have h3:=A18 J a
   rw[if_neg (by simpa using e)]
   omega
theorem B2A{l:List Int}(h:l.Pairwise (·≠·))(a:Int):l.count a=if a∈l then 1 else 0:=by
 have J:=A18 h a
 by_cases I:a∈l
 ·have U:=List.count_pos_iff.2 I
  rw[if_pos I]
  omega
 ·rw[if_neg I]
  exact List.count_eq_zero.2 I
theorem B2B{x:L6}{i:Nat}(I:x.a i≠0):∀{j:Nat},i<j->x.a i∈nzI x j
 |0,h=>absurd h (Nat.not_lt_zero _)
 |j+1,h=>by
  unfold nzI
  by_cases e:i=j
  ·subst e
   rw[if_pos I]
   simp
  ·have J:=B2B I (show i<j by omega)
   split
   ·exact List.mem_append.2 (.inl J)
   ·exact J
theorem B58{x:L6}(hi:∀j I,j<8->I<8->x.a j≠0->x.a j=x.a I->j=I):∀{n:Nat},n<=8->(nzI x n).Pairwise (·≠·)
 |0,_=>List.Pairwise.nil
 |n+1,hn=>by
  have U:=B58 hi (show n<=8 by omega)
  unfold nzI
  split
  ·rename_i Y
   refine List.pairwise_append.2 ⟨U,List.pairwise_singleton _ _,λa W b X e=>?_⟩
   obtain⟨k,Z,J,V⟩:=A1P W
   rw[List.mem_singleton.1 X,<-J]at e
   have:=hi k n (by omega) (by omega) (by rw[J];exact V) e
   omega
  ·exact U
def A2E(H:Nat->List Nat):Nat->List Int
 |0=>[]
 |m+1=>A2E H m++nzI (C9 H (m+1)) 8
theorem B2C(H:Nat->List Nat):∀m,(A2E H m).length<=8 * m
 |0=>Nat.le_refl _
 |m+1=>by
  have I:=B2C H m
  have J:=A6W (C9 H (m+1)) 8
  show(A2E H m++_).length<=_
  rw[List.length_append]
  omega
theorem A4B{H:Nat->List Nat}{a:Int}:∀{m:Nat},a∈A2E H m↔a≠0/\∃i j,1<=i/\i<=m/\j<8/\(C9 H i).a j=a
 |0=>by
  constructor
  ·intro h;simp[A2E]at h
  ·rintro⟨_,i,j,J,U,_⟩;omega
 |m+1=>by
  show a∈A2E H m++_↔_
  rw[List.mem_append,A4B (m:=m)]
  constructor
  ·rintro(⟨I,i,j,J,U,h3⟩|h)
   ·exact⟨I,i,j,J,by omega,h3⟩
   ·obtain⟨j,V,e,I⟩:=A1P h
    exact⟨I,m+1,j,by omega,Nat.le_refl _,V,e⟩
  ·rintro⟨I,i,j,J,U,h3,e⟩
   by_cases c:i=m+1
   ·subst c
    refine .inr ?_
    rw[<-e]
    exact B2B (by rw[e];exact I) h3
   ·exact .inl ⟨I,i,j,J,by omega,h3,e⟩
section
variable {H:Nat->List Nat} {M:Nat} {A:As}
theorem Rq.plcs_pair(h:Rq H M A):∀{m:Nat},m<=40->(A2E H m).Pairwise (·≠·)
 |0,_=>List.Pairwise.nil
 |m+1,hm=>by
  refine List.pairwise_append.2 ⟨h.plcs_pair (show m<=40 by omega),B58 (λj I U W J e=>(h.ow.inj (m+1) j (m+1) I ⟨by omega,hm,U⟩ ⟨by omega,hm,W⟩ J e).2) (Nat.le_refl _),λa Z b hb e=>?_⟩
  obtain⟨J,i,j,U,W,h3,V⟩:=A4B.1 Z
  obtain⟨I,Y,X,_⟩:=A1P hb
  have h5:=h.ow.inj i j (m+1) I ⟨U,by omega,h3⟩ ⟨by omega,hm,Y⟩ (show(C9 H i).a j≠0 by rw[V];exact J) (show(C9 H i).a j=(C9 H (m+1)).a I by rw[V,X];exact e)
  omega
theorem Rq.plc_at(h:Rq H M A){m:Nat}(I:1<=m/\m<=40):∀a∈nzI (C9 H m) 8,42<=a/\a<M:=λa V=>by
 obtain⟨j,W,e,U⟩:=A1P V
 rcases h.ow.pt m j ⟨I.1,I.2,W⟩with y|y
 ·exact absurd (e.symm.trans y) U
 ·have J:42<=(C9 H m).a j/\(C9 H m).a j<(M:Int):=y
  rw[e]at J
  exact J
theorem Rq.home_at(h:Rq H M A){p:Nat}(hp:p<M):(p<42/\A7Z (D3 H M) (p:Int)=true/\(A2E H 40).count (p:Int)<=1)\/(42<=p/\(A2E H 40).count (p:Int)=1/\A7Z (D3 H M) (p:Int)=true)\/(42<=p/\(A2E H 40).count (p:Int)=0/\A7Z (D3 H M) (p:Int)=false):=by
 have I:=B2A (h.plcs_pair (Nat.le_refl 40)) (p:Int)
 have W:A7Z (D3 H M) (p:Int)=(D3 H M).getD p false:=by
  have hl:(D3 H M).length=M:=P2 _ _
  unfold A7Z
  rw[decide_eq_true (show U0 (D3 H M) (p:Int)from⟨by omega,by rw[hl];omega⟩),Bool.true_and,Int.toNat_natCast]
 by_cases X:p<42
 ·refine .inl ⟨X,?_,A18 (h.plcs_pair (Nat.le_refl 40)) _⟩
  rw[W]
  exact h.sw.low p X
 ·have Y:=h.ow.bit p (by omega) hp
  by_cases J:(p:Int)∈A2E H 40
  ·rw[if_pos J]at I
   obtain⟨_,i,j,U,V,h3,e⟩:=A4B.1 J
   exact .inr (.inl ⟨by omega,I,by rw[W];exact Y.2 ⟨i,j,⟨U,V,h3⟩,e⟩⟩)
  ·rw[if_neg J]at I
   refine .inr (.inr ⟨by omega,I,?_⟩)
   rw[W]
   cases e:(D3 H M).getD p false with
   |false=>rfl
   |true=>
    obtain⟨i,j,⟨U,V,h3⟩,Z⟩:=Y.1 e
    exact absurd (A4B.2 ⟨by omega,i,j,U,V,h3,Z⟩) J
end
def tms(A:As):Nat->List Int
 |0=>[]
 |m+1=>tms A m++(A.n (m+1)).l.map (·.i)
theorem A6o{A:As}{q:Int}:∀{m:Nat},q∈tms A m↔∃i x,1<=i/\i<=m/\x∈(A.n i).l/\x.i=q
 |0=>by
  constructor
  ·intro h;simp[tms]at h
  ·rintro⟨i,x,I,J,_⟩;omega
 |m+1=>by
  show q∈tms A m++_↔_
  rw[List.mem_append,A6o (m:=m),List.mem_map]
  constructor
  ·rintro(⟨i,x,I,J,h3⟩|⟨x,U,e⟩)
   ·exact⟨i,x,I,by omega,h3⟩
   ·exact⟨m+1,x,by omega,Nat.le_refl _,U,e⟩
  ·rintro⟨i,x,I,J,h3,e⟩
   by_cases c:i=m+1
   ·subst c;exact .inr ⟨x,h3,e⟩
   ·exact .inl ⟨i,x,I,by omega,h3,e⟩
theorem B7q{l:List En}(h:S6 l):l.Pairwise (·≠·):=List.pairwise_iff_getElem.2 λi j hi hj aA e=>by
 have Y:∀d,i+d<l.length->0<d->∃x y,l[i]? =some x/\l[i+d]? =some y/\ltS x.s y.s:=by
  intro d
  induction d with
  |zero=>intro _ h0;omega
  |succ d ih=>
   intro U _
   have I:=(h (i+(d+1)) _ (List.getElem?_eq_getElem U)).2 _ (by omega) (by rw[show i+(d+1)-1=i+d by omega];exact List.getElem?_eq_getElem (by omega))
   by_cases c:d=0
   ·subst c
    exact⟨_,_,List.getElem?_eq_getElem hi,List.getElem?_eq_getElem U,I⟩
   ·obtain⟨x,y,h3,J,Z⟩:=ih (by omega) (by omega)
    rw[List.getElem?_eq_getElem (by omega)]at J
    rw[Option.some.inj J]at I
    exact⟨x,_,h3,List.getElem?_eq_getElem U,A0a Z I⟩
 obtain⟨x,y,I,h3,J⟩:=Y (j-i) (by omega) (by omega)
 rw[List.getElem?_eq_getElem hi]at I
 rw[List.getElem?_eq_getElem (by omega)]at h3
 have W:=Option.some.inj I
 have V:=Option.some.inj h3
 have X:l[i+(j-i)]=l[j]:=by congr 1;omega
 rw[X]at V
 rw[<-W,<-V,e]at J
 exact Z0 _ J
section
variable {A:As}
theorem OkA.tms_len(h:OkA A):∀{m:Nat},m<=40->(tms A m).length<=24 * m
 |0,_=>Nat.le_refl _
 |m+1,hm=>by
  have I:=h.tms_len (show m<=40 by omega)
  have J:=(h.ok (m+1) (by omega) hm).few
  show(tms A m++_).length<=_
  rw[List.length_append,List.length_map]
  omega
theorem OkA.tms_pair(h:OkA A):∀{m:Nat},m<=40->(tms A m).Pairwise (·≠·)
 |0,_=>List.Pairwise.nil
 |m+1,hm=>by
  refine List.pairwise_append.2 ⟨h.tms_pair (show m<=40 by omega),?_,λa W b X e=>?_⟩
  ·rw[List.pairwise_map]
   refine(List.Pairwise.and_mem.1 (B7q (h.ok (m+1) (by omega) hm).rise)).imp λ{x y} I e=>I.2.2 ?_
   exact(h.tr.one (m+1) x (m+1) y (by omega) hm (by omega) hm I.1 I.2.1 (by rw[e])).2
  ·obtain⟨i,x,V,h2,Y,J⟩:=A6o.1 W
   obtain⟨y,Z,U⟩:=List.mem_map.1 X
   have:=(h.tr.one i x (m+1) y V (by omega) (by omega) hm Y Z (by rw[J,U,e])).1
   omega
theorem OkA.tm_count(h:OkA A){c:Nat}(Y:1<=c)(Z:c<=40):(tms A 40).count (c:Int)=if c=1\/(A.n c).k=0 then 0 else 1:=by
 rw[B2A (h.tms_pair (Nat.le_refl 40))]
 by_cases U:c=1\/(A.n c).k=0
 ·rw[if_pos U,if_neg]
  intro hm
  obtain⟨i,x,I,J,V,e⟩:=A6o.1 hm
  obtain⟨W,b2,b3⟩:=h.tr.ent i x I J V
  have X:x.i.toNat=c:=by omega
  rcases U with y|y
  ·omega
  ·obtain⟨o1,o2,o3,_⟩:=h.okE I J V
   rw[X,y]at W
   have:=o1.2.2.2.2.2.1
   omega
 ·rw[if_neg U,if_pos]
  obtain⟨i,x,I,J,V,e⟩:=h.tr.par c Y Z (λy=>U (.inr y)) (λy=>U (.inl y))
  have:=(h.okE I J V).2.1
  exact A6o.2 ⟨i,x,I,J,V,by omega⟩
def flN(A:As):Nat->Nat
 |0=>0
 |m+1=>flN A m+(if(A.n (m+1)).k=0 then 0 else 1)
def alN(T:List Int):Nat->Nat
 |0=>0
 |m+1=>alN T m+T.count ((m+1:Nat):Int)
theorem B9V(A:As):∀m,flN A m<=m
 |0=>Nat.le_refl _
 |m+1=>by
  have:=B9V A m
  unfold flN
  split<;>omega
theorem B9W{T:List Int}(h:∀a,T.count a<=1):∀m,alN T m<=m
 |0=>Nat.le_refl _
 |m+1=>by
  have:=B9W h m
  have:=h ((m+1:Nat):Int)
  unfold alN
  omega
theorem OkA.all_files(h:OkA A):∀m,1<=m->m<=40->alN (tms A 40) m+1=flN A m
 |0,h1,_=>absurd h1 (by decide)
 |m+1,_,h2=>by
  have I:=h.tm_count (c:=m+1) (by omega) h2
  have J:=h.tr.root.1
  unfold alN flN
  rw[I]
  by_cases c:m=0
  ·subst c
   rw[if_pos (.inl rfl),if_neg (by rw[J];decide)]
   rfl
  ·have U:=h.all_files m (by omega) (by omega)
   by_cases e:(A.n (m+1)).k=0
   ·rw[if_pos (.inr e),if_pos e];omega
   ·rw[if_neg (by omega),if_neg e];omega
end
def cnV(n:Nat)(L:List Int):Array Value:=((List.range n).map (λ(p:Nat)=>Value.int .i64 ((L.count (p:Int):Nat):Int))).toArray
def Io(w:World)(z n:Nat)(L:List Int):Prop:=C3 w z 3 (cnV n L)
section
variable {w:World} {z n k:Nat} {L:List Int}
theorem Io.at_(h:Io w z n L)(I:k<n):w.cell? ⟨z,k,none⟩=some (.int .i64 ((L.count (k:Int):Nat):Int))/\w.frozen? ⟨z,k,none⟩=false:=by
 refine⟨?_,C3.frozen h k⟩
 rw[C3.cell h]
 unfold cnV
 rw[List.getElem?_toArray,List.getElem?_map,List.getElem?_range I]
 rfl
theorem Io.put(h:Io w z n L){v:Int}(hv:v=((L.count (k:Int):Nat):Int)+1):Io (w.setCell ⟨z,k,none⟩ (.int .i64 v)) z n (L++[(k:Int)]):=by
 have J:=C3.set_ h k (.int .i64 v)
 unfold Io
 have e:cnV n (L++[(k:Int)])=(cnV n L).setIfInBounds k (.int .i64 v):=by
  unfold cnV
  rw[List.setIfInBounds_toArray]
  congr 1
  apply List.ext_getElem?
  intro j
  rw[List.getElem?_set,List.getElem?_map,List.getElem?_map,List.length_map,List.length_range]
  by_cases I:j<n
  ·rw[List.getElem?_range I]
   show some (Value.int .i64 (((L++[(k:Int)]).count (j:Int):Nat):Int))=_
   rw[List.count_append,List.count_singleton]
   by_cases c:k=j
   ·subst c
    rw[if_pos rfl,if_pos I,hv]
    simp
   ·rw[if_neg c,if_neg (by simp;omega)]
    rfl
  ·rw[List.getElem?_eq_none (by simpa using I)]
   by_cases c:k=j
   ·rw[if_pos c,if_neg (by omega)];rfl
   ·rw[if_neg c];rfl
 rw[e]
 exact J
end
theorem B00(n:Nat):madeCells #[Value.int .i64 0] (n * 1)=cnV n []:=by
 unfold madeCells cnV
 apply Array.ext_getElem?
 intro k
 rw[Array.getElem?_map]
 by_cases h:k<n
 ·rw[show(Array.range (n * 1))[k]? =some k from by rw[Array.getElem?_eq_getElem (by simpa using h)];simp]
  simp[h,Nat.mod_one]
 ·rw[Array.getElem?_eq_none (by simp;omega)]
  simp[h]
theorem B7r(n:Nat)(X:n<=1024)(w:World):(Instr.makeSlice 36 (.int .i64 (n:Int)) (.int .i64 (n:Int))).run Tryz.prog w= .ok (.slice (some ⟨w.heap.size,0,none⟩) n n) (w.alloc (.cells (cnV n []) 3)):=by
 obtain⟨W,J,V,U,I⟩:=info_parts C07
 have h:=run_make (P:=Tryz.prog) w 36 3 W _ Tryz.underlying36 J V .i64 .i64 n n (by omega) (Int.le_refl _) (by rw[I];omega) (by omega)
 rw[U]at h
 simp only[Value.cells,Int.toNat_natCast,B00]at h
 exact h
theorem B2D{ops:Array Oper}{rest:List Oper}{o:Oper}{a:Act}{w:World}{Q:Exit->Act->World->Prop}(I:o.guard=none)(x y:Operand)(n:Nat)(J:n<=1024)(U:o.op= .makeSlice 36 x y)(V:a.eval x= .int .i64 (n:Int))(W:a.eval y= .int .i64 (n:Int))
 (h:∀z w',w.heap.size<=z->Io w' z n []->B0 B5 w B5 w'->wpList Tryz.prog ops Q rest (a.put o.dst (.slice (some ⟨z,0,none⟩) n n)) w'):wpList Tryz.prog ops Q (o::rest) a w:=by
 refine wpList_plain I λK hK=>?_
 unfold Oper.wp execOp
 simp only[U,V,W,Sem.run_bind,B7r n J,Result.andThen_ok]
 exact hK _ _ (h _ _ (Nat.le_refl _) (C3.new _ _ _) ((B0.refl _ _).alloc _))
def Rdl(w:World)(l M:Nat)(H:Nat->List Nat):Prop:=∀i,i<M->∀W,B0 B5 w B5 W->Calls Tryz.prog 23 #[.pointer (some ⟨l,0,none⟩),.int .i64 (i:Int)] W (RdR W (H i))
theorem Hs.again{W w:World}{Z:Nat->Prop}{d o n N k:Nat}{A:As}(h:Hs W w Z d o n N k A)(hN:N<=1100):Calls Tryz.prog 22 #[.pointer (some ⟨d,0,none⟩),.int .i64 (n:Int)] w λe w'=>
 ∃l H,e= .returned (.tuple #[.pointer (some ⟨l,0,none⟩),.int .i64 0])/\Rq H (N-2-n) A/\Rdl w' l (N-2-n) H/\B0 B5 w B5 w':=by
 obtain⟨E,J,h2,h3,X,Y,_⟩:=h.ex
 obtain⟨V,aB,I⟩:=J.lv.ar
 have U:=J.lv.nn
 have hM:E.M=N-2-n:=Hs.M X Y
 have hx:=J.lv.nx
 have aA:=J.so.vu.rs.dk
 rw[h3,Y]at aA
 rw[X,Y]at I U
 have ht:=I.top U
 refine(A71 d N E.F E.s (n:Int) w aA I.sb_ (by omega) (by omega) (by omega)).mono λe w' hr=>?_
 rcases hr with⟨c,_⟩|⟨_,c,_⟩|⟨_,_,l,b,rfl,rs,_,ha⟩
 ·exact absurd (show 2<=(n:Int)/\(n:Int)+3<=(N:Int)by omega) c
 ·rw[Int.toNat_natCast]at c;omega
 ·rw[Int.toNat_natCast]at rs
  have hs:=I.says U
  refine⟨l,λi=>D8 E.s n (J4 E.s n N) i,rfl,?_,λi hi W' a=>?_,ha⟩
  ·rw[<-hM]
   refine J.rq.sameH λi hi=>?_
   rw[J.lv.home,X]
   exact A5s (M:=N-2-n) (I.again U) (by omega)
  ·exact B1c l b d n N i _ E.F E.s W' (rs.over a) U (by rw[hs.1];exact I.ok) hi
end
end Go.Proofs.YtbefmjiclpobjaaGreat
