import Derived.Test.YtbefmjiclpobjaaGreatMj31
import Derived.Test.YtbefmjiclpobjaaGreatMj28
import Derived.Test.YtbefmjiclpobjaaGreatMj32
import Derived.Test.YtbefmjiclpobjaaGreatMj30
import Derived.Test.YtbefmjiclpobjaaGreatMj25
namespace Go.Proofs.YtbefmjiclpobjaaGreat
set_option maxHeartbeats 6400000
set_option maxRecDepth 3000
section
open Go.RowKit Go.Maps
theorem A9f(f:Nat->List Nat)(i:Nat):∀(I:List Nat) (A:Nat->Option (List Nat)),putA A (I.map (λ(k:Nat)=>(⟨(k:Int),f k⟩:Pt))) i=if i∈I then some (f i)else A i
 |[],A=>rfl
 |k::I,A=>by
  show putA (Q9 A ((k:Int)).toNat (f k)) (I.map _) i=_
  rw[A9f f i I,Int.toNat_natCast]
  by_cases h:i∈I
  ·rw[if_pos h,if_pos (List.mem_cons_of_mem _ h)]
  ·rw[if_neg h]
   unfold Q9
   by_cases e:i=k
   ·rw[if_pos e,if_pos (List.mem_cons.2 (.inl e)),e]
   ·rw[if_neg e,if_neg (λx=>by rcases List.mem_cons.1 x with y|y;exact e y;exact h y)]
theorem A15{T:Nat->Option (List Nat)}{M i:Nat}:i∈N0 T M↔i<M/\(T i).isSome=true:=by
 unfold N0
 rw[List.mem_filter,List.mem_range]
theorem A5H(T:Nat->Option (List Nat))(M:Nat):(N0 T M).Nodup:=by
 unfold N0
 exact List.Nodup.sublist List.filter_sublist List.nodup_range
theorem B2y:∀{l K:List Nat},l.Nodup->(∀x∈l,x∈K)->l.length<=K.length
 |[],_,_,_=>Nat.zero_le _
 |a::l,K,h,hs=>by
  obtain⟨J,U,rfl⟩:=List.append_of_mem (hs a List.mem_cons_self)
  obtain⟨V,W⟩:=List.nodup_cons.1 h
  have:=B2y (K:=J++U) W (λx I=>by
   have:=hs x (List.mem_cons_of_mem _ I)
   rw[List.mem_append,List.mem_cons]at this
   rw[List.mem_append]
   rcases this with y|y|y
   ·exact .inl y
   ·rw[y]at I;exact absurd I V
   ·exact .inr y)
  rw[List.length_append]at this
  rw[List.length_cons,List.length_append,List.length_cons]
  omega
theorem A16{H H0:Nat->List Nat}{i:Nat}:(J1 H H0 i).isSome=true↔H i≠H0 i:=by
 unfold J1
 split
 ·rename_i h;simp[h]
 ·rename_i h;simp[h]
theorem B3Y{H H0:Nat->List Nat}{M:Nat}{K:List Nat}(h:Dif H0 H K):(N0 (J1 H H0) M).length<=K.length:=
 B2y (A5H _ _) λx I=>h x (A16.1 (A15.1 I).2)
theorem B0v{H H0:Nat->List Nat}{M:Nat}{p:Pt}(h:p∈E6 (J1 H H0) M):∃i,i<M/\p.a=(i:Int)/\p.d=H i:=by
 unfold E6 at h
 obtain⟨i,hi,rfl⟩:=List.mem_map.1 h
 obtain⟨I,J⟩:=A15.1 hi
 refine⟨i,I,rfl,?_⟩
 show(J1 H H0 i).getD _=H i
 unfold J1
 rw[if_neg (A16.1 J)]
 rfl
theorem C1L{H H0:Nat->List Nat}{M:Nat}(U:∀i,i<M->(H i).length=128/\∀x∈H i,x<256)(X:1<=(E6 (J1 H H0) M).length)(h2:(E6 (J1 H H0) M).length<=14):A0h (E6 (J1 H H0) M) (M:Int)/\M7 (E6 (J1 H H0) M)<=20:=by
 have Y:∀p∈E6 (J1 H H0) M,p.d.length=128:=λp hp=>by
  obtain⟨i,hi,_,e⟩:=B0v hp
  rw[e];exact(U i hi).1
 refine⟨⟨⟨X,by omega⟩,λi hi=>?_⟩,?_⟩
 ·obtain⟨k,hk,V,W⟩:=B0v (List.getElem_mem hi)
  refine⟨by rw[V];omega,by rw[W];exact(U k hk).1,λj Z=>?_⟩
  have hn:=A5H (J1 H H0) M
  have aA:=U5 (J1 H H0) M
  have I:∀q (J:q<(E6 (J1 H H0) M).length),(E6 (J1 H H0) M)[q].a=((N0 (J1 H H0) M)[q]'(by rw[<-aA];exact J):Int):=λq J=>by
   simp only[E6,List.getElem_map]
  rw[I j (by omega),I i hi]
  intro e
  have:=(List.nodup_iff_pairwise_ne.1 hn)
  have h3:=(List.pairwise_iff_getElem.1 this) j i (by omega) (by omega) Z
  exact h3 (by omega)
 ·unfold M7
  rw[A5y Y]
  unfold J8 qn
  omega
structure Lv (E:Ev) (k:Nat):Prop where
 hn:20<=E.n/\E.N=E.M+2+E.n/\E.N<=4096/\46<=E.M/\E.M<=1024
 ar:∃V txs,Ar E.s E.n E.N V E.g txs
 nx:E.g.next<=30 * k
 gn:E.g.h.g<=k
 O:E.O=λ_=>none
 Q:E.s.Q=[]
theorem B5t{s:DS}(h:(E0 s).2=0):(E0 s).1.Q=[]:=by
 unfold E0 at h⊢
 split at h
 ·rename_i I;rw[if_pos I]
 ·exact absurd (show(7:Int)=0 from h) (by decide)
theorem C32{s:DS}{N e:Nat}{x:Hd}(h:(Z1 s N e x).2=0):(Z1 s N e x).1.Q=[]:=by
 unfold Z1 at h⊢
 split at h
 ·exact absurd (show(8:Int)=0 from h) (by decide)
 ·rename_i I
  rw[if_neg I]
  unfold A2z at h⊢
  split at h
  ·rename_i J
   rw[if_pos J]
   split at h
   ·rename_i h3
    rw[if_pos h3]
    exact B5t h
   ·rename_i h3;exact absurd h h3
  ·exact absurd (show(2:Int)=0 from h) (by decide)
theorem C1M{s:DS}{n N:Nat}{g:LS}(U:g.err=0)(h:(G9 s n N g).2=0):(G9 s n N g).1.1.Q=[]:=by
 unfold G9 at h⊢
 rw[if_pos U]at h⊢
 split at h
 ·rename_i J
  rw[if_pos J]
  split at h
  ·rename_i I
   rw[if_pos I]
   exact C32 I
  ·rename_i I;exact absurd h I
 ·rename_i J;exact absurd h J
section
variable {E:Ev} {k:Nat}
theorem Lv.err(h:Lv E k):E.g.err=0:=by obtain⟨_,_,a⟩:=h.ar;exact a.err
theorem Lv.nn(h:Lv E k):2<=E.n/\E.n+3<=E.N/\E.N<=4096:=by have:=h.hn;omega
theorem Lv.home(h:Lv E k):E.H=D8 E.s E.n E.g:=by
 funext i
 unfold Ev.H vwH Ev.L
 rw[h.O]
 rfl
theorem Ar.gokF{s:DS}{g:LS}{n N:Nat}{V:Nat->List Nat}{U:List (List Pt)}(h:Ar s n N V g U)(I:2<=n/\n+3<=N/\N<=4096)(J:s.Q=[])(W:g.next<=1000000):GOk n N s g:=
 ⟨I,by rw[J];exact Nat.zero_le _,by have:=h.le;omega,by have:=h.fr;omega,by omega,by rw[h.ep];decide⟩
theorem Lv.wok(h:Lv E k)(W:k<=127):WOk E.n E.N E.s E.g:=by
 obtain⟨V,X,a⟩:=h.ar
 have J:=h.nx
 have U:=h.gn
 obtain⟨c1,⟨V',c2⟩,c3,_⟩:=a.check h.nn (by omega) (by omega)
 exact⟨a.gokF h.nn h.Q (by omega),by rw[h.Q];exact Nat.zero_le _,by omega,a.ok,λI=>c2.gokF h.nn (C1M a.err I) (by rw[c3];show E.g.next<=_;omega)⟩
theorem A9g{s:DS}{n:Nat}{g:LS}{M i:Nat}(hi:i<M):(X8 s n g M)[i]? =some (D8 s n g i):=by
 unfold X8
 rw[List.getElem?_map,List.getElem?_range hi]
 rfl
theorem A5s{s U:DS}{n:Nat}{g I:LS}{M i:Nat}(h:X8 s n g M=X8 U n I M)(hi:i<M):D8 s n g i=D8 U n I i:=by
 have J:=A9g (s:=s) (n:=n) (g:=g) hi
 rw[h,A9g hi]at J
 exact(Option.some.inj J).symm
structure Wr0 (n N M x y:Nat) (H:Nat->List Nat) (r:(DS×LS)×Int):Prop where
 e:r.2=0
 ar:∃V txs,Ar r.1.1 n N V r.1.2 txs
 nx:r.1.2.next<=x+30
 gn:r.1.2.h.g<=y
 hm:∀i,i<M->D8 r.1.1 n r.1.2 i=H i
theorem A9h{s:DS}{g:LS}{n N M:Nat}{V:Nat->List Nat}{aE:List (List Pt)}{H H0:Nat->List Nat}(U:Ar s n N V g aE)(hM:N=M+2+n/\20<=n/\N<=4096/\46<=M/\M<=1024)(hx:g.next<=1000000)
 (Z:∀i,i<M->(H i).length=128/\∀y∈H i,y<256) (hH:∀i,i<M->D8 s n g i=H0 i) (h1:1<=(E6 (J1 H H0) M).length) (aC:(E6 (J1 H H0) M).length<=14):
 Wr0 n N M g.next g.h.g H (J6 s n N g (E6 (J1 H H0) M))\/((J6 s n N g (E6 (J1 H H0) M)).2=8/\g.h.t≠g.next):=by
 have hn:2<=n/\n+3<=N/\N<=4096:=by omega
 have aD:N-2-n=M:=by omega
 obtain⟨aB,aG⟩:=C1L Z h1 aC
 have aA:A0h (E6 (J1 H H0) M) ((N-2-n:Nat):Int):=by rw[aD];exact aB
 have hb:∀p∈E6 (J1 H H0) M,∀y∈p.d,y<256:=λp hp=>by
  obtain⟨i,hi,_,e⟩:=B0v hp
  rw[e];exact(Z i hi).2
 by_cases W:M7 (E6 (J1 H H0) M)<=A52 n g
 ·left
  obtain⟨a1,X,J,_⟩:=U.write hn aA hb W hx
  have aF:=B2x aB
  refine⟨a1,⟨_,_,X⟩,by rw[J];show g.next+M7 _<=_;omega,by rw[J];exact Nat.le_refl _,λi hi=>?_⟩
  have Y:=hH i hi
  rw[U.home (by omega)]at Y
  rw[X.home (by omega),J,A0K n _ _ (λp _=>by have:=Nat.mod_lt p.c (show 0<n by omega);omega)]
  show(putA g.A (E6 (J1 H H0) M) i).getD _=_
  unfold E6
  rw[A9f (λi=>(J1 H H0 i).getD (List.replicate 128 0)) i]
  by_cases I:i∈N0 (J1 H H0) M
  ·rw[if_pos I]
   have h3:=A16.1 (A15.1 I).2
   show(J1 H H0 i).getD _=_
   unfold J1
   rw[if_neg h3]
   rfl
  ·rw[if_neg I,Y]
   by_cases e:H i=H0 i
   ·exact e.symm
   ·exact absurd (A15.2 ⟨hi,A16.2 e⟩) I
 ·right
  refine⟨?_,λe=>W ?_⟩
  ·unfold J6
   rw[if_pos U.err,if_pos aA,if_neg (λx=>W x.2)]
  ·unfold A52
   omega
theorem Lv.wrt(h:Lv E k)(hk:k<=127){H:Nat->List Nat}(W:∀i,i<E.M->(H i).length=128/\∀y∈H i,y<256)(U:(E6 (J1 H E.H) E.M).length<=14):Wr0 E.n E.N E.M (30 * k) (k+1) H (A0j E.s E.n E.N E.g (E6 (J1 H E.H) E.M)):=by
 obtain⟨X,Y,n5,Z,n4⟩:=h.hn
 have hH:∀i,i<E.M->D8 E.s E.n E.g i=E.H i:=λi _=>by rw[h.home]
 have aC:=h.nx
 have aB:=h.gn
 obtain⟨V,aD,a⟩:=h.ar
 unfold A0j
 by_cases I:(E6 (J1 H E.H) E.M).length=0
 ·rw[if_pos I]
  refine⟨rfl,⟨V,aD,a⟩,Nat.le_trans aC (Nat.le_add_right _ _),Nat.le_trans aB (Nat.le_add_right _ _),λi hi=>?_⟩
  show D8 E.s E.n E.g i=H i
  rw[hH i hi]
  by_cases e:H i=E.H i
  ·exact e.symm
  ·exfalso
   have:=A15.2 ⟨hi,A16.2 e⟩
   rw[U5]at I
   rw[List.eq_nil_of_length_eq_zero I]at this
   simp at this
 ·rw[if_neg I]
  rcases A9h a ⟨Y,X,n5,Z,n4⟩ (by omega) W hH (by omega) U with c|⟨a1,_⟩
  ·rw[if_neg (by rw[c.e];decide)]
   exact⟨c.e,c.ar,Nat.le_trans c.nx (by omega),Nat.le_trans c.gn (by omega),c.hm⟩
  ·rw[if_pos a1]
   obtain⟨b1,⟨V',b2⟩,b3,b4⟩:=a.check h.nn (by omega) (by omega)
   rw[if_pos b1]
   have aA:∀i,i<E.M->D8 (G9 E.s E.n E.N E.g).1.1 E.n (G9 E.s E.n E.N E.g).1.2 i=E.H i:=λi hi=>by
    rw[<-hH i hi]
    exact A5s b4 hi
   have J:(G9 E.s E.n E.N E.g).1.2.next=E.g.next/\(G9 E.s E.n E.N E.g).1.2.h.g=E.g.h.g+1/\(G9 E.s E.n E.N E.g).1.2.h.t=E.g.next:=by rw[b3];exact⟨rfl,rfl,rfl⟩
   rcases A9h b2 ⟨Y,X,n5,Z,n4⟩ (by omega) W aA (by omega) U with c|⟨_,c⟩
   ·exact⟨c.e,c.ar,Nat.le_trans c.nx (by omega),Nat.le_trans c.gn (by omega),c.hm⟩
   ·exact absurd (J.2.2.trans J.1.symm) c
theorem Lv.change(h:Lv E k)(hk:k<=127)(_:E.s.fuse=none){s:CS}{A:As}(X:ChD E.H E.M s A):
 LOk E s/\(P8 E s).2=0/\(P8 E s).1.1.fuse=none/\∀F',Lv (E.at_ F' (P8 E s).1.1 (P8 E s).1.2 E.O) (k+3)/\∀i,i<E.M->(E.at_ F' (P8 E s).1.1 (P8 E s).1.2 E.O).H i=s.H i:=by
 obtain⟨K,hK,aB⟩:=X.df
 have aA:(E6 (J1 s.H E.H) E.M).length<=14:=by rw[U5];exact Nat.le_trans (B3Y aB) hK
 have Y:=h.wrt hk X.rp.sw.sd.row aA
 obtain⟨R,I⟩:∃R,R=A0j E.s E.n E.N E.g (E6 (J1 s.H E.H) E.M):=⟨_,rfl⟩
 have aC:P8 E s=Q4 R.1.1 R.1.2:=by
  unfold P8 B1U
  rw[if_pos X.e,<-I,if_pos (by rw[I];exact Y.e)]
 rw[<-I]at Y
 obtain⟨h0,⟨V,aD,J⟩,nx,gn,hm⟩:=Y
 obtain⟨U,Z,b3⟩:=J.sync
 have W:Q4 R.1.1 R.1.2=(((E0 R.1.1).1,{ R.1.2 with err:=(E0 R.1.1).2 }),(E0 R.1.1).2):=by unfold Q4;rw[if_pos J.err]
 have hq:(Q4 R.1.1 R.1.2).1.1.Q=[]:=by rw[W]at U⊢;exact B5t U
 rw[aC]
 refine⟨λ_=>⟨h.wok hk,?_⟩,U,Z.on.fz,λF'=>⟨⟨h.hn,⟨_,_,Z⟩,?_,?_,h.O,hq⟩,λi hi=>?_⟩⟩
 ·rw[<-I];exact J.ok
 ·show(Q4 R.1.1 R.1.2).1.2.next<=_
  rw[W]
  show R.1.2.next<=_
  omega
 ·show(Q4 R.1.1 R.1.2).1.2.h.g<=_
  rw[W]
  show R.1.2.h.g<=_
  omega
 ·show vwH E.O (D8 (Q4 R.1.1 R.1.2).1.1 E.n (Q4 R.1.1 R.1.2).1.2) i=s.H i
  unfold vwH
  rw[h.O]
  show D8 (Q4 R.1.1 R.1.2).1.1 E.n (Q4 R.1.1 R.1.2).1.2 i=s.H i
  rw[<-hm i hi]
  exact A5s b3 hi
theorem OtR.none{r:(DS×LS)×Int}{U:Nat->Option (List Nat)}(h:OtR E r U)(X:r.2=0\/(r.1.2.err=0/\r.2≠7)):U=E.O:=by
 rcases h with x|⟨T,B,V,I,_⟩
 ·exact x
 ·exfalso
  rcases X with y|⟨y,z⟩
  ·exact I y
  ·rw[V]at I y z
   unfold Q4 at I y z
   split at I
   ·rename_i J
    rw[if_pos J]at z
    have W:(E0 (A0j E.s E.n E.N E.g (E6 T E.M)).1.1).2=0\/(E0 (A0j E.s E.n E.N E.g (E6 T E.M)).1.1).2=7:=by
     unfold E0
     split
     ·exact .inl rfl
     ·exact .inr rfl
    rcases W with e|e
    ·exact I e
    ·exact z e
   ·rename_i J
    rw[if_neg J]at y
    exact J y
end
end
section
open Go.RowKit Go.Maps
theorem Ow.sameH{H H':Nat->List Nat}{M:Nat}{P:Nat->Nat->Int}{R:Nat->Nat->List Nat}(h:Ow H M P R)(V:46<=M)(I:∀k,k<M->H' k=H k):Ow H' M P R:=by
 have J:D3 H' M=D3 H M:=by unfold D3;rw[I 1 (by omega)]
 refine⟨h.pt,h.nz,λi j hi U=>?_,h.inj,by rw[J];exact h.bit,by rw[J];exact h.cnt⟩
 have:=h.pt i j hi
 rw[I _ (by omega)]
 exact h.at_ i j hi U
theorem Rq.sameH{H H':Nat->List Nat}{M:Nat}{A:As}(h:Rq H M A)(J:∀k,k<M->H' k=H k):Rq H' M A:=by
 have V:=h.sw.sd.hM
 have hi:∀i,1<=i->i<=40->C9 H' i=C9 H i:=λi I U=>by unfold C9;rw[J (1+i) (by omega)]
 have X:D3 H' M=D3 H M:=by unfold D3;rw[J 1 (by omega)]
 refine⟨⟨⟨V,λi I=>by rw[J i I];exact h.sw.sd.row i I,by rw[J 1 (by omega)];exact h.sw.sd.map,λi I U=>by rw[J (1+i) (by omega)];exact h.sw.sd.ino i I U⟩,by rw[X];exact h.sw.low⟩,λi I U=>by rw[hi i I U];exact h.f i I U,?_,h.ok,by rw[J 0 (by omega)];exact h.rc⟩
 exact(h.ow.sameH V.1 J).congr (λi j W=>by show(C9 H' i).a j=_;rw[hi i W.1 W.2.1]) (λ_ _ _=>rfl)
structure Sto (w:World) (E:Ev) (k:Nat) (A:As):Prop where
 so:So w E
 lv:Lv E k
 on:E.s.fuse=none
 rq:Rq E.H E.M A
 tr:Tr A
structure B5u (E E':Ev):Prop where
 o:E'.o=E.o
 M:E'.M=E.M
 d:E'.d=E.d
 n:E'.n=E.n
 N:E'.N=E.N
theorem B5u.refl(E:Ev):B5u E E:=⟨rfl,rfl,rfl,rfl,rfl⟩
section
variable {w w':World} {E:Ev} {k:Nat} {A A':As}
theorem Sto.ok(h:Sto w E k A):OkA A:=⟨h.rq.ok,h.tr⟩
theorem Lv.mono(h:Lv E k):Lv E (k+3):=⟨h.hn,h.ar,by have:=h.nx;omega,by have:=h.gn;omega,h.O,h.Q⟩
theorem Lv.put(h:Lv E k)(F':Nat->Prop):Lv (E.at_ F' E.s E.g E.O) (k+3):=⟨h.hn,h.ar,h.mono.nx,h.mono.gn,h.O,h.Q⟩
theorem Sto.later(h:Sto w E k A):Sto w E (k+3) A:=⟨h.so,h.lv.mono,h.on,h.rq,h.tr⟩
theorem Sto.step{F':Nat->Prop}(h:Sto w E k A)(I:B0 B5 w F' w'):Sto w' E k A:=⟨h.so.step I,h.lv,h.on,h.rq,h.tr⟩
def Aft(w:World)(E:Ev)(k:Nat)(A':As)(w':World):Prop:=∃I,Sto w' I (k+3) A'/\B5u E I/\B0 (EO E) w (EO I) w'
theorem Sto.aft(h:Sto w E k A)(I:B0 B5 w B5 w'):Aft w E k A w':=⟨E,(h.step I).later,B5u.refl _,I.same (λ_ x=>x.elim)⟩
theorem Sto.done{s:CS}(h:Sto w E k A)(hk:k<=127)(Z:OdR w E (P8 E s) w')(Y:(ChD E.H E.M s A'/\Tr A')\/(s.e=8/\A'=A)):Aft w E k A' w'/\(P8 E s).2=s.e:=by
 obtain⟨F',V,I,J,h3⟩:=Z
 have aA:=h.lv.err
 rcases Y with⟨c1,c2⟩|⟨c1,c2⟩
 ·obtain⟨_,W,on,hl⟩:=h.lv.change hk h.on c1
  have U:V=E.O:=J.none (.inl W)
  rw[U]at I h3
  obtain⟨l1,l2⟩:=hl F'
  exact⟨⟨_,⟨I,l1,on,c1.rp.sameH l2,c2⟩,⟨rfl,rfl,rfl,rfl,rfl⟩,h3⟩,by rw[W,c1.e]⟩
 ·have X:P8 E s=((E.s,E.g),8):=by
   unfold P8 B1U
   rw[if_neg (by rw[c1];decide),c1]
  rw[X]at I J h3⊢
  have U:V=E.O:=J.none (.inr ⟨aA,(by decide:(8:Int)≠7)⟩)
  rw[U]at I h3
  rw[c2]
  exact⟨⟨_,⟨I,h.lv.put F',h.on,h.rq,h.tr⟩,⟨rfl,rfl,rfl,rfl,rfl⟩,h3⟩,c1.symm⟩
theorem Sto.lok{s:CS}(h:Sto w E k A)(J:k<=127)(I:ChD E.H E.M s A'\/s.e=8):LOk E s:=by
 rcases I with c|c
 ·exact(h.lv.change J h.on c).1
 ·intro e
  rw[e]at c
  cases c
theorem C4T(s:ByteArray):A0y [s]=if Nam s then 0 else 9:=by
 unfold A0y
 by_cases h:Nam s
 ·rw[if_pos h,if_pos (λt I=>by rw[List.mem_singleton.1 I];exact h)]
 ·rw[if_neg h,if_neg (λx=>h (x s (List.mem_singleton.2 rfl)))]
theorem C51(s t:ByteArray):A0y [s,t]=if Nam s/\Nam t then 0 else 9:=by
 unfold A0y
 by_cases h:Nam s/\Nam t
 ·rw[if_pos h,if_pos (λu I=>by
   rcases List.mem_cons.1 I with e|e
   ·rw[e];exact h.1
   ·rw[List.mem_singleton.1 e];exact h.2)]
 ·rw[if_neg h,if_neg (λx=>h ⟨x s (by simp),x t (by simp)⟩)]
open Classical in
noncomputable def A1j(A:As)(M:Nat)(i g:Int)(s:ByteArray)(I:Int):As×(Int×Int)×Int:=
 if Nam s then
  if I=1\/I=2 then
   if U7 A i g 1=0 then
    if(Y5 (A.n i.toNat).l s).isSome=true then(A,(0,0),10)
    else match A22 A with
     |none=>(A,(0,0),8)
     |some j=>if 24<(S9 (A.n i.toNat).l ⟨s,((1+j:Nat):Int),(A.n (1+j)).g+1,I⟩).length\/M<(V5 A i s I j).use+42\/(A.n i.toNat).v=1099511627775 then(A,(0,0),8)
      else(V5 A i s I j,(((1+j:Nat):Int),(A.n (1+j)).g+1),0)
   else(A,(0,0),U7 A i g 1)
  else(A,(0,0),2)
 else(A,(0,0),9)
theorem A9i(A:As)(i g k:Int):U7 A i g k=0\/U7 A i g k=12\/U7 A i g k=14:=by
 unfold U7
 split
 ·split
  ·exact .inl rfl
  ·exact .inr (.inl rfl)
 ·exact .inr (.inr rfl)
theorem C33{H:Nat->List Nat}{M:Nat}{i g:Int}{s:ByteArray}{I:Int}{j:Nat}(X:T4 A i g)(U:ChD H M (B5l H M i g s I) (V5 A i s I j)):
 ¬(24<(S9 (A.n i.toNat).l ⟨s,((1+j:Nat):Int),(A.n (1+j)).g+1,I⟩).length\/M<(V5 A i s I j).use+42\/(A.n i.toNat).v=1099511627775):=by
 obtain⟨Y,Z⟩:=N8 X
 have J:=U.rp.ok i.toNat Y Z
 have aA:=U.rp.ow.cnt
 have W:(V5 A i s I j).n i.toNat=((A.n i.toNat).ls (S9 (A.n i.toNat).l ⟨s,((1+j:Nat):Int),(A.n (1+j)).g+1,I⟩)).inc:=by
  unfold V5
  simp only
  rw[As.up_at,As.up_at]
 rw[W]at J
 rintro(y|y|y)
 ·have V:(S9 (A.n i.toNat).l ⟨s,((1+j:Nat):Int),(A.n (1+j)).g+1,I⟩).length<=24:=J.few
  omega
 ·have h4:(V5 A i s I j).use=A0e (V5 A i s I j).R 40:=rfl
  omega
 ·have V:(A.n i.toNat).v+1<=1099511627775:=J.v
  omega
theorem Sto.create(h:Sto w E k A)(hk:k<=127)(i g:Int)(s:ByteArray)(I:Int)(hm:s.size<=maxLen):
 Calls Tryz.prog 36 #[.pointer (some ⟨E.o,0,none⟩),.agg #[.int .i64 i,.int .i64 g],.string s,.int .i64 I] w λr w'=>
  r= .returned (.tuple #[.agg #[.int .i64 (A1j A E.M i g s I).2.1.1,.int .i64 (A1j A E.M i g s I).2.1.2],.int .i64 (A1j A E.M i g s I).2.2])/\Aft w E k (A1j A E.M i g s I).1 w':=by
 obtain⟨f1,f2⟩:=h.rq.find i g s
 have hE:A8l E.H i g s I=if Nam s then(if I=1\/I=2 then(if fdE A i g s=11 then 0 else if fdE A i g s=0 then 10 else fdE A i g s)else 2)else 9:=by
  unfold A8l
  rw[C4T,f1]
  by_cases W:Nam s
  ·rw[if_pos W,if_pos rfl,if_pos W]
  ·rw[if_neg W,if_neg (by decide),if_neg W]
 have aD:A8l E.H i g s I=0->Nam s/\(I=1\/I=2)/\T4 A i g/\(A.n i.toNat).k=1/\Y5 (A.n i.toNat).l s=none:=λe=>by
  rw[hE]at e
  split at e
  ·rename_i Z
   split at e
   ·rename_i a2
    split at e
    ·rename_i J
     unfold fdE at J
     split at J
     ·rename_i X
      split at J
      ·cases J
      ·rename_i a5
       obtain⟨o1,o2⟩:=Z7 X
       exact⟨Z,a2,o1,o2,by simpa using a5⟩
     ·rename_i X
      rcases A9i A i g 1 with y|y|y
      ·exact absurd y X
      ·rw[y]at J;cases J
      ·rw[y]at J;cases J
    ·split at e
     ·cases e
     ·rename_i J;exact absurd e J
   ·cases e
  ·cases e
 refine(B9A h.so h.rq.sw i g s I hm (λe=>?_)).mono λr w' hr=>?_
 ·obtain⟨Z,a2,J,X,a5⟩:=aD e
  refine h.lok (A':=match A22 A with|none=>A|some j=>V5 A i s I j) hk ?_
  rcases h.rq.cre J X Z a2 with⟨j,Y,U⟩|⟨U,_⟩
  ·rw[Y];exact .inl U
  ·exact .inr U
 ·rcases hr with⟨V,e2,e3⟩|⟨V,e2,e3⟩
  ·have hv:A1j A E.M i g s I=(A,(0,0),A8l E.H i g s I):=by
    rw[hE]at V⊢
    unfold A1j
    by_cases W:Nam s
    ·rw[if_pos W]at V⊢
     rw[if_pos W]
     by_cases aB:I=1\/I=2
     ·rw[if_pos aB]at V⊢
      rw[if_pos aB]
      unfold fdE at V⊢
      by_cases ho:U7 A i g 1=0
      ·rw[if_pos ho]at V⊢
       rw[if_pos ho]
       by_cases hf:(Y5 (A.n i.toNat).l s).isSome=true
       ·rw[if_pos hf,if_pos hf]
        rfl
       ·rw[if_neg hf]at V
        exact absurd rfl V
      ·rw[if_neg ho,if_neg ho]
       rcases A9i A i g 1 with y|y|y
       ·exact absurd y ho
       ·rw[y];rfl
       ·rw[y];rfl
     ·rw[if_neg aB,if_neg aB]
    ·rw[if_neg W,if_neg W]
   rw[hv]
   exact⟨e2,h.aft e3⟩
  ·obtain⟨Z,a2,J,X,a5⟩:=aD V
   have aF:¬(Y5 (A.n i.toNat).l s).isSome=true:=by rw[a5];decide
   have hv:A1j A E.M i g s I=match A22 A with
    |none=>(A,(0,0),8)
    |some j=>if 24<(S9 (A.n i.toNat).l ⟨s,((1+j:Nat):Int),(A.n (1+j)).g+1,I⟩).length\/E.M<(V5 A i s I j).use+42\/(A.n i.toNat).v=1099511627775 then(A,(0,0),8)
     else(V5 A i s I j,(((1+j:Nat):Int),(A.n (1+j)).g+1),0):=by
    unfold A1j
    rw[if_pos Z,if_pos a2,if_pos (A5p J X),if_neg aF]
   rcases h.rq.cre J X Z a2 with⟨j,Y,U⟩|⟨U,aE⟩
   ·obtain⟨b1,b2⟩:=h.done (A':=V5 A i s I j) hk e3 (.inl ⟨U,Tr.cre h.ok J a5 Y⟩)
    have aC:A1j A E.M i g s I=(V5 A i s I j,(((1+j:Nat):Int),(A.n (1+j)).g+1),0):=by
     rw[hv,Y]
     exact if_neg (C33 J U)
    rw[aC]
    refine⟨?_,b1⟩
    rw[e2]
    have aA:(P8 E (A8m E i g s I)).2=0:=b2.trans U.e
    unfold B7c
    rw[if_pos aA,aA,show addF E.H=_ from Rq.addF (s:=⟨E.H,0⟩) h.rq Y]
   ·obtain⟨b1,b2⟩:=h.done (A':=A) hk e3 (.inr ⟨U,rfl⟩)
    have aC:A1j A E.M i g s I=(A,(0,0),8):=by
     rw[hv]
     cases Y:A22 A with
     |none=>rfl
     |some j=>exact if_pos (aE j Y)
    rw[aC]
    refine⟨?_,b1⟩
    rw[e2]
    have aA:(P8 E (A8m E i g s I)).2=8:=b2.trans U
    unfold B7c
    rw[if_neg (by rw[aA];decide),aA]
open Classical in
noncomputable def A7D(A:As)(i g:Int)(s:ByteArray):As×Int:=
 if Nam s then
  if fdE A i g s=0 then
   if(A.n (fdX A i g s).i.toNat).l=[]then
    if(A.n i.toNat).v=1099511627775 then(A,8)else(A1Q A i s (fdX A i g s),0)
   else(A,13)
  else(A,fdE A i g s)
 else(A,9)
theorem B2z{i g:Int}{s:ByteArray}(e:fdE A i g s=0):T4 A i g/\(A.n i.toNat).k=1/\Y5 (A.n i.toNat).l s=some (fdX A i g s):=by
 unfold fdE at e
 split at e
 ·rename_i I
  obtain⟨V,W⟩:=Z7 I
  split at e
  ·rename_i J
   refine⟨V,W,?_⟩
   unfold fdX
   rw[if_pos I]
   obtain⟨x,U⟩:=Option.isSome_iff_exists.1 J
   rw[U]
   rfl
  ·cases e
 ·rename_i I;exact absurd e I
theorem Sto.remove(h:Sto w E k A)(hk:k<=127)(i g:Int)(s:ByteArray)(hm:s.size<=maxLen):
 Calls Tryz.prog 33 #[.pointer (some ⟨E.o,0,none⟩),.agg #[.int .i64 i,.int .i64 g],.string s] w λr w'=>
  r= .returned (.int .i64 (A7D A i g s).2)/\Aft w E k (A7D A i g s).1 w':=by
 obtain⟨f1,f2⟩:=h.rq.find i g s
 have aC:fdE A i g s=0->mfE E.H (fdX A i g s)=if(A.n (fdX A i g s).i.toNat).l.length=0 then 0 else 13:=λe=>by
  obtain⟨V,I,U⟩:=B2z e
  obtain⟨r1,r2⟩:=N8 V
  have hx:=(A00 U).1
  exact B9D h.rq (h.ok.okE r1 r2 hx).2.2.2 (h.tr.ent _ _ r1 r2 hx).1
 have hE:A8k E.H i g s=if Nam s then(if fdE A i g s=0 then(if(A.n (fdX A i g s).i.toNat).l.length=0 then 0 else 13)else fdE A i g s)else 9:=by
  unfold A8k
  rw[C4T,f1,f2]
  by_cases W:Nam s
  ·rw[if_pos W,if_pos rfl,if_pos W]
   by_cases e:fdE A i g s=0
   ·rw[if_pos e,if_pos e,aC e]
   ·rw[if_neg e,if_neg e]
  ·rw[if_neg W,if_neg (by decide),if_neg W]
 have hS:B3Q E i g s=A7B E.H E.M i g s (fdX A i g s):=by
  unfold B3Q A7B
  rw[f2]
 have aA:A8k E.H i g s=0->Nam s/\fdE A i g s=0/\(A.n (fdX A i g s).i.toNat).l=[]:=λe=>by
  rw[hE]at e
  split at e
  ·rename_i V
   split at e
   ·rename_i I
    split at e
    ·rename_i U;exact⟨V,I,List.eq_nil_of_length_eq_zero U⟩
    ·cases e
   ·rename_i I;exact absurd e I
  ·cases e
 have aB:fdE A i g s=0->(A.n (fdX A i g s).i.toNat).l=[]->(ChD E.H E.M (A7B E.H E.M i g s (fdX A i g s)) (A1Q A i s (fdX A i g s))\/((A7B E.H E.M i g s (fdX A i g s)).e=8/\(A.n i.toNat).v=1099511627775))/\Tr (A1Q A i s (fdX A i g s)):=λe Y=>by
  obtain⟨V,I,U⟩:=B2z e
  obtain⟨r1,r2⟩:=N8 V
  have hx:=(A00 U).1
  have aD:i.toNat≠(fdX A i g s).i.toNat:=λZ=>by
   rw[<-Z]at Y
   rw[Y]at hx
   simp at hx
  exact⟨h.rq.rem V I s (h.ok.okE r1 r2 hx).2.2.2 aD,Tr.rem h.ok V U Y⟩
 refine(B98 h.so h.rq.sw i g s hm (λe=>?_)).mono λr w' hr=>?_
 ·obtain⟨V,I,U⟩:=aA e
  rw[hS]
  refine h.lok (A':=A1Q A i s (fdX A i g s)) hk ?_
  rcases(aB I U).1 with J|⟨J,_⟩
  ·exact .inl J
  ·exact .inr J
 ·rw[hS]at hr
  rcases hr with⟨X,Z,e3⟩|⟨X,Z,e3⟩
  ·have hv:A7D A i g s=(A,A8k E.H i g s):=by
    rw[hE]at X⊢
    unfold A7D
    by_cases W:Nam s
    ·rw[if_pos W]at X⊢
     rw[if_pos W]
     by_cases e:fdE A i g s=0
     ·rw[if_pos e]at X⊢
      rw[if_pos e]
      by_cases Y:(A.n (fdX A i g s).i.toNat).l=[]
      ·rw[Y]at X
       exact absurd rfl X
      ·rw[if_neg Y,if_neg (λy=>Y (List.eq_nil_of_length_eq_zero y))]
     ·rw[if_neg e,if_neg e]
    ·rw[if_neg W,if_neg W]
   rw[hv]
   exact⟨Z,h.aft e3⟩
  ·obtain⟨V,I,U⟩:=aA X
   obtain⟨J,ht⟩:=aB I U
   have hv:A7D A i g s=if(A.n i.toNat).v=1099511627775 then(A,8)else(A1Q A i s (fdX A i g s),0):=by
    unfold A7D
    rw[if_pos V,if_pos I,if_pos U]
   rcases J with J|⟨J,aF⟩
   ·obtain⟨b1,b2⟩:=h.done (A':=A1Q A i s (fdX A i g s)) hk e3 (.inl ⟨J,ht⟩)
    have aE:¬(A.n i.toNat).v=1099511627775:=λy=>by
     obtain⟨c1,_,_⟩:=B2z I
     obtain⟨r1,r2⟩:=N8 c1
     have aG:=(J.rp.ok i.toNat r1 r2).v
     have hD:((A1Q A i s (fdX A i g s)).n i.toNat).v=(A.n i.toNat).v+1:=by
      unfold A1Q
      simp only
      rw[As.up_at,As.up_at]
      rfl
     omega
    rw[hv,if_neg aE]
    exact⟨by rw[Z,b2,J.e],b1⟩
   ·obtain⟨b1,b2⟩:=h.done (A':=A) hk e3 (.inr ⟨J,rfl⟩)
    rw[hv,if_pos aF]
    exact⟨by rw[Z,b2,J],b1⟩
end
end
section
open Go.RowKit Go.Maps
section
variable {w w':World} {E:Ev} {k:Nat} {A A':As}
def A3h(A:As)(M:Nat)(i g a:Int)(d:ByteArray):As×Nat×Int:=
 if 0<=a/\a<8 then
  if d.size<=64 then
   if U7 A i g 2=0 then
    if M<(A1h A i.toNat a.toNat d).use+42\/(A.n i.toNat).v=1099511627775 then(A,0,8)else(A1h A i.toNat a.toNat d,(A.n i.toNat).v+1,0)
   else(A,0,U7 A i g 2)
  else(A,0,5)
 else(A,0,2)
theorem B5v{n:Nat}(h:n<18446744073709551616):P9 (n:Int)=n:=by unfold P9;omega
theorem Sto.write(h:Sto w E k A)(hk:k<=127)(i g a:Int)(d:ByteArray):
 Calls Tryz.prog 35 #[.pointer (some ⟨E.o,0,none⟩),.agg #[.int .i64 i,.int .i64 g],.int .i64 a,.string d] w λr w'=>
  r= .returned (.tuple #[.int .u64 ((A3h A E.M i g a d).2.1:Int),.int .i64 (A3h A E.M i g a d).2.2])/\Aft w E k (A3h A E.M i g a d).1 w':=by
 have hE:A40 E.H i g a d=if 0<=a/\a<8 then(if d.size<=64 then U7 A i g 2 else 5)else 2:=by unfold A40;rw[h.rq.ofk]
 have aA:A40 E.H i g a d=0->(0<=a/\a<8)/\d.size<=64/\U7 A i g 2=0:=λe=>by
  rw[hE]at e
  split at e
  ·rename_i Z
   split at e
   ·rename_i U;exact⟨Z,U,e⟩
   ·cases e
  ·cases e
 have hS:U7 A i g 2=0->B2k E i g a.toNat d=B2t E.H E.M i.toNat g (C9 E.H i.toNat) a.toNat d/\(fileX E.H i g).v=(A.n i.toNat).v:=λe=>by
  obtain⟨J,_⟩:=Z7 e
  obtain⟨r1,r2⟩:=N8 J
  unfold B2k B2t ewS B3R A75
  rw[h.rq.fileX J]
  exact⟨rfl,(h.rq.f _ r1 r2).2.2⟩
 refine(C1B h.so h.rq.sw i g a d (λe=>?_)).mono λr w' hr=>?_
 ·obtain⟨Z,U,V⟩:=aA e
  obtain⟨J,o2⟩:=Z7 V
  rw[(hS V).1]
  refine h.lok (A':=A1h A i.toNat a.toNat d) hk ?_
  rcases h.rq.wri J o2 (j:=a.toNat) (by omega) U with I|⟨I,_⟩
  ·exact .inl I
  ·exact .inr I
 ·rcases hr with⟨W,X,Y⟩|⟨W,X,Y⟩
  ·have hv:A3h A E.M i g a d=(A,0,A40 E.H i g a d):=by
    rw[hE]at W⊢
    unfold A3h
    by_cases c1:0<=a/\a<8
    ·rw[if_pos c1]at W⊢
     rw[if_pos c1]
     by_cases c2:d.size<=64
     ·rw[if_pos c2]at W⊢
      rw[if_pos c2,if_neg W]
     ·rw[if_neg c2,if_neg c2]
    ·rw[if_neg c1,if_neg c1]
   rw[hv]
   exact⟨X,h.aft Y⟩
  ·obtain⟨Z,U,V⟩:=aA W
   obtain⟨J,o2⟩:=Z7 V
   obtain⟨r1,r2⟩:=N8 J
   obtain⟨s1,s2⟩:=hS V
   have hv:A3h A E.M i g a d=if E.M<(A1h A i.toNat a.toNat d).use+42\/(A.n i.toNat).v=1099511627775 then(A,0,8)else(A1h A i.toNat a.toNat d,(A.n i.toNat).v+1,0):=by
    unfold A3h
    rw[if_pos Z,if_pos U,if_pos V]
   rw[s1]at X Y
   rcases h.rq.wri J o2 (j:=a.toNat) (by omega) U with I|⟨I,aB⟩
   ·obtain⟨b1,b2⟩:=h.done (A':=A1h A i.toNat a.toNat d) hk Y (.inl ⟨I,h.tr.wri _ _ _⟩)
    have hD:((A1h A i.toNat a.toNat d).n i.toNat).v=(A.n i.toNat).v+1:=by unfold A1h;rw[As.up_at];rfl
    have aC:=(I.rp.ok i.toNat r1 r2).v
    have hn:¬(E.M<(A1h A i.toNat a.toNat d).use+42\/(A.n i.toNat).v=1099511627775):=by
     have h3:=I.rp.ow.cnt
     have h4:(A1h A i.toNat a.toNat d).use=A0e (A1h A i.toNat a.toNat d).R 40:=rfl
     omega
    rw[hv,if_neg hn]
    refine⟨?_,b1⟩
    rw[X,b2,I.e]
    have:ewV (A75 E (fileX E.H i g) a.toNat d) 0=(A.n i.toNat).v+1:=by
     unfold ewV
     rw[if_pos rfl]
     show P9 (((fileX E.H i g).v:Int)+1)=_
     rw[s2]
     exact B5v (n:=(A.n i.toNat).v+1) (by omega)
    rw[this]
   ·obtain⟨b1,b2⟩:=h.done (A':=A) hk Y (.inr ⟨I,rfl⟩)
    rw[hv,if_pos aB]
    refine⟨?_,b1⟩
    rw[X,b2,I]
    rfl
def A5V(A:As)(i g:Int):As×Nat×Int:=
 if U7 A i g 2=0 then(if(A.n i.toNat).v=1099511627775 then(A,0,8)else(A5U A i.toNat,(A.n i.toNat).v+1,0))else(A,0,U7 A i g 2)
theorem Sto.truncate(h:Sto w E k A)(Z:k<=127)(i g:Int):
 Calls Tryz.prog 37 #[.pointer (some ⟨E.o,0,none⟩),.agg #[.int .i64 i,.int .i64 g]] w λr w'=>
  r= .returned (.tuple #[.int .u64 ((A5V A i g).2.1:Int),.int .i64 (A5V A i g).2.2])/\Aft w E k (A5V A i g).1 w':=by
 have hE:Q3 E.H i g 2=U7 A i g 2:=h.rq.ofk i g 2
 have hS:U7 A i g 2=0->B2i E i g=B2u E.H E.M i.toNat g (C9 E.H i.toNat)/\(fileX E.H i g).v=(A.n i.toNat).v:=λe=>by
  obtain⟨J,_⟩:=Z7 e
  obtain⟨r1,r2⟩:=N8 J
  unfold B2i B2u ewS B2h B0p
  rw[h.rq.fileX J]
  exact⟨rfl,(h.rq.f _ r1 r2).2.2⟩
 refine(C18 h.so h.rq.sw i g (λe=>?_)).mono λr w' hr=>?_
 ·rw[hE]at e
  obtain⟨J,o2⟩:=Z7 e
  rw[(hS e).1]
  refine h.lok (A':=A5U A i.toNat) Z ?_
  rcases h.rq.tru J o2 with I|⟨I,_⟩
  ·exact .inl I
  ·exact .inr I
 ·rw[hE]at hr
  rcases hr with⟨U,V,W⟩|⟨U,V,W⟩
  ·have hv:A5V A i g=(A,0,U7 A i g 2):=if_neg U
   rw[hv]
   exact⟨V,h.aft W⟩
  ·obtain⟨J,o2⟩:=Z7 U
   obtain⟨r1,r2⟩:=N8 J
   obtain⟨s1,s2⟩:=hS U
   have hv:A5V A i g=if(A.n i.toNat).v=1099511627775 then(A,0,8)else(A5U A i.toNat,(A.n i.toNat).v+1,0):=if_pos U
   rw[s1]at V W
   rcases h.rq.tru J o2 with I|⟨I,aA⟩
   ·obtain⟨X,Y⟩:=h.done (A':=A5U A i.toNat) Z W (.inl ⟨I,h.tr.tru _⟩)
    have hD:((A5U A i.toNat).n i.toNat).v=(A.n i.toNat).v+1:=by unfold A5U;rw[As.up_at];rfl
    have aB:=(I.rp.ok i.toNat r1 r2).v
    rw[hv,if_neg (by omega)]
    refine⟨?_,X⟩
    rw[V,Y,I.e]
    have:ewV (B0p E (fileX E.H i g)) 0=(A.n i.toNat).v+1:=by
     unfold ewV
     rw[if_pos rfl]
     show P9 (((fileX E.H i g).v:Int)+1)=_
     rw[s2]
     exact B5v (n:=(A.n i.toNat).v+1) (by omega)
    rw[this]
   ·obtain⟨X,Y⟩:=h.done (A':=A) Z W (.inr ⟨I,rfl⟩)
    rw[hv,if_pos aA]
    refine⟨?_,X⟩
    rw[V,Y,I]
    rfl
theorem Sto.rdv(h:Sto w E k A):Rdv w E.o E.M E.H:=h.so.vu.rdv
theorem Sto.list(h:Sto w E k A)(i g:Int):Calls Tryz.prog 27 #[.pointer (some ⟨E.o,0,none⟩),.agg #[.int .i64 i,.int .i64 g]] w (EsR w (lsA A i g) (U7 A i g 1)):=by
 have:=C3u h.rdv h.rq.sw.sd i g
 rwa[(h.rq.ents i g).1,(h.rq.ents i g).2]at this
open Classical in
def rbE(A:As)(i g a:Int):Int:=if 0<=a/\a<8 then U7 A i g 2 else 2
def rbT(A:As)(i g a:Int):ByteArray:=if rbE A i g a=0 then(A.n i.toNat).b a.toNat else⟨#[]⟩
def rbV(A:As)(i g a:Int):Nat:=if rbE A i g a=0 then(A.n i.toNat).v else 0
theorem C34{s:ByteArray}(h:s.size=0):s=⟨#[]⟩:=by
 apply ByteArray.ext
 exact Array.eq_empty_of_size_eq_zero h
theorem Rq.data{H:Nat->List Nat}{M:Nat}(h:Rq H M A){i j:Nat}(hi:In8 i j)(X:(A.n i).k=2):A1W H ((C9 H i).a j)=0/\A3q H ((C9 H i).a j)=(A.n i).b j:=by
 have V:A.R i j=M5 ((A.n i).b j):=A6k X j
 have J:=h.ow.nz i j hi
 have W:=(h.ok i hi.1 hi.2.1).b j
 rw[V]at J
 unfold A1W A3q
 by_cases I:(C9 H i).a j=0
 ·rw[if_pos I,if_pos I]
  refine⟨rfl,?_⟩
  have:=J.1 I
  have U:((A.n i).b j).size=0:=by
   by_cases e:((A.n i).b j).size=0
   ·exact e
   ·have:=A0X (s:=(A.n i).b j) (by omega) (by omega)
    rw[J.1 I]at this
    cases this
  exact(C34 U).symm
 ·rw[if_neg I,if_neg I,show H ((C9 H i).a j).toNat=_ from(h.ow.at_ i j hi I).trans V]
  have U:0<((A.n i).b j).size:=by
   by_cases e:((A.n i).b j).size=0
   ·exact absurd (J.2 (if_pos e)) I
   ·omega
  obtain⟨d1,d2⟩:=B6J U W
  rw[d2,if_pos rfl,d1]
  exact⟨rfl,rfl⟩
theorem Sto.read(h:Sto w E k A)(i g a:Int):Calls Tryz.prog 34 #[.pointer (some ⟨E.o,0,none⟩),.agg #[.int .i64 i,.int .i64 g],.int .i64 a] w λe w'=>e= .returned (.tuple #[.string (rbT A i g a),.int .u64 (rbV A i g a:Int),.int .i64 (rbE A i g a)])/\B0 B5 w B5 w':=by
 have Y:=C3v h.rdv h.rq.sw.sd i g a
 have W:A20 E.H i g a=rbE A i g a:=by
  unfold A20 rbE
  rw[h.rq.ofk]
  by_cases c:0<=a/\a<8
  ·rw[if_pos c,if_pos c]
   by_cases o:U7 A i g 2=0
   ·obtain⟨I,V⟩:=Z7 o
    obtain⟨J,U⟩:=N8 I
    rw[if_pos o,h.rq.fileX I,(h.rq.data (i:=i.toNat) (j:=a.toNat) ⟨J,U,by omega⟩ V).1,o]
   ·rw[if_neg o]
  ·rw[if_neg c,if_neg c]
 have X:A4y E.H i g a=rbT A i g a/\A4z E.H i g a=rbV A i g a:=by
  unfold A4y A4z rbT rbV
  rw[W]
  by_cases c:rbE A i g a=0
  ·rw[if_pos c,if_pos c,if_pos c,if_pos c]
   unfold rbE at c
   split at c
   ·rename_i c1
    obtain⟨I,V⟩:=Z7 c
    obtain⟨J,U⟩:=N8 I
    rw[h.rq.fileX I,(h.rq.data (i:=i.toNat) (j:=a.toNat) ⟨J,U,by omega⟩ V).2,(h.rq.f _ J U).2.2]
    exact⟨rfl,rfl⟩
   ·cases c
  ·rw[if_neg c,if_neg c,if_neg c,if_neg c]
   exact⟨rfl,rfl⟩
 rwa[W,X.1,X.2]at Y
def atN(x:Nd):Int:=if x.k=1 then(x.l.length:Int)else(P6 (P7 x) 8:Int)
def atE(A:As)(i g:Int):Int:=if T4 A i g then 0 else 14
def atV(A:As)(i g:Int):Array Value:=if T4 A i g then atA (A.n i.toNat).k (A.n i.toNat).v (atN (A.n i.toNat))else atA 0 0 0
theorem B5w{x:L6}{f:Nat->List Nat}:∀{n:Nat},(∀j,j<n->(x.a j=0↔f j=[]))->(nzI x n).length=P6 f n
 |0,_=>rfl
 |n+1,h=>by
  have J:=B5w (n:=n) (λj U=>h j (by omega))
  show _=P6 f n+T7 (f n)
  unfold nzI
  by_cases I:x.a n=0
  ·rw[if_neg (by omega),J,(h n (by omega)).1 I]
   rfl
  ·rw[if_pos I,List.length_append,J,A0Z (λe=>I ((h n (by omega)).2 e))]
   rfl
theorem Sto.attr(h:Sto w E k A)(i g:Int):Calls Tryz.prog 28 #[.pointer (some ⟨E.o,0,none⟩),.agg #[.int .i64 i,.int .i64 g]] w λe w'=>e= .returned (.tuple #[.agg (atV A i g),.int .i64 (atE A i g)])/\B0 B5 w B5 w':=by
 have Y:=C30 h.rdv h.rq.sw.sd i g
 have J:B7d E.H i g=atE A i g:=by
  unfold B7d atE
  rw[h.rq.fileE,(h.rq.ents i g).2]
  by_cases t:T4 A i g
  ·rw[if_pos t,if_pos rfl,h.rq.fileX t,(h.rq.f _ (N8 t).1 (N8 t).2).1]
   by_cases I:(A.n i.toNat).k=1
   ·rw[if_pos I,A5p t I]
   ·rw[if_neg I]
  ·rw[if_neg t,if_neg (by decide)]
 have Z:C1C E.H i g=atV A i g:=by
  unfold C1C atV
  rw[J,(h.rq.ents i g).1]
  unfold atE
  by_cases t:T4 A i g
  ·obtain⟨U,V⟩:=N8 t
   obtain⟨W,f2,X⟩:=h.rq.f _ U V
   rw[if_pos t,if_pos rfl,if_pos t,h.rq.fileX t,W,X]
   unfold atN lsA
   by_cases I:(A.n i.toNat).k=1
   ·rw[if_pos I,if_pos (A5p t I),if_pos I]
   ·rw[if_neg I,if_neg I,B5w (f:=P7 (A.n i.toNat)) (λj hj=>h.rq.ow.nz i.toNat j ⟨U,V,hj⟩)]
  ·rw[if_neg t,if_neg (by decide),if_neg t]
 rwa[J,Z]at Y
end
end
section
open Go.RowKit Go.Maps
theorem A9j{ops:Array Oper}{rest:List Oper}{o:Oper}{a:Act}{w:World}{Q:Exit->Act->World->Prop}(J:o.guard=none)(V:o.op= .makeMap 86 none)
 (h:∀I w',w.heap.size<=I->(∀N,Mp w' I N (λ_=>none))->B0 B5 w B5 w'->wpList Tryz.prog ops Q rest (a.put o.dst (.map (some I))) w'):wpList Tryz.prog ops Q (o::rest) a w:=by
 refine wpList_plain J λK hK=>?_
 have U:=hK _ _ (h _ _ (Nat.le_refl _) (λN=>Mp.new w N) ((B0.refl B5 w).alloc (.map #[] 0)))
 unfold Oper.wp execOp
 simp only[V,Option.map_none]
 exact U
theorem B20(l I:Nat):Tryz.prog.built 88 [(0,.pointer (some ⟨l,0,none⟩)),(1,.map (some I))]=some #[.pointer (some ⟨l,0,none⟩),.map (some I)]:=by kernel_rfl
theorem A45{ops:Array Oper}{rest:List Oper}{o:Oper}{a:Act}{w:World}{Q:Exit->Act->World->Prop}(J:o.guard=none)(x y:Operand)(U:o.op= .build 88 #[(0,x),(1,y)])(l I:Nat)(V:a.eval x= .pointer (some ⟨l,0,none⟩))(W:a.eval y= .map (some I))
 (h:wpList Tryz.prog ops Q rest (a.put o.dst (.agg #[.pointer (some ⟨l,0,none⟩),.map (some I)])) w):wpList Tryz.prog ops Q (o::rest) a w:=by
 have e:((#[(0,x),(1,y)]:Array (Nat×Operand)).map λ(i,x)=>(i,a.eval x)).toList=[(0,.pointer (some ⟨l,0,none⟩)),(1,.map (some I))]:=by simp[V,W]
 refine wpList_build J 88 _ U (by rw[e,B20 l I];rfl) ?_
 rw[e,B20 l I]
 exact h
def D9(F:Nat->Prop)(d l b n N:Nat)(s:DS)(o I:Nat):Ev:=⟨F,d,l,b,n,N,s,J4 s n N,o,I,λ_=>none⟩
structure OpB (w:World) (l b o mo:Nat):Prop where
 l:w.heap.size<=l
 b:w.heap.size<=b
 o:w.heap.size<=o
 mo:w.heap.size<=mo
theorem B5x{H:Nat->List Nat}{M:Nat}(h:A3u H M=0):A1d (H 1) (M:Int)/\∀j,j<40->eI (H (2+j))=0:=by
 unfold A3u at h
 have I:A43 H M=0:=by
  by_cases e:A43 H M=0
  ·exact e
  ·rw[if_neg e]at h;exact absurd h e
 rw[if_pos I]at h
 refine⟨?_,λj J=>?_⟩
 ·unfold A43 at I
  split at I
  ·assumption
  ·cases I
 ·unfold A77 at h
  split at h
  ·rename_i i hi
   have:=List.find?_some hi
   exact absurd h (by simpa using this)
  ·rename_i hi
   have:=List.find?_eq_none.1 hi j (List.mem_range.2 J)
   simpa using this
section
variable {w:World} {F:Nat->Prop} {d n N:Nat} {s:DS}
theorem So.open_{J w2 Z:World}{l b o I:Nat}(hw:B0 B5 w B5 J)(V:Rs J F d l b n N s (J4 s n N))(aA:w.heap.size<=l/\w.heap.size<=b)(Y:20<=n/\n+48<=N/\N<=n+1026/\N<=1100)(aC:AOk (N-2-n) (J4 s n N).A)
 (h2:J.heap.size<=I) (hm:∀M,Mp w2 I M (λ_=>none)) (W:B0 B5 J B5 w2) (h3:w2.heap.size<=o) (U:C3 Z o 88 #[.pointer (some ⟨l,0,none⟩),.map (some I)]) (X:B0 B5 w2 B5 Z):So Z (D9 F d l b n N s o I)/\OpB w l b o I:=by
 have hu:∀k,UF F l b k->k<J.heap.size:=V.bd
 have aB:=(hm (N-2-n)).lt
 have:=W.size
 have:=hw.size
 refine⟨⟨⟨⟨V.dk.far (W.trans X) (λ_ x _=>x),V.lg.far (W.trans X) (λ_ x _=>x),V.sep⟩,⟨Y.1,Y.2.1,Y.2.2.1,by show N<=4096;omega⟩,aC,U.cell 0,U.cell 1,U.lt,(hm _).keep (X.block _ aB (λx=>x)),AOk.none _⟩,U,λx=>?_,λx=>?_⟩,aA.1,aA.2,by omega,by omega⟩
 ·have:=hu o x
  omega
 ·have:=hu I x
  omega
theorem C3X(h:Dk w F d N s)(aR:SB s N)(hn:20<=n/\n+48<=N/\N<=n+1026/\N<=1100)(bG:A10 s (2+n)<16777215)(aQ:AOk (N-2-n) (J4 s n N).A)(hx:Sx (D8 s n (J4 s n N)) (N-2-n))(aD:A3u (D8 s n (J4 s n N)) (N-2-n)=0)(hk:(C9 (D8 s n (J4 s n N)) 1).k≠0):
 Calls Tryz.prog 11 #[.pointer (some ⟨d,0,none⟩),.int .i64 (n:Int)] w λe w'=>∃l b o J,e= .returned (.tuple #[.pointer (some ⟨o,0,none⟩),.int .i64 0])/\So w' (D9 F d l b n N s o J)/\OpB w l b o J/\B0 B5 w B5 w':=by
 have aZ:=C6x hn
 have bA:=C6x aQ
 have aO:=C6x (A4i d N F s w h)
 have aL:=C6x ((A71 d N F s (n:Int) w h aR (by omega) (by omega) (by omega)).mono (R':=λe w'=>∃l b,e= .returned (.tuple #[.pointer (some ⟨l,0,none⟩),.int .i64 0])/\Rs w' F d l b n N s (J4 s n N)/\(w.heap.size<=l/\w.heap.size<=b)/\B0 B5 w B5 w') λe w' ho=>by
  rcases ho with⟨x,_⟩|⟨_,x,_⟩|⟨_,_,l,b,Y,Z,e3,e4⟩
  ·exact absurd (by omega) x
  ·rw[Int.toNat_natCast]at x;omega
  ·exact⟨l,b,Y,by rwa[Int.toNat_natCast]at Z,e3,e4⟩)
 have aH:=C6x (λV l b o J (so:So V (D9 F d l b n N s o J))=>show Calls Tryz.prog 42 #[.pointer (some ⟨o,0,none⟩)] V λe w'=>e= .returned (.int .i64 0)/\B0 B5 V B5 w' from by
  have:=A9a (p:=o) so.vu.rdv (show Sx (vwH (λ_=>none) (D8 s n (J4 s n N))) (N-2-n)from hx)
  rwa[show A3u (vwH (D9 F d l b n N s o J).O (D8 (D9 F d l b n N s o J).s (D9 F d l b n N s o J).n (D9 F d l b n N s o J).g)) ((D9 F d l b n N s o J).N-2-(D9 F d l b n N s o J).n)=0 from aD]at this)
 obtain⟨kk,aA⟩:∃kk,kk=(C9 (D8 s n (J4 s n N)) 1).k:=⟨_,rfl⟩
 obtain⟨X,hX⟩:∃X,X=C9 (D8 s n (J4 s n N)) 1:=⟨_,rfl⟩
 have aG:=C6x (λV l b o J (so:So V (D9 F d l b n N s o J))=>show Calls Tryz.prog 43 #[.pointer (some ⟨o,0,none⟩),.int .i64 1] V λe w'=>e= .returned (.tuple #[.agg (ic X),.int .i64 0])/\B0 B5 V B5 w' from by
  have h1:=B0q (p:=o) so.vu.rdv (show Sx (vwH (λ_=>none) (D8 s n (J4 s n N))) (N-2-n)from hx) 1 (by decide)
  have h2:eI (D8 s n (J4 s n N) (1+1))=0:=(B5x aD).2 0 (by decide)
  unfold A8f at h1
  refine h1.mono λe w' he=>?_
  obtain⟨Y,Z⟩:=he
  refine⟨?_,Z⟩
  rw[Y,hX]
  show Ending.returned (.tuple #[.agg (ic (C9 (D8 s n (J4 s n N)) 1)),.int .i64 (eI (D8 s n (J4 s n N) (1+1)))])=_
  rw[h2])
 have bD:=C6x (show X.k=kk by rw[hX,aA])
 have bH:=C6x aA
 have bJ:(1:Int)<=N:=by omega
 have bK:(N:Int)<=1100:=by omega
 have bQ:(20:Int)<=n:=by omega
 have bP:(n:Int)<=1100:=by omega
 have bI:((N:Int)==0)=false:=by rw[beq_eq_false_iff_ne];omega
 have Y:((n:Int)<20)=False:=eq_false (by omega)
 have Z:((N:Int)-2-n<46)=False:=eq_false (by omega)
 have e3:(1024<(N:Int)-2-n)=False:=eq_false (by omega)
 have bM:∀w:World,(Instr.field 35 (.agg #[.int .i64 1,.int .i64 1]) 0).run Tryz.prog w= .ok (.int .i64 1) w:=λ_=>by kernel_rfl
 have bO:(kk==0)=false:=by rw[beq_eq_false_iff_ne,aA];exact hk
 clear h aR hn bG aQ hx aD hk aA hX
 go_enter Tryz.func11,Tryz.ntmps11
 go_wp2_with (first
  |(go_at_call 41;refine aO.out.mono ?_;rintro e w0 ⟨rfl,rfl⟩)
  |(go_at_call 22;refine aL.out.mono ?_;rintro e w1 ⟨l,b,rfl,rs,aP,I⟩;have aM:=C6x rs;have aI:=C6x aP;have aE:=C6x I;clear rs aP I aL aO)
  |(refine A9j rfl rfl ?_;intro J w2 W hm I;have aK:=C6x W;have aJ:=C6x hm;have aF:=C6x I;clear W hm I)
  |(refine A45 rfl _ _ rfl l J rfl rfl ?_)
  |(refine C5 (t:=88) rfl _ rfl rfl ?_;intro o w3 W U I;have aB:=C6x (So.open_ aE.out aM.out aI.out aZ.out bA.out aK.out aJ.out aF.out W U I);have aS:=C6x ((aE.out.trans aF.out).trans I);clear W U I aM aI aK aJ)
  |(go_at_call 42;refine(aH.out _ _ _ _ _ aB.out.1).mono ?_;rintro e w4 ⟨rfl,I⟩;have aN:=C6x (aB.out.1.step I);have aT:=C6x (aS.out.trans I);clear I aH)
  |(go_at_call 32;refine(A25 _).mono ?_;rintro e w5 ⟨rfl,I⟩;have aC:=C6x (aN.out.step I);have aU:=C6x (aT.out.trans I);clear I aN)
  |(go_at_call 43;refine(aG.out _ _ _ _ _ aC.out).mono ?_;rintro e w6 ⟨rfl,I⟩;have bB:=C6x (aC.out.step I);have aV:=C6x (aU.out.trans I);clear I aC aG)
  |(refine B9 rfl rfl C6 ?_;intro z7 w7 W U I;have bF:=C6x W;have aY:=C6x U;have aW:=C6x I;clear W U I)
  |(refine B7 rfl _ _ rfl z7 aY.out rfl rfl C0 (C2 _) (C2 _) (D5 _) ?_;intro w8 U I;have hA:=aW.out.fresh bF.out I;have bC:=C6x (bB.out.step hA);have aX:=C6x (aV.out.trans hA);have c8:w8.cell? ⟨z7,0,none⟩=some (.int .i64 kk):=(by rw[U.cell,<-bD.out];rfl);clear U I hA)
  |fail)
 go_ret2
 exact⟨l,b,o,J,rfl,bC.out,aB.out.2,aX.out⟩
theorem B9K(h:Dk w F d N s)(aV:SB s N)(hn:20<=n/\n+48<=N/\N<=n+1026/\N<=1100)(bQ:A10 s (2+n)<16777215)(aU:AOk (N-2-n) (J4 s n N).A)(hx:Sx (D8 s n (J4 s n N)) (N-2-n))(aD:A3u (D8 s n (J4 s n N)) (N-2-n)=0)(hk:(C9 (D8 s n (J4 s n N)) 1).k=0)
 (hl:∀l b o I,LOk (D9 F d l b n N s o I) ((⟨(D9 F d l b n N s o I).H,0⟩:CS).begin (D9 F d l b n N s o I).M)/\(P8 (D9 F d l b n N s o I) ((⟨(D9 F d l b n N s o I).H,0⟩:CS).begin (D9 F d l b n N s o I).M)).2=0):
 Calls Tryz.prog 11 #[.pointer (some ⟨d,0,none⟩),.int .i64 (n:Int)] w λe w'=>∃l b o I w1,e= .returned (.tuple #[.pointer (some ⟨o,0,none⟩),.int .i64 0])/\So w1 (D9 F d l b n N s o I)/\OpB w l b o I/\B0 B5 w B5 w1/\OdR w1 (D9 F d l b n N s o I) (P8 (D9 F d l b n N s o I) ((⟨(D9 F d l b n N s o I).H,0⟩:CS).begin (D9 F d l b n N s o I).M)) w':=by
 have bI:=C6x hn
 have bJ:=C6x aU
 have aR:=C6x (A4i d N F s w h)
 have aN:=C6x ((A71 d N F s (n:Int) w h aV (by omega) (by omega) (by omega)).mono (R':=λe w'=>∃l b,e= .returned (.tuple #[.pointer (some ⟨l,0,none⟩),.int .i64 0])/\Rs w' F d l b n N s (J4 s n N)/\(w.heap.size<=l/\w.heap.size<=b)/\B0 B5 w B5 w') λe w' ho=>by
  rcases ho with⟨x,_⟩|⟨_,x,_⟩|⟨_,_,l,b,e1,e2,e3,e4⟩
  ·exact absurd (by omega) x
  ·rw[Int.toNat_natCast]at x;omega
  ·exact⟨l,b,e1,by rwa[Int.toNat_natCast]at e2,e3,e4⟩)
 have aJ:=C6x (λV l b o I (so:So V (D9 F d l b n N s o I))=>show Calls Tryz.prog 42 #[.pointer (some ⟨o,0,none⟩)] V λe w'=>e= .returned (.int .i64 0)/\B0 B5 V B5 w' from by
  have:=A9a (p:=o) so.vu.rdv (show Sx (vwH (λ_=>none) (D8 s n (J4 s n N))) (N-2-n)from hx)
  rwa[show A3u (vwH (D9 F d l b n N s o I).O (D8 (D9 F d l b n N s o I).s (D9 F d l b n N s o I).n (D9 F d l b n N s o I).g)) ((D9 F d l b n N s o I).N-2-(D9 F d l b n N s o I).n)=0 from aD]at this)
 obtain⟨kk,aA⟩:∃kk,kk=(C9 (D8 s n (J4 s n N)) 1).k:=⟨_,rfl⟩
 obtain⟨X,hX⟩:∃X,X=C9 (D8 s n (J4 s n N)) 1:=⟨_,rfl⟩
 have aI:=C6x (λV l b o I (so:So V (D9 F d l b n N s o I))=>show Calls Tryz.prog 43 #[.pointer (some ⟨o,0,none⟩),.int .i64 1] V λe w'=>e= .returned (.tuple #[.agg (ic X),.int .i64 0])/\B0 B5 V B5 w' from by
  have Y:=B0q (p:=o) so.vu.rdv (show Sx (vwH (λ_=>none) (D8 s n (J4 s n N))) (N-2-n)from hx) 1 (by decide)
  have h2:eI (D8 s n (J4 s n N) (1+1))=0:=(B5x aD).2 0 (by decide)
  unfold A8f at Y
  refine Y.mono λe w' he=>?_
  obtain⟨e1,e2⟩:=he
  refine⟨?_,e2⟩
  rw[e1,hX]
  show Ending.returned (.tuple #[.agg (ic (C9 (D8 s n (J4 s n N)) 1)),.int .i64 (eI (D8 s n (J4 s n N) (1+1)))])=_
  rw[h2])
 have bM:=C6x (show X.k=kk by rw[hX,aA])
 have bR:=C6x aA
 have bT:(1:Int)<=N:=by omega
 have bU:(N:Int)<=1100:=by omega
 have bY:(20:Int)<=n:=by omega
 have bX:(n:Int)<=1100:=by omega
 have bS:((N:Int)==0)=false:=by rw[beq_eq_false_iff_ne];omega
 have e1:((n:Int)<20)=False:=eq_false (by omega)
 have e2:((N:Int)-2-n<46)=False:=eq_false (by omega)
 have e3:(1024<(N:Int)-2-n)=False:=eq_false (by omega)
 have bV:∀w:World,(Instr.field 35 (.agg #[.int .i64 1,.int .i64 1]) 0).run Tryz.prog w= .ok (.int .i64 1) w:=λ_=>by kernel_rfl
 have bP:kk=0:=by rw[aA];exact hk
 have HX:=C6x hx
 have HL:=C6x hl
 have aG:=C6x (λV l b o I c m (k:Cg V (D9 F d l b n N s o I) c m (D9 F d l b n N s o I).H 0)=>C1F k (show 46<=N-2-n/\N-2-n<=1024 by omega))
 have aH:=C6x (λV l b o I c m (k:Cs V (D9 F d l b n N s o I) c m ((⟨(D9 F d l b n N s o I).H,0⟩:CS).begin (D9 F d l b n N s o I).M))=>A8Y k HX.out.row (HL.out l b o I).1)
 subst bP
 clear h aV hn bQ aU hx aD hk aA hX hl
 go_enter Tryz.func11,Tryz.ntmps11
 go_wp2_with (first
  |(go_at_call 41;refine aR.out.mono ?_;rintro e w0 ⟨rfl,rfl⟩)
  |(go_at_call 22;refine aN.out.mono ?_;rintro e w1 ⟨l,b,rfl,rs,aT,J⟩;have aO:=C6x rs;have aK:=C6x aT;have aE:=C6x J;clear rs aT J aN aR)
  |(refine A9j rfl rfl ?_;intro I w2 W hm J;have aM:=C6x W;have aL:=C6x hm;have aF:=C6x J;clear W hm J)
  |(refine A45 rfl _ _ rfl l I rfl rfl ?_)
  |(refine C5 (t:=88) rfl _ rfl rfl ?_;intro o w3 W U J;have aB:=C6x (So.open_ aE.out aO.out aK.out bI.out bJ.out aM.out aL.out aF.out W U J);have aX:=C6x ((aE.out.trans aF.out).trans J);clear W U J aO aK aM aL)
  |(go_at_call 42;refine(aJ.out _ _ _ _ _ aB.out.1).mono ?_;rintro e w4 ⟨rfl,J⟩;have aP:=C6x (aB.out.1.step J);have aY:=C6x (aX.out.trans J);clear J aJ)
  |(go_at_call 32;refine(A25 _).mono ?_;rintro e w5 ⟨rfl,J⟩;have aC:=C6x (aP.out.step J);have aZ:=C6x (aY.out.trans J);clear J aP)
  |(go_at_call 43;refine(aI.out _ _ _ _ _ aC.out).mono ?_;rintro e w6 ⟨rfl,J⟩;have bK:=C6x (aC.out.step J);have bA:=C6x (aZ.out.trans J);clear J aC aI)
  |(refine B9 rfl rfl C6 ?_;intro z7 w7 W U J;have bO:=C6x W;have bF:=C6x U;have bB:=C6x J;clear W U J)
  |(refine B7 rfl _ _ rfl z7 bF.out rfl rfl C0 (C2 _) (C2 _) (D5 _) ?_;intro w8 U J;have hA:=bB.out.fresh bO.out J;have aQ:=C6x (bK.out.step hA);have bC:=C6x (bA.out.trans hA);have c8:w8.cell? ⟨z7,0,none⟩=some (.int .i64 (0:Int)):=(by rw[U.cell,<-bM.out];rfl);clear U J hA)
  |(go_at_call 44;refine(A11 aQ.out).mono ?_;rintro e w9 ⟨c,m,rfl,Z,Y,h2,J⟩;have bH:=C6x Z;have aS:=C6x (And.intro Y h2);have bD:=C6x J;clear Z Y h2 J c8)
  |(go_at_call 45;refine(aG.out _ _ _ _ _ _ _ bH.out).mono ?_;rintro e bZ ⟨rfl,Z,J⟩;have bG:=C6x Z;have aW:=C6x J;clear Z J aG)
  |(go_at_call 46;refine(aH.out _ _ _ _ _ _ _ bG.out).mono ?_;rintro e cA he;obtain⟨e5,ho⟩:=he.op bD.out aS.out.1 aS.out.2 aW.out;rw[(HL.out l b o I).2]at e5;subst e5;have HO:=C6x ho;clear he ho aH)
  |fail)
 go_ret2
 exact⟨l,b,o,I,w8,rfl,aQ.out,aB.out.2,bC.out,HO.out⟩
end
end
end Go.Proofs.YtbefmjiclpobjaaGreat
