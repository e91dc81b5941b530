import Derived.Test.YtbefmjiclpobjaaGreatMj16
import Derived.Test.YtbefmjiclpobjaaGreatMj13
import Derived.Test.YtbefmjiclpobjaaGreatMj09
namespace Go.Proofs.YtbefmjiclpobjaaGreat
set_option maxHeartbeats 3200000
set_option maxRecDepth 3000
section
open Go.RowKit
theorem B1:(Tryz.prog.info? 35).map (·.size)=some 2:=by kernel_rfl
theorem P1:(Tryz.prog.info? 35).map (λi=>(i.zero,i.size,i.bytes))=some (some (.agg #[.int .i64 0,.int .i64 0]),2,16):=by kernel_rfl
section
variable {p M:Nat} {H:Nat->List Nat} {w:World}
theorem A7n(H:Nat->List Nat)(i g k:Int):Q3 H i g k=0\/Q3 H i g k=12\/Q3 H i g k=14:=by unfold Q3;split<;>(try split)<;>simp
theorem A2u(h:Rdv w p M H)(hs:Sd H M)(i g k:Int):Calls Tryz.prog 86 #[.pointer (some ⟨p,0,none⟩),.agg #[.int .i64 i,.int .i64 g],.int .i64 k] w (A8f w (A7l H i g k) (Q3 H i g k)):=by
 have HF:=C6x (λV (a:B0 B5 w B5 V)=>A7m (h.step a) hs i g)
 obtain⟨X,hX⟩:∃X,X=fileX H i g:=⟨_,rfl⟩
 obtain⟨e,he⟩:∃e,e=fileE H i g:=⟨_,rfl⟩
 rw[<-hX,<-he]at HF
 have hE:Q3 H i g k=if e=0 then(if X.k=k then 0 else 12)else 14:=by unfold Q3;rw[<-hX,<-he]
 have hO:A7l H i g k=if e=0/\X.k=k then X else J9:=by
  unfold A7l
  rw[hE,<-hX]
  by_cases Z:e=0
  ·by_cases Y:X.k=k
   ·rw[if_pos Z,if_pos Y,if_pos rfl,if_pos ⟨Z,Y⟩]
   ·rw[if_pos Z,if_neg Y,if_neg (by decide),if_neg (λx=>Y x.2)]
  ·rw[if_neg Z,if_neg (by decide),if_neg (λx=>Z x.1)]
 have aQ:e≠0->e=14:=λx=>by rw[he];exact(A2t (by rw[<-he];exact x)).2
 rw[hE,hO]
 clear hE hO hX h hs he
 by_cases Z:e=0
 ·subst Z
  by_cases Y:X.k=k
  ·rw[if_pos rfl,if_pos Y,if_pos ⟨rfl,Y⟩]
   have J:(X.k !=k)=false:=by rw[Y,bne_self_eq_false]
   clear Y aQ
   go_enter Tryz.func86,Tryz.ntmps86
   go_wp2_with (first
    |(refine C5 rfl _ rfl rfl ?_;intro z0 w0 U J I;have aH:=C6x J;have aA:=C6x I;clear U J I)
    |(refine B9 rfl rfl C6 ?_;intro z w1 U J I;have HZ:=C6x (Nat.le_trans aA.out.size U);have aN:=C6x J;have aB:=C6x (aA.out.trans I);have aI:=C6x (aH.out.over I);clear U J I)
    |(refine B6 rfl _ rfl z0 aI.out rfl Tryz.underlying35 rfl B1 rfl ?_)
    |(go_at_call 75;refine(HF.out _ aB.out).mono ?_;rintro e w2 ⟨rfl,I⟩;have aC:=C6x (aB.out.trans I);have aD:=C6x (aN.out.over I);clear I)
    |(refine B9 rfl rfl C6 ?_;intro z5 w5 U J I;have aK:=C6x J;have aE:=C6x (aC.out.trans I);have aJ:=C6x (aD.out.over I);have aO:=C6x (show z≠z5 fromλe=>by have:=aD.out.lt;omega);have aP:=C6x (Nat.le_trans aC.out.size U);clear U J I)
    |(refine B7 rfl _ _ rfl z5 aK.out rfl rfl C0 (C2 _) (C2 _) (D5 _) ?_;intro w6 J I;have aL:=C6x (aJ.out.far1 I aO.out);have aR:=C6x J;have aF:=C6x (aE.out.fresh aP.out I);have c6:=J.cell 0;clear J I;simp only[ic]at c6)
    |(refine B6 rfl _ rfl z5 aR.out rfl Tryz.underlying62 rfl C0 (C2 _) ?_)
    |(refine B7 rfl _ _ rfl z aL.out rfl rfl C0 (C2 _) (C2 _) (D5 _) ?_;intro w7 J I;have aM:=C6x J;have aG:=C6x (aF.out.fresh HZ.out I);clear J I)
    |fail)
   exact bodyPost_ret (V4 rfl _ _ rfl rfl aM.out Tryz.underlying62 rfl (by rw[C0];rfl)) rfl ⟨rfl,aG.out⟩
  ·rw[if_pos rfl,if_neg Y,if_neg (λx=>Y x.2)]
   have J:(X.k !=k)=true:=by rw[bne_iff_ne];exact Y
   clear Y aQ
   go_enter Tryz.func86,Tryz.ntmps86
   go_wp2_with (first
    |(refine C5 rfl _ rfl rfl ?_;intro z0 w0 U J I;have aH:=C6x J;have aA:=C6x I;clear U J I)
    |(refine B9 rfl rfl C6 ?_;intro z w1 U J I;have HZ:=C6x (Nat.le_trans aA.out.size U);have aN:=C6x J;have aB:=C6x (aA.out.trans I);have aI:=C6x (aH.out.over I);clear U J I)
    |(refine B6 rfl _ rfl z0 aI.out rfl Tryz.underlying35 rfl B1 rfl ?_)
    |(go_at_call 75;refine(HF.out _ aB.out).mono ?_;rintro e w2 ⟨rfl,I⟩;have aC:=C6x (aB.out.trans I);have aD:=C6x (aN.out.over I);clear I)
    |(refine B9 rfl rfl C6 ?_;intro z5 w5 U J I;have aK:=C6x J;have aE:=C6x (aC.out.trans I);have aJ:=C6x (aD.out.over I);have aO:=C6x (show z≠z5 fromλe=>by have:=aD.out.lt;omega);have aP:=C6x (Nat.le_trans aC.out.size U);clear U J I)
    |(refine B7 rfl _ _ rfl z5 aK.out rfl rfl C0 (C2 _) (C2 _) (D5 _) ?_;intro w6 J I;have aL:=C6x (aJ.out.far1 I aO.out);have aR:=C6x J;have aF:=C6x (aE.out.fresh aP.out I);have c6:=J.cell 0;clear J I;simp only[ic]at c6)
    |(refine T1 rfl rfl ?_)
    |(refine B7 rfl _ _ rfl z aL.out rfl rfl C0 (C2 _) (C2 _) (D5 _) ?_;intro w7 J I;have aM:=C6x J;have aG:=C6x (aF.out.fresh HZ.out I);clear J I)
    |fail)
   exact bodyPost_ret (V4 rfl _ _ rfl rfl aM.out Tryz.underlying62 rfl (by rw[C0];rfl)) rfl ⟨rfl,aG.out⟩
 ·obtain rfl:=aQ Z
  rw[if_neg Z,if_neg (λx=>Z x.1)]
  clear Z aQ
  go_enter Tryz.func86,Tryz.ntmps86
  go_wp2_with (first
   |(refine C5 rfl _ rfl rfl ?_;intro z0 w0 U J I;have aH:=C6x J;have aA:=C6x I;clear U J I)
   |(refine B9 rfl rfl C6 ?_;intro z w1 U J I;have HZ:=C6x (Nat.le_trans aA.out.size U);have aN:=C6x J;have aB:=C6x (aA.out.trans I);have aI:=C6x (aH.out.over I);clear U J I)
   |(refine B6 rfl _ rfl z0 aI.out rfl Tryz.underlying35 rfl B1 rfl ?_)
   |(go_at_call 75;refine(HF.out _ aB.out).mono ?_;rintro e w2 ⟨rfl,I⟩;have aC:=C6x (aB.out.trans I);have aD:=C6x (aN.out.over I);clear I)
   |(refine B9 rfl rfl C6 ?_;intro z5 w5 U J I;have aK:=C6x J;have aE:=C6x (aC.out.trans I);have aJ:=C6x (aD.out.over I);have aO:=C6x (show z≠z5 fromλe=>by have:=aD.out.lt;omega);have aP:=C6x (Nat.le_trans aC.out.size U);clear U J I)
   |(refine B7 rfl _ _ rfl z5 aK.out rfl rfl C0 (C2 _) (C2 _) (D5 _) ?_;intro w6 J I;have aL:=C6x (aJ.out.far1 I aO.out);have aR:=C6x J;have aF:=C6x (aE.out.fresh aP.out I);have c6:=J.cell 0;clear J I;simp only[ic]at c6)
   |(refine T1 rfl rfl ?_)
   |(refine B7 rfl _ _ rfl z aL.out rfl rfl C0 (C2 _) (C2 _) (D5 _) ?_;intro w7 J I;have aM:=C6x J;have aG:=C6x (aF.out.fresh HZ.out I);clear J I)
   |fail)
  exact bodyPost_ret (V4 rfl _ _ rfl rfl aM.out Tryz.underlying62 rfl (by rw[C0];rfl)) rfl ⟨rfl,aG.out⟩
end
theorem A59(i:Int)(w:World):Calls Tryz.prog 85 #[.int .i64 i] w λe w'=>e= .returned (.bool (decide (0<=i)&&decide (i<8)))/\w=w':=by
 by_cases I:0<=i
 ·by_cases J:i<8
  ·rw[decide_eq_true I,decide_eq_true J]
   go_enter Tryz.func85,Tryz.ntmps85
   go_wp2
   go_ret
   exact⟨rfl,rfl⟩
  ·rw[decide_eq_true I,decide_eq_false J]
   go_enter Tryz.func85,Tryz.ntmps85
   go_wp2
   go_ret
   exact⟨rfl,rfl⟩
 ·rw[decide_eq_false I]
  go_enter Tryz.func85,Tryz.ntmps85
  go_wp2
  go_ret
  exact⟨rfl,rfl⟩
theorem C2X(p l:Nat)(w:World)(c:w.cell? ⟨p,0,none⟩=some (.pointer (some ⟨l,0,none⟩))):Calls Tryz.prog 73 #[.pointer (some ⟨p,0,none⟩)] w λe w'=>e= .returned (.bool true)/\w=w':=by
 go_enter Tryz.func73,Tryz.ntmps73
 go_wp2
 go_ret
 exact⟨rfl,rfl⟩
end
section
open Go.RowKit
structure BsL (W:World) (rs:List (List Nat)) (v:Value) (w:World):Prop where
 ex:∃(F:Nat->Prop) (cs:List Value),Sl w F 54 1 v rs.length cs/\cs.length=rs.length/\(∀(i:Nat) (c:Value) (r:List Nat),cs[i]? =some c->rs[i]? =some r->∃z,c= .slice (some ⟨z,0,none⟩) 128 128/\Rd w 1 c 128 (r.map u8)/\r.length=128/\¬F z/\z<w.heap.size)/\B0 B5 W F w
section
variable {W w w':World} {rs:List (List Nat)} {v:Value}
theorem BsL.nil(W:World):BsL W [] (.slice none 0 0) W:=⟨B5,[],Sl.nil _ _ _,rfl,λi c r h=>by simp at h,B0.refl _ _⟩
theorem BsL.adv(h:BsL W rs v w):B0 B5 W B5 w:=by
 obtain⟨F,cs,_,_,_,a⟩:=h.ex
 exact a.nul
theorem BsL.form(h:BsL W rs v w):∃A c,v= .slice A rs.length c:=by
 obtain⟨F,cs,s,_⟩:=h.ex
 obtain⟨A,c,e,_⟩:=s.form0
 exact⟨A,c,e⟩
theorem BsL.rd(h:BsL W rs v w):RwD w v rs:=by
 obtain⟨F,cs,s,l,I,a⟩:=h.ex
 refine⟨cs,s.rd,l,λi c r U V=>?_⟩
 obtain⟨z,e,X,J,_⟩:=I i c r U V
 rw[J]
 exact X
theorem BsL.more{r:List Nat}{z:Nat}{V:World}(h:BsL W rs v w)(Z:B0 B5 w B5 V)(hz:w.heap.size<=z)(aL:z<V.heap.size)(hr:Rd V 1 (.slice (some ⟨z,0,none⟩) 128 128) 128 (r.map u8))(I:r.length=128):
 ∃cs,V.ownsRow 0 54 1 v rs.length cs/\∀(o:Obj) Y w3,w3.ownsRow 0 54 1 Y (rs.length+1) (cs++[.slice (some ⟨z,0,none⟩) 128 128])->(V.alloc o).grownBy w3 v.ownBlock->(Y.ownBlock=v.ownBlock\/Y.ownBlock=some (V.alloc o).heap.size)->BsL W (rs++[r]) Y w3:=by
 obtain⟨F,cs,s,l,aF,a⟩:=h.ex
 have sV:=s.far Z (λ_ h _=>h)
 refine⟨cs,sV.own,λo Y w3 aJ hg aA=>?_⟩
 have J:B0 B5 V B5 (V.alloc o):=(B0.refl _ _).alloc o
 have s2:=sV.far J (λ_ h _=>h)
 have aB:V.heap.size<=(V.alloc o).heap.size:=J.size
 obtain⟨g1,U⟩:=A1r s2 aJ hg aA (Nat.le_refl _)
 have aC:∀y,y<(V.alloc o).heap.size->¬F y->¬(F y\/Y.ownBlock=some y):=λy hy hn aI=>by
  rcases aI with X|X
  ·exact hn X
  ·rcases aA with e|e
   ·exact hn (s.inF y (by rw[<-e];exact X))
   ·rw[e]at X;injection X with X;omega
 refine⟨_,_,by rw[List.length_append,List.length_singleton];exact g1,by simp[l],λi c q hc hq=>?_,(a.over (Z.trans J)).trans U⟩
 by_cases hi:i<rs.length
 ·rw[List.getElem?_append_left (by omega)]at hc
  rw[List.getElem?_append_left hi]at hq
  obtain⟨y,e,aK,aG,hn,aH⟩:=aF i c q hc hq
  have hy:y<(V.alloc o).heap.size:=Nat.lt_of_lt_of_le aH (Nat.le_trans Z.size aB)
  refine⟨y,e,?_,aG,aC y hy hn,Nat.lt_of_lt_of_le hy U.size⟩
  have r1:=aK.far (λk _ _ I=>(Z.trans J).block k I (λx=>x)) (Z.trans J).size
  refine r1.far (λk hk _ I=>U.block k I (λhF=>?_)) U.size
  rw[e]at hk
  have:y=k:=by simpa[Value.ownBlock]using hk
  subst this
  exact hn hF
 ·have e1:i=rs.length:=by
   have:=(List.getElem?_eq_some_iff.1 hq).1
   rw[List.length_append,List.length_singleton]at this
   omega
  subst e1
  rw[List.getElem?_append_right (by omega),l,Nat.sub_self]at hc
  rw[List.getElem?_append_right (by omega),Nat.sub_self]at hq
  obtain rfl: .slice (some ⟨z,0,none⟩) 128 128=c:=by simpa using hc
  obtain rfl:r=q:=by simpa using hq
  have aD:¬F z:=λhF=>by have:=s.bd z hF;omega
  have aE:z<(V.alloc o).heap.size:=Nat.lt_of_lt_of_le aL aB
  refine⟨z,rfl,?_,I,aC z aE aD,Nat.lt_of_lt_of_le aE U.size⟩
  have r1:=hr.far (λk _ _ I=>J.block k I (λx=>x)) J.size
  refine r1.far (λk hk _ I=>U.block k I (λhF=>?_)) U.size
  have:z=k:=by simpa[Value.ownBlock]using hk
  subst this
  exact aD hF
end
def A7o(H:Nat->List Nat)(x:L6):List (List Nat):=(nzI x 8).map (λa=>H a.toNat)
noncomputable def L4(H:Nat->List Nat)(i g:Int):List En:=if Q3 H i g 1=0 then A5c (A7o H (fileX H i g))else []
noncomputable def J3(H:Nat->List Nat)(i g:Int):Int:=if Q3 H i g 1=0 then B1w (A7o H (fileX H i g))else Q3 H i g 1
theorem A1P{x:L6}{a:Int}:∀{j:Nat},a∈nzI x j->∃i,i<j/\x.a i=a/\a≠0
 |0,h=>by simp[nzI]at h
 |j+1,h=>by
  unfold nzI at h
  split at h
  ·rename_i J
   rcases List.mem_append.1 h with I|I
   ·obtain⟨i,U,h3⟩:=A1P I
    exact⟨i,by omega,h3⟩
   ·rw[List.mem_singleton]at I
    exact⟨j,by omega,I.symm,by rw[I];exact J⟩
  ·obtain⟨i,U,h3⟩:=A1P h
   exact⟨i,by omega,h3⟩
theorem Sd.places{H:Nat->List Nat}{M:Nat}(h:Sd H M){i g:Int}(X:fileE H i g=0):∀a∈nzI (fileX H i g) 8,42<=a/\a<M:=λa J=>by
 obtain⟨Z,h2,_,_,V⟩:=R5 X
 rw[V]at J
 obtain⟨j,Y,e,U⟩:=A1P J
 have:=(h.dec (i:=i.toNat) (by omega) (by omega)).2.2 j Y
 rw[e]at this
 rcases this with I|I
 ·exact absurd I U
 ·exact I
end
section
open Go.RowKit
def EsR(w:World)(l:List En)(I:Int)(e:Ending)(w':World):Prop:=∃A c,e= .returned (.tuple #[.slice A l.length c,.int .i64 I])/\EnO w l (.slice A l.length c) w'/\B0 B5 w B5 w'
def EsQ(W:World)(H:Nat->List Nat)(P:List Int)(t8 t25:Value)(wr:World):Prop:=∃k:Nat,t25= .int .i64 (k:Int)/\k<=P.length/\BsL W ((P.take k).map (λa=>H a.toNat)) t8 wr
theorem B38:(Tryz.prog.info? 54).map (λi=>(i.zero,i.size,i.bytes))=some (some (.slice none 0 0),1,24):=by kernel_rfl
section
variable {p M:Nat} {H:Nat->List Nat} {w:World}
theorem A0b(h:Rdv w p M H)(hs:Sd H M)(i g:Int):Calls Tryz.prog 74 #[.pointer (some ⟨p,0,none⟩),.agg #[.int .i64 i,.int .i64 g]] w (EsR w (L4 H i g) (J3 H i g)):=by
 have HF:=C6x (λV (a:B0 B5 w B5 V)=>A2u (h.step a) hs i g 1)
 have HV:=C6x h
 have HS:=C6x hs
 clear h hs
 by_cases X:Q3 H i g 1=0
 ·obtain⟨x,hx⟩:∃x,x=fileX H i g:=⟨_,rfl⟩
  obtain⟨h1,h2,h3⟩:=A0W X
  rw[X,h3,<-hx]at HF
  have aM:=C6x (show∀a∈nzI x 8,42<=a/\a<M by rw[hx];exact HS.out.places h1)
  have Z:L4 H i g=A5c (A7o H x):=by unfold L4;rw[if_pos X,hx]
  have hE:J3 H i g=B1w (A7o H x):=by unfold J3;rw[if_pos X,hx]
  rw[Z,hE]
  clear Z
  have aL:=C6x (A3C x)
  obtain⟨P,hP⟩:∃P,P=nzI x 8:=⟨_,rfl⟩
  obtain⟨N,hN⟩:∃N,N=P.length:=⟨_,rfl⟩
  have bX:(N:Int)<=8:=by have:=A6W x 8;rw[hN,hP];omega
  have aZ:A7o H x=P.map (λa=>H a.toNat):=by rw[hP];rfl
  rw[<-hP]at aM aL
  rw[<-hN]at aL
  rw[aZ]
  have HN:=C6x hN
  have H8:=C6x (show B8N (P.map (λa=>H a.toNat))fromλr hr=>by
   obtain⟨a,I,rfl⟩:=List.mem_map.1 hr
   have:=aM.out a I
   exact(HS.out.row a.toNat (by omega)).2)
  have aK:=C6x (λv V (h:RwD V v (P.map (λa=>H a.toNat)))=>A9Q v _ V h H8.out)
  obtain⟨L,Z⟩:∃L,L=A5c (P.map (λa=>H a.toNat)):=⟨_,rfl⟩
  obtain⟨er,bD⟩:∃er,er=B1w (P.map (λa=>H a.toNat)):=⟨_,rfl⟩
  unfold A9P at aK
  rw[<-Z,<-bD]at aK⊢
  clear Z bD
  have bP:=C6x (λV (b:B0 B5 w B5 V) (k:Nat) (hk:k<P.length)=>show Calls Tryz.prog 94 #[.pointer (some ⟨p,0,none⟩),.int .i64 P[k]] V (RdR V (H (P[k]).toNat))by
   have h2:=aM.out _ (List.getElem_mem hk)
   have:=HV.out.home _ V b (P[k]).toNat (by omega)
   rwa[Int.toNat_of_nonneg (by omega)]at this)
  obtain⟨i0,hi,bU,aF,aG⟩:=info_parts B38
  clear X h1 h2 h3 hx hE hP hN aZ
  go_enter Tryz.func74,Tryz.ntmps74
  go_wp2_with (first
   |(refine C5 rfl _ rfl rfl ?_;intro z0 w0 Y J I;have aI:=C6x J;have aA:=C6x I;clear Y J I)
   |(refine B6 rfl _ rfl z0 aI.out rfl Tryz.underlying35 rfl B1 rfl ?_)
   |(go_at_call 86;refine(HF.out _ aA.out).mono ?_;rintro e w2 ⟨rfl,I⟩;have aB:=C6x (aA.out.trans I);clear I)
   |(refine B9 rfl rfl C6 ?_;intro z5 w5 Y J I;have aJ:=C6x J;have aH:=C6x (aB.out.trans I);have aO:=C6x (Nat.le_trans aB.out.size Y);clear Y J I)
   |(refine B7 rfl _ _ rfl z5 aJ.out rfl rfl C0 (C2 _) (C2 _) (D5 _) ?_;intro w6 J I;have aY:=C6x J;have aD:=C6x (aH.out.fresh aO.out I);clear J I)
   |(refine B6 rfl _ rfl z5 aY.out rfl Tryz.underlying62 rfl C0 (C2 _) ?_)
   |(go_at_call 26;refine(aL.out w6).mono ?_;rintro e w7 ⟨v7,F7,rfl,s7,a7⟩;obtain⟨A7,c7,rfl,aQ,aR⟩:=s7.form0;have aX:=C6x s7;have aS:=C6x (aD.out.trans a7.nul);clear s7 a7 aQ aR)
   |fail)
  go_loopw [8,25] (EsQ w7 H P) (λ_ t _=>N-(intOf t).toNat)
  case atStart=>exact⟨0,rfl,Nat.zero_le _,BsL.nil _⟩
  case round=>
   obtain⟨k,rfl,hk,U⟩:=hrel
   rw[<-HN.out]at hk
   by_cases aP:k<N
   ·have aC:k<P.length:=by rw[<-HN.out];exact aP
    have bG:((P.take k).map (λa=>H a.toNat)).length=k:=by simp;omega
    have aN:=C6x (show(P.take (k+1)).map (λa=>H a.toNat)=(P.take k).map (λa=>H a.toNat)++[H (P[k]).toNat]by
     rw[List.take_succ_eq_append_getElem aC,List.map_append];rfl)
    obtain⟨g7,bV,bT,aQ,aR⟩:=aX.out.form (by omega)
    injection bT with e1 e2 e3
    subst e1 e3
    clear aQ aR e2
    have bC:=(aX.out.far U.adv (λ_ h _=>h)).own.cellAt k (by simp;omega)
    have bR:wr.cell? ⟨g7,k,none⟩=some (.int .i64 P[k]):=by
     rw[bC];simp[List.getElem?_eq_getElem aC]
    have aV:=C6x (bP.out wr (aS.out.trans U.adv) k aC)
    obtain⟨A4,c4,rfl⟩:=U.form
    have aE:=C6x (λ(V:World) (a:B0 B5 wr B5 V) (z:Nat) h1 h2 h3 h4=>BsL.more (r:=H (P[k]'aC).toNat) (z:=z) U a h1 h2 h3 h4)
    obtain⟨a,I⟩:∃a,a=P[k]:=⟨_,rfl⟩
    rw[<-I]at bR aV aE aN
    rw[bG]at aE⊢
    obtain⟨bO,bM⟩:∃bO,bO=(P.take k).map (λa=>H a.toNat):=⟨_,rfl⟩
    rw[<-bM]at aE aN
    have aW:=C6x aP
    have bZ:(k:Int)<(N:Int):=by omega
    have bY:(k:Int)<=7:=by omega
    clear U bC bG aC I bM hk
    go_wp2_with (first
     |(go_at_call 94;refine aV.out.mono ?_;rintro e w8 ⟨z,rfl,aF,aG,hr,hl,bA⟩;obtain⟨cs,bJ,bI⟩:=aE.out w8 bA z aF aG hr hl;have bQ:=C6x bI;clear aF aG hr hl bI bA)
     |(at_builtin;refine wpList_append_own_at _ rfl (.tmp 38) (.tmp 40) 214 rfl 0 54 i0 (.slice none 0 0) 1 24 Tryz.underlying214 hi bU aF aG rfl (by decide) (.slice A4 k c4) k _ rfl (bJ.alloc _) ⟨w8.heap.size,0,none⟩ 1 1 [.slice (some ⟨z,0,none⟩) 128 128] rfl rfl (cell_one_new _ _ _) ?c2 ?c3 ?c4 (Nat.zero_le _) ?c5)
     |fail)
    case c2=>intro u hu;simp at hu;subst hu;rfl
    case c3=>unfold maxLen;omega
    case c4=>omega
    case c5=>
     intro v' w9 bK bF _ bB
     have h9:=bQ.out _ v' w9 bK bF (by simpa using bB)
     rw[<-aN.out]at h9
     have H9:=C6x h9
     obtain⟨A9,c9,rfl⟩:=h9.form
     clear h9 bK bF bB bJ
     go_wp2_with fail
     exact⟨⟨k+1,by simp,by rw[<-HN.out];exact aW.out,H9.out⟩,by have:=aW.out;simp[intOf]<;>omega⟩
   ·obtain rfl:k=N:=by omega
    rw[show P.take k=P by rw[HN.out];exact List.take_length]at U
    have aU:=C6x (aK.out _ wr U.rd)
    obtain⟨A4,c4,rfl⟩:=U.form
    have aT:=C6x (aS.out.trans U.adv)
    have bH:(P.map (λa=>H a.toNat)).length=k:=by rw[List.length_map];exact HN.out.symm
    rw[bH]at aU⊢
    clear U aP hk bH
    go_wp2_with (first
     |(go_at_call 136;refine aU.out.mono ?_;rintro e w9 ⟨A9,c9,rfl,h9,a9⟩;have H9:=C6x (And.intro h9 a9);clear h9 a9)
     |fail)
    go_ret2
    exact⟨A9,c9,rfl,H9.out.1.since aT.out,aT.out.trans H9.out.2⟩
 ·have bS:=X
  rcases A7n H i g 1 with e|e|e
  ·exact absurd e X
  all_goals
   have Z:L4 H i g=[]:=by unfold L4;rw[if_neg X]
   have hE:J3 H i g=Q3 H i g 1:=by unfold J3;rw[if_neg X]
   rw[Z,hE]
   rw[e]at HF⊢
   clear e X bS Z hE
   go_enter Tryz.func74,Tryz.ntmps74
   go_wp2_with (first
    |(refine C5 rfl _ rfl rfl ?_;intro z0 w0 Y J I;have aI:=C6x J;have aA:=C6x I;clear Y J I)
    |(refine B6 rfl _ rfl z0 aI.out rfl Tryz.underlying35 rfl B1 rfl ?_)
    |(go_at_call 86;refine(HF.out _ aA.out).mono ?_;rintro e w2 ⟨rfl,I⟩;have aB:=C6x (aA.out.trans I);clear I)
    |(refine B9 rfl rfl C6 ?_;intro z5 w5 Y J I;have aJ:=C6x J;have aH:=C6x (aB.out.trans I);have aO:=C6x (Nat.le_trans aB.out.size Y);clear Y J I)
    |(refine B7 rfl _ _ rfl z5 aJ.out rfl rfl C0 (C2 _) (C2 _) (D5 _) ?_;intro w6 J I;have aY:=C6x J;have aD:=C6x (aH.out.fresh aO.out I);clear J I)
    |fail)
   go_ret2
   exact⟨none,0,rfl,(EnO.nil w).step aD.out,aD.out⟩
end
end
section
open Go.RowKit
theorem A8H{l:List En}(h:S6 l):Ris l:=by
 have aA:∀n i:Nat,∀x y:En,l[i]? =some x->l[i+1+n]? =some y->ltS x.s y.s:=by
  intro n
  induction n with
  |zero=>
   intro i x y J I
   have:=(h (i+1) y I).2 x (by omega) (by simpa using J)
   exact this
  |succ n ih=>
   intro i x y J I
   have Z:i+1+n<l.length:=by have:=(List.getElem?_eq_some_iff.1 I).1;omega
   have U:l[i+1+n]? =some l[i+1+n]:=List.getElem?_eq_getElem Z
   have V:=ih i x _ J U
   have X:=(h (i+1+(n+1)) y I).2 l[i+1+n] (by omega) (by rw[show i+1+(n+1)-1=i+1+n by omega];exact U)
   exact A0a V X
 unfold Ris
 rw[List.pairwise_iff_getElem]
 intro i j hi Y aB
 obtain⟨n,rfl⟩:∃n,j=i+1+n:=⟨j-(i+1),by omega⟩
 exact aA n i _ _ (List.getElem?_eq_getElem hi) (List.getElem?_eq_getElem Y)
theorem B8W(r:List (List Nat)):Ris (A5c r)/\(A5c r).length<=24:=by
 by_cases h:okP r
 ·obtain⟨e,_⟩:=A6h h
  obtain⟨I,J⟩:=B4F h.2.2.1
  rw[e]
  exact⟨A8H I,J⟩
 ·rw[(B3z h).1]
  exact⟨List.Pairwise.nil,by simp⟩
theorem A2V(H:Nat->List Nat)(i g:Int):Ris (L4 H i g)/\(L4 H i g).length<=24:=by
 unfold L4
 split
 ·exact B8W _
 ·exact⟨List.Pairwise.nil,by simp⟩
def A4u:En:=⟨⟨#[]⟩,0,0,0⟩
def Y5(l:List En)(s:ByteArray):Option En:=l.find? (λx=>decide (x.s=s))
theorem A0V.fnd_yes{l:List En}{s:ByteArray}{p:Nat}(h:A0V l s p true)(U:Ris l):∃x,l[p]? =some x/\Y5 l s=some x:=by
 obtain⟨x,J,V⟩:=h.at_.1 rfl
 refine⟨x,J,?_⟩
 unfold Y5
 cases hf:l.find? (λx=>decide (x.s=s))with
 |none=>
  have:=List.find?_eq_none.1 hf x (List.mem_of_getElem? J)
  simp[V]at this
 |some y=>
  have X:=List.find?_some hf
  obtain⟨k,I⟩:=List.mem_iff_getElem?.1 (List.mem_of_find?_eq_some hf)
  have:=h.eq_at U I
  rw[X,Bool.and_true]at this
  obtain rfl:k=p:=by simpa using this.symm
  rw[J]at I
  exact I.symm
theorem A0V.fnd_no{l:List En}{s:ByteArray}{p:Nat}(h:A0V l s p false)(J:Ris l):Y5 l s=none:=by
 unfold Y5
 rw[List.find?_eq_none]
 intro x U
 obtain⟨k,I⟩:=List.mem_iff_getElem?.1 U
 have:=h.eq_at J I
 rw[Bool.and_false]at this
 simpa using this
noncomputable def M4(H:Nat->List Nat)(i g:Int)(s:ByteArray):Int:=if J3 H i g=0 then(if(Y5 (L4 H i g) s).isSome=true then 0 else 11)else J3 H i g
noncomputable def L5(H:Nat->List Nat)(i g:Int)(s:ByteArray):En:=if J3 H i g=0 then(Y5 (L4 H i g) s).getD A4u else A4u
theorem A5A:Tryz.prog.built 74 []=some (ea A4u):=by kernel_rfl
theorem A1V{ops:Array Oper}{rest:List Oper}{o:Oper}{a:Act}{w:World}{Q:Exit->Act->World->Prop}(I:o.guard=none)(J:o.op= .build 74 #[])
 (h:wpList Tryz.prog ops Q rest (a.put o.dst (.agg (ea A4u))) w):wpList Tryz.prog ops Q (o::rest) a w:=by
 refine wpList_build I 74 #[] J (by simp[A5A]) ?_
 simpa[A5A]using h
theorem D1(e:En):(ea e).size=4:=rfl
theorem E7:(Tryz.prog.info? 74).map (λi=>(i.zero,i.size,i.bytes))=some (some (.agg (ea A4u)),4,40):=by kernel_rfl
theorem M0.range{w:World}{A:Option Addr}{n c k:Nat}{l:List En}{x:En}(h:M0 w (.slice A n c) l)(hn:n=l.length)(Y:l[k]? =some x):k<n/\∃b o,A=some ⟨b,o,none⟩/\w.rangeAt b (o+k * 4) (ec x):=by
 obtain⟨Z,rfl⟩:=List.getElem?_eq_some_iff.1 Y
 obtain⟨b,o,e,_,J,U,V,h3⟩:=h.at_ hn Z
 refine⟨by omega,b,o,e,λj u I=>?_⟩
 have X:j<4:=(List.getElem?_eq_some_iff.1 I).1
 match j,X with
 |0,_=>simp[ec]at I;subst I;exact J
 |1,_=>simp[ec]at I;subst I;exact U
 |2,_=>simp[ec]at I;subst I;exact V
 |3,_=>simp[ec]at I;subst I;exact h3
def EnX(w:World)(x:En)(I:Int)(e:Ending)(w':World):Prop:=e= .returned (.tuple #[.agg (ea x),.int .i64 I])/\B0 B5 w B5 w'
section
variable {p M:Nat} {H:Nat->List Nat} {w:World}
theorem A9W(h:Rdv w p M H)(hs:Sd H M)(i g:Int)(s:ByteArray):Calls Tryz.prog 80 #[.pointer (some ⟨p,0,none⟩),.agg #[.int .i64 i,.int .i64 g],.string s] w (EnX w (L5 H i g s) (M4 H i g s)):=by
 have HF:=C6x (λV (a:B0 B5 w B5 V)=>A0b (h.step a) hs i g)
 obtain⟨hr,hl⟩:=A2V H i g
 have hX:L5 H i g s=if J3 H i g=0 then(Y5 (L4 H i g) s).getD A4u else A4u:=rfl
 have hE:M4 H i g s=if J3 H i g=0 then(if(Y5 (L4 H i g) s).isSome=true then 0 else 11)else J3 H i g:=rfl
 rw[hX,hE]
 obtain⟨L,hL⟩:∃L,L=L4 H i g:=⟨_,rfl⟩
 obtain⟨er,aL⟩:∃er,er=J3 H i g:=⟨_,rfl⟩
 rw[<-hL,<-aL]at HF⊢
 rw[<-hL]at hr hl
 unfold EsR at HF
 obtain⟨n,hn⟩:∃n,n=L.length:=⟨_,rfl⟩
 rw[<-hn]at HF hl
 have HR:=C6x hr
 have HN:=C6x hn
 have HL:=C6x (show L.length<=1000 by omega)
 have aR:(n:Int)<=24:=by omega
 clear hX hE hL aL h hs hr hl hn
 by_cases he:er=0
 ·subst he
  rw[if_pos rfl,if_pos rfl]
  obtain⟨fo,aH⟩:∃fo,fo=Y5 L s:=⟨_,rfl⟩
  rw[<-aH]
  have aK:=C6x (λV (v:Value) (a:M0 V v L)=>(B18 v L s V a HR.out HL.out).mono (R':=λx w'=>B0 B5 V B5 w'/\((∃e k,fo=some e/\L[k]? =some e/\x= .returned (.tuple #[.int .i64 ((k:Nat):Int),.bool true]))\/(fo=none/\∃k:Nat,x= .returned (.tuple #[.int .i64 (k:Int),.bool false])))) λx w' hx=>by
   obtain⟨k,b,hp,rfl,I⟩:=hx
   refine⟨I,?_⟩
   cases b with
   |true=>obtain⟨e,h1,X⟩:=hp.fnd_yes HR.out;exact .inl ⟨e,k,by rw[aH];exact X,h1,rfl⟩
   |false=>exact .inr ⟨by rw[aH];exact hp.fnd_no HR.out,k,rfl⟩)
  clear aH
  cases fo with
  |none=>
   go_enter Tryz.func80,Tryz.ntmps80
   go_wp2_with (first
    |(refine C5 rfl _ rfl rfl ?_;intro z0 w0 U J I;have aC:=C6x J;have Y:=C6x I;clear U J I)
    |(refine B9 rfl rfl E7 ?_;intro z w1 U J I;have HZ:=C6x (Nat.le_trans Y.out.size U);have aG:=C6x J;have Z:=C6x (Y.out.trans I);have aD:=C6x (aC.out.over I);clear U J I)
    |(refine B6 rfl _ rfl z0 aD.out rfl Tryz.underlying35 rfl B1 rfl ?_)
    |(go_at_call 74;refine(HF.out _ Z.out).mono ?_;rintro e w2 ⟨A2,c2,rfl,X,I⟩;have HO:=C6x X;have aA:=C6x (Z.out.trans I);have aE:=C6x (aG.out.over I);clear X I)
    |(go_at_call 140;refine(aK.out w2 _ (by rw[HN.out];exact(by have:=HO.out.rd;rwa[HN.out]at this))).mono ?_;rintro e w3 ⟨I,⟨e',k,hf,_⟩|⟨_,k,rfl⟩⟩;exact absurd hf (by simp);have aI:=C6x (aA.out.trans I);have aJ:=C6x (aE.out.over I);clear I)
    |(refine A1V rfl rfl ?_)
    |(refine B7 rfl _ _ rfl z aJ.out rfl rfl C8 (D1 _) (D1 _) (R4 _) ?_;intro w4 J I;have aF:=C6x J;have aB:=C6x (aI.out.fresh HZ.out I);clear J I)
    |fail)
   exact bodyPost_ret (V4 rfl _ _ rfl rfl aF.out Tryz.underlying74 rfl (by rw[C8];rfl)) rfl ⟨rfl,aB.out⟩
  |some x=>
   have aN:=C6x (λV (v:Value) (a:M0 V v L)=>(aK.out V v a).mono (R':=λr w'=>B0 B5 V B5 w'/\∃k:Nat,L[k]? =some x/\r= .returned (.tuple #[.int .i64 (k:Int),.bool true])) λr w' hx=>by
    obtain⟨I,⟨e',k,h1,X,h3⟩|⟨h1,_⟩⟩:=hx
    ·cases h1;exact⟨I,k,X,h3⟩
    ·cases h1)
   clear aK
   go_enter Tryz.func80,Tryz.ntmps80
   go_wp2_with (first
    |(refine C5 rfl _ rfl rfl ?_;intro z0 w0 U J I;have aC:=C6x J;have Y:=C6x I;clear U J I)
    |(refine B9 rfl rfl E7 ?_;intro z w1 U J I;have HZ:=C6x (Nat.le_trans Y.out.size U);have aG:=C6x J;have Z:=C6x (Y.out.trans I);have aD:=C6x (aC.out.over I);clear U J I)
    |(refine B6 rfl _ rfl z0 aD.out rfl Tryz.underlying35 rfl B1 rfl ?_)
    |(go_at_call 74;refine(HF.out _ Z.out).mono ?_;rintro e w2 ⟨A2,c2,rfl,X,I⟩;have HO:=C6x X;have aA:=C6x (Z.out.trans I);have aE:=C6x (aG.out.over I);clear X I)
    |(go_at_call 140;refine(aN.out w2 _ (by rw[HN.out];exact(by have:=HO.out.rd;rwa[HN.out]at this))).mono ?_;rintro e w3 ⟨I,k,hk,rfl⟩;have aI:=C6x (aA.out.trans I);have aJ:=C6x (aE.out.over I);obtain⟨aP,b,o,rfl,aM⟩:=(HO.out.step I).rd.range HN.out hk;have aO:=C6x aM;have aQ:(k:Int)<(n:Int):=(by omega);clear I aM hk)
    |(refine wpList_load_mid rfl 74 (.tmp 33) rfl b _ rfl (ec x) _ aO.out Tryz.underlying74 rfl (by rw[C8];rfl) ?_)
    |(refine B7 rfl _ _ rfl z aJ.out rfl (show _=Value.agg (ea x)from rfl) C8 (D1 _) (D1 _) (R4 _) ?_;intro w4 J I;have aF:=C6x J;have aB:=C6x (aI.out.fresh HZ.out I);clear J I)
    |fail)
   exact bodyPost_ret (V4 rfl _ _ rfl rfl aF.out Tryz.underlying74 rfl (by rw[C8];rfl)) rfl ⟨rfl,aB.out⟩
 ·rw[if_neg he,if_neg he]
  have J:(er !=0)=true:=by rw[bne_iff_ne];exact he
  clear he
  go_enter Tryz.func80,Tryz.ntmps80
  go_wp2_with (first
   |(refine C5 rfl _ rfl rfl ?_;intro z0 w0 U J I;have aC:=C6x J;have Y:=C6x I;clear U J I)
   |(refine B9 rfl rfl E7 ?_;intro z w1 U J I;have HZ:=C6x (Nat.le_trans Y.out.size U);have aG:=C6x J;have Z:=C6x (Y.out.trans I);have aD:=C6x (aC.out.over I);clear U J I)
   |(refine B6 rfl _ rfl z0 aD.out rfl Tryz.underlying35 rfl B1 rfl ?_)
   |(go_at_call 74;refine(HF.out _ Z.out).mono ?_;rintro e w2 ⟨A2,c2,rfl,X,I⟩;have HO:=C6x X;have aA:=C6x (Z.out.trans I);have aE:=C6x (aG.out.over I);clear X I)
   |(refine A1V rfl rfl ?_)
   |(refine B7 rfl _ _ rfl z aE.out rfl rfl C8 (D1 _) (D1 _) (R4 _) ?_;intro w4 J I;have aF:=C6x J;have aB:=C6x (aA.out.fresh HZ.out I);clear J I)
   |fail)
  exact bodyPost_ret (V4 rfl _ _ rfl rfl aF.out Tryz.underlying74 rfl (by rw[C8];rfl)) rfl ⟨rfl,aB.out⟩
noncomputable def mfE(H:Nat->List Nat)(x:En):Int:=if x.k=1 then(if(L4 H x.i x.g).length=0 then J3 H x.i x.g else 13)else 0
theorem A8J(h:Rdv w p M H)(hs:Sd H M)(x:En):Calls Tryz.prog 81 #[.pointer (some ⟨p,0,none⟩),.agg (ea x)] w λe w'=>e= .returned (.int .i64 (mfE H x))/\B0 B5 w B5 w':=by
 have Z:=C6x (λV (a:B0 B5 w B5 V)=>A0b (h.step a) hs x.i x.g)
 have hE:mfE H x=if x.k=1 then(if(L4 H x.i x.g).length=0 then J3 H x.i x.g else 13)else 0:=rfl
 rw[hE]
 obtain⟨L,hL⟩:∃L,L=L4 H x.i x.g:=⟨_,rfl⟩
 obtain⟨er,aC⟩:∃er,er=J3 H x.i x.g:=⟨_,rfl⟩
 rw[<-hL,<-aC]at Z⊢
 unfold EsR at Z
 obtain⟨n,hn⟩:∃n,n=L.length:=⟨_,rfl⟩
 rw[<-hn]at Z⊢
 clear hE hL aC h hs hn
 obtain⟨es,ei,eg,ek⟩:=x
 simp only[ea]at Z⊢
 by_cases hk:ek=1
 ·subst hk
  rw[if_pos rfl]
  by_cases h0:n=0
  ·subst h0
   rw[if_pos rfl]
   go_enter Tryz.func81,Tryz.ntmps81
   go_wp2_with (first
    |(refine C5 rfl _ rfl rfl ?_;intro X U hz I J;have aB:=C6x I;have Y:=C6x J;have d1:U.cell? ⟨X,1,none⟩=some (.int .i64 ei):=I.cell 1;have d2:U.cell? ⟨X,2,none⟩=some (.int .i64 eg):=I.cell 2;have d3:U.cell? ⟨X,3,none⟩=some (.int .i64 1):=I.cell 3;clear hz I J)
    |(go_at_call 74;refine(Z.out _ Y.out).mono ?_;rintro e w2 ⟨A2,c2,rfl,h2,J⟩;have aA:=C6x (Y.out.trans J);clear h2 J)
    |fail)
   go_ret
   exact⟨rfl,aA.out⟩
  ·rw[if_neg h0]
   have aE:(0:Int)<(n:Int):=by omega
   clear h0
   go_enter Tryz.func81,Tryz.ntmps81
   go_wp2_with (first
    |(refine C5 rfl _ rfl rfl ?_;intro X U hz I J;have aB:=C6x I;have Y:=C6x J;have d1:U.cell? ⟨X,1,none⟩=some (.int .i64 ei):=I.cell 1;have d2:U.cell? ⟨X,2,none⟩=some (.int .i64 eg):=I.cell 2;have d3:U.cell? ⟨X,3,none⟩=some (.int .i64 1):=I.cell 3;clear hz I J)
    |(go_at_call 74;refine(Z.out _ Y.out).mono ?_;rintro e w2 ⟨A2,c2,rfl,h2,J⟩;have aA:=C6x (Y.out.trans J);clear h2 J)
    |fail)
   go_ret
   exact⟨rfl,aA.out⟩
 ·rw[if_neg hk]
  have aD:(ek !=1)=true:=by rw[bne_iff_ne];exact hk
  clear hk
  go_enter Tryz.func81,Tryz.ntmps81
  go_wp2_with (first
   |(refine C5 rfl _ rfl rfl ?_;intro X U hz I J;have aB:=C6x I;have Y:=C6x J;have d1:U.cell? ⟨X,1,none⟩=some (.int .i64 ei):=I.cell 1;have d2:U.cell? ⟨X,2,none⟩=some (.int .i64 eg):=I.cell 2;have d3:U.cell? ⟨X,3,none⟩=some (.int .i64 ek):=I.cell 3;clear hz I J)
   |fail)
  go_ret
  exact⟨rfl,Y.out⟩
end
end
section
open Go.RowKit
theorem X7(i g:Int):(#[Value.int .i64 i,.int .i64 g]).all (·.oneCell')=true:=by
 rw[Array.all_eq_true_iff_forall_mem]
 intro v hv
 simp at hv
 rcases hv with rfl|rfl<;>rfl
open Classical in
noncomputable def A0y(I:List ByteArray):Int:=if∀s∈I,Nam s then 0 else 9
def C5r(w:World)(I:List ByteArray)(t8:Value)(wr:World):Prop:=∃k:Nat,t8= .int .i64 (k:Int)/\k<=I.length/\(∀i (h:i<I.length),i<k->Nam I[i])/\B0 B5 w B5 wr
theorem A9Y(v:Value)(I:List ByteArray)(w:World)(h:Rd w 1 v I.length (I.map Value.string))(hs:∀s∈I,s.size<=maxLen)(hl:I.length<=100):Calls Tryz.prog 79 #[v] w λe w'=>e= .returned (.int .i64 (A0y I))/\B0 B5 w B5 w':=by
 obtain⟨A,c,rfl,aJ,aK⟩:=h.form
 obtain⟨n,hn⟩:∃n,n=I.length:=⟨_,rfl⟩
 rw[<-hn]at h hl⊢
 have HR:=C6x h
 have Z:=C6x hn
 have HS:=C6x hs
 have aP:(n:Int)<=100:=by omega
 clear h hn hs hl aJ aK
 go_enter Tryz.func79,Tryz.ntmps79
 go_wp2_with fail
 go_loopw [8] (C5r w I) (λt _=>n-(intOf t).toNat)
 case atStart=>exact⟨0,rfl,Nat.zero_le _,λi _ hi=>absurd hi (by omega),B0.refl _ _⟩
 case round=>
  obtain⟨k,rfl,hk,aA,J⟩:=hrel
  rw[<-Z.out]at hk
  by_cases aF:k<n
  ·have aI:k<I.length:=by rw[<-Z.out];exact aF
   obtain⟨b,o,e1,hb,hc⟩:=(HR.out.far (λ_ _ _ hl=>J.block _ hl (λx=>x)) J.size).cells (by omega) (by decide)
   obtain⟨s,aB⟩:∃s,I[k]? =some s:=⟨_,List.getElem?_eq_getElem aI⟩
   have aL:=hc k (.string s) (by simp[aB])
   have Y:=C6x (A8F s wr (HS.out _ (List.mem_of_getElem? aB)))
   subst e1
   have aD:=C6x aA
   have X:=C6x J
   have aH:=C6x aB
   have aG:=C6x aF
   have aO:(k:Int)<(n:Int):=by omega
   have aN:(k:Int)<=99:=by omega
   clear aA J aB hc hb hk aI
   by_cases U:Nam s
   ·have hv:B1z s=0:=by unfold B1z;rw[if_pos U]
    rw[hv]at Y
    have aE:=C6x U
    clear hv U
    go_wp2_with (first
     |(go_at_call 139;refine Y.out.mono ?_;rintro e w1 ⟨rfl,V⟩;have aC:=C6x (X.out.trans (B0.new_ (F':=B5) V (λ_ x=>x.elim)));clear V)
     |fail)
    refine⟨⟨k+1,by simp,by rw[<-Z.out];exact aG.out,λi hi aM=>?_,aC.out⟩,by have:=aG.out;simp[intOf]<;>omega⟩
    rcases Nat.lt_or_ge i k with h1|h1
    ·exact aD.out i hi h1
    ·obtain rfl:i=k:=by omega
     rw[(List.getElem?_eq_some_iff.1 aH.out).2];exact aE.out
   ·have hv:B1z s=9:=by unfold B1z;rw[if_neg U]
    rw[hv]at Y
    have aE:=C6x (show A0y I=9 by unfold A0y;rw[if_neg (λx=>U (x _ (List.mem_of_getElem? aH.out)))])
    clear hv U
    go_wp2_with (first
     |(go_at_call 139;refine Y.out.mono ?_;rintro e w1 ⟨rfl,V⟩;have aC:=C6x (X.out.trans (B0.new_ (F':=B5) V (λ_ x=>x.elim)));clear V)
     |fail)
    go_ret
    refine⟨?_,aC.out⟩
    rw[aE.out];rfl
  ·obtain rfl:k=n:=by omega
   have aD:=C6x (show A0y I=0 by
    unfold A0y
    rw[if_pos]
    intro s hs
    obtain⟨i,hi,rfl⟩:=List.getElem_of_mem hs
    exact aA i hi (by rw[Z.out];exact hi))
   have X:=C6x J
   clear aA J aF hk
   go_wp2_with fail
   go_ret
   refine⟨?_,X.out⟩
   rw[aD.out];rfl
def Y2(H:Nat->List Nat):List (Int×Int)->Int
 |[]=>0
 |f::l=>if Q3 H f.1 f.2 1=0 then Y2 H l else Q3 H f.1 f.2 1
theorem B39{H:Nat->List Nat}{l:List (Int×Int)}{k:Nat}(I:k<l.length):Y2 H (l.drop k)=if Q3 H l[k].1 l[k].2 1=0 then Y2 H (l.drop (k+1))else Q3 H l[k].1 l[k].2 1:=by
 rw[List.drop_eq_getElem_cons I];rfl
def C5s(w:World)(H:Nat->List Nat)(l:List (Int×Int))(t11:Value)(wr:World):Prop:=∃k:Nat,t11= .int .i64 (k:Int)/\k<=l.length/\Y2 H l=Y2 H (l.drop k)/\B0 B5 w B5 wr
section
variable {p M:Nat} {H:Nat->List Nat} {w:World}
theorem B6C(h:Rdv w p M H)(hs:Sd H M)(b n:Nat)(l:List (Int×Int))(hn:n=l.length)(hl:l.length<=100)(hc:∀k (hk:k<l.length),w.cell? ⟨b,k * 2,none⟩=some (.int .i64 l[k].1)/\w.cell? ⟨b,k * 2+1,none⟩=some (.int .i64 l[k].2))(J:b<w.heap.size):
 Calls Tryz.prog 95 #[.pointer (some ⟨p,0,none⟩),.slice (some ⟨b,0,none⟩) n n] w λe w'=>e= .returned (.int .i64 (Y2 H l))/\B0 B5 w B5 w':=by
 have HF:=C6x (λV (a:B0 B5 w B5 V) i g=>A2u (h.step a) hs i g 1)
 have HN:=C6x hn
 have HC:=C6x hc
 have HB:=C6x J
 have aW:(n:Int)<=100:=by omega
 clear h hs hn hc J hl
 go_enter Tryz.func95,Tryz.ntmps95
 go_wp2_with fail
 go_loopw [11] (C5s w H l) (λt _=>n-(intOf t).toNat)
 case atStart=>exact⟨0,rfl,Nat.zero_le _,rfl,B0.refl _ _⟩
 case round=>
  obtain⟨k,rfl,hk,aC,Z⟩:=hrel
  rw[<-HN.out]at hk
  by_cases aO:k<n
  ·have aD:k<l.length:=by rw[<-HN.out];exact aO
   obtain⟨d0,d1⟩:=HC.out k aD
   have aP:=B39 (H:=H) aD
   obtain⟨i,hi⟩:∃i,i=l[k].1:=⟨_,rfl⟩
   obtain⟨g,hg⟩:∃g,g=l[k].2:=⟨_,rfl⟩
   rw[<-hi,<-hg]at aP
   rw[<-hi]at d0
   rw[<-hg]at d1
   have c0:wr.cell? ⟨b,k * 2,none⟩=some (.int .i64 i):=(World.cell?_of_block (Z.block b HB.out (λx=>x))).trans d0
   have c1:wr.cell? ⟨b,k * 2+1,none⟩=some (.int .i64 g):=(World.cell?_of_block (Z.block b HB.out (λx=>x))).trans d1
   have aR:=C6x (show wr.rangeAt b (k * 2) [.int .i64 i,.int .i64 g]fromλj u hu=>by
    have hj:j<2:=(List.getElem?_eq_some_iff.1 hu).1
    match j,hj with
    |0,_=>simp at hu;subst hu;exact c0
    |1,_=>simp at hu;subst hu;exact c1)
   have Y:=C6x (aC.trans aP)
   have HA:=C6x Z
   have aQ:=C6x aO
   have aS:=C6x aD
   have aV:(k:Int)<(n:Int):=by omega
   have aU:(k:Int)<=99:=by omega
   have aK:=C6x (λV (a:B0 B5 wr B5 V)=>HF.out V (Z.trans a) i g)
   obtain⟨er,aN⟩:∃er,er=Q3 H i g 1:=⟨_,rfl⟩
   obtain⟨X,hX⟩:∃X,X=A7l H i g 1:=⟨_,rfl⟩
   rw[<-aN]at Y
   rw[<-aN,<-hX]at aK
   clear aC Z aP hk aD d0 d1 hi hg aN hX c0 c1
   by_cases he:er=0
   ·subst he
    rw[if_pos rfl]at Y
    go_wp2_with (first
     |(refine wpList_load_mid rfl 35 (.tmp 13) rfl b _ rfl [.int .i64 i,.int .i64 g] _ aR.out Tryz.underlying35 rfl (by rw[B1];rfl) ?_)
     |(refine B9 rfl rfl P1 ?_;intro z1 w1 U J I;have aL:=C6x U;have aH:=C6x J;have aE:=C6x I;clear U J I)
     |(refine B7 rfl _ _ rfl z1 aH.out rfl rfl B1 rfl rfl (X7 _ _) ?_;intro w2 J I;have aI:=C6x J;have aA:=C6x (aE.out.fresh aL.out I);clear J I)
     |(refine B6 rfl _ rfl z1 aI.out rfl Tryz.underlying35 rfl B1 rfl ?_)
     |(go_at_call 86;refine(aK.out _ aA.out).mono ?_;rintro e w3 ⟨rfl,I⟩;have aB:=C6x (aA.out.trans I);clear I)
     |(refine B9 rfl rfl C6 ?_;intro z4 w4 U J I;have aM:=C6x (Nat.le_trans aB.out.size U);have aJ:=C6x J;have aF:=C6x (aB.out.trans I);clear U J I)
     |(refine B7 rfl _ _ rfl z4 aJ.out rfl rfl C0 (C2 _) (C2 _) (D5 _) ?_;intro w5 J I;have aG:=C6x (aF.out.fresh aM.out I);clear J I)
     |fail)
    exact⟨⟨k+1,by simp,by rw[<-HN.out];exact aQ.out,Y.out,HA.out.trans aG.out⟩,by have:=aQ.out;simp[intOf]<;>omega⟩
   ·rw[if_neg he]at Y
    have aT:(er !=0)=true:=by rw[bne_iff_ne];exact he
    clear he
    go_wp2_with (first
     |(refine wpList_load_mid rfl 35 (.tmp 13) rfl b _ rfl [.int .i64 i,.int .i64 g] _ aR.out Tryz.underlying35 rfl (by rw[B1];rfl) ?_)
     |(refine B9 rfl rfl P1 ?_;intro z1 w1 U J I;have aL:=C6x U;have aH:=C6x J;have aE:=C6x I;clear U J I)
     |(refine B7 rfl _ _ rfl z1 aH.out rfl rfl B1 rfl rfl (X7 _ _) ?_;intro w2 J I;have aI:=C6x J;have aA:=C6x (aE.out.fresh aL.out I);clear J I)
     |(refine B6 rfl _ rfl z1 aI.out rfl Tryz.underlying35 rfl B1 rfl ?_)
     |(go_at_call 86;refine(aK.out _ aA.out).mono ?_;rintro e w3 ⟨rfl,I⟩;have aB:=C6x (aA.out.trans I);clear I)
     |(refine B9 rfl rfl C6 ?_;intro z4 w4 U J I;have aM:=C6x (Nat.le_trans aB.out.size U);have aJ:=C6x J;have aF:=C6x (aB.out.trans I);clear U J I)
     |(refine B7 rfl _ _ rfl z4 aJ.out rfl rfl C0 (C2 _) (C2 _) (D5 _) ?_;intro w5 J I;have aG:=C6x (aF.out.fresh aM.out I);clear J I)
     |fail)
    go_ret
    refine⟨?_,HA.out.trans aG.out⟩
    rw[Y.out];rfl
  ·obtain rfl:k=n:=by omega
   have Y:=C6x (show Y2 H l=0 by rw[aC,List.drop_eq_nil_of_le (by rw[<-HN.out];exact Nat.le_refl _)];rfl)
   have HA:=C6x Z
   clear aC Z aO hk
   go_wp2_with fail
   go_ret
   refine⟨?_,HA.out⟩
   rw[Y.out];rfl
end
end
section
open Go.RowKit Go.Maps
def A3F(l:List Nat):Nat:=R8 (l.take 3)
def A3G(l:List Nat):Nat:=R8 ((l.drop 120).take 3)
theorem C1e(v:Value)(l:List Nat)(w:World)(h:Rd w 1 v 128 (l.map u8))(I:∀x∈l,x<256):
 Calls Tryz.prog 120 #[v] w λx w'=>x= .returned (.tuple #[.int .u64 (A3F l:Int),.int .u64 (A3G l:Int)])/\∃k,w'=w.drewN k:=by
 have Y:=h.len8
 have V:R8 (l.take 8)/1099511627776=A3F l:=by
  rw[A3F,C2y (by rw[List.length_take];omega) (λx J=>I x (List.mem_of_mem_take J)),List.take_take];rfl
 have X:R8 (l.drop 120)/1099511627776=A3G l:=by
  rw[A3G,C2y (by rw[List.length_drop];omega) (λx J=>I x (List.mem_of_mem_drop J))]
 have U:=B7B v l w h I
 rw[V,X]at U
 exact U
def A10(s:DS):Nat->Nat
 |0=>0
 |k+1=>max (max (A10 s k) (A3F (isS s k))) (A3G (isS s k))
theorem C2Y{l:List Nat}(h:∀x∈l,x<256):A3F l<16777216/\A3G l<16777216:=by
 have hv:∀m:List Nat,(∀x∈m,x<256)->m.length<=3->R8 m<16777216:=λm U J=>by
  have V:=A3x _ m rfl U
  have X:(256:Nat)^m.length<=256^3:=Nat.pow_le_pow_right (by decide) J
  have h3:(256:Nat)^3=16777216:=rfl
  omega
 unfold A3F A3G
 exact⟨hv _ (λx I=>h x (List.mem_of_mem_take I)) (by rw[List.length_take];omega),hv _ (λx I=>h x (List.mem_of_mem_drop (List.mem_of_mem_take I))) (by rw[List.length_take];omega)⟩
theorem B4Q{s:DS}{N:Nat}(h:SB s N):∀k,k<=N->A10 s k<16777216
 |0,_=>by unfold A10;decide
 |k+1,hk=>by
  have I:=B4Q h k (by omega)
  have J:=C2Y (h k (by omega))
  unfold A10
  omega
def TpL(w:World)(s:DS)(m:Nat)(t12 t5:Value)(wr:World):Prop:=∃k:Nat,k<=m/\t12= .int .i64 (k:Int)/\t5= .int .u64 (A10 s k:Int)/\B0 B5 w B5 wr
theorem C1f(d N m:Nat)(F:Nat->Prop)(s:DS)(w:World)(h:Dk w F d N s)(aC:SB s N)(hm:m<=N)(hN:N<=4096):
 Calls Tryz.prog 61 #[.pointer (some ⟨d,0,none⟩),.int .i64 (m:Int)] w λe w'=>e= .returned (.int .u64 (A10 s m:Int))/\B0 B5 w B5 w':=by
 have HD:=C6x h
 have aG:=C6x aC
 have aI:(m:Int)<=4096:=by omega
 have HM:=C6x hm
 clear h aC hm hN
 go_enter Tryz.func61,Tryz.ntmps61
 go_wp2_with fail
 go_loopw [12,5] (TpL w s m) (λt _ _=>m-(intOf t).toNat)
 case atStart=>exact⟨0,Nat.zero_le _,rfl,rfl,B0.refl _ _⟩
 case round=>
  obtain⟨k,hk,rfl,rfl,J⟩:=hrel
  have V:=C6x J
  by_cases U:k<m
  ·have aH:(k:Int)<(m:Int):=by omega
   have aB:=C6x (A6a d N F s k wr (HD.out.far J (λ_ x _=>x)) (by have:=HM.out;omega))
   have aA:=C6x (aG.out k (by have:=HM.out;omega))
   have aF:=C6x U
   have I:=C6x (show A10 s (k+1)=max (max (A10 s k) (A3F (isS s k))) (A3G (isS s k))from rfl)
   obtain⟨l,hl⟩:∃l,l=isS s k:=⟨_,rfl⟩
   rw[<-hl]at aB aA I
   obtain⟨T,hT⟩:∃T,T=A10 s k:=⟨_,rfl⟩
   rw[<-hT]at I⊢
   clear J U hk hl hT
   go_wp2_with fail
   refine aB.out.mono ?_
   rintro x w1 ⟨z,rfl,b1,l1,a1⟩
   have Z:=C6x (C1e (.slice (some ⟨z,0,none⟩) 128 128) l w1 (b1.rdS8 l1) aA.out)
   have aD:=C6x (V.out.trans (a1.sub (G:=B5) (λ_ x=>x.elim)))
   obtain⟨X,hX⟩:∃X,X=A3F l:=⟨_,rfl⟩
   obtain⟨Y,hY⟩:∃Y,Y=A3G l:=⟨_,rfl⟩
   rw[<-hX,<-hY]at Z I
   clear b1 l1 a1 hX hY
   go_wp2_with fail
   refine Z.out.mono ?_
   rintro x w2 ⟨rfl,k2,rfl⟩
   have aE:=C6x (aD.out.drewN k2)
   go_wp2_with fail
   have U:=aF.out
   refine⟨⟨k+1,by omega,by go_num,?_,aE.out⟩,by simp[intOf]<;>omega⟩
   rw[I.out]
   congr 1
   by_cases h1:T<X
   ·rw[if_pos h1]
    split<;>omega
   ·rw[if_neg h1]
    split<;>omega
  ·obtain rfl:k=m:=by omega
   clear J U hk
   go_wp2_with fail
   go_ret
   exact⟨rfl,V.out⟩
structure PW (T:TypeId) (W:World) (P:Nat->Pc) (k:Nat) (vo:Value) (F:Nat->Prop) (qs:List (Pc×Value)) (w:World):Prop where
 len:qs.length=k
 sl:Sl w F T 5 vo k (qs.flatMap A34)
 at_:∀i (h:i<qs.length),qs[i].1=P i/\∃a q,qs[i].2= .slice a (P i).d.length q/\Rd w 1 (.slice a (P i).d.length q) (P i).d.length ((P i).d.map u8)/\∀g,(Value.slice a (P i).d.length q).ownBlock=some g->0<(P i).d.length->¬F g
 adv:B0 B5 W F w
section
variable {T:TypeId} {W w w':World} {P:Nat->Pc} {k:Nat} {vo:Value}
theorem PW.nil(T:TypeId)(W:World)(P:Nat->Pc):PW T W P 0 (.slice none 0 0) B5 [] W:=⟨rfl,Sl.nil _ _ _,λi h=>absurd h (by simp),B0.refl _ _⟩
theorem PW.step{F F':Nat->Prop}{qs:List (Pc×Value)}(h:PW T W P k vo F qs w)(I:B0 B5 w F' w'):PW T W P k vo F qs w':=
 ⟨h.len,h.sl.far I (λ_ h _=>h),λi hi=>by
  obtain⟨e,a,q,J,X,V⟩:=h.at_ i hi
  exact⟨e,a,q,J,X.far (λ_ _ _ U=>I.block _ U (λx=>x)) I.size,V⟩,h.adv.over I⟩
theorem PW.push{F:Nat->Prop}{qs:List (Pc×Value)}{X:Value}{a:Option Addr}{q:Nat}(h:PW T W P k vo F qs w)(V:Rd w 1 (.slice a (P k).d.length q) (P k).d.length ((P k).d.map u8))(aG:∀g,(Value.slice a (P k).d.length q).ownBlock=some g->0<(P k).d.length->¬F g)
 (aI:w'.ownsRow 0 T 5 X (k+1) (qs.flatMap A34++A34 (P k,.slice a (P k).d.length q))) (I:w.grownBy w' vo.ownBlock) (aA:X.ownBlock=vo.ownBlock\/X.ownBlock=some w.heap.size):∃F' aK,PW T W P (k+1) X F' aK w':=by
 obtain⟨g1,g2⟩:=A1r h.sl aI I aA (Nat.le_refl _)
 have aD:∀g,g<w.heap.size->¬F g->¬(F g\/X.ownBlock=some g):=λg aL Y aH=>by
  rcases aH with J|J
  ·exact Y J
  ·rcases aA with e|e
   ·exact Y (h.sl.inF g (by rw[<-e];exact J))
   ·rw[e]at J;injection J with J;omega
 have aE:∀{a:Option Addr} {d q:Nat} {l:List Nat},Rd w 1 (.slice a d q) d (l.map u8)->∀g,(Value.slice a d q).ownBlock=some g->0<d->g<w.heap.size:=λV g I U=>V.lt I U
 have aC:∀{a:Option Addr} {d q:Nat} {l:List Nat},Rd w 1 (.slice a d q) d (l.map u8)->(∀g,(Value.slice a d q).ownBlock=some g->0<d->¬F g)->Rd w' 1 (.slice a d q) d (l.map u8)/\∀g,(Value.slice a d q).ownBlock=some g->0<d->¬(F g\/X.ownBlock=some g):=λV Y=>
  ⟨V.far (λg I U Z=>g2.block g Z (Y g I U)) g2.size,λg I U=>aD g (aE V g I U) (Y g I U)⟩
 have Z:=h.len
 refine⟨_,qs++[(P k,.slice a (P k).d.length q)],by simp[Z],by simpa using g1,λi hi=>?_,h.adv.trans g2⟩
 rw[List.length_append,List.length_singleton]at hi
 by_cases aB:i<qs.length
 ·rw[List.getElem_append_left aB]
  obtain⟨e,a',q',e2,aJ,aF⟩:=h.at_ i aB
  obtain⟨k1,k2⟩:=aC aJ aF
  exact⟨e,a',q',e2,k1,k2⟩
 ·obtain rfl:i=qs.length:=by omega
  rw[List.getElem_append_right (Nat.le_refl _)]
  simp only[Nat.sub_self,List.getElem_cons_zero,Z]
  obtain⟨k1,k2⟩:=aC V aG
  exact⟨trivial,a,q,rfl,k1,k2⟩
theorem PW.prd{F:Nat->Prop}{qs:List (Pc×Value)}(h:PW T W P k vo F qs w)(Y:0<k):PRd w vo ((List.range k).map P):=by
 have hl:=h.len
 obtain⟨g,c,rfl,U,Z⟩:=h.sl.form Y
 obtain⟨_,_,e,_,V⟩:=h.sl.form0
 injection e with _ _ I
 subst I
 refine⟨_,c,by simp,by simpa using Z,V,λ_=>⟨g,0,rfl,h.sl.bd g U,λi hi=>?_⟩⟩
 have aA:i<k:=by simpa using hi
 obtain⟨e,a,q,J,hr,_⟩:=h.at_ i (by omega)
 have I:((List.range k).map P)[i]'hi=P i:=by simp
 rw[I]
 have H:∀j u,j<5->(A34 (qs[i]'(by omega)))[j]? =some u->w.cell? ⟨g,0+(i * 5+j),none⟩=some u:=λj u X hu=>by
  rw[Nat.zero_add,h.sl.own.cellAt (i * 5+j) (by omega),C2b A34 (λ_=>rfl) qs i j (by omega) X]
  exact hu
 refine⟨a,q,H 0 _ (by decide) ?_,H 1 _ (by decide) ?_,H 2 _ (by decide) ?_,H 3 _ (by decide) ?_,H 4 _ (by decide) ?_,hr⟩<;>simp[A34,e,J]
end
theorem C2Z{T:TypeId}{W w wc:World}{P:Nat->Pc}{k:Nat}{vo v:Value}{F I:Nat->Prop}{qs:List (Pc×Value)}{e:TypeId}{Y d:Nat}{Z:List Value}(h:PW T W P k vo F qs w)(V:Sl wc I e Y v d Z)(U:B0 B5 w I wc):∀g,v.ownBlock=some g->0<d->¬F g:=λg X _ hF=>by
 have:=h.sl.bd g hF
 rcases U.into g (V.inF g X)with J|J
 ·exact J
 ·omega
theorem C1g{T:TypeId}{w:World}{e:Nat}{cI:Int}{f g:Bool}{v:Value}(j:Nat)(u:Value)(h:[Value.int .u64 (e:Int),.int .u64 cI,.bool f,.bool g,v][j]? =some u):
 (w.alloc (.cells #[.int .u64 (e:Int),.int .u64 cI,.bool f,.bool g,v] T)).cell? ((⟨w.heap.size,0,none⟩:Addr).add j)=some u:=by
 rw[add_none,Nat.zero_add,(C3.new w T #[.int .u64 (e:Int),.int .u64 cI,.bool f,.bool g,v]).cell j,List.getElem?_toArray]
 exact h
end
end Go.Proofs.YtbefmjiclpobjaaGreat
