import Derived.Test.YtbefmjiclpobjaaGreatMj04
import Derived.Test.YtbefmjiclpobjaaGreatMj01
import Derived.Deep.DeepCutAuto
namespace Go.Proofs.YtbefmjiclpobjaaGreat
set_option maxHeartbeats 6400000
set_option maxRecDepth 3000
section
open Go.RowKit
def QRd(w:World)(G:Nat->Prop)(v:Value)(ps:List Pt):Prop:=
 ∃A k,v= .slice A ps.length k/\ps.length<=k/\k<=maxLen/\(0<ps.length->∃b o,A=some ⟨b,o,none⟩/\(b<w.heap.size/\¬G b)/\∀i (h:i<ps.length),∃a q,
  w.cell? ⟨b,o+(i * 2+0),none⟩=some (.int .i64 ps[i].a)/\w.cell? ⟨b,o+(i * 2+1),none⟩=some (.slice a ps[i].d.length q)/\
  Rd w 1 (.slice a ps[i].d.length q) ps[i].d.length (ps[i].d.map u8)/\∀k,(Value.slice a ps[i].d.length q).ownBlock=some k->0<ps[i].d.length->¬G k)
theorem Rd.lt{w:World}{a:Option Addr}{n q:Nat}{X:List Value}(h:Rd w 1 (.slice a n q) n X){k:Nat}(U:(Value.slice a n q).ownBlock=some k)(V:0<n):k<w.heap.size:=by
 obtain⟨A,c,e,_,_,_,_,J⟩:=h
 obtain⟨I,rfl,Y,_⟩:=J V
 injection e with e _ _
 subst e
 have:I.block=k:=by simpa[Value.ownBlock]using U
 omega
theorem QRd.adv{w w':World}{G V F F':Nat->Prop}{v:Value}{ps:List Pt}(h:QRd w G v ps)(I:B0 F w F' w')(hF:∀k,F k->G k)(X:∀k,V k->G k\/w.heap.size<=k):QRd w' V v ps:=by
 obtain⟨A,k,rfl,h1,h2,h3⟩:=h
 refine⟨A,k,rfl,h1,h2,λhn=>?_⟩
 obtain⟨b,o,rfl,⟨Y,Z⟩,hc⟩:=h3 hn
 have hk:w'.heap[b]? =w.heap[b]? :=I.block b Y (λh=>Z (hF b h))
 refine⟨b,o,rfl,⟨Nat.lt_of_lt_of_le Y I.size,λh=>?_⟩,λi hi=>?_⟩
 ·rcases X b h with h|h
  ·exact Z h
  ·omega
 ·obtain⟨a,q,c0,c1,hr,hs⟩:=hc i hi
  have e:∀j,w'.cell? ⟨b,j,none⟩=w.cell? ⟨b,j,none⟩:=λj=>World.cell?_of_block hk
  refine⟨a,q,by rw[e];exact c0,by rw[e];exact c1,hr.far (λj J U hl=>I.block j hl (λh=>hs j J U (hF j h))) I.size,λj J U h=>?_⟩
  rcases X j h with h|h
  ·exact hs j J U h
  ·have:=hr.lt J U;omega
theorem QRd.step{w w':World}{G F':Nat->Prop}{v:Value}{ps:List Pt}(h:QRd w G v ps)(I:B0 B5 w F' w'):QRd w' G v ps:=h.adv I (λ_ x=>x.elim) (λ_ x=>.inl x)
theorem QRd.row{w:World}{G:Nat->Prop}{A:Option Addr}{n k:Nat}{ps:List Pt}(h:QRd w G (.slice A n k) ps){i:Nat}(hi:i<ps.length):∃b o a q,A=some ⟨b,o,none⟩/\(b<w.heap.size/\¬G b)/\
 (w.cell? ⟨b,o+i * 2,none⟩=some (.int .i64 ps[i].a)/\w.cell? ⟨b,o+i * 2+1,none⟩=some (.slice a ps[i].d.length q))/\
 Rd w 1 (.slice a ps[i].d.length q) ps[i].d.length (ps[i].d.map u8)/\∀k,(Value.slice a ps[i].d.length q).ownBlock=some k->0<ps[i].d.length->¬G k:=by
 obtain⟨A',Z,e,X,Y,h3⟩:=h
 injection e with e1 e2 e3
 subst e1 e2 e3
 obtain⟨b,o,rfl,J,U⟩:=h3 (by omega)
 obtain⟨a,q,I,c1,V⟩:=U i hi
 exact⟨b,o,a,q,rfl,J,⟨I,c1⟩,V⟩
theorem QRd.len{w:World}{G:Nat->Prop}{A:Option Addr}{n k:Nat}{ps:List Pt}(h:QRd w G (.slice A n k) ps):n=ps.length/\n<=k/\k<=maxLen:=by
 obtain⟨A',U,e,I,J,h3⟩:=h
 injection e with e1 e2 e3
 omega
theorem QRd.take{w:World}{G:Nat->Prop}{A:Option Addr}{n k:Nat}{ps:List Pt}(h:QRd w G (.slice A n k) ps)(i:Nat)(hi:i<=ps.length):QRd w G (.slice A i k) (ps.take i):=by
 obtain⟨A',k',e,X,I,h3⟩:=h
 injection e with e1 e2 e3
 subst e1 e2 e3
 have V:(ps.take i).length=i:=by rw[List.length_take];exact Nat.min_eq_left hi
 refine⟨A,k,by rw[V],by omega,I,λZ=>?_⟩
 obtain⟨b,o,rfl,J,U⟩:=h3 (by omega)
 refine⟨b,o,rfl,J,λj Y=>?_⟩
 obtain⟨a,q,r⟩:=U j (by omega)
 have e:(ps.take i)[j]=ps[j]'(by omega):=List.getElem_take
 rw[e]
 exact⟨a,q,r⟩
def IxL(w:World)(N:Nat)(ps:List Pt)(x:Int)(t:Value)(wr:World):Prop:=∃k:Nat,k<=N/\t= .int .i64 (k:Int)/\(∀i (h:i<ps.length),i<k->ps[i].a≠x)/\B0 B5 w B5 wr
def IxR(w:World)(ps:List Pt)(x:Int)(e:Ending)(w':World):Prop:=∃r:Int,e= .returned (.int .i64 r)/\(0<=r↔∃p∈ps,p.a=x)/\ -1<=r/\B0 B5 w B5 w'
theorem B5X(x y:Int)(a:Value)(u:Nat)(w:World)(Y:w.cell? ⟨u,0,none⟩=some (.int .i64 y))(X:u<w.heap.size):
 Calls Tryz.prog 164 #[.agg #[.int .i64 x,a],.pointer (some ⟨u,0,none⟩)] w λe w'=>e= .returned (.bool (x==y))/\B0 B5 w B5 w':=by
 obtain⟨V,I⟩:∃V,V=w.alloc (.cells #[.int .i64 x,a] 239):=⟨_,rfl⟩
 have HU:=C6x (show V.cell? ⟨u,0,none⟩=some (.int .i64 y)by rw[I,<-Y];exact World.cell?_of_block (Below.heap_alloc w _ u X))
 have U:=C6x (show V.cell? ⟨w.heap.size,0,none⟩=some (.int .i64 x)by rw[I];exact(C3.new w 239 #[.int .i64 x,a]).cell 0)
 have Z:=C6x (show B0 B5 w B5 V by rw[I];exact(B0.refl _ _).alloc _)
 obtain⟨z,J⟩:∃z,z=w.heap.size:=⟨_,rfl⟩
 rw[<-J]at U
 have aA:=C6x J
 have HV:=C6x I
 clear Y X J I
 go_enter Tryz.func164,Tryz.ntmps164
 go_upto_region 1 with(fail)
 rw[<-HV.out,<-aA.out]
 have c0:=U.out
 have c1:=HU.out
 go_wp2_with fail
 go_ret
 exact⟨rfl,Z.out⟩
theorem B0R(A0:Option Addr)(k0 u:Nat)(y:Int)(ps:List Pt)(G:Nat->Prop)(w:World)(h:QRd w G (.slice A0 ps.length k0) ps)(hu:w.cell? ⟨u,0,none⟩=some (.int .i64 y))(I:u<w.heap.size):
 Calls Tryz.prog 198 #[.slice A0 ps.length k0,.func (.func 164) #[] #[.pointer (some ⟨u,0,none⟩)]] w (IxR w ps y):=by
 obtain⟨N,Y⟩:∃N,N=ps.length:=⟨_,rfl⟩
 rw[<-Y]at h⊢
 have aF:N<=maxLen:=by have:=h.len;omega
 have aI:(N:Int)<=9223372036854775807:=by unfold maxLen at aF;omega
 have HP:=C6x h
 have HN:=C6x Y
 have V:=C6x (And.intro hu I)
 clear h Y hu I aF
 go_enter Tryz.func198,Tryz.ntmps198
 go_wp2_with fail
 go_loopw [8] (IxL w N ps y) (λt _=>N-(intOf t).toNat)
 case atStart=>exact⟨0,Nat.zero_le _,rfl,λi _ hi=>absurd hi (Nat.not_lt_zero _),B0.refl _ _⟩
 case round=>
  obtain⟨k,hk,rfl,aA,J⟩:=hrel
  have aC:=C6x aA
  have HA:=C6x J
  by_cases I:k<N
  ·have aJ:(k:Int)<(N:Int):=by omega
   have aE:k<ps.length:=by rw[<-HN.out];exact I
   obtain⟨b,o,a,q,rfl, -,⟨c0,c1⟩, -, -⟩:=(HP.out.step J).row aE
   obtain⟨x,hx⟩:∃x,x=ps[k].a:=⟨_,rfl⟩
   rw[<-hx]at c0
   obtain⟨m,hm⟩:∃m,m=ps[k].d.length:=⟨_,rfl⟩
   rw[<-hm]at c1
   have HX:=C6x hx
   have aH:=C6x I
   have aD:=C6x (show wr.cell? ⟨u,0,none⟩=some (.int .i64 y)/\u<wr.heap.size from⟨by rw[<-V.out.1];exact World.cell?_of_block (J.block u V.out.2 (λx=>x)),Nat.lt_of_lt_of_le V.out.2 J.size⟩)
   have aG:=C6x aE
   clear aA J hx I hk hm
   go_wp2_with fail
   refine(B5X x y _ u _ aD.out.1 aD.out.2).mono ?_
   rintro e w1 ⟨rfl,a1⟩
   have aB:=C6x (HA.out.trans a1)
   clear a1
   by_cases U:x=y
   ·have Z:(x==y)=true:=by rw[U];exact beq_self_eq_true y
    have X:=C6x U
    clear U
    rw[Z]
    go_wp2_with fail
    go_ret
    exact⟨(k:Int),rfl,⟨λ_=>⟨_,List.getElem_mem aG.out,by rw[<-HX.out];exact X.out⟩,λ_=>by omega⟩,by omega,aB.out⟩
   ·have Z:(x==y)=false:=by rw[beq_eq_false_iff_ne];exact U
    have X:=C6x U
    clear U
    rw[Z]
    go_wp2_with fail
    have I:=aH.out
    refine⟨⟨k+1,by omega,by go_num,λi h hi=>?_,aB.out⟩,by simp[intOf];omega⟩
    by_cases e:i=k
    ·subst e;rw[<-HX.out];exact X.out
    ·exact aC.out i h (by omega)
  ·obtain rfl:k=N:=by omega
   clear aA J I hk
   go_wp2_with fail
   go_ret
   refine⟨-1,rfl,⟨λh=>absurd h (by decide),λ⟨p,hp,e⟩=>?_⟩,by decide,HA.out⟩
   obtain⟨i,hi,rfl⟩:=List.getElem_of_mem hp
   exact absurd e (aC.out i hi (by rw[HN.out];exact hi))
theorem A68(A0:Option Addr)(U u:Nat)(y:Int)(ps:List Pt)(G:Nat->Prop)(w:World)(h:QRd w G (.slice A0 ps.length U) ps)(hu:w.cell? ⟨u,0,none⟩=some (.int .i64 y))(aA:u<w.heap.size):
 Calls Tryz.prog 163 #[.slice A0 ps.length U,.func (.func 164) #[] #[.pointer (some ⟨u,0,none⟩)]] w λe w'=>e= .returned (.bool (decide (∃p∈ps,p.a=y)))/\B0 B5 w B5 w':=by
 have HC:=C6x (B0R A0 U u y ps G w h hu aA)
 obtain⟨B,J⟩:∃B,B=decide (∃p∈ps,p.a=y):=⟨_,rfl⟩
 rw[<-J]
 have X:=C6x J
 clear h hu aA J
 go_enter Tryz.func163,Tryz.ntmps163
 go_wp2_with fail
 refine HC.out.mono ?_
 rintro e w1 ⟨r,rfl,hr,aB,Z⟩
 have Y:=C6x hr
 have V:=C6x Z
 clear hr Z
 by_cases I:0<=r
 ·obtain rfl:B=true:=by rw[X.out];exact decide_eq_true (Y.out.mp I)
  go_wp2_with fail
  go_ret
  exact⟨rfl,V.out⟩
 ·obtain rfl:B=false:=by rw[X.out];exact decide_eq_false (λk=>I (Y.out.mpr k))
  go_wp2_with fail
  go_ret
  exact⟨by simp[I],V.out⟩
end
section
open Go.RowKit
def C25(ps:List Pt)(H:Int)(i:Nat)(hi:i<ps.length):Prop:=(0<=ps[i].a/\ps[i].a<H)/\ps[i].d.length=128/\∀k (I:k<i),ps[k].a≠ps[i].a
def TxL(w:World)(N:Nat)(ps:List Pt)(H:Int)(t:Value)(wr:World):Prop:=∃k:Nat,k<=N/\t= .int .i64 (k:Int)/\(∀i (h:i<ps.length),i<k->C25 ps H i h)/\B0 B5 w B5 wr
def TxR(w:World)(B:Bool)(e:Ending)(w':World):Prop:=e= .returned (.bool B)/\B0 B5 w B5 w'
theorem B4u{ps:List Pt}{k:Nat}{x:Int}(U:k<=ps.length):(∃p∈ps.take k,p.a=x)↔∃(i:Nat) (h:i<k),(ps[i]'(by omega)).a=x:=by
 constructor
 ·rintro⟨p,J,rfl⟩
  obtain⟨i,hi,rfl⟩:=List.getElem_of_mem J
  have I:i<k:=by rw[List.length_take]at hi;omega
  exact⟨i,I,by rw[List.getElem_take]⟩
 ·rintro⟨i,h,rfl⟩
  have hi:i<(ps.take k).length:=by rw[List.length_take];omega
  exact⟨(ps.take k)[i],List.getElem_mem hi,by rw[List.getElem_take]⟩
theorem C26{w:World}{z:Nat}{t:TypeId}{u v:Value}(h:C3 w z t #[u,v]):w.cell? ⟨z,0,none⟩=some u/\w.cell? ⟨z,1,none⟩=some v:=⟨h.cell 0,h.cell 1⟩
theorem B0S(A0:Option Addr)(N I:Nat)(ps:List Pt)(H:Int)(G:Nat->Prop)(w:World)(h:QRd w G (.slice A0 N I) ps):
 Calls Tryz.prog 126 #[.slice A0 N I,.int .i64 H] w (TxR w (decide (A0h ps H))):=by
 have hN:=h.len.1
 have aL:N<=maxLen:=by have:=h.len;omega
 have aQ:N<=I:=h.len.2.1
 have aK:I<=maxLen:=h.len.2.2
 have aY:(N:Int)<=9223372036854775807:=by unfold maxLen at aL;omega
 have bA:(I:Int)<=9223372036854775807:=by unfold maxLen at aK;omega
 have bB:(N:Int)<=(I:Int):=by omega
 obtain⟨B,hB⟩:∃B,B=decide (A0h ps H):=⟨_,rfl⟩
 rw[<-hB]
 have HB:=C6x hB
 have HP:=C6x h
 have Z:=C6x hN
 clear h hN hB aL aQ aK
 have aM:¬A0h ps H->B=false:=λk=>by rw[HB.out];exact decide_eq_false k
 have aC:=C6x aM
 clear aM
 by_cases h1:(N:Int)<1
 ·obtain rfl:B=false:=aC.out (λk=>by have:=k.1.1;have:=Z.out;omega)
  go_enter Tryz.func126,Tryz.ntmps126
  go_wp2_with fail
  go_ret
  exact⟨rfl,B0.refl _ _⟩
 ·have aW:1<=(N:Int):=by omega
  clear h1
  by_cases h2:24<(N:Int)
  ·obtain rfl:B=false:=aC.out (λk=>by have:=k.1.2;have:=Z.out;omega)
   go_enter Tryz.func126,Tryz.ntmps126
   go_wp2_with fail
   go_ret
   exact⟨rfl,B0.refl _ _⟩
  ·have aX:(N:Int)<=24:=by omega
   clear h2
   have aO:=C6x (show 1<=ps.length/\ps.length<=24 by have:=Z.out;omega)
   go_enter Tryz.func126,Tryz.ntmps126
   go_wp2_with fail
   go_loopw [17] (TxL w N ps H) (λt _=>N-(intOf t).toNat)
   case atStart=>exact⟨0,Nat.zero_le _,rfl,λi _ hi=>absurd hi (Nat.not_lt_zero _),B0.refl _ _⟩
   case round=>
    obtain⟨k,hk,rfl,aE,ha⟩:=hrel
    have aG:=C6x aE
    have HA:=C6x ha
    by_cases aA:k<N
    ·have bC:(k:Int)<(N:Int):=by omega
     have aJ:k<ps.length:=by rw[<-Z.out];exact aA
     obtain⟨b,o,a,q,rfl, -,⟨c0,c1⟩, -, -⟩:=(HP.out.step ha).row aJ
     obtain⟨x,hx⟩:∃x,x=ps[k].a:=⟨_,rfl⟩
     rw[<-hx]at c0
     obtain⟨m,J⟩:∃m,m=ps[k].d.length:=⟨_,rfl⟩
     rw[<-J]at c1
     obtain⟨V,hV⟩:∃V,V=wr.alloc (.cells #[.int .i64 x,.slice a m q] 239):=⟨_,rfl⟩
     obtain⟨z,hz⟩:∃z,z=wr.heap.size:=⟨_,rfl⟩
     have aD:=C6x (show C3 V z 239 #[.int .i64 x,.slice a m q]by rw[hV,hz];exact C3.new _ _ _)
     have X:=C6x (show B0 B5 w B5 V by rw[hV];exact ha.alloc _)
     have U:=C6x hx
     have HM:=C6x J
     have HV:=C6x hV
     have HZ:=C6x hz
     have aP:=C6x aA
     have aZ:(0:Int)<=(k:Int):=by omega
     have bD:(k:Int)<=(I:Int):=by omega
     have hq:QRd V G (.slice (some ⟨b,o,none⟩) k I) (ps.take k):=(HP.out.step X.out).take k (by omega)
     obtain⟨C,hC⟩:∃C,C=decide (∃p∈ps.take k,p.a=x):=⟨_,rfl⟩
     have aI:Calls Tryz.prog 163 #[.slice (some ⟨b,o,none⟩) k I,.func (.func 164) #[] #[.pointer (some ⟨z,0,none⟩)]] V λe w'=>e= .returned (.bool C)/\B0 B5 V B5 w':=by
      have e:(ps.take k).length=k:=by rw[List.length_take];omega
      have aR:QRd V G (.slice (some ⟨b,o,none⟩) (ps.take k).length I) (ps.take k):=by rw[e];exact hq
      have:=A68 (some ⟨b,o,none⟩) I z x (ps.take k) G V aR (aD.out.cell 0) aD.out.lt
      rw[e]at this
      rw[hC]
      exact this
     have aN:=C6x aI
     have HC:=C6x hC
     have Y:=C6x aJ
     clear aE ha hx J hV hz aA hk hq aI hC
     go_upto_region 6 with(fail)
     rw[<-HV.out,<-HZ.out]
     clear c0 c1
     obtain⟨z0,z1⟩:=C26 aD.out
     have aH:¬C25 ps H k Y.out->B=false:=λh=>aC.out (λt=>h (t.2 k Y.out))
     have aB:=C6x aH
     clear aH
     by_cases aS:x<0
     ·obtain rfl:B=false:=aB.out (λt=>by have:=t.1.1;rw[<-U.out]at this;omega)
      go_wp2_with fail
      go_ret
      exact⟨rfl,X.out⟩
     ·have aT:0<=x:=by omega
      clear aS
      by_cases aU:H<=x
      ·obtain rfl:B=false:=aB.out (λt=>by have:=t.1.2;rw[<-U.out]at this;omega)
       go_wp2_with fail
       go_ret
       exact⟨rfl,X.out⟩
      ·have aV:x<H:=by omega
       clear aU
       by_cases J:m=128
       ·subst J
        go_wp2_with fail
        refine aN.out.mono ?_
        rintro e w8 ⟨rfl,a8⟩
        have aF:=C6x (X.out.trans a8)
        clear a8
        cases C with
        |true=>
         obtain rfl:B=false:=aB.out (λt=>by
          obtain⟨i,hi,he⟩:=(B4u (Nat.le_of_lt Y.out)).mp (of_decide_eq_true HC.out.symm)
          exact t.2.2 i hi (by rw[he,U.out]))
         go_wp2_with fail
         go_ret
         exact⟨rfl,aF.out⟩
        |false=>
         have HG:=C6x (show C25 ps H k Y.out from⟨⟨by rw[<-U.out];exact aT,by rw[<-U.out];exact aV⟩,HM.out.symm,λi hi he=>
          of_decide_eq_false HC.out.symm ((B4u (Nat.le_of_lt Y.out)).mpr ⟨i,hi,by rw[he,U.out]⟩)⟩)
         go_wp2_with fail
         have aA:=aP.out
         refine⟨⟨k+1,by omega,by go_num,λi h hi=>?_,aF.out⟩,by simp[intOf];omega⟩
         by_cases e:i=k
         ·subst e;exact HG.out
         ·exact aG.out i h (by omega)
       ·obtain rfl:B=false:=aB.out (λt=>J (by rw[HM.out];exact t.2.1))
        have bF:((m:Int)!=128)=true:=by rw[bne_iff_ne];omega
        have bG:((m:Int)==128)=false:=by rw[beq_eq_false_iff_ne];omega
        clear J
        go_wp2_with fail
        go_ret
        exact⟨rfl,X.out⟩
    ·obtain rfl:k=N:=by omega
     obtain rfl:B=true:=by rw[HB.out];exact decide_eq_true ⟨aO.out,λi hi=>aG.out i hi (by have:=Z.out;omega)⟩
     clear aE ha aA hk
     go_wp2_with fail
     go_ret
     exact⟨rfl,HA.out⟩
end
section
open Go.RowKit
theorem A80:(Tryz.prog.info? 201).map (λi=>(i.zero,i.size,i.bytes))=some (some (.agg #[.int .u64 0,.int .u64 0,.bool false,.bool false,.slice none 0 0]),5,48):=by kernel_rfl
theorem B0T(n:Nat)(Y:n<=100)(w:World):(Instr.makeSlice 197 (.int .i64 (n:Int)) (.int .i64 (n:Int))).run Tryz.prog w= .ok (.slice (some ⟨w.heap.size,0,none⟩) n n) (w.alloc (.cells (madeCells #[.int .u64 0,.int .u64 0,.bool false,.bool false,.slice none 0 0] (n * 5)) 201)):=by
 obtain⟨X,J,V,U,I⟩:=info_parts A80
 have h:=run_make (P:=Tryz.prog) w 197 201 X _ Tryz.underlying197 J V .i64 .i64 n n (by omega) (Int.le_refl _) (by rw[I];omega) (by omega)
 simpa[U,Value.cells]using h
structure A3b (W:World) (z n:Nat) (P:Nat->Pc) (k:Nat) (w:World):Prop where
 blk:∃C,C3 w z 201 C/\C.size=n * 5
 at_:∀i,i<k->∃a q,w.cell? ⟨z,i * 5+0,none⟩=some (.int .u64 ((P i).e:Int))/\w.cell? ⟨z,i * 5+1,none⟩=some (.int .u64 ((P i).c:Int))/\w.cell? ⟨z,i * 5+2,none⟩=some (.bool (P i).f)/\w.cell? ⟨z,i * 5+3,none⟩=some (.bool (P i).g)/\
  w.cell? ⟨z,i * 5+4,none⟩=some (.slice a (P i).d.length q)/\Rd w 1 (.slice a (P i).d.length q) (P i).d.length ((P i).d.map u8)/\∀g,(Value.slice a (P i).d.length q).ownBlock=some g->0<(P i).d.length->g≠z/\W.heap.size<=g
 adv:B0 B5 W (λj=>j=z) w
 hz:W.heap.size<=z
section
variable {W w w':World} {z n k:Nat} {P:Nat->Pc}
theorem A3b.step{F':Nat->Prop}(h:A3b W z n P k w)(I:B0 B5 w F' w'):A3b W z n P k w':=by
 obtain⟨C,J,X⟩:=h.blk
 have U:=I.block z J.lt (λh=>h)
 refine⟨⟨C,J.keep U,X⟩,λi hi=>?_,h.adv.over I,h.hz⟩
 obtain⟨a,q,V,c1,c2,c3,c4,Y,Z⟩:=h.at_ i hi
 have e:∀j,w'.cell? ⟨z,j,none⟩=w.cell? ⟨z,j,none⟩:=λj=>World.cell?_of_block U
 exact⟨a,q,by rw[e];exact V,by rw[e];exact c1,by rw[e];exact c2,by rw[e];exact c3,by rw[e];exact c4,Y.far (λ_ _ _ h=>I.block _ h (λh=>h)) I.size,Z⟩
theorem A3b.there(h:A3b W z n P k w)(X:k<n):w.there z (k * 5) 5:=λj V=>by
 obtain⟨C,J,U⟩:=h.blk
 have I:=J.there (k * 5+j) (by omega)
 rw[Nat.zero_add]at I
 exact I
theorem A3b.put(h:A3b W z n P k w)(hk:k<n){e d q:Nat}{cI:Int}{f g:Bool}{a:Option Addr}(e0:e=(P k).e)(e1:cI=((P k).c:Int))(e2:f=(P k).f)(e3:g=(P k).g)(e4:d=(P k).d.length)
 (I:Rd w 1 (.slice a d q) d ((P k).d.map u8)) (X:∀b,(Value.slice a d q).ownBlock=some b->0<d->b≠z/\W.heap.size<=b):A3b W z n P (k+1) (w.setCells z (k * 5) (pc5 (e:Int) cI f g (.slice a d q)).toList):=by
 subst e0 e1 e2 e3 e4
 obtain⟨D,V⟩:∃D,D=(pc5 ((P k).e:Int) ((P k).c:Int) (P k).f (P k).g (.slice a (P k).d.length q)).toList:=⟨_,rfl⟩
 have aD:D.length=5:=by rw[V];rfl
 rw[<-V]
 obtain⟨C,hB,hC⟩:=h.blk
 obtain⟨Z,aA,aC⟩:=C3.lsetCells D (k * 5) w C hB
 have Y:∀{a:Option Addr} {d q:Nat} {l:List Nat},Rd w 1 (.slice a d q) d (l.map u8)->(∀b,(Value.slice a d q).ownBlock=some b->0<d->b≠z/\W.heap.size<=b)->Rd (w.setCells z (k * 5) D) 1 (.slice a d q) d (l.map u8):=λI U=>
  I.far (λb hb hn _=>L7 z (U b hb hn).1 D (k * 5) w) (B0.lsetCells D (k * 5) _ (B0.refl (λk=>k=z) w) (.inl rfl)).size
 refine⟨⟨Z,aA,by omega⟩,λi hi=>?_,B0.lsetCells D (k * 5) _ h.adv (.inr h.hz),h.hz⟩
 by_cases aB:i<k
 ·obtain⟨a,q,c0,c1,c2,c3,c4,I,U⟩:=h.at_ i aB
  have e:∀j,j<5->(w.setCells z (k * 5) D).cell? ⟨z,i * 5+j,none⟩=w.cell? ⟨z,i * 5+j,none⟩:=λj J=>World.cell?_setCells_out z D (k * 5) w _ (λ_ _=>.inl (by show i * 5+j<k * 5;omega))
  exact⟨a,q,by rw[e _ (by decide)];exact c0,by rw[e _ (by decide)];exact c1,by rw[e _ (by decide)];exact c2,by rw[e _ (by decide)];exact c3,by rw[e _ (by decide)];exact c4,Y I U,U⟩
 ·obtain rfl:i=k:=by omega
  have e:∀j (J:j<D.length),(w.setCells z (i * 5) D).cell? ⟨z,i * 5+j,none⟩=some D[j]:=λj J=>World.cell?_setCells_in z D (i * 5) w (λj J=>(h.there hk j (by omega)).1) j J
  subst V
  exact⟨a,q,e 0 (by simp[pc5]),e 1 (by simp[pc5]),e 2 (by simp[pc5]),e 3 (by simp[pc5]),e 4 (by simp[pc5]),Y I X,X⟩
theorem A3b.prd(h:A3b W z n P n w)(Y:n<=100):PRd w (.slice (some ⟨z,0,none⟩) n n) ((List.range n).map P):=by
 obtain⟨C,J,X⟩:=h.blk
 refine⟨_,n,by simp,by simp,by unfold maxLen;omega,λZ=>⟨z,0,rfl,J.lt,λi hi=>?_⟩⟩
 have U:i<n:=by simpa using hi
 obtain⟨a,q,I,c1,c2,c3,c4,V,_⟩:=h.at_ i U
 have e:((List.range n).map P)[i]'hi=P i:=by simp
 rw[e]
 simp only[Nat.zero_add]
 exact⟨a,q,I,c1,c2,c3,c4,V⟩
end
def A4M(w:World)(G:Nat->Prop)(v:Value)(ps:List Pc):Prop:=
 ∃A k,v= .slice A ps.length k/\ps.length<=k/\k<=maxLen/\(0<ps.length->∃b o,A=some ⟨b,o,none⟩/\(b<w.heap.size/\¬G b)/\∀i (h:i<ps.length),∃a q,
  w.cell? ⟨b,o+(i * 5+0),none⟩=some (.int .u64 (ps[i].e:Int))/\w.cell? ⟨b,o+(i * 5+1),none⟩=some (.int .u64 (ps[i].c:Int))/\w.cell? ⟨b,o+(i * 5+2),none⟩=some (.bool ps[i].f)/\w.cell? ⟨b,o+(i * 5+3),none⟩=some (.bool ps[i].g)/\
  w.cell? ⟨b,o+(i * 5+4),none⟩=some (.slice a ps[i].d.length q)/\Rd w 1 (.slice a ps[i].d.length q) ps[i].d.length (ps[i].d.map u8)/\∀g,(Value.slice a ps[i].d.length q).ownBlock=some g->0<ps[i].d.length->¬G g)
theorem A4M.nil(w:World)(G:Nat->Prop):A4M w G (.slice none 0 0) []:=⟨none,0,rfl,Nat.le_refl _,Nat.zero_le _,λh=>absurd h (by decide)⟩
theorem A4M.prd{w:World}{G:Nat->Prop}{v:Value}{ps:List Pc}(h:A4M w G v ps):PRd w v ps:=by
 obtain⟨A,k,rfl,J,U,h3⟩:=h
 refine⟨A,k,rfl,J,U,λY=>?_⟩
 obtain⟨b,o,rfl,V,X⟩:=h3 Y
 refine⟨b,o,rfl,V.1,λi hi=>?_⟩
 obtain⟨a,q,I,c1,c2,c3,c4,Z,_⟩:=X i hi
 exact⟨a,q,I,c1,c2,c3,c4,Z⟩
theorem A3b.prdg{W w:World}{z n:Nat}{P:Nat->Pc}{G:Nat->Prop}(h:A3b W z n P n w)(J:n<=100)(I:Bd G W):A4M w G (.slice (some ⟨z,0,none⟩) n n) ((List.range n).map P):=by
 obtain⟨C,V,hC⟩:=h.blk
 refine⟨_,n,by simp,by simp,by unfold maxLen;omega,λhp=>⟨z,0,rfl,⟨V.lt,λx=>by have:=I z x;have:=h.hz;omega⟩,λi hi=>?_⟩⟩
 have Y:i<n:=by simpa using hi
 obtain⟨a,q,U,c1,c2,c3,c4,Z,hs⟩:=h.at_ i Y
 have e:((List.range n).map P)[i]'hi=P i:=by simp
 rw[e]
 simp only[Nat.zero_add]
 exact⟨a,q,U,c1,c2,c3,c4,Z,λg X J x=>by have:=I g x;have:=(hs g X J).2;omega⟩
def A4N(w:World)(e c:Nat)(l:List Nat)(x:Ending)(w':World):Prop:=∃A n k,x= .returned (.tuple #[.slice A n k,.int .i64 (V2 e c l.length)])/\(∀G,Bd G w->A4M w' G (.slice A n k) (A2c e c l))/\B0 B5 w B5 w'
def B7P(w:World)(e c:Nat)(l:List Nat)(x:Ending)(w':World):Prop:=∃A n k,x= .returned (.tuple #[.slice A n k,.int .i64 (V2 e c l.length)])/\PRd w' (.slice A n k) (A2c e c l)/\B0 B5 w B5 w'
theorem A4N.cut{w w':World}{e c:Nat}{l:List Nat}{x:Ending}(h:A4N w e c l x w'):B7P w e c l x w':=by
 obtain⟨A,n,k,I,J,h3⟩:=h
 exact⟨A,n,k,I,(J B5 (λ_ x=>x.elim)).prd,h3⟩
theorem A4N.none{w w':World}{e c:Nat}{l:List Nat}{E:Int}(I:V2 e c l.length=E)(J:E≠0)(U:B0 B5 w B5 w'):A4N w e c l (.returned (.tuple #[.slice none 0 0,.int .i64 E])) w':=by
 refine⟨_,_,_,by rw[I],λG _=>?_,U⟩
 rw[A2c,if_neg (by rw[I];exact J)]
 exact A4M.nil _ _
theorem B4v(e c:Nat)(v:Value)(l:List Nat)(w:World)(hv:Rd w 1 v l.length (l.map u8))(hl:l.length<=100000)(h0:V2 e c l.length≠0):
 Calls Tryz.prog 160 #[.int .u64 (e:Int),.int .u64 (c:Int),v] w (A4N w e c l):=by
 obtain⟨A,q,rfl,_,_⟩:=hv.form
 obtain⟨m,V⟩:∃m,m=l.length:=⟨_,rfl⟩
 rw[<-V]at hl h0⊢
 by_cases I:e<=16777215/\c<=1099511627775
 ·have aE:(c:Int)<=1099511627775:=by omega
  have aG:(m:Int)<=100000:=by omega
  obtain⟨n,U⟩:∃n,n=J8 m:=⟨_,rfl⟩
  have aB:1<=n:=by rw[U];exact A1p m
  have aC:n<=10000:=by rw[U];unfold J8;omega
  have aH:(1:Int)<=(n:Int):=by omega
  have aI:(n:Int)<=10000:=by omega
  have X:=C6x I
  have HM:=C6x (show m<=1000000000 by omega)
  have HN:=C6x U
  by_cases aA:n-1<=1099511627775-c
  ·have h5:¬m<=8192:=λh=>h0 (by rw[V2,if_pos ⟨I.1,I.2,by rw[<-U];exact aA⟩,if_pos h])
   have aF:(8192:Int)<(m:Int):=by omega
   have J:V2 e c m=5:=by rw[V2,if_pos ⟨I.1,I.2,by rw[<-U];exact aA⟩,if_neg h5]
   have aD:(n:Int)-1<=1099511627775-(c:Int):=by omega
   have Y:=C6x J
   have Z:=C6x V
   clear I aA h5 J V h0 U hl aB aC hv
   go_enter Tryz.func160,Tryz.ntmps160
   go_wp2_with (first
    |(go_at_call 195;refine(A3V e c X.out.1 X.out.2 _).mono ?_;rintro x w1 ⟨rfl,rfl⟩)
    |(go_at_call 196;refine(A63 m _ HM.out).mono ?_;rintro x w1 ⟨rfl,rfl⟩;rw[<-HN.out])
    |fail)
   go_ret2
   exact A4N.none (by rw[<-Z.out];exact Y.out) (by decide) (B0.refl _ _)
  ·have J:V2 e c m=2:=by rw[V2,if_neg (λh=>aA (by rw[U];exact h.2.2))]
   have aD:1099511627775-(c:Int)<(n:Int)-1:=by omega
   have Y:=C6x J
   have Z:=C6x V
   clear I aA J V h0 U hl aB aC hv
   go_enter Tryz.func160,Tryz.ntmps160
   go_wp2_with (first
    |(go_at_call 195;refine(A3V e c X.out.1 X.out.2 _).mono ?_;rintro x w1 ⟨rfl,rfl⟩)
    |(go_at_call 196;refine(A63 m _ HM.out).mono ?_;rintro x w1 ⟨rfl,rfl⟩;rw[<-HN.out])
    |fail)
   go_ret2
   exact A4N.none (by rw[<-Z.out];exact Y.out) (by decide) (B0.refl _ _)
 ·have J:V2 e c m=2:=by rw[V2,if_neg (λh=>I ⟨h.1,h.2.1⟩)]
  have Y:=C6x J
  have Z:=C6x V
  have X:=C6x I
  clear I J V h0 hl hv
  go_enter Tryz.func160,Tryz.ntmps160
  go_wp2_with (first
   |(go_at_call 195;refine(B4g e c X.out _).mono ?_;rintro x w1 ⟨rfl,rfl⟩)
   |fail)
  go_ret2
  exact A4N.none (by rw[<-Z.out];exact Y.out) (by decide) (B0.refl _ _)
end
section
open Go.RowKit
def B2Y(W:World)(z n:Nat)(P:Nat->Pc)(t:Value)(wr:World):Prop:=∃k:Nat,k<=n/\t= .int .i64 (k:Int)/\A3b W z n P k wr
theorem A69{l:List Nat}{k:Nat}:((l.drop (k * 106)).take 106).length=min 106 (l.length-k * 106):=by simp
theorem A6A{w:World}{z o:Nat}(h:w.there z o 5):∃u0 u1 u2 u3 u4,w.cell? ⟨z,o,none⟩=some u0/\w.cell? ⟨z,o+1,none⟩=some u1/\w.cell? ⟨z,o+2,none⟩=some u2/\w.cell? ⟨z,o+3,none⟩=some u3/\w.cell? ⟨z,o+4,none⟩=some u4/\
 w.frozen? ⟨z,o,none⟩=false/\w.frozen? ⟨z,o+1,none⟩=false/\w.frozen? ⟨z,o+2,none⟩=false/\w.frozen? ⟨z,o+3,none⟩=false/\w.frozen? ⟨z,o+4,none⟩=false:=by
 obtain⟨I,Y⟩:=h 0 (by decide)
 obtain⟨J,Z⟩:=h 1 (by decide)
 obtain⟨U,b2⟩:=h 2 (by decide)
 obtain⟨V,b3⟩:=h 3 (by decide)
 obtain⟨X,b4⟩:=h 4 (by decide)
 obtain⟨u0,c0⟩:=Option.isSome_iff_exists.1 I
 obtain⟨u1,c1⟩:=Option.isSome_iff_exists.1 J
 obtain⟨u2,c2⟩:=Option.isSome_iff_exists.1 U
 obtain⟨u3,c3⟩:=Option.isSome_iff_exists.1 V
 obtain⟨u4,c4⟩:=Option.isSome_iff_exists.1 X
 exact⟨u0,u1,u2,u3,u4,c0,c1,c2,c3,c4,Y,Z,b2,b3,b4⟩
theorem B5Y{W w:World}{z n m e c:Nat}{l:List Nat}(V:m=l.length)(X:n=J8 m)(I:V2 e c m=0)(Y:n<=100)(h:A3b W z n (D7 e c l) n w):
 A4N W e c l (.returned (.tuple #[.slice (some ⟨z,0,none⟩) n n,.int .i64 0])) w:=by
 subst V
 refine⟨_,n,n,by rw[I],λG U=>?_,h.adv.sub (λ_ h=>h.elim)⟩
 have J:=h.prdg Y U
 rw[A2c,if_pos I,Q5,<-X]
 exact J
theorem B7Q(e c:Nat)(l:List Nat)(k:Nat):(c:Int)+(k:Int)=((D7 e c l k).c:Int):=by show _=((c+k:Nat):Int);omega
theorem A4e{W w wc:World}{z n k:Nat}{P:Nat->Pc}{I:Nat->Prop}{e:TypeId}{Z d:Nat}{v:Value}{xs:List Value}(h:A3b W z n P k w)(Y:Sl wc I e Z v d xs)(U:B0 B5 w I wc):∀b,v.ownBlock=some b->0<d->b≠z/\W.heap.size<=b:=λb X _=>by
 obtain⟨C,V,_⟩:=h.blk
 have:=V.lt
 have h2:=h.adv.size
 rcases U.into b (Y.inF b X)with J|J
 ·exact J.elim
 ·exact⟨λe=>by omega,by omega⟩
theorem B4w(e c:Nat)(v:Value)(l:List Nat)(w:World)(hv:Rd w 1 v l.length (l.map u8))(h0:V2 e c l.length=0):
 Calls Tryz.prog 160 #[.int .u64 (e:Int),.int .u64 (c:Int),v] w (A4N w e c l):=by
 obtain⟨A,q,rfl,aU,bK⟩:=hv.form
 obtain⟨m,hm⟩:∃m,m=l.length:=⟨_,rfl⟩
 have aR:e<=16777215/\c<=1099511627775/\J8 l.length-1<=1099511627775-c/\l.length<=8192:=by
  unfold V2 at h0
  split at h0
  ·rename_i h
   split at h0
   ·rename_i h';exact⟨h.1,h.2.1,h.2.2,h'⟩
   ·simp at h0
  ·simp at h0
 rw[<-hm]at aR h0 hv aU⊢
 obtain⟨n,hn⟩:∃n,n=J8 m:=⟨_,rfl⟩
 rw[<-hn]at aR
 obtain⟨he,I,bI,cA⟩:=aR
 have bC:1<=n:=by rw[hn];exact A1p m
 have bD:n<=78:=by rw[hn];exact B0P (by decide) (by omega)
 have bH:m<=n * 106:=by rw[hn];exact B0N m
 have bF:m=0->n=1:=λh=>by rw[hn,h];rfl
 have bG:0<m->(n-1) * 106<m:=λh=>by rw[hn];unfold J8;omega
 have cF:(c:Int)<=1099511627775:=by omega
 have cM:(m:Int)<=8192:=by omega
 have cQ:(1:Int)<=(n:Int):=by omega
 have cR:(n:Int)<=78:=by omega
 have aV:(n:Int)-1<=1099511627775-(c:Int):=by omega
 have bB:=B0T n (by omega)
 have aW:=C6x (And.intro he I)
 have HM:=C6x (show m<=1000000000 by omega)
 have HN:=C6x hn
 have Z:=C6x hm
 have HV:=C6x hv
 have aN:=C6x bC
 have bS:=C6x bD
 have bV:=C6x bH
 have bT:=C6x bF
 have bU:=C6x bG
 have bX:=C6x bI
 have bQ:=C6x h0
 have aH:=C6x aU
 have aQ:=C6x bK
 clear he I hm hn hv bC bD bH bF bG bI h0 cA aU bK
 go_enter Tryz.func160,Tryz.ntmps160
 go_wp2_with fail
 refine(A3V e c aW.out.1 aW.out.2 _).mono ?_
 rintro x w1 ⟨rfl,rfl⟩
 go_wp2_with fail
 refine(A63 m _ HM.out).mono ?_
 rintro x w1 ⟨rfl,rfl⟩
 rw[<-HN.out]
 go_wp2_with fail
 obtain⟨z,hz⟩:∃z,z=w.heap.size:=⟨_,rfl⟩
 rw[<-hz]
 have bO:A3b w z n (D7 e c l) 0 (w.alloc (.cells (madeCells #[.int .u64 0,.int .u64 0,.bool false,.bool false,.slice none 0 0] (n * 5)) 201)):=
  ⟨⟨_,by rw[hz];exact C3.new _ _ _,size_madeCells _ _⟩,λi hi=>absurd hi (by omega),⟨rfl,rfl,rfl,by simp,λk hk _=>Below.heap_alloc _ _ _ hk,λk hk=>.inr (by omega)⟩,by omega⟩
 have bY:=C6x bO
 have HZ:=C6x hz
 clear bO hz bB
 go_loopw [39] (B2Y w z n (D7 e c l)) (λt _=>n-(intOf t).toNat)
 case atStart=>exact⟨0,Nat.zero_le _,rfl,bY.out⟩
 case round=>
  obtain⟨k,hk,rfl,hI⟩:=hrel
  by_cases aF:k<n
  ·have cJ:(k:Int)<(n:Int):=by omega
   have bP:=hI.there aF
   have aX:c+k<=1099511627775:=by have:=bX.out;have:=aN.out;omega
   have cG:(c:Int)+(k:Int)<=1099511627775:=by omega
   have cH:(k:Int)<=78:=by omega
   have cB:∀b,(Value.slice A m q).ownBlock=some b->0<m->b<w.heap.size:=λb hb hm=>by
    obtain⟨b',o',q',e',cE,_,_⟩:=HV.out.adr hm
    injection e' with e1 _ _
    subst e1
    simp[Value.ownBlock]at hb
    omega
   have bM:=HV.out.far (λb hb hm hl=>hI.adv.block b hl (λh=>h)) hI.adv.size
   have Y:=C6x hI
   have cD:=C6x bP
   have aL:=C6x bM
   have V:=C6x aF
   have cC:=C6x aX
   clear hI bP aX bM cB hk
   by_cases aB:m=0
   ·obtain rfl:n=1:=bT.out aB
    obtain rfl:k=0:=by omega
    have aC:l=[]:=List.eq_nil_of_length_eq_zero (by rw[<-Z.out];exact aB)
    cases A with
    |none=>
     have HR:=C6x (show Rd wr 1 (.slice none 0 q) 0 (([]:List Nat).map u8)by rw[<-aC,<-aB];exact aL.out)
     have aO:=C6x (show true=(D7 e c l 0).f from rfl)
     have aP:=C6x (show true=(D7 e c l 0).g by show true=(0==J8 l.length-1);rw[aC];rfl)
     have aI:=C6x (show([]:List Nat)=(D7 e c l 0).d by show []=(l.drop 0).take 106;rw[aC];rfl)
     subst aB
     clear aC
     go_wp2_with (first
      |(go_at_call 193;refine(S8 _ 0 _ _ HR.out (T5 _) (by decide)).mono ?_;rintro x wc ⟨vc,Fc,rfl,I,J⟩;obtain⟨Ac,cc,rfl,_,_⟩:=I.form0;have U:=Y.out.step J;obtain⟨u0,u1,u2,u3,u4,t0,t1,t2,t3,t4,r0,r1,r2,r3,r4⟩:=A6A (U.there (by decide));have aA:=C6x (U.put (e:=e) (cI:=(c:Int)) (f:=true) (g:=true) (by decide) rfl rfl aO.out aP.out (by rw[<-aI.out];rfl) (by rw[<-aI.out];exact I.rd) (A4e Y.out I J));clear I J U;simp only[Nat.zero_mul,Nat.zero_add]at t0 t1 t2 t3 t4 r0 r1 r2 r3 r4)
      |fail)
     refine⟨?_,by simp[intOf]⟩
     repeat apply Exists.intro
     exact⟨(show B2Y w z 1 (D7 e c l) (.int .i64 ((1:Nat):Int)) _ from⟨1,Nat.le_refl _,rfl,aA.out⟩),rfl⟩
    |some ad=>
     have HR:=C6x (show Rd wr 1 (.slice (some ad) 0 q) 0 (([]:List Nat).map u8)by rw[<-aC,<-aB];exact aL.out)
     have aO:=C6x (show true=(D7 e c l 0).f from rfl)
     have aP:=C6x (show true=(D7 e c l 0).g by show true=(0==J8 l.length-1);rw[aC];rfl)
     have aI:=C6x (show([]:List Nat)=(D7 e c l 0).d by show []=(l.drop 0).take 106;rw[aC];rfl)
     subst aB
     clear aC
     go_wp2_with (first
      |(go_at_call 193;refine(S8 _ 0 _ _ HR.out (T5 _) (by decide)).mono ?_;rintro x wc ⟨vc,Fc,rfl,I,J⟩;obtain⟨Ac,cc,rfl,_,_⟩:=I.form0;have U:=Y.out.step J;obtain⟨u0,u1,u2,u3,u4,t0,t1,t2,t3,t4,r0,r1,r2,r3,r4⟩:=A6A (U.there (by decide));have aA:=C6x (U.put (e:=e) (cI:=(c:Int)) (f:=true) (g:=true) (by decide) rfl rfl aO.out aP.out (by rw[<-aI.out];rfl) (by rw[<-aI.out];exact I.rd) (A4e Y.out I J));clear I J U;simp only[Nat.zero_mul,Nat.zero_add]at t0 t1 t2 t3 t4 r0 r1 r2 r3 r4)
      |fail)
     refine⟨?_,by simp[intOf]⟩
     repeat apply Exists.intro
     exact⟨(show B2Y w z 1 (D7 e c l) (.int .i64 ((1:Nat):Int)) _ from⟨1,Nat.le_refl _,rfl,aA.out⟩),rfl⟩
   ·have aM:0<m:=by omega
    obtain⟨b,o,q',e',hb,_,_⟩:=HV.out.adr aM
    injection e' with e1 _ e3
    subst e1 e3
    have aS:(n-1) * 106<m:=bU.out aM
    have aT:k * 106<m:=by have:=V.out;omega
    have cL:¬q=k * 106:=by have:=aH.out;omega
    have cO:(m:Int)<=(q:Int):=by have:=aH.out;omega
    have cK:(k:Int) * 106<=(m:Int):=by omega
    have cP:IntKind.i64.wrap ((k:Int) * 106)=(k:Int) * 106:=by rw[IntKind.wrap_i64];omega
    have cT:((k:Int) * 106+106).toNat-k * 106=106:=by omega
    by_cases aE:k=n-1
    ·have bZ:((k:Int)==(n:Int)-1)=true:=by rw[beq_iff_eq];have:=aN.out;omega
     by_cases aZ:m=k * 106+106
     ·have bA:(m:Int)<=(k:Int) * 106+106:=by omega
      have cN:(k:Int) * 106+106<=(m:Int):=by omega
      have bB:m-k * 106=106:=by omega
      clear aZ
      have aD:(D7 e c l k).d.length=106:=by show((l.drop (k * 106)).take 106).length=_;rw[A69,<-Z.out];omega
      have hr:=(aL.out.sub (k * 106) (106) (q-k * 106) (by omega) (by have:=aH.out;omega) (by have:=aQ.out;omega))
      obtain⟨f,X⟩:∃f,f=(k==0):=⟨_,rfl⟩
      have aY:((k:Int)==0)=f:=by rw[X,Bool.eq_iff_iff,beq_iff_eq,beq_iff_eq];omega
      have HF:=C6x X
      have HR:=C6x hr
      have aJ:=C6x aD
      have aK:=C6x (show true=(k==J8 l.length-1)by rw[<-Z.out,<-HN.out];symm;rw[beq_iff_eq];exact aE)
      have aG:=C6x (show 106<=1000000000 by omega)
      clear X hr aD aE aB aM aS aT aV
      go_wp2_with (first
       |(go_at_call 193;refine(S8 _ (106) _ _ HR.out (T5 _) aG.out).mono ?_;rintro x wc ⟨vc,Fc,rfl,I,J⟩;obtain⟨Ac,cc,rfl,_,_⟩:=I.form0;have U:=Y.out.step J;obtain⟨u0,u1,u2,u3,u4,t0,t1,t2,t3,t4,r0,r1,r2,r3,r4⟩:=A6A (U.there V.out);have aA:=C6x (U.put (e:=e) (cI:=(c:Int)+(k:Int)) (f:=f) (g:=true) V.out rfl (B7Q e c l k) HF.out aK.out aJ.out.symm I.rd (A4e Y.out I J));clear I J U)
       |fail)
      have aF:=V.out
      exact⟨⟨k+1,by omega,by go_num,aA.out⟩,by simp[intOf];omega⟩
     ·have bA:(m:Int)<(k:Int) * 106+106:=by have:=bV.out;have:=aN.out;omega
      clear aZ
      have aD:(D7 e c l k).d.length=m-k * 106:=by show((l.drop (k * 106)).take 106).length=_;rw[A69,<-Z.out];omega
      have hr:=(aL.out.sub (k * 106) (m-k * 106) (q-k * 106) (by omega) (by have:=aH.out;omega) (by have:=aQ.out;omega))
      have bJ:(l.drop (k * 106)).take (m-k * 106)=(l.drop (k * 106)).take 106:=by rw[List.take_of_length_le (by rw[List.length_drop,<-Z.out];exact Nat.le_refl _),List.take_of_length_le (by rw[List.length_drop,<-Z.out];omega)]
      rw[bJ]at hr
      clear bJ
      obtain⟨f,X⟩:∃f,f=(k==0):=⟨_,rfl⟩
      have aY:((k:Int)==0)=f:=by rw[X,Bool.eq_iff_iff,beq_iff_eq,beq_iff_eq];omega
      have HF:=C6x X
      have HR:=C6x hr
      have aJ:=C6x aD
      have aK:=C6x (show true=(k==J8 l.length-1)by rw[<-Z.out,<-HN.out];symm;rw[beq_iff_eq];exact aE)
      have aG:=C6x (show m-k * 106<=1000000000 by omega)
      clear X hr aD aE aB aM aS aT aV
      go_wp2_with fail
      refine(S8 _ (m-k * 106) _ _ HR.out (T5 _) aG.out).mono ?_
      rintro x wc ⟨vc,Fc,rfl,I,J⟩
      obtain⟨Ac,cc,rfl,_,_⟩:=I.form0
      have U:=Y.out.step J
      obtain⟨u0,u1,u2,u3,u4,t0,t1,t2,t3,t4,r0,r1,r2,r3,r4⟩:=A6A (U.there V.out)
      have aA:=C6x (U.put (e:=e) (cI:=(c:Int)+(k:Int)) (f:=f) (g:=true) V.out rfl (B7Q e c l k) HF.out aK.out aJ.out.symm I.rd (A4e Y.out I J))
      clear I J U
      go_wp2_with fail
      have aF:=V.out
      exact⟨⟨k+1,by omega,by go_num,aA.out⟩,by simp[intOf];omega⟩
    ·have bA:(k:Int) * 106+106<(m:Int):=by have:=V.out;omega
     have bZ:((k:Int)==(n:Int)-1)=false:=by rw[beq_eq_false_iff_ne];omega
     have aD:(D7 e c l k).d.length=106:=by show((l.drop (k * 106)).take 106).length=_;rw[A69,<-Z.out];omega
     have hr:=(aL.out.sub (k * 106) (106) (q-k * 106) (by omega) (by have:=aH.out;omega) (by have:=aQ.out;omega))
     obtain⟨f,X⟩:∃f,f=(k==0):=⟨_,rfl⟩
     have aY:((k:Int)==0)=f:=by rw[X,Bool.eq_iff_iff,beq_iff_eq,beq_iff_eq];omega
     have HF:=C6x X
     have HR:=C6x hr
     have aJ:=C6x aD
     have aK:=C6x (show false=(k==J8 l.length-1)by rw[<-Z.out,<-HN.out];symm;rw[beq_eq_false_iff_ne];exact aE)
     have aG:=C6x (show 106<=1000000000 by omega)
     clear X hr aD aE aB aM aS aT aV
     go_wp2_with (first
      |(go_at_call 193;refine(S8 _ (106) _ _ HR.out (T5 _) aG.out).mono ?_;rintro x wc ⟨vc,Fc,rfl,I,J⟩;obtain⟨Ac,cc,rfl,_,_⟩:=I.form0;have U:=Y.out.step J;obtain⟨u0,u1,u2,u3,u4,t0,t1,t2,t3,t4,r0,r1,r2,r3,r4⟩:=A6A (U.there V.out);have aA:=C6x (U.put (e:=e) (cI:=(c:Int)+(k:Int)) (f:=f) (g:=false) V.out rfl (B7Q e c l k) HF.out aK.out aJ.out.symm I.rd (A4e Y.out I J));clear I J U)
      |fail)
     have aF:=V.out
     exact⟨⟨k+1,by omega,by go_num,aA.out⟩,by simp[intOf];omega⟩
  ·obtain rfl:k=n:=by omega
   have bR:=C6x (B5Y Z.out HN.out bQ.out (by have:=bS.out;omega) hI)
   clear hI hk aF
   go_wp2_with fail
   go_ret2
   exact bR.out
end
section
open Go.RowKit
theorem A1r{e:TypeId}{Y:Nat}{w2 U:World}{F:Nat->Prop}{v I:Value}{k n m:Nat}{xs ys:List Value}(V:Sl w2 F e Y v k xs)(aA:U.ownsRow 0 e Y I n ys)(hg:w2.grownBy U v.ownBlock)
 (aC:I.ownBlock=v.ownBlock\/I.ownBlock=some m) (hm:w2.heap.size<=m):Sl U (λj=>F j\/I.ownBlock=some j) e Y I n ys/\B0 F w2 (λj=>F j\/I.ownBlock=some j) U:=by
 have aB:∀j,(F j\/I.ownBlock=some j)->F j\/w2.heap.size<=j:=by
  rintro j (h|h)
  ·exact .inl h
  ·rcases aC with e|e
   ·exact .inl (V.inF j (by rw[<-e];exact h))
   ·rw[e]at h;injection h with h;right;omega
 have Z:B0 F w2 (λj=>F j\/I.ownBlock=some j) U:=by
  have J:=(B0.refl F w2).grown hg (λj X=>.inl (V.inF j X))
  exact⟨J.os,J.tape,J.output,J.size,J.block,aB⟩
 refine⟨⟨aA,λj X=>.inr X,?_⟩,Z⟩
 rintro j (h|h)
 ·exact Nat.lt_of_lt_of_le (V.bd j h) Z.size
 ·exact(aA.lt j h).2
theorem A4P{w:World}{ops:Array Oper}{o:Oper}{a:Act}{K:Act->World->Prop}{Q:Exit->Act->World->Prop}{E:Prop}(aA:o.guard=none)(s x:Operand)(t e:TypeId)
 (ho:o.op= .call { callee:=.builtin .append,args:= #[s,x],argTypes:= #[t,t] }) (ht:Tryz.prog.underlying t=some (.slice e)) {z:Value} {I X:Nat} (hi:(Tryz.prog.info? e).map (λi=>(i.zero,i.size,i.bytes))=some (some z,I,X)) (aJ:z.cells.size=I) (aF:0<I)
 {v:Value} {n:Nat} {Y:List Value} (hs:a.eval s=v) (aD:w.ownsRow 0 e I v n Y) (V:Addr) (m c:Nat) (hx:a.eval x= .slice (some V) m c) (U:List Value) (hl:U.length=m * I) (aC:∀j u,U[j]? =some u->w.cell? (V.add j)=some u) (h1:∀u∈U,u.oneCell'=true)
 (h63:n+m<=maxLen) (hb:(n+m) * X<=140737488355328)
 (h:∀J w',w'.ownsRow 0 e I J (n+m) (Y++U)->w.grownBy w' v.ownBlock->(J.ownBlock=v.ownBlock\/J.ownBlock=some w.heap.size)->K (a.put o.dst J) w'):
 if Region.wanted o (yielded ops a.tmps)=true then Oper.wp Tryz.prog o a w K Q else E:=by
 rw[if_pos (by simp[Region.wanted,aA])]
 obtain⟨i0,aB,aG,aH,aI⟩:=info_parts hi
 obtain⟨J,w',aE,Z,h3,_,h5⟩:=run_append_own_at (P:=Tryz.prog) w 0 t o.type e i0 z I X ht aB aG aH aI aJ aF v n Y aD V m c U hl aC h1 h63 hb (Nat.zero_le _)
 unfold Oper.wp execOp
 simp only[ho,resolve,invoke,builtin,Sem.run_bind,Sem.run_pure,Result.andThen_ok,List.map_toArray,List.map_cons,List.map_nil,hs,hx,aE]
 exact h J w' Z h3 h5
theorem A2e{w:World}{ops:Array Oper}{rest:List Oper}{o:Oper}{a:Act}{Q:Exit->Act->World->Prop}(Y:o.guard=none)(s x:Operand)(t e:TypeId)
 (ho:o.op= .call { callee:=.builtin .append,args:= #[s,x],argTypes:= #[t,t] }) (ht:Tryz.prog.underlying t=some (.slice e)) {z:Value} {I Z:Nat} (hi:(Tryz.prog.info? e).map (λi=>(i.zero,i.size,i.bytes))=some (some z,I,Z)) (aD:z.cells.size=I) (aC:0<I)
 {v:Value} {n:Nat} {xs:List Value} (hs:a.eval s=v) (aB:w.ownsRow 0 e I v n xs) (V:Addr) (m c:Nat) (hx:a.eval x= .slice (some V) m c) (U:List Value) (hl:U.length=m * I) (aA:∀j u,U[j]? =some u->w.cell? (V.add j)=some u) (X:∀u∈U,u.oneCell'=true)
 (h63:n+m<=maxLen) (hb:(n+m) * Z<=140737488355328)
 (h:∀J w',w'.ownsRow 0 e I J (n+m) (xs++U)->w.grownBy w' v.ownBlock->(J.ownBlock=v.ownBlock\/J.ownBlock=some w.heap.size)->wpList Tryz.prog ops Q rest (a.put o.dst J) w'):wpList Tryz.prog ops Q (o::rest) a w:=by
 refine wpList_plain Y λK hK=>?_
 have h0:=A4P (ops:=ops) (K:=K) (Q:=Q) (E:=True) Y s x t e ho ht hi aD aC hs aB V m c hx U hl aA X h63 hb (λJ w' X h2 h3=>hK _ _ (h J w' X h2 h3))
 rwa[if_pos (by simp[Region.wanted,Y])]at h0
def A34(q:Pc×Value):List Value:=[.int .u64 (q.1.e:Int),.int .u64 (q.1.c:Int),.bool q.1.f,.bool q.1.g,q.2]
theorem C2b(f:Pc×Value->List Value)(I:∀x,(f x).length=5):∀(l:List (Pc×Value)) (i j:Nat) (hi:i<l.length),j<5->(l.flatMap f)[i * 5+j]? =(f l[i])[j]?
 |x::l,0,j,_,hj=>by
  rw[List.flatMap_cons,List.getElem?_append_left (by rw[I];omega)];simp
 |x::l,i+1,j,hi,hj=>by
  have e:(i+1) * 5+j=5+(i * 5+j):=by omega
  rw[List.flatMap_cons,List.getElem?_append_right (by rw[I];omega),e,I,show 5+(i * 5+j)-5=i * 5+j by omega]
  exact C2b f I l i j (by simpa using hi) hj
section
variable {W w w':World} {P:Nat->Pc} {k:Nat} {vo:Value}
end
theorem C5j{e:Nat}{cI:Int}{f g:Bool}{a:Option Addr}{d q:Nat}:∀u∈[Value.int .u64 (e:Int),.int .u64 cI,.bool f,.bool g,.slice a d q],u.oneCell'=true:=by
 intro u I
 simp at I
 rcases I with rfl|rfl|rfl|rfl|rfl<;>rfl
theorem B0U{w:World}{e:TypeId}{I n:Nat}{v:Value}{J:List Value}(h:w.ownsRow 0 e I v n J):∃a k,v= .slice a n k:=by
 rcases h.2 with⟨rfl,rfl⟩|⟨_,_,_,rfl,_⟩<;>exact⟨_,_,rfl⟩
end
section
open Go.RowKit
theorem B7R(e c:Nat)(v:Value)(l:List Nat)(w:World)(hv:Rd w 1 v l.length (l.map u8))(I:l.length<=100000):
 Calls Tryz.prog 160 #[.int .u64 (e:Int),.int .u64 (c:Int),v] w (B7P w e c l):=by
 by_cases h:V2 e c l.length=0
 ·exact(B4w e c v l w hv h).mono (λ_ _ h=>h.cut)
 ·exact(B4v e c v l w hv I h).mono (λ_ _ h=>h.cut)
theorem B5Z(e c:Nat)(v:Value)(l:List Nat)(w:World)(hv:Rd w 1 v l.length (l.map u8))(I:l.length<=100000):
 Calls Tryz.prog 160 #[.int .u64 (e:Int),.int .u64 (c:Int),v] w (A4N w e c l):=by
 by_cases h:V2 e c l.length=0
 ·exact B4w e c v l w hv h
 ·exact B4v e c v l w hv I h
theorem B7P.opened{w w':World}{e c:Nat}{l:List Nat}{x:Ending}(h:B7P w e c l x w'):∃A k,x= .returned (.tuple #[.slice A (A2c e c l).length k,.int .i64 (V2 e c l.length)])/\PRd w' (.slice A (A2c e c l).length k) (A2c e c l)/\B0 B5 w B5 w':=by
 obtain⟨A,n,k,rfl,I,U⟩:=h
 have V:=I
 obtain⟨A',X,J,_⟩:=V
 injection J with _ e2 _
 subst e2
 exact⟨A,k,rfl,I,U⟩
def A35(w:World)(b o:Nat)(p:Pc)(v:Value):Prop:=
 w.cell? ⟨b,o,none⟩=some (.int .u64 (p.e:Int))/\w.cell? ⟨b,o+1,none⟩=some (.int .u64 (p.c:Int))/\w.cell? ⟨b,o+2,none⟩=some (.bool p.f)/\w.cell? ⟨b,o+3,none⟩=some (.bool p.g)/\w.cell? ⟨b,o+4,none⟩=some v
theorem PRd.row{w:World}{A:Option Addr}{n k:Nat}{ps:List Pc}(h:PRd w (.slice A n k) ps){i:Nat}(hi:i<ps.length):∃b o a q,A=some ⟨b,o,none⟩/\b<w.heap.size/\A35 w b (o+i * 5) ps[i] (.slice a ps[i].d.length q)/\Rd w 1 (.slice a ps[i].d.length q) ps[i].d.length (ps[i].d.map u8):=by
 obtain⟨A',Y,e,_,_,U⟩:=h
 injection e with e1 _ _
 subst e1
 obtain⟨b,o,rfl,J,X⟩:=U (by omega)
 obtain⟨a,q,I,c1,c2,c3,c4,V⟩:=X i hi
 refine⟨b,o,a,q,rfl,J,⟨by simpa using I,?_,?_,?_,?_⟩,V⟩
 ·rw[Nat.add_assoc];exact c1
 ·rw[Nat.add_assoc];exact c2
 ·rw[Nat.add_assoc];exact c3
 ·rw[Nat.add_assoc];exact c4
theorem A35.step{w w':World}{b o:Nat}{p:Pc}{v:Value}{F:Nat->Prop}(h:A35 w b o p v)(U:b<w.heap.size)(J:B0 B5 w F w'):A35 w' b o p v:=by
 have V:=J.block b U (λh=>h)
 have e:∀j,w'.cell? ⟨b,j,none⟩=w.cell? ⟨b,j,none⟩:=λj=>World.cell?_of_block V
 obtain⟨I,c1,c2,c3,c4⟩:=h
 exact⟨by rw[e];exact I,by rw[e];exact c1,by rw[e];exact c2,by rw[e];exact c3,by rw[e];exact c4⟩
structure Two (w:World) (b1 o1 b2 o2:Nat) (p:Pc) (v1 v2:Value):Prop where
 c1:A35 w b1 o1 p v1
 c2:A35 w b2 o2 p v2
 l1:b1<w.heap.size
 l2:b2<w.heap.size
end
end Go.Proofs.YtbefmjiclpobjaaGreat
