import Derived.Test.YtbefmjiclpobjaaGreatMj22
import Derived.Test.YtbefmjiclpobjaaGreatMj08
import Derived.Shelf.SlIterI.Nil
import Derived.Shelf.SortM.Plain
import Derived.Shelf.SortM.SortNone
import Derived.Test.YtbefmjiclpobjaaGreatMj09
import Derived.Maps.Range
namespace Go.Proofs.YtbefmjiclpobjaaGreat
set_option maxHeartbeats 6400000
set_option maxRecDepth 3000
section
open Go.RowKit Go.Maps
theorem C1u{D:DU}{J:Lit}{y:DU}(V:∀zd,D.atKey J zd=y):Maps.has D J=true:=by
 cases hq:Maps.has D J with
 |true=>rfl
 |false=>
  have U:=V (.lit (.int .u8 0))
  have I:=V (.lit (.int .u8 1))
  rw[atKey_of_not_has hq]at U I
  rw[<-U]at I
  cases I
theorem B1H{v:Value}{y:DU×List MemPlace}(h:A0w v=some y):∃cs,v= .agg cs:=by
 unfold A0w at h
 split at h
 ·exact⟨_,rfl⟩
 ·cases h
theorem B1J{I:Value}{U:Lit}(h:keyOf Tryz.prog 3 I=some U):∃x,I= .int .i64 x:=by
 obtain⟨x,J,_⟩:=keyOf_int_inv Tryz.underlying3 h
 exact⟨x,J⟩
theorem C4J{M:Nat}{A':Nat->Option (List Nat)}{D:DU}{x:Int}{cs:Array Value}{J:Lit}{y:DU×List MemPlace}(W:MpD M A' D)(hk:keyOf Tryz.prog 3 (.int .i64 x)=some J)(hv:A0w (.agg cs)=some y)(Y:∀zd,D.atKey J zd=y.1):
 ∃(i:Nat) (l:List Nat),x=(i:Int)/\J=ik i/\i<M/\A' i=some l/\cs=(l.map u8).toArray:=by
 have X:=C1u Y
 obtain⟨x',U,I,_⟩:=keyOf_int_inv Tryz.underlying3 hk
 injection U with _ U
 subst U
 have aA:WideAt.IsKeyLit J:=by rw[I];exact trivial
 obtain⟨i,hi,e⟩:=W.keys J aA X
 subst e
 have hx:x=(i:Int):=by unfold ik at I;injection I with _ I;exact I.symm
 rw[W.has i hi]at X
 obtain⟨l,Z⟩:=Option.isSome_iff_exists.1 X
 have V:=W.at_ i hi (.lit (.int .u8 0))
 rw[Y,Z]at V
 obtain⟨y1,y2⟩:=y
 simp only[Option.map_some,Option.getD_some]at V
 subst V
 have:=A2m hv
 injection this with this
 exact⟨i,l,hx,rfl,hi,Z,this⟩
theorem B6P{w w':World}{b n:Nat}{D:DU}{F':Nat->Prop}(h:w.ownsMap Tryz.prog 3 A0w b n D)(V:B0 B5 w F' w'):w'.ownsMap Tryz.prog 3 A0w b n D:=by
 have W:=h.lt
 obtain⟨I,c,J,U⟩:=h
 exact⟨I,c,(V.block b W (λx=>x)).trans J,U⟩
theorem A5k{ops:Array Oper}{rest:List Oper}{o:Oper}{a:Act}{w:World}{Q:Exit->Act->World->Prop}(W:o.guard=none)(m x:Operand)(Z:o.op=Op.lookup 86 m x false)(b N i:Nat)(A:Nat->Option (List Nat))(U:Mp w b N A)(Y:a.eval m= .map (some b))(hx:a.eval x= .int .i64 (i:Int))(hi:i<N)(hN:N<=4096)
 {X:List Nat} (V:X=(A i).getD (List.replicate 128 0))
 (hK:wpList Tryz.prog ops Q rest (a.put o.dst (.agg ((X.map u8).toArray))) w):wpList Tryz.prog ops Q (o::rest) a w:=by
 subst V
 obtain⟨D,h,d⟩:=U
 refine wpList_plain W λK' J=>?_
 obtain⟨v,ps,I,hv⟩:=h.lookup N7 Tryz.underlying86 (A2g A0A) (zd:=A09 (List.replicate 128 0)) (zp:=[]) (by rw[zS,<-List.map_replicate];exact A1H _) (A37 (i:=i) (by omega))
 rw[d.at_ i hi]at hv
 have e:((A i).map A09).getD (A09 (List.replicate 128 0))=A09 ((A i).getD (List.replicate 128 0)):=by cases A i<;>rfl
 rw[e]at hv
 rw[A2m hv]at I
 unfold Oper.wp
 simp[execOp,Z,Y,hx,I,Result.andThen]
 exact J _ _ hK
def C3k(w:World)(E:Ev)(c m:Nat)(e:Int)(A:Nat->Option (List Nat))(I r J:Nat)(wr:World):Prop:=
 ∃(left:Lit->Bool) (cnt:Nat) (D:DU),wr.ranges Tryz.prog 3 A0w m r J D left cnt/\MpD E.M (A3g A E.H left) D/\Mp wr I E.M (A5S A E.H left)/\So wr E/\C3 wr c 175 #[.pointer (some ⟨E.l,0,none⟩),.map (some m),.pointer (some ⟨E.o,0,none⟩),.int .i64 e]/\B0 (CF c m) w (CF c m) wr
def C3l(w:World)(E:Ev)(c m:Nat)(H:Nat->List Nat)(e:Int)(x:Ending)(w':World):Prop:=
 ∃I A,x= .returned (.map (some I))/\So w' E/\C3 w' c 175 #[.pointer (some ⟨E.l,0,none⟩),.map (some m),.pointer (some ⟨E.o,0,none⟩),.int .i64 e]/\Mp w' m E.M (A5C A E.H)/\Mp w' I E.M (B3E A E.H)/\H=vwH A E.L/\AOk E.M A/\(∀i,(E.O i).isSome=true->(A i).isSome=true)/\w.heap.size<=I/\B0 (CF c m) w (CF c m) w'
theorem B9g{w:World}{E:Ev}{c m:Nat}{H:Nat->List Nat}{e:Int}(h:Cg w E c m H e)(cV:∀i,i<E.M->(E.H i).length=128/\∀x∈E.H i,x<256):
 Calls Tryz.prog 105 #[.pointer (some ⟨c,0,none⟩)] w (C3l w E c m H e):=by
 have HC:=C6x h
 obtain⟨A,dJ,cH,cJ,cK⟩:=h.ex
 have aR:=C6x (show E.M<=4096 by have:=h.so.vu.hn;unfold Ev.M;omega)
 have aK:=C6x (And.intro cH (And.intro cJ cK))
 have dE:=C6x cV
 obtain⟨D0,bQ,cL⟩:=dJ
 have bH:=C6x cL
 obtain⟨n0,cR⟩:∃n0,n0=cnt A E.M:=⟨_,rfl⟩
 rw[<-cR]at bQ
 have HO:=C6x bQ
 clear cH cJ cK cV bQ cL cR h
 have dO:=@run_makeMap Tryz.prog
 go_enter Tryz.func105,Tryz.ntmps105
 go_upto_region 2 with(fail)
 obtain⟨I,aG⟩:∃I,I=w.heap.size:=⟨_,rfl⟩
 obtain⟨V,hV⟩:∃V,V=w.alloc (.map #[] 0):=⟨_,rfl⟩
 rw[<-hV,<-aG]
 have aW:B0 B5 w B5 V:=by rw[hV];exact(B0.refl _ _).alloc _
 have aC:=C6x (show Mp V I E.M (λ_=>none)by rw[hV,aG];exact Mp.new w E.M)
 have aQ:=C6x (show w.heap.size<=I by rw[aG];exact Nat.le_refl _)
 have bY:=C6x aW
 have cD:=C6x (B6P HO.out aW)
 have bG:=C6x (HC.out.step aW)
 have c1:V.cell? ⟨c,1,none⟩=some (.map (some m)):=bG.out.blk.cell 1
 clear hV aG aW dO
 go_wp2_with (first
  |(at_range;refine wpList_range_own _ rfl _ 86 rfl 3 173 N7 Tryz.underlying86 A0w m n0 D0 rfl cD.out ?_;intro w0 bU aI cW)
  |fail)
 go_frame
 obtain⟨r,hr⟩:∃r,r=V.heap.size:=⟨_,rfl⟩
 rw[<-hr]at bU⊢
 have HR:=C6x (show V.heap.size<=r/\r<w0.heap.size from⟨by rw[hr];exact Nat.le_refl _,by rw[cW,hr];omega⟩)
 have aP:=C6x (show B0 B5 V B5 w0 from⟨aI.os,aI.tape,aI.output,aI.size,λk J _=>aI.block k J (by simp),λ_ x=>x.elim⟩)
 have Z:=C6x (show I≠m/\I≠r/\m≠r/\c≠r/\w.heap.size<=r/\E.o≠r/\E.mo≠r/\I≠E.o/\I≠E.mo/\I≠c by
  obtain⟨b1,b2⟩:=HC.out.lt
  obtain⟨b3,b4,b5⟩:=HC.out.so.bd
  have h1:=aC.out.lt
  have h2:=bY.out.size
  have h3:=aQ.out
  have h4:=HR.out.1
  refine⟨by omega,by omega,by omega,by omega,by omega,by omega,by omega,by omega,by omega,by omega⟩)
 obtain⟨e1,e2⟩:=B3F (A:=A) (H0:=E.H) (left:=Maps.has D0) (λj hj=>by
  have dM:j<E.M:=by
   obtain⟨x,hx⟩:=Option.isSome_iff_exists.1 hj
   exact(aK.out.1 j x hx).1
  rw[bH.out.has j dM,hj])
 have dF:=C6x (show C3k w E c m e A I r n0 w0 from⟨Maps.has D0,_,D0,bU,by rw[e1];exact bH.out,by rw[e2];exact aC.out.keep (aP.out.block I aC.out.lt (λx=>x)),bG.out.so.step aP.out,bG.out.blk.over aP.out,(bY.out.trans aP.out).same (λ_ x=>x.elim)⟩)
 clear bU aI cW hr e1 e2 c1 cD HO aC bH
 go_loopw [4] (λ_ wr=>C3k w E c m e A I r n0 wr) (λ_ wr=>wr.rangeLeft m r)
 case atStart=>exact dF.out
 case round=>
  obtain⟨left,cn,D,cT,hd,aG,cX,cN,U⟩:=hrel
  have HD:=C6x hd
  have aS:=C6x cT
  have aC:=C6x aG
  have cE:=C6x cX
  have bD:=C6x cN
  have HA:=C6x U
  clear hd aG cX cN U cT
  go_wp2_with (first
   |(at_next;refine wpList_next_ranges _ rfl _ rfl 3 N7 A0w (Value.int .i64) Value.agg (λdR kl J=>B1J J) (λv y hv=>B1H hv) m r n0 D left cn rfl aS.out ?done ?more)
   |fail)
  case done=>
   intro h0 hl
   obtain⟨e1,e2⟩:=B9f (A:=A) (H0:=E.H) hl
   have HF:=C6x (show C3l w E c m H e (.returned (.map (some I))) wr from⟨I,A,rfl,cE.out,bD.out,by have:=Mp.of_owns aS.out.owns HD.out;rwa[e1]at this,by have:=aC.out;rwa[e2]at this,aK.out.2.1,aK.out.1,aK.out.2.2,aQ.out,HA.out⟩)
   clear h0 hl e1 e2
   go_wp2_with fail
   go_ret
   exact HF.out
  case more=>
   intro x cs kl yd yp w1 bP J hl hv cM cU cQ cO dP dQ
   obtain⟨i,l,rfl,rfl,aX,aD,rfl⟩:=C4J (y:=(yd,yp)) HD.out J hv cM
   have aV:A i=some l:=by
    rw[<-(A8U (A:=A) (H0:=E.H) hl (by
     unfold A3g at aD
     split at aD
     ·cases aD
     ·rw[aD];rfl)).1]
    exact aD
   have cG:=C6x (A8U (A:=A) (H0:=E.H) hl (by rw[aV];rfl))
   have HI:=C6x (And.intro aX aV)
   have HL:=C6x ((aK.out.1 i l aV).2)
   have dA:=C6x aD
   have HK:=C6x J
   have a1:B0 (J0 r) wr (J0 r) w1:=A0G cO
   have dC:=C6x cU
   have cC:=C6x cQ
   have bK:=C6x (aC.out.keep (a1.block I aC.out.lt (λx=>Z.out.2.1 x)))
   have cF:=C6x (cE.out.far a1 (λk J hu=>by unfold J0 at J;subst J;have:=HC.out.so.bd.1 _ hu;have:=Z.out.2.2.2.2.1;omega) (λx=>Z.out.2.2.2.2.2.1 x) (λx=>Z.out.2.2.2.2.2.2.1 x))
   have bF:=C6x (bD.out.keep (a1.block c bD.out.lt (λx=>Z.out.2.2.2.1 x)))
   have cZ:=C6x (HA.out.freshG Z.out.2.2.2.2.1 a1)
   obtain⟨X,hX⟩:∃X,X=E.H i:=⟨_,rfl⟩
   have aU:=C6x (show X.length=128/\∀y∈X,y<256 by rw[hX];exact dE.out i aX)
   have cB:=C6x (λV (a:B0 B5 w1 B5 V)=>show Calls Tryz.prog 94 #[.pointer (some ⟨E.o,0,none⟩),.int .i64 (i:Int)] V (RdR V X)by rw[hX];exact(cF.out.vu.rdv).home _ V a i aX)
   have HX:=C6x hX
   have dL:(i:Int)<(E.M:Int):=by omega
   have cA:=C6x (C1t X l aU.out.1 HL.out.1 aU.out.2 HL.out.2)
   clear J hl hv cM cU cQ cO dP aD aV aX a1 hX dL
   have bI:=C6x (show∀w4 W,B0 B5 w1 B5 w4->Mp W I E.M (Q9 (A5S A E.H left) i X)->w4.grownBy W (some I)->(W.cell? ⟨c,1,none⟩=some (.map (some m)))/\(W.ranges Tryz.prog 3 A0w m r n0 D (λz=>left z&& !z.sameKey (ik i)) bP)/\So W E/\C3 W c 175 #[.pointer (some ⟨E.l,0,none⟩),.map (some m),.pointer (some ⟨E.o,0,none⟩),.int .i64 e]/\B0 (CF c m) w (CF c m) W fromλw4 W a4 m5 g5=>by
    have s4:=cF.out.step a4
    have b4:=bF.out.over a4
    have a5:B0 (J0 I) w4 (J0 I) W:=A0G g5
    have b5:=b4.keep (a5.block c b4.lt (λx=>Z.out.2.2.2.2.2.2.2.2.2 x.symm))
    refine⟨b5.cell 1,(dC.out.kept a4.grow (by simp) (by simp)).kept g5 (λx=>Z.out.1 (Option.some.inj x).symm) (λx=>Z.out.2.1 (Option.some.inj x).symm),s4.far a5 (λk J hu=>by unfold J0 at J;subst J;have:=HC.out.so.bd.1 _ hu;have:=aQ.out;omega) (λx=>Z.out.2.2.2.2.2.2.2.1 x.symm) (λx=>Z.out.2.2.2.2.2.2.2.2.1 x.symm),b5,((cZ.out.over a4).freshG aQ.out a5)⟩)
   have aL:=C6x (show Mp w1 I E.M (A5S A E.H left)from bK.out)
   have bJ:=C6x (show X=((Q9 (A5S A E.H left) i X) i).getD (List.replicate 128 0)by unfold Q9;rw[if_pos rfl];rfl)
   obtain⟨B,hB⟩:∃B,B=A5S A E.H left:=⟨_,rfl⟩
   have bZ:=C6x hB
   rw[<-hB]at aL bJ bI
   clear hB
   by_cases hq:X=l
   ·have bS:=cA.out
    rw[decide_eq_true hq]at bS
    have HQ:=C6x hq
    clear hq
    go_wp2_with (first
     |(refine B9 (t:=173) rfl rfl A0A ?_;intro z5 w2 hz hb U;have aN:=C6x hz;have bA:=C6x hb;have aY:=C6x U;clear hz hb U)
     |(refine B7 (t:=173) rfl _ _ rfl z5 bA.out rfl rfl V3 (by have:=HL.out.1;simpa using this) A0S (A2i l) ?_;intro w3 hb U;have bB:=C6x hb;have aA:=C6x (aY.out.fresh aN.out U);have c2:w3.cell? ⟨c,2,none⟩=some (.pointer (some ⟨E.o,0,none⟩)):=(bF.out.over aA.out).cell 2;clear hb U)
     |(go_at_call 94;refine(cB.out w3 aA.out).mono ?_;rintro e4 w4 ⟨z,rfl,bV,bX,aO,bT,aB⟩;have aZ:=C6x (aA.out.trans aB);have aM:=C6x (bB.out.over aB);have bO:=C6x (show w4.rangeAt z 0 (X.map u8)from(by obtain⟨b',o',e',_,bR⟩:=aO.cells (by decide) (by decide);cases e';exact bR));have bM:=C6x (aL.out.keep ((aA.out.trans aB).block I aL.out.lt (λx=>x)));clear bV bX aO bT aB c2)
     |(refine B43 rfl _ rfl (some ⟨z,0,none⟩) 128 rfl ?_)
     |(refine B1d rfl _ rfl z 0 X aU.out.1 bO.out rfl ?_)
     |(refine A99 rfl _ _ _ rfl I E.M i B X bM.out rfl rfl rfl HI.out.1 aR.out ?_;intro W aF aE;have aH:=C6x aF;have Y:=C6x (bI.out w4 W aZ.out aF aE);have bC:=C6x (aM.out.keep (aE.block z5 aM.out.lt (λx=>by have h1:=bK.out.lt;have h2:=aN.out;have h3:=(Option.some.inj x);omega)));have c1:=Y.out.1;have aT:=C6x Y.out.2.1;clear aF aE)
     |(refine A5k rfl _ _ rfl I E.M i (Q9 B i X) aH.out rfl rfl HI.out.1 aR.out bJ.out ?_)
     |(refine B6 (t:=173) rfl _ rfl z5 bC.out rfl Tryz.underlying173 rfl V3 (by have:=HL.out.1;simpa using this) ?_)
     |(at_delete;refine wpList_delete_ranges _ rfl _ _ 86 3 rfl 173 N7 Tryz.underlying86 A0w m r n0 D _ bP rfl aT.out (.int .i64 (i:Int)) (ik i) rfl HK.out ?_;intro w6 dH aJ cP cY;have dD:=C6x aJ;have dB:=C6x cP;have dG:=C6x cY;clear aJ cP cY)
     |fail)
    go_frame
    have aJ:=dD.out
    rw[strike_twice]at aJ
    have a6:B0 (J0 m) W (J0 m) w6:=A0G dG.out.grown
    have hs:=cG.out
    have dN:Mp w6 I E.M (Q9 B i X):=aH.out.keep (a6.block I aH.out.lt (λx=>Z.out.1 x))
    obtain⟨b1,b2⟩:=HC.out.lt
    have dK:C3k w E c m e A I r n0 w6:=by
     refine⟨_,dH,_,aJ,?_,?_,Y.out.2.2.1.far a6 (λk J hu=>by unfold J0 at J;subst J;exact HC.out.sm.1 hu) (λx=>HC.out.sm.2.1 x.symm) (λx=>HC.out.sm.2.2 x.symm),Y.out.2.2.2.1.keep (a6.block c Y.out.2.2.2.1.lt (λx=>HC.out.ne x)),Y.out.2.2.2.2.trans (a6.weak (G:=CF c m) (λk J=>.inr J) |>.same (λ_ x=>x))⟩
     ·rw[hs.2.2,if_pos (by rw[HI.out.2,<-HX.out,HQ.out])]
      exact HD.out.del HI.out.1 (by rw[dA.out];rfl)
     ·rw[hs.2.1,<-HX.out,<-bZ.out];exact dN
    refine⟨⟨_,_,_,_,_,_,_,_,_,_,_,_,_,_,_,_,_,_,_,_,_,_,_,_,_,_,_,_,_,_,_,_,_,_,_,_,_,_,_,dK,rfl⟩,by rw[aJ.left_eq,aS.out.left_eq];have:=dB.out;have:=cC.out;omega⟩
   ·have bS:=cA.out
    rw[decide_eq_false hq]at bS
    have HQ:=C6x hq
    clear hq
    go_wp2_with (first
     |(refine B9 (t:=173) rfl rfl A0A ?_;intro z5 w2 hz hb U;have aN:=C6x hz;have bA:=C6x hb;have aY:=C6x U;clear hz hb U)
     |(refine B7 (t:=173) rfl _ _ rfl z5 bA.out rfl rfl V3 (by have:=HL.out.1;simpa using this) A0S (A2i l) ?_;intro w3 hb U;have bB:=C6x hb;have aA:=C6x (aY.out.fresh aN.out U);have c2:w3.cell? ⟨c,2,none⟩=some (.pointer (some ⟨E.o,0,none⟩)):=(bF.out.over aA.out).cell 2;clear hb U)
     |(go_at_call 94;refine(cB.out w3 aA.out).mono ?_;rintro e4 w4 ⟨z,rfl,bV,bX,aO,bT,aB⟩;have aZ:=C6x (aA.out.trans aB);have aM:=C6x (bB.out.over aB);have bO:=C6x (show w4.rangeAt z 0 (X.map u8)from(by obtain⟨b',o',e',_,bR⟩:=aO.cells (by decide) (by decide);cases e';exact bR));have bM:=C6x (aL.out.keep ((aA.out.trans aB).block I aL.out.lt (λx=>x)));clear bV bX aO bT aB c2)
     |(refine B43 rfl _ rfl (some ⟨z,0,none⟩) 128 rfl ?_)
     |(refine B1d rfl _ rfl z 0 X aU.out.1 bO.out rfl ?_)
     |(refine A99 rfl _ _ _ rfl I E.M i B X bM.out rfl rfl rfl HI.out.1 aR.out ?_;intro W aF aE;have aH:=C6x aF;have Y:=C6x (bI.out w4 W aZ.out aF aE);have bC:=C6x (aM.out.keep (aE.block z5 aM.out.lt (λx=>by have h1:=bK.out.lt;have h2:=aN.out;have h3:=(Option.some.inj x);omega)));have c1:=Y.out.1;have aT:=C6x Y.out.2.1;clear aF aE)
     |(refine A5k rfl _ _ rfl I E.M i (Q9 B i X) aH.out rfl rfl HI.out.1 aR.out bJ.out ?_)
     |(refine B6 (t:=173) rfl _ rfl z5 bC.out rfl Tryz.underlying173 rfl V3 (by have:=HL.out.1;simpa using this) ?_)
     |fail)
    have hs:=cG.out
    refine⟨⟨_,bP,D,aT.out,?_,?_,Y.out.2.2.1,Y.out.2.2.2.1,Y.out.2.2.2.2⟩,by rw[aT.out.left_eq,aS.out.left_eq];exact cC.out⟩
    ·rw[hs.2.2,if_neg (by rw[HI.out.2,<-HX.out];intro x;exact HQ.out (Option.some.inj x).symm)]
     exact HD.out
    ·rw[hs.2.1,<-HX.out,<-bZ.out];exact aH.out
end
section
open Go.RowKit Go.Maps Go.Sort Go.Shelf
def A8V:Go.Shelf.Ren:=⟨λ|7=>210|10=>223|n=>n,λ|23=>138|26=>3|3=>141|28=>262|0=>0|27=>261|33=>75|4=>4|n=>n,λ|n=>n⟩
theorem C2k:SlLaysZI.n7 Tryz.prog A8V:={
 mixed:=by kernel_rfl,
 f7:=⟨Tryz.f210.name,by decide,Tryz.func210.trans (congrArg some (by kernel_rfl))⟩,
 f10:=⟨Tryz.f223.name,by decide,Tryz.func223.trans (congrArg some (by kernel_rfl))⟩,
 t0:=Tryz.underlying0,
 a0:=Tryz.isAgg0,
 z0:=Tryz.sizeOf0,
 v0:=Tryz.zeroValue0,
 t4:=Tryz.underlying4,
 a4:=Tryz.isAgg4,
 z4:=Tryz.sizeOf4,
 v4:=Tryz.zeroValue4,
 t23:=Tryz.underlying138,
 a23:=Tryz.isAgg138,
 z23:=Tryz.sizeOf138,
 v23:=Tryz.zeroValue138,
 t26:=Tryz.underlying3,
 a26:=Tryz.isAgg3,
 z26:=Tryz.sizeOf3,
 v26:=Tryz.zeroValue3,
 t27:=Tryz.underlying261,
 a27:=Tryz.isAgg261,
 z27:=Tryz.sizeOf261,
 v27:=Tryz.zeroValue261,
 t28:=Tryz.underlying262,
 a28:=Tryz.isAgg262,
 z28:=Tryz.sizeOf262,
 v28:=Tryz.zeroValue262,
 t33:=Tryz.underlying75,
 a33:=Tryz.isAgg75,
 z33:=Tryz.sizeOf75,
 v33:=Tryz.zeroValue75 }
def A5D:Go.Shelf.Ren:=⟨λ|6=>184|8=>205|9=>206|11=>220|13=>222|12=>221|23=>236|24=>237|14=>227|15=>228|16=>229|17=>230|18=>231|19=>232|20=>233|21=>234|22=>235|25=>240|26=>241|27=>242|28=>243|29=>244|30=>245|31=>246|n=>n,λ|26=>3|28=>262|24=>36|0=>0|3=>3|37=>267|48=>286|50=>40|4=>4|40=>300|39=>299|45=>220|5=>5|9=>9|51=>308|55=>312|57=>314|58=>113|33=>75|n=>n,λ|n=>n⟩
theorem B4Z:SlLaysZI.n6 Tryz.prog A5D:={
 mixed:=by kernel_rfl,
 f6:=⟨Tryz.f184.name,by decide,Tryz.func184.trans (congrArg some (by kernel_rfl))⟩,
 f8:=⟨Tryz.f205.name,by decide,Tryz.func205.trans (congrArg some (by kernel_rfl))⟩,
 f11:=⟨Tryz.f220.name,by decide,Tryz.func220.trans (congrArg some (by kernel_rfl))⟩,
 t0:=Tryz.underlying0,
 a0:=Tryz.isAgg0,
 z0:=Tryz.sizeOf0,
 v0:=Tryz.zeroValue0,
 t24:=Tryz.underlying36,
 a24:=Tryz.isAgg36,
 z24:=Tryz.sizeOf36,
 v24:=Tryz.zeroValue36,
 t26:=Tryz.underlying3,
 a26:=Tryz.isAgg3,
 z26:=Tryz.sizeOf3,
 v26:=Tryz.zeroValue3,
 t28:=Tryz.underlying262,
 a28:=Tryz.isAgg262,
 z28:=Tryz.sizeOf262,
 v28:=Tryz.zeroValue262,
 i26:=by kernel_rfl }
def B6Q:Go.Shelf.Ren:=⟨λ|5=>206|8=>222|7=>221|19=>236|20=>237|10=>227|11=>228|12=>229|13=>230|14=>231|15=>232|16=>233|17=>234|18=>235|30=>240|31=>241|32=>242|33=>243|34=>244|35=>245|40=>246|n=>n,λ|23=>36|25=>3|3=>3|32=>267|22=>36|0=>0|44=>286|46=>40|4=>4|36=>300|35=>299|41=>220|5=>5|9=>9|53=>308|57=>312|63=>314|64=>113|n=>n,λ|n=>n⟩
theorem C2l:SlLaysM.n5 Tryz.prog B6Q:={
 mixed:=by kernel_rfl,
 f5:=⟨Tryz.f206.name,by decide,Tryz.func206.trans (congrArg some (by kernel_rfl))⟩,
 f7:=⟨Tryz.f221.name,by decide,Tryz.func221.trans (congrArg some (by kernel_rfl))⟩,
 f8:=Tryz.func222.trans (congrArg some (by kernel_rfl)),
 f10:=⟨Tryz.f227.name,by decide,Tryz.func227.trans (congrArg some (by kernel_rfl))⟩,
 f11:=⟨Tryz.f228.name,by decide,Tryz.func228.trans (congrArg some (by kernel_rfl))⟩,
 f12:=⟨Tryz.f229.name,by decide,Tryz.func229.trans (congrArg some (by kernel_rfl))⟩,
 f13:=⟨Tryz.f230.name,by decide,Tryz.func230.trans (congrArg some (by kernel_rfl))⟩,
 f14:=⟨Tryz.f231.name,by decide,Tryz.func231.trans (congrArg some (by kernel_rfl))⟩,
 f15:=⟨Tryz.f232.name,by decide,Tryz.func232.trans (congrArg some (by kernel_rfl))⟩,
 f16:=⟨Tryz.f233.name,by decide,Tryz.func233.trans (congrArg some (by kernel_rfl))⟩,
 f17:=⟨Tryz.f234.name,by decide,Tryz.func234.trans (congrArg some (by kernel_rfl))⟩,
 f18:=⟨Tryz.f235.name,by decide,Tryz.func235.trans (congrArg some (by kernel_rfl))⟩,
 f19:=Tryz.func236.trans (congrArg some (by kernel_rfl)),
 f20:=Tryz.func237.trans (congrArg some (by kernel_rfl)),
 f30:=⟨Tryz.f240.name,by decide,Tryz.func240.trans (congrArg some (by kernel_rfl))⟩,
 f31:=Tryz.func241.trans (congrArg some (by kernel_rfl)),
 f32:=Tryz.func242.trans (congrArg some (by kernel_rfl)),
 f33:=⟨Tryz.f243.name,by decide,Tryz.func243.trans (congrArg some (by kernel_rfl))⟩,
 f34:=⟨Tryz.f244.name,by decide,Tryz.func244.trans (congrArg some (by kernel_rfl))⟩,
 f35:=⟨Tryz.f245.name,by decide,Tryz.func245.trans (congrArg some (by kernel_rfl))⟩,
 f40:=⟨Tryz.f246.name,by decide,Tryz.func246.trans (congrArg some (by kernel_rfl))⟩,
 t0:=Tryz.underlying0,
 a0:=Tryz.isAgg0,
 z0:=Tryz.sizeOf0,
 v0:=Tryz.zeroValue0,
 t3:=Tryz.underlying3,
 a3:=Tryz.isAgg3,
 z3:=Tryz.sizeOf3,
 v3:=Tryz.zeroValue3,
 t4:=Tryz.underlying4,
 a4:=Tryz.isAgg4,
 z4:=Tryz.sizeOf4,
 v4:=Tryz.zeroValue4,
 t5:=Tryz.underlying5,
 a5:=Tryz.isAgg5,
 z5:=Tryz.sizeOf5,
 v5:=Tryz.zeroValue5,
 t9:=Tryz.underlying9,
 a9:=Tryz.isAgg9,
 z9:=Tryz.sizeOf9,
 v9:=Tryz.zeroValue9,
 t22:=Tryz.underlying36,
 a22:=Tryz.isAgg36,
 z22:=Tryz.sizeOf36,
 v22:=Tryz.zeroValue36,
 t23:=Tryz.underlying36,
 a23:=Tryz.isAgg36,
 z23:=Tryz.sizeOf36,
 v23:=Tryz.zeroValue36,
 t25:=Tryz.underlying3,
 a25:=Tryz.isAgg3,
 z25:=Tryz.sizeOf3,
 v25:=Tryz.zeroValue3,
 t32:=Tryz.underlying267,
 a32:=Tryz.isAgg267,
 z32:=Tryz.sizeOf267,
 v32:=Tryz.zeroValue267,
 t35:=Tryz.underlying299,
 a35:=Tryz.isAgg299,
 z35:=Tryz.sizeOf299,
 v35:=Tryz.zeroValue299,
 t36:=Tryz.underlying300,
 a36:=Tryz.isAgg300,
 z36:=Tryz.sizeOf300,
 v36:=Tryz.zeroValue300,
 t41:=Tryz.underlying220,
 a41:=Tryz.isAgg220,
 z41:=Tryz.sizeOf220,
 v41:=Tryz.zeroValue220,
 t44:=Tryz.underlying286,
 a44:=Tryz.isAgg286,
 z44:=Tryz.sizeOf286,
 v44:=Tryz.zeroValue286,
 t46:=Tryz.underlying40,
 a46:=Tryz.isAgg40,
 z46:=Tryz.sizeOf40,
 v46:=Tryz.zeroValue40,
 t53:=Tryz.underlying308,
 a53:=Tryz.isAgg308,
 z53:=Tryz.sizeOf308,
 v53:=Tryz.zeroValue308,
 t57:=Tryz.underlying312,
 a57:=Tryz.isAgg312,
 z57:=Tryz.sizeOf312,
 v57:=Tryz.zeroValue312,
 t63:=Tryz.underlying314,
 a63:=Tryz.isAgg314,
 z63:=Tryz.sizeOf314,
 v63:=Tryz.zeroValue314,
 t64:=Tryz.underlying113,
 a64:=Tryz.isAgg113,
 z64:=Tryz.sizeOf113,
 v64:=Tryz.zeroValue113 }
theorem B9h(m:Nat):AnyZI.SortsIn Tryz.prog A5D Fence.wide m:=
 ⟨λJ X I Y W hH U V=>callsIn_wide.2 (AnyM.slices_Sort_int C2l J X I Y W hH U V),
  λp I W=>callsIn_wide.2 (AnyM.slices_Sort_int_none C2l p I W)⟩
theorem B6R(I:Option Nat)(w:World):Calls Tryz.prog 210 #[.map I] w λe w'=>e= .returned (.func (.func 223) #[] #[.pointer (some ⟨w.heap.size,0,none⟩)])/\w'=w.alloc (.cells #[.map I] 138):=
 (callsIn_wide (n:=5)).1 (AnyZI.keys_in C2k Fence.wide 5 trivial rfl I w)
theorem B1K{H:Type}(b W:Nat)(I:DataW H)(R:Value->Option (DataW H×List MemPlace))(w:World)(V:w.ownsMap Tryz.prog 3 R b W I)(aC:Maps.size I<=maxLen)(aB:Maps.size I * 8<=140737488355328):
 Calls Tryz.prog 184 #[.func (.func 223) #[] #[.pointer (some ⟨w.heap.size,0,none⟩)]] (w.alloc (.cells #[.map (some b)] 138)) λe w'=>∃(v:Value) (J:List Int),e= .returned v/\J.Perm (intKeys I)/\
  w'.ownsRow w.heap.size 3 1 v J.length ((J.mergeSort (λx y=>decide (x<=y))).map encZ)/\Below w.heap.size w w':=by
 refine(callsIn_wide (n:=5)).1 ?_
 have aA:=V.lt
 have aE:SeqGives Fence.wide 2 Tryz.prog 223 #[.pointer (some ⟨w.heap.size,0,none⟩)] encZ (λJ=>J.Perm (intKeys I)) (Maps.size I) (w.alloc (.cells #[.map (some b)] 138)):=
  AnyZI.keys_gives (ρ:=A8V) { C2k with } Fence.wide _ trivial rfl (by omega) w.heap.size b W I _ (by simp) (by simp) (by
   obtain⟨es,Z,U,X,hs,hD⟩:=V
   exact⟨es,Z,(RowKit.Below.heap_alloc _ _ b aA).trans U,X,hs,hD⟩)
 have Y:=AnyZI.sorted_in B4Z Fence.wide 5 trivial trivial trivial trivial rfl (by omega) (B9h _) (enters_of Tryz.func206 (by kernel_rfl) rfl) 223 #[.pointer (some ⟨w.heap.size,0,none⟩)] trivial (enters_of Tryz.func223 (by kernel_rfl) rfl) _ _ aC aB _ aE
 refine CallsIn.mono Y ?_
 rintro e w' ⟨v,J,rfl,hS,aD,aF,U⟩
 exact⟨v,J,rfl,hS,ownsRow_base_a aD (by simp),((Below.refl _ w).alloc (Nat.le_refl _) _).trans (U.mono (by simp))⟩
end
section
open Go.RowKit Go.Maps Go.Sort
def N0(A:Nat->Option (List Nat))(M:Nat):List Nat:=(List.range M).filter (λi=>(A i).isSome)
def U8(A:Nat->Option (List Nat))(M:Nat):List (Nat×List Nat):=(N0 A M).map (λi=>(i,(A i).getD (List.replicate 128 0)))
def N5(s:DS)(n:Nat):List (Nat×List Nat)->DS×Int
 |[]=>(s,0)
 |q::qs=>if(L3 s ((2+n+q.1:Nat):Int) q.2).2=0 then N5 (L3 s ((2+n+q.1:Nat):Int) q.2).1 n qs else L3 s ((2+n+q.1:Nat):Int) q.2
def Q0(s:DS)(n M:Nat)(A:Nat->Option (List Nat)):DS×Int:=
 if(E0 s).2=0 then(if(N5 (E0 s).1 n (U8 A M)).2=0 then E0 (N5 (E0 s).1 n (U8 A M)).1 else N5 (E0 s).1 n (U8 A M))else E0 s
theorem A8W:∀{l1 l2:List Int},l1.Pairwise (·<·)->l2.Pairwise (·<·)->(∀x,x∈l1↔x∈l2)->l1=l2
 |[],[],_,_,_=>rfl
 |[],y::_,_,_,h=>absurd ((h y).mpr (by simp)) (by simp)
 |x::_,[],_,_,h=>absurd ((h x).mp (by simp)) (by simp)
 |x::l1,y::l2,h1,h2,h=>by
  obtain⟨U,W⟩:=List.pairwise_cons.mp h1
  obtain⟨V,X⟩:=List.pairwise_cons.mp h2
  have Y:x=y:=by
   rcases List.mem_cons.mp ((h x).mp (by simp))with e|e
   ·exact e
   ·rcases List.mem_cons.mp ((h y).mpr (by simp))with J|J
    ·exact J.symm
    ·have:=V x e;have:=U y J;omega
  subst Y
  congr 1
  refine A8W W X (λz=>⟨λI=>?_,λI=>?_⟩)
  ·rcases List.mem_cons.mp ((h z).mp (by simp[I]))with e|e
   ·have:=U z I;omega
   ·exact e
  ·rcases List.mem_cons.mp ((h z).mpr (by simp[I]))with e|e
   ·have:=V z I;omega
   ·exact e
theorem B0g(A:Nat->Option (List Nat))(M:Nat):((N0 A M).map (λi:Nat=>(i:Int))).Pairwise (·<·):=by
 rw[List.pairwise_map]
 have h:(List.range M).Pairwise (·<·):=List.pairwise_lt_range
 exact(h.sublist List.filter_sublist).imp (λ{a b} (h:a<b)=>by omega)
theorem A5E{M:Nat}{A:Nat->Option (List Nat)}{D:DU}{U:List Int}(h:MpD M A D)(ho:∃J,D= .map J/\J.Pairwise (λp q=>p.1≠q.1)/\∀p∈J,WideAt.IsKeyLit p.1)(I:U.Perm (intKeys D)):U.mergeSort (λx y=>decide (x<=y))=(N0 A M).map (λi:Nat=>(i:Int)):=by
 obtain⟨J,rfl,hd,Z⟩:=ho
 have W:∀p∈J,∃i,i<M/\p.1=ik i:=λp X=>by
  exact h.keys p.1 (Z p X) (by rw[has_eq,List.any_eq_true];exact⟨p,X,WideAt.sameKey_self (Z p X)⟩)
 have aD:(intKeys (DataW.map J)).Nodup:=by
  unfold intKeys
  rw[List.Nodup,List.pairwise_map]
  refine hd.imp_of_mem (λ{p q} I hq aA e=>?_)
  obtain⟨i,_,hi⟩:=W p I
  obtain⟨j,_,hj⟩:=W q hq
  rw[hi,hj]at e aA
  apply aA
  have:(i:Int)=(j:Int):=e
  have:i=j:=by omega
  rw[this]
 have aC:∀x:Int,x∈intKeys (DataW.map J)↔∃i:Nat,i<M/\(A i).isSome=true/\x=(i:Int):=λx=>by
  unfold intKeys
  rw[List.mem_map]
  constructor
  ·rintro⟨p,I,rfl⟩
   obtain⟨i,hi,e⟩:=W p I
   refine⟨i,hi,?_,by rw[e];rfl⟩
   rw[<-h.has i hi,has_eq,List.any_eq_true]
   exact⟨p,I,by rw[e];exact WideAt.sameKey_self (A97 i)⟩
  ·rintro⟨i,hi,V,rfl⟩
   rw[<-h.has i hi,has_eq,List.any_eq_true]at V
   obtain⟨p,I,aB⟩:=V
   have:=WideAt.sameKey_eq aB
   exact⟨p,I,by rw[this];rfl⟩
 refine A8W ?_ (B0g A M) (λx=>?_)
 ·have h1:(U.mergeSort (λx y=>decide (x<=y))).Pairwise (λx y=>decide (x<=y)=true):=List.pairwise_mergeSort (λa b c=>by simp;omega) (λa b=>by simp;omega) U
  have h2:(U.mergeSort (λx y=>decide (x<=y))).Nodup:=((List.mergeSort_perm U _).trans I).nodup_iff.mpr aD
  exact(h1.and h2).imp (λ{a b} Y=>by have:=of_decide_eq_true Y.1;have:=Y.2;omega)
 ·rw[((List.mergeSort_perm U _).trans I).mem_iff,aC]
  unfold N0
  simp only[List.mem_map,List.mem_filter,List.mem_range]
  constructor
  ·rintro⟨i,hi,V,rfl⟩;exact⟨i,⟨hi,V⟩,rfl⟩
  ·rintro⟨i,⟨hi,V⟩,rfl⟩;exact⟨i,hi,V,rfl⟩
theorem B9i{ops:Array Oper}{rest:List Oper}{o:Oper}{a:Act}{w:World}{Q:Exit->Act->World->Prop}(W:o.guard=none)(m x:Operand)(Z:o.op=Op.lookup 138 m x false)(b N i:Nat)(A:Nat->Option (List Nat))(U:Mp w b N A)(Y:a.eval m= .map (some b))(hx:a.eval x= .int .i64 (i:Int))(hi:i<N)(hN:N<=4096)
 {X:List Nat} (V:X=(A i).getD (List.replicate 128 0))
 (hK:wpList Tryz.prog ops Q rest (a.put o.dst (.agg ((X.map u8).toArray))) w):wpList Tryz.prog ops Q (o::rest) a w:=by
 subst V
 obtain⟨D,h,d⟩:=U
 refine wpList_plain W λK' J=>?_
 obtain⟨v,ps,I,hv⟩:=h.lookup N7 Tryz.underlying138 (A2g A98) (zd:=A09 (List.replicate 128 0)) (zp:=[]) (by rw[zS,<-List.map_replicate];exact A1H _) (A37 (i:=i) (by omega))
 rw[d.at_ i hi]at hv
 have e:((A i).map A09).getD (A09 (List.replicate 128 0))=A09 ((A i).getD (List.replicate 128 0)):=by cases A i<;>rfl
 rw[e]at hv
 rw[A2m hv]at I
 unfold Oper.wp
 simp[execOp,Z,Y,hx,I,Result.andThen]
 exact J _ _ hK
end
section
open Go.RowKit Go.Maps Go.Sort
def C1v(w:World)(G:Nat->Prop)(A:Option Addr)(I:List Nat):Prop:=0<I.length->∃g,A=some ⟨g,0,none⟩/\g<w.heap.size/\¬G g/\∀i (hi:i<I.length),w.cell? ⟨g,i,none⟩=some (.int .i64 (I[i]:Int))
theorem C1v.at_{w w':World}{G J:Nat->Prop}{A:Option Addr}{I:List Nat}{k:Nat}(h:C1v w G A I)(U:B0 G w J w')(X:k<I.length):∃g,A=some ⟨g,0,none⟩/\w'.cell? ⟨g,k,none⟩=some (.int .i64 (I[k]:Int)):=by
 obtain⟨g,rfl,Y,W,V⟩:=h (by omega)
 exact⟨g,rfl,(World.cell?_of_block (U.block g Y W)).trans (V k X)⟩
theorem A2W(A:Nat->Option (List Nat))(M:Nat):(N0 A M).length<=M:=by
 unfold N0
 exact Nat.le_trans (List.length_filter_le _ _) (by simp)
theorem B1L{A:Nat->Option (List Nat)}{M k:Nat}(I:k<(N0 A M).length):(N0 A M)[k]<M:=by
 have:=List.getElem_mem I
 unfold N0 at this
 exact List.mem_range.1 (List.mem_filter.1 this).1
theorem C3m{w:World}{l b d n N:Nat}{g:LS}(h:Lg w l b d n N g)(hN:N-2-n<=4096)(G:Nat->Prop)(hG:Bd G w):
 Calls Tryz.prog 184 #[.func (.func 223) #[] #[.pointer (some ⟨w.heap.size,0,none⟩)]] (w.alloc (.cells #[.map (some b)] 138)) λe w'=>∃(A:Option Addr) (c:Nat),e= .returned (.slice A (N0 g.A (N-2-n)).length c)/\C1v w' G A (N0 g.A (N-2-n))/\B0 B5 w B5 w':=by
 obtain⟨D,Z,X⟩:=h.mp
 have aH:Maps.size D<=4096:=by rw[X.size];exact Nat.le_trans (A6L _ _) hN
 refine(B1K b _ D A0w w Z (by unfold maxLen;omega) (by omega)).mono ?_
 rintro e w' ⟨v,ss,rfl,U,aA,V⟩
 have Y:=A5E X (Z.entries N7) U
 have hl:ss.length=(N0 g.A (N-2-n)).length:=by
  have:=congrArg List.length Y
  simpa using this
 rw[Y,hl]at aA
 obtain⟨aF,hr⟩:=aA
 rcases hr with⟨rfl,h0⟩|⟨q,aB,J,rfl,hq,W,aD,aG,aE,aC⟩
 ·rw[h0]
  exact⟨none,0,rfl,λU=>by omega,B0.of_below V⟩
 ·refine⟨_,aB,rfl,λU=>⟨q,rfl,?_,λhg=>?_,λi hi=>?_⟩,B0.of_below V⟩
  ·exact(Array.getElem?_eq_some_iff.1 W).1
  ·have:=hG q hg;omega
  ·have hc:J.toList[i]? =some (.int .i64 ((N0 g.A (N-2-n))[i]:Int)):=by
    have I:(J.toList.take ((N0 g.A (N-2-n)).length * 1))[i]? =some (.int .i64 ((N0 g.A (N-2-n))[i]:Int)):=by
     rw[aC]
     simp[encZ,hi]
    rw[List.getElem?_take]at I
    split at I
    ·exact I
    ·cases I
   rw[show w'.cell? ⟨q,i,none⟩=J[i]? by simp[World.cell?,W]]
   simpa using hc
def BrR(w:World)(F:Nat->Prop)(d l b n N:Nat)(g:LS)(r:DS×Int)(e:Ending)(w':World):Prop:=e= .returned (.int .i64 r.2)/\∃F',Rs w' F' d l b n N r.1 g/\B0 (UF F l b) w (UF F' l b) w'
def BgL(W:World)(V:Nat->Prop)(d l b n N:Nat)(U:DS)(g:LS)(T:List (Nat×List Nat))(t:Value)(wr:World):Prop:=
 ∃(k:Nat) (I:DS) (J:Nat->Prop),k<=T.length/\t= .int .i64 (k:Int)/\N5 U n T=N5 I n (T.drop k)/\I.Q.length<=U.Q.length+k/\Rs wr J d l b n N I g/\B0 (UF V l b) W (UF J l b) wr
theorem B6S(l b d n N:Nat)(g:LS)(F:Nat->Prop)(s:DS)(w:World)(h:Rs w F d l b n N s g)(hn:2<=n/\n+3<=N/\N<=4096)(hA:AOk (N-2-n) g.A)(hq:s.Q.length<=900000):
 Calls Tryz.prog 189 #[.pointer (some ⟨l,0,none⟩)] w (BrR w F d l b n N g (Q0 s n (N-2-n) g.A)):=by
 obtain⟨R,hR⟩:∃R,R=Q0 s n (N-2-n) g.A:=⟨_,rfl⟩
 rw[<-hR]
 have HR:=C6x hR
 have HS:=C6x h
 have HN:=C6x hn
 have bZ:=C6x hA
 have HQ:=C6x hq
 obtain⟨X,hX⟩:∃x,x=E0 s:=⟨_,rfl⟩
 have aU:=C6x (A4h d N F s w h.dk)
 rw[<-hX]at aU
 have HX:=C6x hX
 obtain⟨XE,aY⟩:∃x,x=X.2:=⟨_,rfl⟩
 rw[<-aY]at aU
 have aM:=C6x aY
 have cP:=C6x (show X.1.Q.length<=900000 by rw[hX];exact Nat.le_trans (A4U s) hq)
 have c0:=h.lg.cells.1
 clear h hn hA hq hR hX aY
 go_enter Tryz.func189,Tryz.ntmps189
 go_wp2_with fail
 refine aU.out.mono ?_
 rintro x w1 ⟨rfl,k1,a1⟩
 have aE:=C6x (HS.out.disk a1 k1)
 have bF:=C6x (A1u (l:=l) (b:=b) a1)
 clear a1 k1 c0
 by_cases W:XE=0
 ·subst W
  have cF:=C6x (B6R (some b) w1)
  have aV:=C6x (C3m aE.out.lg (by have:=HN.out;omega) (UF F l b) aE.out.bd)
  have c7:=aE.out.lg.cells.2.2.2.2.2.2.2.1
  obtain⟨J,aB⟩:∃J,J=N0 g.A (N-2-n):=⟨_,rfl⟩
  rw[<-aB]at aV
  have cW:=C6x aB
  obtain⟨m,hm⟩:∃m,m=J.length:=⟨_,rfl⟩
  rw[<-hm]at aV
  have HM:=C6x hm
  have bM:=C6x (show m<=4096 by rw[hm,aB];exact Nat.le_trans (A2W _ _) (by have:=HN.out;omega))
  obtain⟨T,hT⟩:∃T,T=U8 g.A (N-2-n):=⟨_,rfl⟩
  have HT:=C6x hT
  have aK:=C6x (show T.length=m by rw[hT,hm,aB];simp[U8])
  have cM:=C6x (show∀k (hk:k<J.length) (cV:k<T.length),T[k]=(J[k],(g.A J[k]).getD (List.replicate 128 0))fromλk hk cV=>by subst hT aB;simp[U8])
  have cE:=C6x (show∀k (hk:k<J.length),J[k]<N-2-n fromλk hk=>by subst aB;exact B1L hk)
  clear aB hm hT
  go_wp2_with fail
  refine cF.out.mono ?_
  rintro x w2 ⟨rfl,rfl⟩
  go_wp2_with fail
  refine aV.out.mono ?_
  rintro x w3 ⟨A,c,rfl,bV,a3⟩
  have cC:=C6x bV
  have cL:=C6x (aE.out.over a3)
  have bG:=C6x (bF.out.trans (T9 (F:=F) (l:=l) (b:=b) a3))
  have dA:(m:Int)<=4096:=by have:=bM.out;omega
  clear bV a3 c7
  go_wp2_with fail
  go_loopw [23] (BgL w3 F d l b n N X.1 g T) (λt _=>m-(intOf t).toNat)
  case atStart=>exact⟨0,X.1,F,Nat.zero_le _,rfl,by rw[List.drop_zero],Nat.le_refl _,cL.out,B0.refl _ _⟩
  case round=>
   obtain⟨k,sk,Fk,hk,rfl,aH,bD,aA,aF⟩:=hrel
   by_cases aD:k<m
   ·have cY:(k:Int)<(m:Int):=by omega
    have aP:k<J.length:=by rw[<-HM.out];exact aD
    have bB:k<T.length:=by rw[aK.out];exact aD
    obtain⟨g0,rfl,bT⟩:=cC.out.at_ aF aP
    have aG:T.drop k=T[k]::T.drop (k+1):=(List.getElem_cons_drop bB).symm
    rw[cM.out k aP bB]at aG
    have bC:=cE.out k aP
    obtain⟨i,hi⟩:∃i,i=J[k]:=⟨_,rfl⟩
    rw[<-hi]at bT aG bC
    clear hi
    obtain⟨I,aO⟩:∃I,I=(g.A i).getD (List.replicate 128 0):=⟨_,rfl⟩
    rw[<-aO]at aG
    have bS:I.length=128:=by
     rw[aO]
     cases e:g.A i with
     |none=>simp
     |some x=>exact(bZ.out i x e).2.1
    obtain⟨U,aN⟩:∃x,x=L3 sk ((2+n+i:Nat):Int) I:=⟨_,rfl⟩
    have aI:N5 X.1 n T=if U.2=0 then N5 U.1 n (T.drop (k+1))else U:=by rw[aH,aG,aN];rfl
    have bX:U.1.Q.length<=X.1.Q.length+(k+1):=by rw[aN];exact Nat.le_trans (A4T sk _ _) (by omega)
    have bP:=C6x aI
    have cJ:=C6x bX
    have cH:=C6x bD
    have bR:=C6x bS
    have cO:=C6x aO
    have aJ:=C6x aA
    have aQ:=C6x aF
    have HI:=C6x bC
    have bK:=C6x aD
    have cG:=C6x aA.lg.mp
    have bO:=C6x (show N-2-n<=4096 by have:=HN.out;omega)
    have cN:=C6x aN
    have c7:=aA.lg.cells.2.2.2.2.2.2.2.1
    clear hk aH bD aA aF aD aP bB aG aO bS aI bX bC aN
    go_upto_region 8 with(first
     |(refine B9i rfl _ _ rfl b (N-2-n) i g.A cG.out rfl rfl HI.out bO.out cO.out ?_)
     |(refine A4j rfl rfl ?_)
     |(refine A4k rfl _ _ rfl _ rfl I bR.out rfl rfl ?_)
     |fail)
    obtain⟨z,W⟩:∃z,z=wr.heap.size:=⟨_,rfl⟩
    obtain⟨V,hV⟩:∃V,V=wr.alloc (.cells (I.map u8).toArray 141):=⟨_,rfl⟩
    rw[<-hV,<-W]
    have bA:B0 B5 wr B5 V:=by rw[hV];exact(B0.refl _ _).alloc _
    have cR:=C6x (show C3 V z 141 (I.map u8).toArray by rw[hV,W];exact C3.new _ _ _)
    have Z:=C6x (aJ.out.over bA)
    have cA:=C6x (aQ.out.trans (T9 (F:=Fk) (l:=l) (b:=b) bA))
    have bY:¬Fk z:=λx=>by have:=aJ.out.dk.bd z x;omega
    have cT:=C6x bY
    have c0:=Z.out.lg.cells.1
    have HC:=C6x c0
    have aS:=C6x (show V.drew.cell? ⟨l,0,none⟩=some (.pointer (some ⟨d,0,none⟩))from c0)
    have bJ:=C6x (B0X (w:=V.drew) i (show Lg V.drew l b d n N g from⟨Z.out.lg.blk,Z.out.lg.mp⟩) (by have:=HI.out;have:=bO.out;omega) (by have:=HN.out;omega))
    have aW:=C6x (show Calls Tryz.prog 209 #[.pointer (some ⟨d,0,none⟩),.int .i64 ((2+n+i:Nat):Int),.slice (some ⟨z,0,none⟩) 128 128] V.drew λe w'=>e= .returned (.int .i64 U.2)/\∃F',Dk w' F' d N U.1/\B0 Fk V.drew F' w' by
     rw[cN.out]
     exact A6K d N 128 _ _ Fk sk I V.drew (Z.out.dk.far ((B0.refl B5 V).drew) (λ_ x _=>x)) (show Rd V.drew 1 (.slice (some ⟨z,0,none⟩) 128 128) 128 (I.map u8)from(show C3 V.drew z 141 (I.map u8).toArray from cR.out).rdS8 bR.out) (λj hj hf=>by
      have:z=j:=by injection hj
      exact cT.out (this ▸ hf)) (by have:=cH.out;have:=cP.out;have:=bM.out;have:=bK.out;omega))
    have cB:=C6x (show∀(F':Nat->Prop) (w':World),B0 Fk V.drew F' w'->w'.cell? ⟨l,0,none⟩=some (.pointer (some ⟨d,0,none⟩))fromλF' w' a=>(Z.out.lg.blk.keep (a.block l Z.out.lg.blk.lt (λx=>Z.out.sep l x (.inl rfl)))).cell 0)
    obtain⟨cZ,bU⟩:∃x,x=2+n+i:=⟨_,rfl⟩
    rw[<-bU]at bJ aW
    obtain⟨WE,aX⟩:∃x,x=U.2:=⟨_,rfl⟩
    rw[<-aX]at aW
    have aL:=C6x aX
    clear hV W bA bY c7 bT bU aX
    go_wp2_with fail
    refine D6 (S:=(λw'=>w'.cell? ⟨l,0,none⟩=some (.pointer (some ⟨d,0,none⟩)))) (by with_reducible first|exact aR.out|exact aS.out|exact HC.out) (λhH=>?_)
    refine C6y 0 rfl ?_
    refine C6y 1 rfl ?_
    refine C6y 2 rfl ?_
    refine C6y 3 rfl ?_
    refine C6y 4 rfl ?_
    refine C6y 5 rfl ?_
    refine C6y 7 rfl ?_
    refine C6z 6 rfl (λK hK=>?_)
    go_simp
    refine bJ.out.mono ?_
    rintro x w6 ⟨rfl,rfl⟩
    go_wp2_with fail
    refine C60 hK (by with_reducible first|exact aR.out|exact aS.out|exact HC.out) ?_
    clear hK K hH
    intro hH
    try simp only[Act.put,sA,sB,sC]
    refine C6z 8 rfl (λK hK=>?_)
    go_simp
    refine aW.out.mono ?_
    rintro x w9 ⟨rfl,F9,k9,a9⟩
    have aR:=C6x (cB.out F9 w9 a9)
    have cD:=C6x k9
    have bH:=C6x (B0.of_drew a9)
    clear k9 a9
    go_wp2_with fail
    refine C60 hK (by with_reducible first|exact aR.out|exact aS.out|exact HC.out) ?_
    clear hK K hH
    intro hH
    try simp only[Act.put,sA,sB,sC]
    refine C6y 9 rfl ?_
    refine wpAnyH_done (by kernel_rfl) ?_ _
    have bQ:=C6x (Z.out.disk bH.out cD.out)
    have bI:=C6x (cA.out.trans (A1u (l:=l) (b:=b) bH.out))
    clear c0
    by_cases aC:WE=0
    ·subst aC
     go_wp2_with fail
     have aD:=bK.out
     refine⟨⟨k+1,U.1,F9,by have:=aK.out;omega,by go_num,?_,cJ.out,bQ.out,bI.out⟩,by simp[intOf]<;>omega⟩
     rw[bP.out,if_pos aL.out.symm]
    ·have hb:((WE:Int)!=0)=true:=by rw[bne_iff_ne];exact aC
     have cU:((WE:Int)==0)=false:=by rw[beq_eq_false_iff_ne];exact aC
     have cX:=C6x aC
     have HF:=C6x (show BrR w F d l b n N g R (.returned (.int .i64 WE)) w9 by
      have e1:N5 X.1 n T=U:=by rw[bP.out,if_neg (by rw[<-aL.out];exact aC)]
      rw[HR.out]
      unfold Q0
      rw[<-HX.out,if_pos aM.out.symm,<-HT.out,e1,if_neg (by rw[<-aL.out];exact aC)]
      exact⟨by rw[aL.out],F9,bQ.out,bG.out.trans bI.out⟩)
     clear aC
     go_wp2_with fail
     go_ret
     exact HF.out
   ·obtain rfl:k=m:=by have:=aK.out;omega
    have e0:T.drop k=[]:=List.drop_eq_nil_of_le (by have:=aK.out;omega)
    rw[e0]at aH
    have aI:N5 X.1 n T=(sk,0):=aH
    obtain⟨Y,hY⟩:∃x,x=E0 sk:=⟨_,rfl⟩
    have aT:=C6x (A4h d N Fk sk wr aA.dk)
    rw[<-hY]at aT
    have cK:=C6x (show R=Y by
     rw[HR.out]
     unfold Q0
     rw[<-HX.out,if_pos aM.out.symm,<-HT.out,aI,if_pos rfl,hY])
    obtain⟨YE,aZ⟩:∃x,x=Y.2:=⟨_,rfl⟩
    rw[<-aZ]at aT
    have cQ:=C6x aZ
    have aJ:=C6x aA
    have aQ:=C6x aF
    have c0:=aA.lg.cells.1
    clear hk aH aI e0 bD aA aF aD hY aZ
    go_wp2_with fail
    refine aT.out.mono ?_
    rintro x w9 ⟨rfl,k9,a9⟩
    have HF:=C6x (show BrR w F d l b n N g R (.returned (.int .i64 YE)) w9 by
     rw[cK.out]
     exact⟨by rw[cQ.out],Fk,aJ.out.disk a9 k9,bG.out.trans (aQ.out.trans (A1u (l:=l) (b:=b) a9))⟩)
    clear k9 a9 c0
    go_wp2_with fail
    go_ret
    exact HF.out
 ·have hb:((XE:Int)!=0)=true:=by rw[bne_iff_ne];exact W
  have cU:((XE:Int)==0)=false:=by rw[beq_eq_false_iff_ne];exact W
  have HF:=C6x (show BrR w F d l b n N g R (.returned (.int .i64 XE)) w1 by
   rw[HR.out]
   unfold Q0
   rw[<-HX.out,if_neg (by rw[<-aM.out];exact W)]
   exact⟨by rw[aM.out],F,aE.out,bF.out⟩)
  clear W
  go_wp2_with fail
  go_ret
  exact HF.out
end
section
open Go.RowKit Go.Maps Go.Sort Go.Shelf
def A7z:Go.Shelf.Ren:=⟨λ|7=>185|10=>207|n=>n,λ|23=>86|26=>3|3=>173|28=>262|0=>0|27=>261|33=>75|4=>4|n=>n,λ|n=>n⟩
theorem B9j:SlLaysZI.n7 Tryz.prog A7z:={
 mixed:=by kernel_rfl,
 f7:=⟨Tryz.f185.name,by decide,Tryz.func185.trans (congrArg some (by kernel_rfl))⟩,
 f10:=⟨Tryz.f207.name,by decide,Tryz.func207.trans (congrArg some (by kernel_rfl))⟩,
 t0:=Tryz.underlying0,
 a0:=Tryz.isAgg0,
 z0:=Tryz.sizeOf0,
 v0:=Tryz.zeroValue0,
 t4:=Tryz.underlying4,
 a4:=Tryz.isAgg4,
 z4:=Tryz.sizeOf4,
 v4:=Tryz.zeroValue4,
 t23:=Tryz.underlying86,
 a23:=Tryz.isAgg86,
 z23:=Tryz.sizeOf86,
 v23:=Tryz.zeroValue86,
 t26:=Tryz.underlying3,
 a26:=Tryz.isAgg3,
 z26:=Tryz.sizeOf3,
 v26:=Tryz.zeroValue3,
 t27:=Tryz.underlying261,
 a27:=Tryz.isAgg261,
 z27:=Tryz.sizeOf261,
 v27:=Tryz.zeroValue261,
 t28:=Tryz.underlying262,
 a28:=Tryz.isAgg262,
 z28:=Tryz.sizeOf262,
 v28:=Tryz.zeroValue262,
 t33:=Tryz.underlying75,
 a33:=Tryz.isAgg75,
 z33:=Tryz.sizeOf75,
 v33:=Tryz.zeroValue75 }
theorem B3G(I:Option Nat)(w:World):Calls Tryz.prog 185 #[.map I] w λe w'=>e= .returned (.func (.func 207) #[] #[.pointer (some ⟨w.heap.size,0,none⟩)])/\w'=w.alloc (.cells #[.map I] 86):=
 (callsIn_wide (n:=5)).1 (AnyZI.keys_in B9j Fence.wide 5 trivial rfl I w)
theorem B0h{H:Type}(b W:Nat)(I:DataW H)(R:Value->Option (DataW H×List MemPlace))(w:World)(V:w.ownsMap Tryz.prog 3 R b W I)(aC:Maps.size I<=maxLen)(aB:Maps.size I * 8<=140737488355328):
 Calls Tryz.prog 184 #[.func (.func 207) #[] #[.pointer (some ⟨w.heap.size,0,none⟩)]] (w.alloc (.cells #[.map (some b)] 86)) λe w'=>∃(v:Value) (J:List Int),e= .returned v/\J.Perm (intKeys I)/\
  w'.ownsRow w.heap.size 3 1 v J.length ((J.mergeSort (λx y=>decide (x<=y))).map encZ)/\Below w.heap.size w w':=by
 refine(callsIn_wide (n:=5)).1 ?_
 have aA:=V.lt
 have aE:SeqGives Fence.wide 2 Tryz.prog 207 #[.pointer (some ⟨w.heap.size,0,none⟩)] encZ (λJ=>J.Perm (intKeys I)) (Maps.size I) (w.alloc (.cells #[.map (some b)] 86)):=
  AnyZI.keys_gives (ρ:=A7z) { B9j with } Fence.wide _ trivial rfl (by omega) w.heap.size b W I _ (by simp) (by simp) (by
   obtain⟨es,Z,U,X,hs,hD⟩:=V
   exact⟨es,Z,(RowKit.Below.heap_alloc _ _ b aA).trans U,X,hs,hD⟩)
 have Y:=AnyZI.sorted_in B4Z Fence.wide 5 trivial trivial trivial trivial rfl (by omega) (B9h _) (enters_of Tryz.func206 (by kernel_rfl) rfl) 207 #[.pointer (some ⟨w.heap.size,0,none⟩)] trivial (enters_of Tryz.func207 (by kernel_rfl) rfl) _ _ aC aB _ aE
 refine CallsIn.mono Y ?_
 rintro e w' ⟨v,J,rfl,hS,aD,aF,U⟩
 exact⟨v,J,rfl,hS,ownsRow_base_a aD (by simp),((Below.refl _ w).alloc (Nat.le_refl _) _).trans (U.mono (by simp))⟩
theorem C4K{w:World}{b M:Nat}{A0:Nat->Option (List Nat)}(h:Mp w b M A0)(hN:M<=4096)(G:Nat->Prop)(hG:Bd G w):
 Calls Tryz.prog 184 #[.func (.func 207) #[] #[.pointer (some ⟨w.heap.size,0,none⟩)]] (w.alloc (.cells #[.map (some b)] 86)) λe w'=>∃(A:Option Addr) (c:Nat),e= .returned (.slice A (N0 A0 M).length c)/\C1v w' G A (N0 A0 M)/\B0 B5 w B5 w':=by
 obtain⟨D,Z,X⟩:=h
 have aH:Maps.size D<=4096:=by rw[X.size];exact Nat.le_trans (A6L _ _) hN
 refine(B0h b _ D A0w w Z (by unfold maxLen;omega) (by omega)).mono ?_
 rintro e w' ⟨v,ss,rfl,U,aA,V⟩
 have Y:=A5E X (Z.entries N7) U
 have hl:ss.length=(N0 A0 M).length:=by
  have:=congrArg List.length Y
  simpa using this
 rw[Y,hl]at aA
 obtain⟨aF,hr⟩:=aA
 rcases hr with⟨rfl,h0⟩|⟨q,aB,J,rfl,hq,W,aD,aG,aE,aC⟩
 ·rw[h0]
  exact⟨none,0,rfl,λU=>by omega,B0.of_below V⟩
 ·refine⟨_,aB,rfl,λU=>⟨q,rfl,?_,λhg=>?_,λi hi=>?_⟩,B0.of_below V⟩
  ·exact(Array.getElem?_eq_some_iff.1 W).1
  ·have:=hG q hg;omega
  ·have hc:J.toList[i]? =some (.int .i64 ((N0 A0 M)[i]:Int)):=by
    have I:(J.toList.take ((N0 A0 M).length * 1))[i]? =some (.int .i64 ((N0 A0 M)[i]:Int)):=by
     rw[aC]
     simp[encZ,hi]
    rw[List.getElem?_take]at I
    split at I
    ·exact I
    ·cases I
   rw[show w'.cell? ⟨q,i,none⟩=J[i]? by simp[World.cell?,W]]
   simpa using hc
end
end Go.Proofs.YtbefmjiclpobjaaGreat
