import Derived.Test.YtbefmjiclpobjaaGreatMi22
import Derived.Test.YtbefmjiclpobjaaGreatMi08
import Derived.Shelf.SlIterI.Nil
import Derived.Shelf.SortM.Plain
import Derived.Shelf.SortM.SortNone
import Derived.Test.YtbefmjiclpobjaaGreatMi09
import Derived.Maps.Range
namespace Go.Proofs.YtbefmjiclpobjaaGreat
set_option maxHeartbeats 6400000
set_option maxRecDepth 3000
section
open Go.RowKit Go.Maps
theorem C1g{D:DU}{J:Lit}{y:DU}(V:∀zd,D.atKey J zd=y):Maps.has D J=true:=by
 cases hq:Maps.has D J with
 |true=>rfl
 |false=>
  have U:=V (.lit (.int .u8 0))
  have I:=V (.lit (.int .u8 1))
  rw[atKey_of_not_has hq]at U I
  rw[<-U]at I
  cases I
theorem B19{v:Value}{y:DU×List MemPlace}(h:A03 v=some y):∃cs,v= .agg cs:=by
 unfold A03 at h
 split at h
 ·exact⟨_,rfl⟩
 ·cases h
theorem B1A{I:Value}{U:Lit}(h:keyOf Tryz.prog 3 I=some U):∃x,I= .int .i64 x:=by
 obtain⟨x,J,_⟩:=keyOf_int_inv Tryz.underlying3 h
 exact⟨x,J⟩
theorem C43{M:Nat}{A':Nat->Option (List Nat)}{D:DU}{x:Int}{cs:Array Value}{J:Lit}{y:DU×List MemPlace}(W:MpD M A' D)(hk:keyOf Tryz.prog 3 (.int .i64 x)=some J)(hv:A03 (.agg cs)=some y)(Y:∀zd,D.atKey J zd=y.1):
 ∃(i:Nat) (l:List Nat),x=(i:Int)/\J=ik i/\i<M/\A' i=some l/\cs=(l.map u8).toArray:=by
 have X:=C1g Y
 obtain⟨x',U,I,_⟩:=keyOf_int_inv Tryz.underlying3 hk
 injection U with _ U
 subst U
 have aA:WideAt.IsKeyLit J:=by rw[I];exact trivial
 obtain⟨i,hi,e⟩:=W.keys J aA X
 subst e
 have hx:x=(i:Int):=by unfold ik at I;injection I with _ I;exact I.symm
 rw[W.has i hi]at X
 obtain⟨l,Z⟩:=Option.isSome_iff_exists.1 X
 have V:=W.at_ i hi (.lit (.int .u8 0))
 rw[Y,Z]at V
 obtain⟨y1,y2⟩:=y
 simp only[Option.map_some,Option.getD_some]at V
 subst V
 have:=A2v hv
 injection this with this
 exact⟨i,l,hx,rfl,hi,Z,this⟩
theorem B6A{w w':World}{b n:Nat}{D:DU}{F':Nat->Prop}(h:w.ownsMap Tryz.prog 3 A03 b n D)(V:B1 B5 w F' w'):w'.ownsMap Tryz.prog 3 A03 b n D:=by
 have W:=h.lt
 obtain⟨I,c,J,U⟩:=h
 exact⟨I,c,(V.block b W (λx=>x)).trans J,U⟩
theorem A5l{ops:Array Oper}{rest:List Oper}{o:Oper}{a:Act}{w:World}{Q:Exit->Act->World->Prop}(W:o.guard=none)(m x:Operand)(Z:o.op=Op.lookup 86 m x false)(b N i:Nat)(A:Nat->Option (List Nat))(U:Mp w b N A)(Y:a.eval m= .map (some b))(hx:a.eval x= .int .i64 (i:Int))(hi:i<N)(hN:N<=4096)
 {X:List Nat} (V:X=(A i).getD (List.replicate 128 0))
 (hK:wpList Tryz.prog ops Q rest (a.put o.dst (.agg ((X.map u8).toArray))) w):wpList Tryz.prog ops Q (o::rest) a w:=by
 subst V
 obtain⟨D,h,d⟩:=U
 refine wpList_plain W λK' J=>?_
 obtain⟨v,ps,I,hv⟩:=h.lookup P2 Tryz.underlying86 (A2p A0H) (zd:=A0G (List.replicate 128 0)) (zp:=[]) (by rw[zS,<-List.map_replicate];exact A1R _) (A3D (i:=i) (by omega))
 rw[d.at_ i hi]at hv
 have e:((A i).map A0G).getD (A0G (List.replicate 128 0))=A0G ((A i).getD (List.replicate 128 0)):=by cases A i<;>rfl
 rw[e]at hv
 rw[A2v hv]at I
 unfold Oper.wp
 simp[execOp,Z,Y,hx,I,Result.andThen]
 exact J _ _ hK
def C2W(w:World)(E:Ev)(c m:Nat)(e:Int)(A:Nat->Option (List Nat))(I r J:Nat)(wr:World):Prop:=
 ∃(left:Lit->Bool) (cnt:Nat) (D:DU),wr.ranges Tryz.prog 3 A03 m r J D left cnt/\MpD E.M (A3l A E.H left) D/\Mp wr I E.M (A5T A E.H left)/\So wr E/\C3 wr c 175 #[.pointer (some ⟨E.l,0,none⟩),.map (some m),.pointer (some ⟨E.o,0,none⟩),.int .i64 e]/\B1 (CF c m) w (CF c m) wr
def C2X(w:World)(E:Ev)(c m:Nat)(H:Nat->List Nat)(e:Int)(x:Ending)(w':World):Prop:=
 ∃I A,x= .returned (.map (some I))/\So w' E/\C3 w' c 175 #[.pointer (some ⟨E.l,0,none⟩),.map (some m),.pointer (some ⟨E.o,0,none⟩),.int .i64 e]/\Mp w' m E.M (A5D A E.H)/\Mp w' I E.M (B30 A E.H)/\H=vwH A E.L/\AOk E.M A/\(∀i,(E.O i).isSome=true->(A i).isSome=true)/\w.heap.size<=I/\B1 (CF c m) w (CF c m) w'
theorem B8U{w:World}{E:Ev}{c m:Nat}{H:Nat->List Nat}{e:Int}(h:Cg w E c m H e)(cV:∀i,i<E.M->(E.H i).length=128/\∀x∈E.H i,x<256):
 Calls Tryz.prog 105 #[.pointer (some ⟨c,0,none⟩)] w (C2X w E c m H e):=by
 have HC:=C5Z h
 obtain⟨A,dJ,cH,cJ,cK⟩:=h.ex
 have aR:=C5Z (show E.M<=4096 by have:=h.so.vu.hn;unfold Ev.M;omega)
 have aK:=C5Z (And.intro cH (And.intro cJ cK))
 have dE:=C5Z cV
 obtain⟨D0,bQ,cL⟩:=dJ
 have bH:=C5Z cL
 obtain⟨n0,cR⟩:∃n0,n0=cnt A E.M:=⟨_,rfl⟩
 rw[<-cR]at bQ
 have HO:=C5Z bQ
 clear cH cJ cK cV bQ cL cR h
 have dO:=@run_makeMap Tryz.prog
 go_enter Tryz.func105,Tryz.ntmps105
 go_upto_region 2 with(fail)
 obtain⟨I,aG⟩:∃I,I=w.heap.size:=⟨_,rfl⟩
 obtain⟨V,hV⟩:∃V,V=w.alloc (.map #[] 0):=⟨_,rfl⟩
 rw[<-hV,<-aG]
 have aW:B1 B5 w B5 V:=by rw[hV];exact(B1.refl _ _).alloc _
 have aC:=C5Z (show Mp V I E.M (λ_=>none)by rw[hV,aG];exact Mp.new w E.M)
 have aQ:=C5Z (show w.heap.size<=I by rw[aG];exact Nat.le_refl _)
 have bY:=C5Z aW
 have cD:=C5Z (B6A HO.out aW)
 have bG:=C5Z (HC.out.step aW)
 have c1:V.cell? ⟨c,1,none⟩=some (.map (some m)):=bG.out.blk.cell 1
 clear hV aG aW dO
 go_wp2_with (first
  |(at_range;refine wpList_range_own _ rfl _ 86 rfl 3 173 P2 Tryz.underlying86 A03 m n0 D0 rfl cD.out ?_;intro w0 bU aI cW)
  |fail)
 go_frame
 obtain⟨r,hr⟩:∃r,r=V.heap.size:=⟨_,rfl⟩
 rw[<-hr]at bU⊢
 have HR:=C5Z (show V.heap.size<=r/\r<w0.heap.size from⟨by rw[hr];exact Nat.le_refl _,by rw[cW,hr];omega⟩)
 have aP:=C5Z (show B1 B5 V B5 w0 from⟨aI.os,aI.tape,aI.output,aI.size,λk J _=>aI.block k J (by simp),λ_ x=>x.elim⟩)
 have Z:=C5Z (show I≠m/\I≠r/\m≠r/\c≠r/\w.heap.size<=r/\E.o≠r/\E.mo≠r/\I≠E.o/\I≠E.mo/\I≠c by
  obtain⟨b1,b2⟩:=HC.out.lt
  obtain⟨b3,b4,b5⟩:=HC.out.so.bd
  have h1:=aC.out.lt
  have h2:=bY.out.size
  have h3:=aQ.out
  have h4:=HR.out.1
  refine⟨by omega,by omega,by omega,by omega,by omega,by omega,by omega,by omega,by omega,by omega⟩)
 obtain⟨e1,e2⟩:=B31 (A:=A) (H0:=E.H) (left:=Maps.has D0) (λj hj=>by
  have dM:j<E.M:=by
   obtain⟨x,hx⟩:=Option.isSome_iff_exists.1 hj
   exact(aK.out.1 j x hx).1
  rw[bH.out.has j dM,hj])
 have dF:=C5Z (show C2W w E c m e A I r n0 w0 from⟨Maps.has D0,_,D0,bU,by rw[e1];exact bH.out,by rw[e2];exact aC.out.keep (aP.out.block I aC.out.lt (λx=>x)),bG.out.so.step aP.out,bG.out.blk.over aP.out,(bY.out.trans aP.out).same (λ_ x=>x.elim)⟩)
 clear bU aI cW hr e1 e2 c1 cD HO aC bH
 go_loopw [4] (λ_ wr=>C2W w E c m e A I r n0 wr) (λ_ wr=>wr.rangeLeft m r)
 case atStart=>exact dF.out
 case round=>
  obtain⟨left,cn,D,cT,hd,aG,cX,cN,U⟩:=hrel
  have HD:=C5Z hd
  have aS:=C5Z cT
  have aC:=C5Z aG
  have cE:=C5Z cX
  have bD:=C5Z cN
  have HA:=C5Z U
  clear hd aG cX cN U cT
  go_wp2_with (first
   |(at_next;refine wpList_next_ranges _ rfl _ rfl 3 P2 A03 (Value.int .i64) Value.agg (λdR kl J=>B1A J) (λv y hv=>B19 hv) m r n0 D left cn rfl aS.out ?done ?more)
   |fail)
  case done=>
   intro h0 hl
   obtain⟨e1,e2⟩:=B8T (A:=A) (H0:=E.H) hl
   have HF:=C5Z (show C2X w E c m H e (.returned (.map (some I))) wr from⟨I,A,rfl,cE.out,bD.out,by have:=Mp.of_owns aS.out.owns HD.out;rwa[e1]at this,by have:=aC.out;rwa[e2]at this,aK.out.2.1,aK.out.1,aK.out.2.2,aQ.out,HA.out⟩)
   clear h0 hl e1 e2
   go_wp2_with fail
   go_ret
   exact HF.out
  case more=>
   intro x cs kl yd yp w1 bP J hl hv cM cU cQ cO dP dQ
   obtain⟨i,l,rfl,rfl,aX,aD,rfl⟩:=C43 (y:=(yd,yp)) HD.out J hv cM
   have aV:A i=some l:=by
    rw[<-(A8M (A:=A) (H0:=E.H) hl (by
     unfold A3l at aD
     split at aD
     ·cases aD
     ·rw[aD];rfl)).1]
    exact aD
   have cG:=C5Z (A8M (A:=A) (H0:=E.H) hl (by rw[aV];rfl))
   have HI:=C5Z (And.intro aX aV)
   have HL:=C5Z ((aK.out.1 i l aV).2)
   have dA:=C5Z aD
   have HK:=C5Z J
   have a1:B1 (L6 r) wr (L6 r) w1:=A0P cO
   have dC:=C5Z cU
   have cC:=C5Z cQ
   have bK:=C5Z (aC.out.keep (a1.block I aC.out.lt (λx=>Z.out.2.1 x)))
   have cF:=C5Z (cE.out.far a1 (λk J hu=>by unfold L6 at J;subst J;have:=HC.out.so.bd.1 _ hu;have:=Z.out.2.2.2.2.1;omega) (λx=>Z.out.2.2.2.2.2.1 x) (λx=>Z.out.2.2.2.2.2.2.1 x))
   have bF:=C5Z (bD.out.keep (a1.block c bD.out.lt (λx=>Z.out.2.2.2.1 x)))
   have cZ:=C5Z (HA.out.freshG Z.out.2.2.2.2.1 a1)
   obtain⟨X,hX⟩:∃X,X=E.H i:=⟨_,rfl⟩
   have aU:=C5Z (show X.length=128/\∀y∈X,y<256 by rw[hX];exact dE.out i aX)
   have cB:=C5Z (λV (a:B1 B5 w1 B5 V)=>show Calls Tryz.prog 94 #[.pointer (some ⟨E.o,0,none⟩),.int .i64 (i:Int)] V (RdR V X)by rw[hX];exact(cF.out.vu.rdv).home _ V a i aX)
   have HX:=C5Z hX
   have dL:(i:Int)<(E.M:Int):=by omega
   have cA:=C5Z (C1f X l aU.out.1 HL.out.1 aU.out.2 HL.out.2)
   clear J hl hv cM cU cQ cO dP aD aV aX a1 hX dL
   have bI:=C5Z (show∀w4 W,B1 B5 w1 B5 w4->Mp W I E.M (S7 (A5T A E.H left) i X)->w4.grownBy W (some I)->(W.cell? ⟨c,1,none⟩=some (.map (some m)))/\(W.ranges Tryz.prog 3 A03 m r n0 D (λz=>left z&& !z.sameKey (ik i)) bP)/\So W E/\C3 W c 175 #[.pointer (some ⟨E.l,0,none⟩),.map (some m),.pointer (some ⟨E.o,0,none⟩),.int .i64 e]/\B1 (CF c m) w (CF c m) W fromλw4 W a4 m5 g5=>by
    have s4:=cF.out.step a4
    have b4:=bF.out.over a4
    have a5:B1 (L6 I) w4 (L6 I) W:=A0P g5
    have b5:=b4.keep (a5.block c b4.lt (λx=>Z.out.2.2.2.2.2.2.2.2.2 x.symm))
    refine⟨b5.cell 1,(dC.out.kept a4.grow (by simp) (by simp)).kept g5 (λx=>Z.out.1 (Option.some.inj x).symm) (λx=>Z.out.2.1 (Option.some.inj x).symm),s4.far a5 (λk J hu=>by unfold L6 at J;subst J;have:=HC.out.so.bd.1 _ hu;have:=aQ.out;omega) (λx=>Z.out.2.2.2.2.2.2.2.1 x.symm) (λx=>Z.out.2.2.2.2.2.2.2.2.1 x.symm),b5,((cZ.out.over a4).freshG aQ.out a5)⟩)
   have aL:=C5Z (show Mp w1 I E.M (A5T A E.H left)from bK.out)
   have bJ:=C5Z (show X=((S7 (A5T A E.H left) i X) i).getD (List.replicate 128 0)by unfold S7;rw[if_pos rfl];rfl)
   obtain⟨B,hB⟩:∃B,B=A5T A E.H left:=⟨_,rfl⟩
   have bZ:=C5Z hB
   rw[<-hB]at aL bJ bI
   clear hB
   by_cases hq:X=l
   ·have bS:=cA.out
    rw[decide_eq_true hq]at bS
    have HQ:=C5Z hq
    clear hq
    go_wp2_with (first
     |(refine B9 (t:=173) rfl rfl A0H ?_;intro z5 w2 hz hb U;have aN:=C5Z hz;have bA:=C5Z hb;have aY:=C5Z U;clear hz hb U)
     |(refine B7 (t:=173) rfl _ _ rfl z5 bA.out rfl rfl X5 (by have:=HL.out.1;simpa using this) A1d (A2r l) ?_;intro w3 hb U;have bB:=C5Z hb;have aA:=C5Z (aY.out.fresh aN.out U);have c2:w3.cell? ⟨c,2,none⟩=some (.pointer (some ⟨E.o,0,none⟩)):=(bF.out.over aA.out).cell 2;clear hb U)
     |(go_at_call 94;refine(cB.out w3 aA.out).mono ?_;rintro e4 w4 ⟨z,rfl,bV,bX,aO,bT,aB⟩;have aZ:=C5Z (aA.out.trans aB);have aM:=C5Z (bB.out.over aB);have bO:=C5Z (show w4.rangeAt z 0 (X.map u8)from(by obtain⟨b',o',e',_,bR⟩:=aO.cells (by decide) (by decide);cases e';exact bR));have bM:=C5Z (aL.out.keep ((aA.out.trans aB).block I aL.out.lt (λx=>x)));clear bV bX aO bT aB c2)
     |(refine B4p rfl _ rfl (some ⟨z,0,none⟩) 128 rfl ?_)
     |(refine B0T rfl _ rfl z 0 X aU.out.1 bO.out rfl ?_)
     |(refine A96 rfl _ _ _ rfl I E.M i B X bM.out rfl rfl rfl HI.out.1 aR.out ?_;intro W aF aE;have aH:=C5Z aF;have Y:=C5Z (bI.out w4 W aZ.out aF aE);have bC:=C5Z (aM.out.keep (aE.block z5 aM.out.lt (λx=>by have h1:=bK.out.lt;have h2:=aN.out;have h3:=(Option.some.inj x);omega)));have c1:=Y.out.1;have aT:=C5Z Y.out.2.1;clear aF aE)
     |(refine A5l rfl _ _ rfl I E.M i (S7 B i X) aH.out rfl rfl HI.out.1 aR.out bJ.out ?_)
     |(refine B6 (t:=173) rfl _ rfl z5 bC.out rfl Tryz.underlying173 rfl X5 (by have:=HL.out.1;simpa using this) ?_)
     |(at_delete;refine wpList_delete_ranges _ rfl _ _ 86 3 rfl 173 P2 Tryz.underlying86 A03 m r n0 D _ bP rfl aT.out (.int .i64 (i:Int)) (ik i) rfl HK.out ?_;intro w6 dH aJ cP cY;have dD:=C5Z aJ;have dB:=C5Z cP;have dG:=C5Z cY;clear aJ cP cY)
     |fail)
    go_frame
    have aJ:=dD.out
    rw[strike_twice]at aJ
    have a6:B1 (L6 m) W (L6 m) w6:=A0P dG.out.grown
    have hs:=cG.out
    have dN:Mp w6 I E.M (S7 B i X):=aH.out.keep (a6.block I aH.out.lt (λx=>Z.out.1 x))
    obtain⟨b1,b2⟩:=HC.out.lt
    have dK:C2W w E c m e A I r n0 w6:=by
     refine⟨_,dH,_,aJ,?_,?_,Y.out.2.2.1.far a6 (λk J hu=>by unfold L6 at J;subst J;exact HC.out.sm.1 hu) (λx=>HC.out.sm.2.1 x.symm) (λx=>HC.out.sm.2.2 x.symm),Y.out.2.2.2.1.keep (a6.block c Y.out.2.2.2.1.lt (λx=>HC.out.ne x)),Y.out.2.2.2.2.trans (a6.weak (G:=CF c m) (λk J=>.inr J) |>.same (λ_ x=>x))⟩
     ·rw[hs.2.2,if_pos (by rw[HI.out.2,<-HX.out,HQ.out])]
      exact HD.out.del HI.out.1 (by rw[dA.out];rfl)
     ·rw[hs.2.1,<-HX.out,<-bZ.out];exact dN
    refine⟨⟨_,_,_,_,_,_,_,_,_,_,_,_,_,_,_,_,_,_,_,_,_,_,_,_,_,_,_,_,_,_,_,_,_,_,_,_,_,_,_,dK,rfl⟩,by rw[aJ.left_eq,aS.out.left_eq];have:=dB.out;have:=cC.out;omega⟩
   ·have bS:=cA.out
    rw[decide_eq_false hq]at bS
    have HQ:=C5Z hq
    clear hq
    go_wp2_with (first
     |(refine B9 (t:=173) rfl rfl A0H ?_;intro z5 w2 hz hb U;have aN:=C5Z hz;have bA:=C5Z hb;have aY:=C5Z U;clear hz hb U)
     |(refine B7 (t:=173) rfl _ _ rfl z5 bA.out rfl rfl X5 (by have:=HL.out.1;simpa using this) A1d (A2r l) ?_;intro w3 hb U;have bB:=C5Z hb;have aA:=C5Z (aY.out.fresh aN.out U);have c2:w3.cell? ⟨c,2,none⟩=some (.pointer (some ⟨E.o,0,none⟩)):=(bF.out.over aA.out).cell 2;clear hb U)
     |(go_at_call 94;refine(cB.out w3 aA.out).mono ?_;rintro e4 w4 ⟨z,rfl,bV,bX,aO,bT,aB⟩;have aZ:=C5Z (aA.out.trans aB);have aM:=C5Z (bB.out.over aB);have bO:=C5Z (show w4.rangeAt z 0 (X.map u8)from(by obtain⟨b',o',e',_,bR⟩:=aO.cells (by decide) (by decide);cases e';exact bR));have bM:=C5Z (aL.out.keep ((aA.out.trans aB).block I aL.out.lt (λx=>x)));clear bV bX aO bT aB c2)
     |(refine B4p rfl _ rfl (some ⟨z,0,none⟩) 128 rfl ?_)
     |(refine B0T rfl _ rfl z 0 X aU.out.1 bO.out rfl ?_)
     |(refine A96 rfl _ _ _ rfl I E.M i B X bM.out rfl rfl rfl HI.out.1 aR.out ?_;intro W aF aE;have aH:=C5Z aF;have Y:=C5Z (bI.out w4 W aZ.out aF aE);have bC:=C5Z (aM.out.keep (aE.block z5 aM.out.lt (λx=>by have h1:=bK.out.lt;have h2:=aN.out;have h3:=(Option.some.inj x);omega)));have c1:=Y.out.1;have aT:=C5Z Y.out.2.1;clear aF aE)
     |(refine A5l rfl _ _ rfl I E.M i (S7 B i X) aH.out rfl rfl HI.out.1 aR.out bJ.out ?_)
     |(refine B6 (t:=173) rfl _ rfl z5 bC.out rfl Tryz.underlying173 rfl X5 (by have:=HL.out.1;simpa using this) ?_)
     |fail)
    have hs:=cG.out
    refine⟨⟨_,bP,D,aT.out,?_,?_,Y.out.2.2.1,Y.out.2.2.2.1,Y.out.2.2.2.2⟩,by rw[aT.out.left_eq,aS.out.left_eq];exact cC.out⟩
    ·rw[hs.2.2,if_neg (by rw[HI.out.2,<-HX.out];intro x;exact HQ.out (Option.some.inj x).symm)]
     exact HD.out
    ·rw[hs.2.1,<-HX.out,<-bZ.out];exact aH.out
end
section
open Go.RowKit Go.Maps Go.Sort Go.Shelf
def A8N:Go.Shelf.Ren:=⟨λ|7=>210|10=>223|n=>n,λ|23=>138|26=>3|3=>141|28=>262|0=>0|27=>261|33=>75|4=>4|n=>n,λ|n=>n⟩
theorem C1V:SlLaysZI.n7 Tryz.prog A8N:={
 mixed:=by kernel_rfl,
 f7:=⟨Tryz.f210.name,by decide,Tryz.func210.trans (congrArg some (by kernel_rfl))⟩,
 f10:=⟨Tryz.f223.name,by decide,Tryz.func223.trans (congrArg some (by kernel_rfl))⟩,
 t0:=Tryz.underlying0,
 a0:=Tryz.isAgg0,
 z0:=Tryz.sizeOf0,
 v0:=Tryz.zeroValue0,
 t4:=Tryz.underlying4,
 a4:=Tryz.isAgg4,
 z4:=Tryz.sizeOf4,
 v4:=Tryz.zeroValue4,
 t23:=Tryz.underlying138,
 a23:=Tryz.isAgg138,
 z23:=Tryz.sizeOf138,
 v23:=Tryz.zeroValue138,
 t26:=Tryz.underlying3,
 a26:=Tryz.isAgg3,
 z26:=Tryz.sizeOf3,
 v26:=Tryz.zeroValue3,
 t27:=Tryz.underlying261,
 a27:=Tryz.isAgg261,
 z27:=Tryz.sizeOf261,
 v27:=Tryz.zeroValue261,
 t28:=Tryz.underlying262,
 a28:=Tryz.isAgg262,
 z28:=Tryz.sizeOf262,
 v28:=Tryz.zeroValue262,
 t33:=Tryz.underlying75,
 a33:=Tryz.isAgg75,
 z33:=Tryz.sizeOf75,
 v33:=Tryz.zeroValue75 }
def A5E:Go.Shelf.Ren:=⟨λ|6=>184|8=>205|9=>206|11=>220|13=>222|12=>221|23=>236|24=>237|14=>227|15=>228|16=>229|17=>230|18=>231|19=>232|20=>233|21=>234|22=>235|25=>240|26=>241|27=>242|28=>243|29=>244|30=>245|31=>246|n=>n,λ|26=>3|28=>262|24=>36|0=>0|3=>3|37=>267|48=>286|50=>40|4=>4|40=>300|39=>299|45=>220|5=>5|9=>9|51=>308|55=>312|57=>314|58=>113|33=>75|n=>n,λ|n=>n⟩
theorem B4L:SlLaysZI.n6 Tryz.prog A5E:={
 mixed:=by kernel_rfl,
 f6:=⟨Tryz.f184.name,by decide,Tryz.func184.trans (congrArg some (by kernel_rfl))⟩,
 f8:=⟨Tryz.f205.name,by decide,Tryz.func205.trans (congrArg some (by kernel_rfl))⟩,
 f11:=⟨Tryz.f220.name,by decide,Tryz.func220.trans (congrArg some (by kernel_rfl))⟩,
 t0:=Tryz.underlying0,
 a0:=Tryz.isAgg0,
 z0:=Tryz.sizeOf0,
 v0:=Tryz.zeroValue0,
 t24:=Tryz.underlying36,
 a24:=Tryz.isAgg36,
 z24:=Tryz.sizeOf36,
 v24:=Tryz.zeroValue36,
 t26:=Tryz.underlying3,
 a26:=Tryz.isAgg3,
 z26:=Tryz.sizeOf3,
 v26:=Tryz.zeroValue3,
 t28:=Tryz.underlying262,
 a28:=Tryz.isAgg262,
 z28:=Tryz.sizeOf262,
 v28:=Tryz.zeroValue262,
 i26:=by kernel_rfl }
def B6B:Go.Shelf.Ren:=⟨λ|5=>206|8=>222|7=>221|19=>236|20=>237|10=>227|11=>228|12=>229|13=>230|14=>231|15=>232|16=>233|17=>234|18=>235|30=>240|31=>241|32=>242|33=>243|34=>244|35=>245|40=>246|n=>n,λ|23=>36|25=>3|3=>3|32=>267|22=>36|0=>0|44=>286|46=>40|4=>4|36=>300|35=>299|41=>220|5=>5|9=>9|53=>308|57=>312|63=>314|64=>113|n=>n,λ|n=>n⟩
theorem C1W:SlLaysM.n5 Tryz.prog B6B:={
 mixed:=by kernel_rfl,
 f5:=⟨Tryz.f206.name,by decide,Tryz.func206.trans (congrArg some (by kernel_rfl))⟩,
 f7:=⟨Tryz.f221.name,by decide,Tryz.func221.trans (congrArg some (by kernel_rfl))⟩,
 f8:=Tryz.func222.trans (congrArg some (by kernel_rfl)),
 f10:=⟨Tryz.f227.name,by decide,Tryz.func227.trans (congrArg some (by kernel_rfl))⟩,
 f11:=⟨Tryz.f228.name,by decide,Tryz.func228.trans (congrArg some (by kernel_rfl))⟩,
 f12:=⟨Tryz.f229.name,by decide,Tryz.func229.trans (congrArg some (by kernel_rfl))⟩,
 f13:=⟨Tryz.f230.name,by decide,Tryz.func230.trans (congrArg some (by kernel_rfl))⟩,
 f14:=⟨Tryz.f231.name,by decide,Tryz.func231.trans (congrArg some (by kernel_rfl))⟩,
 f15:=⟨Tryz.f232.name,by decide,Tryz.func232.trans (congrArg some (by kernel_rfl))⟩,
 f16:=⟨Tryz.f233.name,by decide,Tryz.func233.trans (congrArg some (by kernel_rfl))⟩,
 f17:=⟨Tryz.f234.name,by decide,Tryz.func234.trans (congrArg some (by kernel_rfl))⟩,
 f18:=⟨Tryz.f235.name,by decide,Tryz.func235.trans (congrArg some (by kernel_rfl))⟩,
 f19:=Tryz.func236.trans (congrArg some (by kernel_rfl)),
 f20:=Tryz.func237.trans (congrArg some (by kernel_rfl)),
 f30:=⟨Tryz.f240.name,by decide,Tryz.func240.trans (congrArg some (by kernel_rfl))⟩,
 f31:=Tryz.func241.trans (congrArg some (by kernel_rfl)),
 f32:=Tryz.func242.trans (congrArg some (by kernel_rfl)),
 f33:=⟨Tryz.f243.name,by decide,Tryz.func243.trans (congrArg some (by kernel_rfl))⟩,
 f34:=⟨Tryz.f244.name,by decide,Tryz.func244.trans (congrArg some (by kernel_rfl))⟩,
 f35:=⟨Tryz.f245.name,by decide,Tryz.func245.trans (congrArg some (by kernel_rfl))⟩,
 f40:=⟨Tryz.f246.name,by decide,Tryz.func246.trans (congrArg some (by kernel_rfl))⟩,
 t0:=Tryz.underlying0,
 a0:=Tryz.isAgg0,
 z0:=Tryz.sizeOf0,
 v0:=Tryz.zeroValue0,
 t3:=Tryz.underlying3,
 a3:=Tryz.isAgg3,
 z3:=Tryz.sizeOf3,
 v3:=Tryz.zeroValue3,
 t4:=Tryz.underlying4,
 a4:=Tryz.isAgg4,
 z4:=Tryz.sizeOf4,
 v4:=Tryz.zeroValue4,
 t5:=Tryz.underlying5,
 a5:=Tryz.isAgg5,
 z5:=Tryz.sizeOf5,
 v5:=Tryz.zeroValue5,
 t9:=Tryz.underlying9,
 a9:=Tryz.isAgg9,
 z9:=Tryz.sizeOf9,
 v9:=Tryz.zeroValue9,
 t22:=Tryz.underlying36,
 a22:=Tryz.isAgg36,
 z22:=Tryz.sizeOf36,
 v22:=Tryz.zeroValue36,
 t23:=Tryz.underlying36,
 a23:=Tryz.isAgg36,
 z23:=Tryz.sizeOf36,
 v23:=Tryz.zeroValue36,
 t25:=Tryz.underlying3,
 a25:=Tryz.isAgg3,
 z25:=Tryz.sizeOf3,
 v25:=Tryz.zeroValue3,
 t32:=Tryz.underlying267,
 a32:=Tryz.isAgg267,
 z32:=Tryz.sizeOf267,
 v32:=Tryz.zeroValue267,
 t35:=Tryz.underlying299,
 a35:=Tryz.isAgg299,
 z35:=Tryz.sizeOf299,
 v35:=Tryz.zeroValue299,
 t36:=Tryz.underlying300,
 a36:=Tryz.isAgg300,
 z36:=Tryz.sizeOf300,
 v36:=Tryz.zeroValue300,
 t41:=Tryz.underlying220,
 a41:=Tryz.isAgg220,
 z41:=Tryz.sizeOf220,
 v41:=Tryz.zeroValue220,
 t44:=Tryz.underlying286,
 a44:=Tryz.isAgg286,
 z44:=Tryz.sizeOf286,
 v44:=Tryz.zeroValue286,
 t46:=Tryz.underlying40,
 a46:=Tryz.isAgg40,
 z46:=Tryz.sizeOf40,
 v46:=Tryz.zeroValue40,
 t53:=Tryz.underlying308,
 a53:=Tryz.isAgg308,
 z53:=Tryz.sizeOf308,
 v53:=Tryz.zeroValue308,
 t57:=Tryz.underlying312,
 a57:=Tryz.isAgg312,
 z57:=Tryz.sizeOf312,
 v57:=Tryz.zeroValue312,
 t63:=Tryz.underlying314,
 a63:=Tryz.isAgg314,
 z63:=Tryz.sizeOf314,
 v63:=Tryz.zeroValue314,
 t64:=Tryz.underlying113,
 a64:=Tryz.isAgg113,
 z64:=Tryz.sizeOf113,
 v64:=Tryz.zeroValue113 }
theorem B8V(m:Nat):AnyZI.SortsIn Tryz.prog A5E Fence.wide m:=
 ⟨λJ X I Y W hH U V=>callsIn_wide.2 (AnyM.slices_Sort_int C1W J X I Y W hH U V),
  λp I W=>callsIn_wide.2 (AnyM.slices_Sort_int_none C1W p I W)⟩
theorem B6C(I:Option Nat)(w:World):Calls Tryz.prog 210 #[.map I] w λe w'=>e= .returned (.func (.func 223) #[] #[.pointer (some ⟨w.heap.size,0,none⟩)])/\w'=w.alloc (.cells #[.map I] 138):=
 (callsIn_wide (n:=5)).1 (AnyZI.keys_in C1V Fence.wide 5 trivial rfl I w)
theorem B1B{H:Type}(b W:Nat)(I:DataW H)(R:Value->Option (DataW H×List MemPlace))(w:World)(V:w.ownsMap Tryz.prog 3 R b W I)(aC:Maps.size I<=maxLen)(aB:Maps.size I * 8<=140737488355328):
 Calls Tryz.prog 184 #[.func (.func 223) #[] #[.pointer (some ⟨w.heap.size,0,none⟩)]] (w.alloc (.cells #[.map (some b)] 138)) λe w'=>∃(v:Value) (J:List Int),e= .returned v/\J.Perm (intKeys I)/\
  w'.ownsRow w.heap.size 3 1 v J.length ((J.mergeSort (λx y=>decide (x<=y))).map encZ)/\Below w.heap.size w w':=by
 refine(callsIn_wide (n:=5)).1 ?_
 have aA:=V.lt
 have aE:SeqGives Fence.wide 2 Tryz.prog 223 #[.pointer (some ⟨w.heap.size,0,none⟩)] encZ (λJ=>J.Perm (intKeys I)) (Maps.size I) (w.alloc (.cells #[.map (some b)] 138)):=
  AnyZI.keys_gives (ρ:=A8N) { C1V with } Fence.wide _ trivial rfl (by omega) w.heap.size b W I _ (by simp) (by simp) (by
   obtain⟨es,Z,U,X,hs,hD⟩:=V
   exact⟨es,Z,(RowKit.Below.heap_alloc _ _ b aA).trans U,X,hs,hD⟩)
 have Y:=AnyZI.sorted_in B4L Fence.wide 5 trivial trivial trivial trivial rfl (by omega) (B8V _) (enters_of Tryz.func206 (by kernel_rfl) rfl) 223 #[.pointer (some ⟨w.heap.size,0,none⟩)] trivial (enters_of Tryz.func223 (by kernel_rfl) rfl) _ _ aC aB _ aE
 refine CallsIn.mono Y ?_
 rintro e w' ⟨v,J,rfl,hS,aD,aF,U⟩
 exact⟨v,J,rfl,hS,ownsRow_base_a aD (by simp),((Below.refl _ w).alloc (Nat.le_refl _) _).trans (U.mono (by simp))⟩
end
section
open Go.RowKit Go.Maps Go.Sort
def N9(A:Nat->Option (List Nat))(M:Nat):List Nat:=(List.range M).filter (λi=>(A i).isSome)
def V7(A:Nat->Option (List Nat))(M:Nat):List (Nat×List Nat):=(N9 A M).map (λi=>(i,(A i).getD (List.replicate 128 0)))
def P0(s:DS)(n:Nat):List (Nat×List Nat)->DS×Int
 |[]=>(s,0)
 |q::qs=>if(L7 s ((2+n+q.1:Nat):Int) q.2).2=0 then P0 (L7 s ((2+n+q.1:Nat):Int) q.2).1 n qs else L7 s ((2+n+q.1:Nat):Int) q.2
def Q5(s:DS)(n M:Nat)(A:Nat->Option (List Nat)):DS×Int:=
 if(E7 s).2=0 then(if(P0 (E7 s).1 n (V7 A M)).2=0 then E7 (P0 (E7 s).1 n (V7 A M)).1 else P0 (E7 s).1 n (V7 A M))else E7 s
theorem A8P:∀{l1 l2:List Int},l1.Pairwise (·<·)->l2.Pairwise (·<·)->(∀x,x∈l1↔x∈l2)->l1=l2
 |[],[],_,_,_=>rfl
 |[],y::_,_,_,h=>absurd ((h y).mpr (by simp)) (by simp)
 |x::_,[],_,_,h=>absurd ((h x).mp (by simp)) (by simp)
 |x::l1,y::l2,h1,h2,h=>by
  obtain⟨U,W⟩:=List.pairwise_cons.mp h1
  obtain⟨V,X⟩:=List.pairwise_cons.mp h2
  have Y:x=y:=by
   rcases List.mem_cons.mp ((h x).mp (by simp))with e|e
   ·exact e
   ·rcases List.mem_cons.mp ((h y).mpr (by simp))with J|J
    ·exact J.symm
    ·have:=V x e;have:=U y J;omega
  subst Y
  congr 1
  refine A8P W X (λz=>⟨λI=>?_,λI=>?_⟩)
  ·rcases List.mem_cons.mp ((h z).mp (by simp[I]))with e|e
   ·have:=U z I;omega
   ·exact e
  ·rcases List.mem_cons.mp ((h z).mpr (by simp[I]))with e|e
   ·have:=V z I;omega
   ·exact e
theorem B0c(A:Nat->Option (List Nat))(M:Nat):((N9 A M).map (λi:Nat=>(i:Int))).Pairwise (·<·):=by
 rw[List.pairwise_map]
 have h:(List.range M).Pairwise (·<·):=List.pairwise_lt_range
 exact(h.sublist List.filter_sublist).imp (λ{a b} (h:a<b)=>by omega)
theorem A5F{M:Nat}{A:Nat->Option (List Nat)}{D:DU}{U:List Int}(h:MpD M A D)(ho:∃J,D= .map J/\J.Pairwise (λp q=>p.1≠q.1)/\∀p∈J,WideAt.IsKeyLit p.1)(I:U.Perm (intKeys D)):U.mergeSort (λx y=>decide (x<=y))=(N9 A M).map (λi:Nat=>(i:Int)):=by
 obtain⟨J,rfl,hd,Z⟩:=ho
 have W:∀p∈J,∃i,i<M/\p.1=ik i:=λp X=>by
  exact h.keys p.1 (Z p X) (by rw[has_eq,List.any_eq_true];exact⟨p,X,WideAt.sameKey_self (Z p X)⟩)
 have aD:(intKeys (DataW.map J)).Nodup:=by
  unfold intKeys
  rw[List.Nodup,List.pairwise_map]
  refine hd.imp_of_mem (λ{p q} I hq aA e=>?_)
  obtain⟨i,_,hi⟩:=W p I
  obtain⟨j,_,hj⟩:=W q hq
  rw[hi,hj]at e aA
  apply aA
  have:(i:Int)=(j:Int):=e
  have:i=j:=by omega
  rw[this]
 have aC:∀x:Int,x∈intKeys (DataW.map J)↔∃i:Nat,i<M/\(A i).isSome=true/\x=(i:Int):=λx=>by
  unfold intKeys
  rw[List.mem_map]
  constructor
  ·rintro⟨p,I,rfl⟩
   obtain⟨i,hi,e⟩:=W p I
   refine⟨i,hi,?_,by rw[e];rfl⟩
   rw[<-h.has i hi,has_eq,List.any_eq_true]
   exact⟨p,I,by rw[e];exact WideAt.sameKey_self (A94 i)⟩
  ·rintro⟨i,hi,V,rfl⟩
   rw[<-h.has i hi,has_eq,List.any_eq_true]at V
   obtain⟨p,I,aB⟩:=V
   have:=WideAt.sameKey_eq aB
   exact⟨p,I,by rw[this];rfl⟩
 refine A8P ?_ (B0c A M) (λx=>?_)
 ·have h1:(U.mergeSort (λx y=>decide (x<=y))).Pairwise (λx y=>decide (x<=y)=true):=List.pairwise_mergeSort (λa b c=>by simp;omega) (λa b=>by simp;omega) U
  have h2:(U.mergeSort (λx y=>decide (x<=y))).Nodup:=((List.mergeSort_perm U _).trans I).nodup_iff.mpr aD
  exact(h1.and h2).imp (λ{a b} Y=>by have:=of_decide_eq_true Y.1;have:=Y.2;omega)
 ·rw[((List.mergeSort_perm U _).trans I).mem_iff,aC]
  unfold N9
  simp only[List.mem_map,List.mem_filter,List.mem_range]
  constructor
  ·rintro⟨i,hi,V,rfl⟩;exact⟨i,⟨hi,V⟩,rfl⟩
  ·rintro⟨i,⟨hi,V⟩,rfl⟩;exact⟨i,hi,V,rfl⟩
theorem B8W{ops:Array Oper}{rest:List Oper}{o:Oper}{a:Act}{w:World}{Q:Exit->Act->World->Prop}(W:o.guard=none)(m x:Operand)(Z:o.op=Op.lookup 138 m x false)(b N i:Nat)(A:Nat->Option (List Nat))(U:Mp w b N A)(Y:a.eval m= .map (some b))(hx:a.eval x= .int .i64 (i:Int))(hi:i<N)(hN:N<=4096)
 {X:List Nat} (V:X=(A i).getD (List.replicate 128 0))
 (hK:wpList Tryz.prog ops Q rest (a.put o.dst (.agg ((X.map u8).toArray))) w):wpList Tryz.prog ops Q (o::rest) a w:=by
 subst V
 obtain⟨D,h,d⟩:=U
 refine wpList_plain W λK' J=>?_
 obtain⟨v,ps,I,hv⟩:=h.lookup P2 Tryz.underlying138 (A2p A95) (zd:=A0G (List.replicate 128 0)) (zp:=[]) (by rw[zS,<-List.map_replicate];exact A1R _) (A3D (i:=i) (by omega))
 rw[d.at_ i hi]at hv
 have e:((A i).map A0G).getD (A0G (List.replicate 128 0))=A0G ((A i).getD (List.replicate 128 0)):=by cases A i<;>rfl
 rw[e]at hv
 rw[A2v hv]at I
 unfold Oper.wp
 simp[execOp,Z,Y,hx,I,Result.andThen]
 exact J _ _ hK
end
section
open Go.RowKit Go.Maps Go.Sort
def C1h(w:World)(G:Nat->Prop)(A:Option Addr)(I:List Nat):Prop:=0<I.length->∃g,A=some ⟨g,0,none⟩/\g<w.heap.size/\¬G g/\∀i (hi:i<I.length),w.cell? ⟨g,i,none⟩=some (.int .i64 (I[i]:Int))
theorem C1h.at_{w w':World}{G J:Nat->Prop}{A:Option Addr}{I:List Nat}{k:Nat}(h:C1h w G A I)(U:B1 G w J w')(X:k<I.length):∃g,A=some ⟨g,0,none⟩/\w'.cell? ⟨g,k,none⟩=some (.int .i64 (I[k]:Int)):=by
 obtain⟨g,rfl,Y,W,V⟩:=h (by omega)
 exact⟨g,rfl,(World.cell?_of_block (U.block g Y W)).trans (V k X)⟩
theorem A3c(A:Nat->Option (List Nat))(M:Nat):(N9 A M).length<=M:=by
 unfold N9
 exact Nat.le_trans (List.length_filter_le _ _) (by simp)
theorem B1C{A:Nat->Option (List Nat)}{M k:Nat}(I:k<(N9 A M).length):(N9 A M)[k]<M:=by
 have:=List.getElem_mem I
 unfold N9 at this
 exact List.mem_range.1 (List.mem_filter.1 this).1
theorem C2Y{w:World}{l b d n N:Nat}{g:LS}(h:Lg w l b d n N g)(hN:N-2-n<=4096)(G:Nat->Prop)(hG:Bd G w):
 Calls Tryz.prog 184 #[.func (.func 223) #[] #[.pointer (some ⟨w.heap.size,0,none⟩)]] (w.alloc (.cells #[.map (some b)] 138)) λe w'=>∃(A:Option Addr) (c:Nat),e= .returned (.slice A (N9 g.A (N-2-n)).length c)/\C1h w' G A (N9 g.A (N-2-n))/\B1 B5 w B5 w':=by
 obtain⟨D,Z,X⟩:=h.mp
 have aH:Maps.size D<=4096:=by rw[X.size];exact Nat.le_trans (A6J _ _) hN
 refine(B1B b _ D A03 w Z (by unfold maxLen;omega) (by omega)).mono ?_
 rintro e w' ⟨v,ss,rfl,U,aA,V⟩
 have Y:=A5F X (Z.entries P2) U
 have hl:ss.length=(N9 g.A (N-2-n)).length:=by
  have:=congrArg List.length Y
  simpa using this
 rw[Y,hl]at aA
 obtain⟨aF,hr⟩:=aA
 rcases hr with⟨rfl,h0⟩|⟨q,aB,J,rfl,hq,W,aD,aG,aE,aC⟩
 ·rw[h0]
  exact⟨none,0,rfl,λU=>by omega,B1.of_below V⟩
 ·refine⟨_,aB,rfl,λU=>⟨q,rfl,?_,λhg=>?_,λi hi=>?_⟩,B1.of_below V⟩
  ·exact(Array.getElem?_eq_some_iff.1 W).1
  ·have:=hG q hg;omega
  ·have hc:J.toList[i]? =some (.int .i64 ((N9 g.A (N-2-n))[i]:Int)):=by
    have I:(J.toList.take ((N9 g.A (N-2-n)).length * 1))[i]? =some (.int .i64 ((N9 g.A (N-2-n))[i]:Int)):=by
     rw[aC]
     simp[encZ,hi]
    rw[List.getElem?_take]at I
    split at I
    ·exact I
    ·cases I
   rw[show w'.cell? ⟨q,i,none⟩=J[i]? by simp[World.cell?,W]]
   simpa using hc
def BrR(w:World)(F:Nat->Prop)(d l b n N:Nat)(g:LS)(r:DS×Int)(e:Ending)(w':World):Prop:=e= .returned (.int .i64 r.2)/\∃F',Rs w' F' d l b n N r.1 g/\B1 (UF F l b) w (UF F' l b) w'
def BgL(W:World)(V:Nat->Prop)(d l b n N:Nat)(U:DS)(g:LS)(T:List (Nat×List Nat))(t:Value)(wr:World):Prop:=
 ∃(k:Nat) (I:DS) (J:Nat->Prop),k<=T.length/\t= .int .i64 (k:Int)/\P0 U n T=P0 I n (T.drop k)/\I.Q.length<=U.Q.length+k/\Rs wr J d l b n N I g/\B1 (UF V l b) W (UF J l b) wr
theorem B6D(l b d n N:Nat)(g:LS)(F:Nat->Prop)(s:DS)(w:World)(h:Rs w F d l b n N s g)(hn:2<=n/\n+3<=N/\N<=4096)(hA:AOk (N-2-n) g.A)(hq:s.Q.length<=900000):
 Calls Tryz.prog 189 #[.pointer (some ⟨l,0,none⟩)] w (BrR w F d l b n N g (Q5 s n (N-2-n) g.A)):=by
 obtain⟨R,hR⟩:∃R,R=Q5 s n (N-2-n) g.A:=⟨_,rfl⟩
 rw[<-hR]
 have HR:=C5Z hR
 have HS:=C5Z h
 have HN:=C5Z hn
 have bZ:=C5Z hA
 have HQ:=C5Z hq
 obtain⟨X,hX⟩:∃x,x=E7 s:=⟨_,rfl⟩
 have aU:=C5Z (A4n d N F s w h.dk)
 rw[<-hX]at aU
 have HX:=C5Z hX
 obtain⟨XE,aY⟩:∃x,x=X.2:=⟨_,rfl⟩
 rw[<-aY]at aU
 have aM:=C5Z aY
 have cP:=C5Z (show X.1.Q.length<=900000 by rw[hX];exact Nat.le_trans (A4U s) hq)
 have c0:=h.lg.cells.1
 clear h hn hA hq hR hX aY
 go_enter Tryz.func189,Tryz.ntmps189
 go_wp2_with fail
 refine aU.out.mono ?_
 rintro x w1 ⟨rfl,k1,a1⟩
 have aE:=C5Z (HS.out.disk a1 k1)
 have bF:=C5Z (A13 (l:=l) (b:=b) a1)
 clear a1 k1 c0
 by_cases W:XE=0
 ·subst W
  have cF:=C5Z (B6C (some b) w1)
  have aV:=C5Z (C2Y aE.out.lg (by have:=HN.out;omega) (UF F l b) aE.out.bd)
  have c7:=aE.out.lg.cells.2.2.2.2.2.2.2.1
  obtain⟨J,aB⟩:∃J,J=N9 g.A (N-2-n):=⟨_,rfl⟩
  rw[<-aB]at aV
  have cW:=C5Z aB
  obtain⟨m,hm⟩:∃m,m=J.length:=⟨_,rfl⟩
  rw[<-hm]at aV
  have HM:=C5Z hm
  have bM:=C5Z (show m<=4096 by rw[hm,aB];exact Nat.le_trans (A3c _ _) (by have:=HN.out;omega))
  obtain⟨T,hT⟩:∃T,T=V7 g.A (N-2-n):=⟨_,rfl⟩
  have HT:=C5Z hT
  have aK:=C5Z (show T.length=m by rw[hT,hm,aB];simp[V7])
  have cM:=C5Z (show∀k (hk:k<J.length) (cV:k<T.length),T[k]=(J[k],(g.A J[k]).getD (List.replicate 128 0))fromλk hk cV=>by subst hT aB;simp[V7])
  have cE:=C5Z (show∀k (hk:k<J.length),J[k]<N-2-n fromλk hk=>by subst aB;exact B1C hk)
  clear aB hm hT
  go_wp2_with fail
  refine cF.out.mono ?_
  rintro x w2 ⟨rfl,rfl⟩
  go_wp2_with fail
  refine aV.out.mono ?_
  rintro x w3 ⟨A,c,rfl,bV,a3⟩
  have cC:=C5Z bV
  have cL:=C5Z (aE.out.over a3)
  have bG:=C5Z (bF.out.trans (U7 (F:=F) (l:=l) (b:=b) a3))
  have dA:(m:Int)<=4096:=by have:=bM.out;omega
  clear bV a3 c7
  go_wp2_with fail
  go_loopw [23] (BgL w3 F d l b n N X.1 g T) (λt _=>m-(intOf t).toNat)
  case atStart=>exact⟨0,X.1,F,Nat.zero_le _,rfl,by rw[List.drop_zero],Nat.le_refl _,cL.out,B1.refl _ _⟩
  case round=>
   obtain⟨k,sk,Fk,hk,rfl,aH,bD,aA,aF⟩:=hrel
   by_cases aD:k<m
   ·have cY:(k:Int)<(m:Int):=by omega
    have aP:k<J.length:=by rw[<-HM.out];exact aD
    have bB:k<T.length:=by rw[aK.out];exact aD
    obtain⟨g0,rfl,bT⟩:=cC.out.at_ aF aP
    have aG:T.drop k=T[k]::T.drop (k+1):=(List.getElem_cons_drop bB).symm
    rw[cM.out k aP bB]at aG
    have bC:=cE.out k aP
    obtain⟨i,hi⟩:∃i,i=J[k]:=⟨_,rfl⟩
    rw[<-hi]at bT aG bC
    clear hi
    obtain⟨I,aO⟩:∃I,I=(g.A i).getD (List.replicate 128 0):=⟨_,rfl⟩
    rw[<-aO]at aG
    have bS:I.length=128:=by
     rw[aO]
     cases e:g.A i with
     |none=>simp
     |some x=>exact(bZ.out i x e).2.1
    obtain⟨U,aN⟩:∃x,x=L7 sk ((2+n+i:Nat):Int) I:=⟨_,rfl⟩
    have aI:P0 X.1 n T=if U.2=0 then P0 U.1 n (T.drop (k+1))else U:=by rw[aH,aG,aN];rfl
    have bX:U.1.Q.length<=X.1.Q.length+(k+1):=by rw[aN];exact Nat.le_trans (A4T sk _ _) (by omega)
    have bP:=C5Z aI
    have cJ:=C5Z bX
    have cH:=C5Z bD
    have bR:=C5Z bS
    have cO:=C5Z aO
    have aJ:=C5Z aA
    have aQ:=C5Z aF
    have HI:=C5Z bC
    have bK:=C5Z aD
    have cG:=C5Z aA.lg.mp
    have bO:=C5Z (show N-2-n<=4096 by have:=HN.out;omega)
    have cN:=C5Z aN
    have c7:=aA.lg.cells.2.2.2.2.2.2.2.1
    clear hk aH bD aA aF aD aP bB aG aO bS aI bX bC aN
    go_upto_region 8 with(first
     |(refine B8W rfl _ _ rfl b (N-2-n) i g.A cG.out rfl rfl HI.out bO.out cO.out ?_)
     |(refine A4p rfl rfl ?_)
     |(refine A4q rfl _ _ rfl _ rfl I bR.out rfl rfl ?_)
     |fail)
    obtain⟨z,W⟩:∃z,z=wr.heap.size:=⟨_,rfl⟩
    obtain⟨V,hV⟩:∃V,V=wr.alloc (.cells (I.map u8).toArray 141):=⟨_,rfl⟩
    rw[<-hV,<-W]
    have bA:B1 B5 wr B5 V:=by rw[hV];exact(B1.refl _ _).alloc _
    have cR:=C5Z (show C3 V z 141 (I.map u8).toArray by rw[hV,W];exact C3.new _ _ _)
    have Z:=C5Z (aJ.out.over bA)
    have cA:=C5Z (aQ.out.trans (U7 (F:=Fk) (l:=l) (b:=b) bA))
    have bY:¬Fk z:=λx=>by have:=aJ.out.dk.bd z x;omega
    have cT:=C5Z bY
    have c0:=Z.out.lg.cells.1
    have HC:=C5Z c0
    have aS:=C5Z (show V.drew.cell? ⟨l,0,none⟩=some (.pointer (some ⟨d,0,none⟩))from c0)
    have bJ:=C5Z (B0P (w:=V.drew) i (show Lg V.drew l b d n N g from⟨Z.out.lg.blk,Z.out.lg.mp⟩) (by have:=HI.out;have:=bO.out;omega) (by have:=HN.out;omega))
    have aW:=C5Z (show Calls Tryz.prog 209 #[.pointer (some ⟨d,0,none⟩),.int .i64 ((2+n+i:Nat):Int),.slice (some ⟨z,0,none⟩) 128 128] V.drew λe w'=>e= .returned (.int .i64 U.2)/\∃F',Dk w' F' d N U.1/\B1 Fk V.drew F' w' by
     rw[cN.out]
     exact A6H d N 128 _ _ Fk sk I V.drew (Z.out.dk.far ((B1.refl B5 V).drew) (λ_ x _=>x)) (show Rd V.drew 1 (.slice (some ⟨z,0,none⟩) 128 128) 128 (I.map u8)from(show C3 V.drew z 141 (I.map u8).toArray from cR.out).rdS8 bR.out) (λj hj hf=>by
      have:z=j:=by injection hj
      exact cT.out (this ▸ hf)) (by have:=cH.out;have:=cP.out;have:=bM.out;have:=bK.out;omega))
    have cB:=C5Z (show∀(F':Nat->Prop) (w':World),B1 Fk V.drew F' w'->w'.cell? ⟨l,0,none⟩=some (.pointer (some ⟨d,0,none⟩))fromλF' w' a=>(Z.out.lg.blk.keep (a.block l Z.out.lg.blk.lt (λx=>Z.out.sep l x (.inl rfl)))).cell 0)
    obtain⟨cZ,bU⟩:∃x,x=2+n+i:=⟨_,rfl⟩
    rw[<-bU]at bJ aW
    obtain⟨WE,aX⟩:∃x,x=U.2:=⟨_,rfl⟩
    rw[<-aX]at aW
    have aL:=C5Z aX
    clear hV W bA bY c7 bT bU aX
    go_wp2_with fail
    refine D8 (S:=(λw'=>w'.cell? ⟨l,0,none⟩=some (.pointer (some ⟨d,0,none⟩)))) (by with_reducible first|exact aR.out|exact aS.out|exact HC.out) (λhH=>?_)
    refine C6a 0 rfl ?_
    refine C6a 1 rfl ?_
    refine C6a 2 rfl ?_
    refine C6a 3 rfl ?_
    refine C6a 4 rfl ?_
    refine C6a 5 rfl ?_
    refine C6a 7 rfl ?_
    refine C6b 6 rfl (λK hK=>?_)
    go_simp
    refine bJ.out.mono ?_
    rintro x w6 ⟨rfl,rfl⟩
    go_wp2_with fail
    refine C6c hK (by with_reducible first|exact aR.out|exact aS.out|exact HC.out) ?_
    clear hK K hH
    intro hH
    try simp only[Act.put,sA,sB,sC]
    refine C6b 8 rfl (λK hK=>?_)
    go_simp
    refine aW.out.mono ?_
    rintro x w9 ⟨rfl,F9,k9,a9⟩
    have aR:=C5Z (cB.out F9 w9 a9)
    have cD:=C5Z k9
    have bH:=C5Z (B1.of_drew a9)
    clear k9 a9
    go_wp2_with fail
    refine C6c hK (by with_reducible first|exact aR.out|exact aS.out|exact HC.out) ?_
    clear hK K hH
    intro hH
    try simp only[Act.put,sA,sB,sC]
    refine C6a 9 rfl ?_
    refine wpAnyH_done (by kernel_rfl) ?_ _
    have bQ:=C5Z (Z.out.disk bH.out cD.out)
    have bI:=C5Z (cA.out.trans (A13 (l:=l) (b:=b) bH.out))
    clear c0
    by_cases aC:WE=0
    ·subst aC
     go_wp2_with fail
     have aD:=bK.out
     refine⟨⟨k+1,U.1,F9,by have:=aK.out;omega,by go_num,?_,cJ.out,bQ.out,bI.out⟩,by simp[intOf]<;>omega⟩
     rw[bP.out,if_pos aL.out.symm]
    ·have hb:((WE:Int)!=0)=true:=by rw[bne_iff_ne];exact aC
     have cU:((WE:Int)==0)=false:=by rw[beq_eq_false_iff_ne];exact aC
     have cX:=C5Z aC
     have HF:=C5Z (show BrR w F d l b n N g R (.returned (.int .i64 WE)) w9 by
      have e1:P0 X.1 n T=U:=by rw[bP.out,if_neg (by rw[<-aL.out];exact aC)]
      rw[HR.out]
      unfold Q5
      rw[<-HX.out,if_pos aM.out.symm,<-HT.out,e1,if_neg (by rw[<-aL.out];exact aC)]
      exact⟨by rw[aL.out],F9,bQ.out,bG.out.trans bI.out⟩)
     clear aC
     go_wp2_with fail
     go_ret
     exact HF.out
   ·obtain rfl:k=m:=by have:=aK.out;omega
    have e0:T.drop k=[]:=List.drop_eq_nil_of_le (by have:=aK.out;omega)
    rw[e0]at aH
    have aI:P0 X.1 n T=(sk,0):=aH
    obtain⟨Y,hY⟩:∃x,x=E7 sk:=⟨_,rfl⟩
    have aT:=C5Z (A4n d N Fk sk wr aA.dk)
    rw[<-hY]at aT
    have cK:=C5Z (show R=Y by
     rw[HR.out]
     unfold Q5
     rw[<-HX.out,if_pos aM.out.symm,<-HT.out,aI,if_pos rfl,hY])
    obtain⟨YE,aZ⟩:∃x,x=Y.2:=⟨_,rfl⟩
    rw[<-aZ]at aT
    have cQ:=C5Z aZ
    have aJ:=C5Z aA
    have aQ:=C5Z aF
    have c0:=aA.lg.cells.1
    clear hk aH aI e0 bD aA aF aD hY aZ
    go_wp2_with fail
    refine aT.out.mono ?_
    rintro x w9 ⟨rfl,k9,a9⟩
    have HF:=C5Z (show BrR w F d l b n N g R (.returned (.int .i64 YE)) w9 by
     rw[cK.out]
     exact⟨by rw[cQ.out],Fk,aJ.out.disk a9 k9,bG.out.trans (aQ.out.trans (A13 (l:=l) (b:=b) a9))⟩)
    clear k9 a9 c0
    go_wp2_with fail
    go_ret
    exact HF.out
 ·have hb:((XE:Int)!=0)=true:=by rw[bne_iff_ne];exact W
  have cU:((XE:Int)==0)=false:=by rw[beq_eq_false_iff_ne];exact W
  have HF:=C5Z (show BrR w F d l b n N g R (.returned (.int .i64 XE)) w1 by
   rw[HR.out]
   unfold Q5
   rw[<-HX.out,if_neg (by rw[<-aM.out];exact W)]
   exact⟨by rw[aM.out],F,aE.out,bF.out⟩)
  clear W
  go_wp2_with fail
  go_ret
  exact HF.out
end
section
open Go.RowKit Go.Maps Go.Sort Go.Shelf
def A7w:Go.Shelf.Ren:=⟨λ|7=>185|10=>207|n=>n,λ|23=>86|26=>3|3=>173|28=>262|0=>0|27=>261|33=>75|4=>4|n=>n,λ|n=>n⟩
theorem B8X:SlLaysZI.n7 Tryz.prog A7w:={
 mixed:=by kernel_rfl,
 f7:=⟨Tryz.f185.name,by decide,Tryz.func185.trans (congrArg some (by kernel_rfl))⟩,
 f10:=⟨Tryz.f207.name,by decide,Tryz.func207.trans (congrArg some (by kernel_rfl))⟩,
 t0:=Tryz.underlying0,
 a0:=Tryz.isAgg0,
 z0:=Tryz.sizeOf0,
 v0:=Tryz.zeroValue0,
 t4:=Tryz.underlying4,
 a4:=Tryz.isAgg4,
 z4:=Tryz.sizeOf4,
 v4:=Tryz.zeroValue4,
 t23:=Tryz.underlying86,
 a23:=Tryz.isAgg86,
 z23:=Tryz.sizeOf86,
 v23:=Tryz.zeroValue86,
 t26:=Tryz.underlying3,
 a26:=Tryz.isAgg3,
 z26:=Tryz.sizeOf3,
 v26:=Tryz.zeroValue3,
 t27:=Tryz.underlying261,
 a27:=Tryz.isAgg261,
 z27:=Tryz.sizeOf261,
 v27:=Tryz.zeroValue261,
 t28:=Tryz.underlying262,
 a28:=Tryz.isAgg262,
 z28:=Tryz.sizeOf262,
 v28:=Tryz.zeroValue262,
 t33:=Tryz.underlying75,
 a33:=Tryz.isAgg75,
 z33:=Tryz.sizeOf75,
 v33:=Tryz.zeroValue75 }
theorem B32(I:Option Nat)(w:World):Calls Tryz.prog 185 #[.map I] w λe w'=>e= .returned (.func (.func 207) #[] #[.pointer (some ⟨w.heap.size,0,none⟩)])/\w'=w.alloc (.cells #[.map I] 86):=
 (callsIn_wide (n:=5)).1 (AnyZI.keys_in B8X Fence.wide 5 trivial rfl I w)
theorem B0d{H:Type}(b W:Nat)(I:DataW H)(R:Value->Option (DataW H×List MemPlace))(w:World)(V:w.ownsMap Tryz.prog 3 R b W I)(aC:Maps.size I<=maxLen)(aB:Maps.size I * 8<=140737488355328):
 Calls Tryz.prog 184 #[.func (.func 207) #[] #[.pointer (some ⟨w.heap.size,0,none⟩)]] (w.alloc (.cells #[.map (some b)] 86)) λe w'=>∃(v:Value) (J:List Int),e= .returned v/\J.Perm (intKeys I)/\
  w'.ownsRow w.heap.size 3 1 v J.length ((J.mergeSort (λx y=>decide (x<=y))).map encZ)/\Below w.heap.size w w':=by
 refine(callsIn_wide (n:=5)).1 ?_
 have aA:=V.lt
 have aE:SeqGives Fence.wide 2 Tryz.prog 207 #[.pointer (some ⟨w.heap.size,0,none⟩)] encZ (λJ=>J.Perm (intKeys I)) (Maps.size I) (w.alloc (.cells #[.map (some b)] 86)):=
  AnyZI.keys_gives (ρ:=A7w) { B8X with } Fence.wide _ trivial rfl (by omega) w.heap.size b W I _ (by simp) (by simp) (by
   obtain⟨es,Z,U,X,hs,hD⟩:=V
   exact⟨es,Z,(RowKit.Below.heap_alloc _ _ b aA).trans U,X,hs,hD⟩)
 have Y:=AnyZI.sorted_in B4L Fence.wide 5 trivial trivial trivial trivial rfl (by omega) (B8V _) (enters_of Tryz.func206 (by kernel_rfl) rfl) 207 #[.pointer (some ⟨w.heap.size,0,none⟩)] trivial (enters_of Tryz.func207 (by kernel_rfl) rfl) _ _ aC aB _ aE
 refine CallsIn.mono Y ?_
 rintro e w' ⟨v,J,rfl,hS,aD,aF,U⟩
 exact⟨v,J,rfl,hS,ownsRow_base_a aD (by simp),((Below.refl _ w).alloc (Nat.le_refl _) _).trans (U.mono (by simp))⟩
theorem C44{w:World}{b M:Nat}{A0:Nat->Option (List Nat)}(h:Mp w b M A0)(hN:M<=4096)(G:Nat->Prop)(hG:Bd G w):
 Calls Tryz.prog 184 #[.func (.func 207) #[] #[.pointer (some ⟨w.heap.size,0,none⟩)]] (w.alloc (.cells #[.map (some b)] 86)) λe w'=>∃(A:Option Addr) (c:Nat),e= .returned (.slice A (N9 A0 M).length c)/\C1h w' G A (N9 A0 M)/\B1 B5 w B5 w':=by
 obtain⟨D,Z,X⟩:=h
 have aH:Maps.size D<=4096:=by rw[X.size];exact Nat.le_trans (A6J _ _) hN
 refine(B0d b _ D A03 w Z (by unfold maxLen;omega) (by omega)).mono ?_
 rintro e w' ⟨v,ss,rfl,U,aA,V⟩
 have Y:=A5F X (Z.entries P2) U
 have hl:ss.length=(N9 A0 M).length:=by
  have:=congrArg List.length Y
  simpa using this
 rw[Y,hl]at aA
 obtain⟨aF,hr⟩:=aA
 rcases hr with⟨rfl,h0⟩|⟨q,aB,J,rfl,hq,W,aD,aG,aE,aC⟩
 ·rw[h0]
  exact⟨none,0,rfl,λU=>by omega,B1.of_below V⟩
 ·refine⟨_,aB,rfl,λU=>⟨q,rfl,?_,λhg=>?_,λi hi=>?_⟩,B1.of_below V⟩
  ·exact(Array.getElem?_eq_some_iff.1 W).1
  ·have:=hG q hg;omega
  ·have hc:J.toList[i]? =some (.int .i64 ((N9 A0 M)[i]:Int)):=by
    have I:(J.toList.take ((N9 A0 M).length * 1))[i]? =some (.int .i64 ((N9 A0 M)[i]:Int)):=by
     rw[aC]
     simp[encZ,hi]
    rw[List.getElem?_take]at I
    split at I
    ·exact I
    ·cases I
   rw[show w'.cell? ⟨q,i,none⟩=J[i]? by simp[World.cell?,W]]
   simpa using hc
end
end Go.Proofs.YtbefmjiclpobjaaGreat
