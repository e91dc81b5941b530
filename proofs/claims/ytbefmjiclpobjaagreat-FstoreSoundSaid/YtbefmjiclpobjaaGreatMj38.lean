import Derived.Test.YtbefmjiclpobjaaGreatMj37
namespace Go.Proofs.YtbefmjiclpobjaaGreat
set_option maxHeartbeats 25600000
set_option maxRecDepth 30000
open Go.RowKit Go.Maps
theorem B2E(i g:Int):Tryz.prog.built 35 [(0,.int .i64 i),(1,.int .i64 g)]=some #[.int .i64 i,.int .i64 g]:=by kernel_rfl
theorem B01{ops:Array Oper}{rest:List Oper}{o:Oper}{a:Act}{w:World}{Q:Exit->Act->World->Prop}(I:o.guard=none)(x y:Operand)(J:o.op= .build 35 #[(0,x),(1,y)])(i g:Int)(U:a.eval x= .int .i64 i)(V:a.eval y= .int .i64 g)
 (h:wpList Tryz.prog ops Q rest (a.put o.dst (.agg #[.int .i64 i,.int .i64 g])) w):wpList Tryz.prog ops Q (o::rest) a w:=by
 have e:((#[(0,x),(1,y)]:Array (Nat×Operand)).map λ(i,x)=>(i,a.eval x)).toList=[(0,.int .i64 i),(1,.int .i64 g)]:=by simp[U,V]
 refine wpList_build I 35 _ J (by rw[e,B2E i g];rfl) ?_
 rw[e,B2E i g]
 exact h
theorem Rdl.step{w w':World}{l M:Nat}{H:Nat->List Nat}{F':Nat->Prop}(h:Rdl w l M H)(a:B0 B5 w F' w'):Rdl w' l M H:=λi hi W b=>h i hi W (a.nul.trans b)
theorem Am.later{w w':World}{d:Nat}{T:List Bool}{F':Nat->Prop}(h:Am w d T)(a:B0 B5 w F' w'):Am w' d T:=h.keep (a.block d h.lt (λx=>x))
theorem Io.far{w w':World}{z y n:Nat}{L:List Int}{F':Nat->Prop}(h:Io w z n L)(a:B0 (J0 y) w F' w')(I:z≠y):Io w' z n L:=C3.far1 h a I
theorem Io.over{w w':World}{z n:Nat}{L:List Int}{F':Nat->Prop}(h:Io w z n L)(a:B0 B5 w F' w'):Io w' z n L:=C3.over h a
theorem C1V{w wr:World}{z:Nat}(h:B0 (J0 z) w (J0 z) wr)(k:Nat)(u:Value):B0 (J0 z) w (J0 z) (wr.setCell ⟨z,k,none⟩ u):=h.setCell (p:=⟨z,k,none⟩) (.inl rfl) u
theorem B0.one1{w I w2:World}{z:Nat}(h:B0 (J0 z) w (J0 z) I){F':Nat->Prop}(k:B0 B5 I F' w2):B0 (J0 z) w (J0 z) w2:=h.over k
structure SoB (w1 w:World) (d o N k l M dm:Nat) (H:Nat->List Nat) (A:As):Prop where
 hs:Hs w1 w B5 d o 20 N k A
 rq:Rq H M A
 rl:Rdl w l M H
 am:Am w dm (D3 H M)
theorem SoB.ok{J w:World}{d o N k l M I:Nat}{H:Nat->List Nat}{A:As}(h:SoB J w d o N k l M I H A):OkA A:=h.hs.ok
def SnQ(W:World)(d o N I:Nat)(t:Value)(wr:World):Prop:=∃(i:Nat) (A:As),t= .int .i64 (i:Int)/\i<=I/\Hs W wr B5 d o 20 N (3 * i+3) A
def SoQ(V:World)(A:As)(H:Nat->List Nat)(M I J:Nat)(t18 t17:Value)(wr:World):Prop:=
 ∃m:Nat,t18= .int .i64 ((m+1:Nat):Int)/\t17= .int .i64 (flN A m:Int)/\m<=40/\Io wr I M (A2E H m)/\Io wr J 41 (tms A m)/\B0 B5 V B5 wr
def SpQ(V:World)(z n I:Nat)(L P:List Int)(t:Value)(wr:World):Prop:=∃k:Nat,t= .int .i64 (k:Int)/\k<=I/\Io wr z n (L++P.take k)/\B0 (J0 z) V (J0 z) wr
theorem SpQ.next{V wr:World}{z n I k p:Nat}{L P:List Int}{c:Int}(U:k<I)(J:P[k]? =some (p:Int)) (hi:Io wr z n (L++P.take k)) (ha:B0 (J0 z) V (J0 z) wr) (hc:c=(((L++P.take k).count (p:Int):Nat):Int)+1):
 SpQ V z n I L P (.int .i64 ((k:Int)+1)) (wr.setCell ⟨z,p,none⟩ (.int .i64 c)):=by
 refine⟨k+1,by simp,U,?_,C1V ha _ _⟩
 have e:L++P.take (k+1)=L++P.take k++[(p:Int)]:=by
  rw[List.take_add_one,J]
  simp
 rw[e]
 exact hi.put hc
def SrQ(V:World)(M:Nat)(t:Value)(wr:World):Prop:=∃p:Nat,t= .int .i64 (p:Int)/\p<=M/\B0 B5 V B5 wr
def SsQ(V:World)(T:List Int)(t32 t31:Value)(wr:World):Prop:=∃m:Nat,t32= .int .i64 ((m+1:Nat):Int)/\t31= .int .i64 (alN T m:Int)/\m<=40/\B0 B5 V B5 wr
theorem Sl.num{J w:World}{F:Nat->Prop}{A:Option Addr}{n c k z:Nat}{P:List Int}(h:Sl w F 3 1 (.slice A n c) n (P.map (Value.int .i64)))(U:B0 B5 J F w)(hz:z<J.heap.size)(hn:n=P.length)(hk:k<n){v:Int}(hv:P[k]? =some v):
 ∃b o,A=some ⟨b,o,none⟩/\∀wr,B0 (J0 z) w (J0 z) wr->wr.cell? ⟨b,o+k,none⟩=some (.int .i64 v):=by
 obtain⟨g,Z,e,X,_⟩:=h.form (by omega)
 injection e with e1 e2 e3
 subst e1
 refine⟨g,0,rfl,λwr a=>?_⟩
 obtain⟨b,o,I,V,W⟩:=h.rd.cells (by omega) (by decide)
 injection I with I
 injection I with e5 e6
 subst e5 e6
 have Y:g≠z:=λe=>by
  subst e
  rcases U.into g X with y|y
  ·exact y
  ·omega
 rw[World.cell?_of_block (w:=w) (a.block g V Y)]
 exact W k _ (by rw[List.getElem?_map,hv];rfl)
theorem EnO.ent{V w:World}{A:Option Addr}{n c k z:Nat}{l:List En}{y:En}(h:EnO V l (.slice A n c) w)(hz:z<V.heap.size)(Y:n=l.length)(hk:k<n)(hy:l[k]? =some y):
 ∃b o,A=some ⟨b,o,none⟩/\∀wr,B0 (J0 z) w (J0 z) wr->wr.rangeAt b (o+k * 4) (ec y):=by
 obtain⟨F,U,W⟩:=h.ex
 obtain⟨g,aA,e,J,_⟩:=U.form (by omega)
 injection e with e1 e2 e3
 subst e1
 refine⟨g,0,rfl,λwr a=>?_⟩
 obtain⟨_,b,o,I,hr⟩:=h.rd.range Y hy
 injection I with I
 injection I with e5 e6
 subst e5 e6
 have X:g<w.heap.size:=U.bd g J
 have Z:g≠z:=λe=>by
  subst e
  rcases W.into g J with q|q
  ·exact q
  ·omega
 intro j u hu
 rw[World.cell?_of_block (w:=w) (a.block g X Z)]
 exact hr j u hu
theorem B4c(w:World)(n:Int)(_:(Lit.int .i64 n).wf=true)(v2:Value)(h2:∃l,C4Y w v2 l):Calls Tryz.prog 5 #[.int .i64 n,v2] w λe w'=>e= .returned (.bool true)/\Below w.heap.size w w':=by
 obtain⟨l1,q1⟩:=h2
 have fP:=C6x (λV=>B2N n 46 120 V (by decide))
 have dF:=C6x (show Calls Tryz.prog 9 #[v2,.int .i64 40] w λx w'=>∃v',x= .returned v'/\DsO w (Y4 40 l1) v' w' from B7n v2 l1 40 (by decide) w q1.r)
 have HL:=C6x q1.r.one
 obtain⟨n1,cH⟩:∃n1,n1=(Y4 40 l1).length:=⟨_,rfl⟩
 have bF:=C6x cH
 have bZ:=C6x (show n1<=40 by rw[cH,A4A];omega)
 have fZ:(n1:Int)<=40:=by have:=bZ.out;omega
 clear q1 cH
 go_enter Tryz.func5,Tryz.ntmps5
 go_wp2_with (first
  |(go_at_call 8;refine(fP.out _).mono ?_;rintro e w1 ⟨y,rfl,y1,y2,y3,rfl⟩;obtain⟨M,rfl⟩:=Int.eq_ofNat_of_zero_le (show(0:Int)<=y by omega);have HM:=C6x (show 46<=M/\M<=120 by omega);obtain⟨N,hN⟩:∃N,N=M+22:=⟨_,rfl⟩;have aV:=C6x hN;have gI:IntKind.i64.wrap ((M:Int)+22)=(N:Int):=(by rw[IntKind.wrap_i64];omega);clear y1 y2 y3 hN)
  |(go_at_call 9;refine dF.out.mono ?_;rintro e w1 ⟨v5,rfl,ho⟩;obtain⟨A5,c5,rfl⟩:=ho.form;rw[<-bF.out]at ho⊢;have bY:=C6x (ho.dsr HL.out);have eO:=C6x ho.adv;clear ho dF)
  |(go_at_call 10;refine(C2c N (by have:=aV.out;have:=HM.out;omega) (by have:=aV.out;have:=HM.out;omega) _).mono ?_;rintro e w3 ⟨d,F,rfl,hd,I⟩;have dD:=C6x hd;have bA:=C6x I;clear hd I)
  |(go_at_call 11;refine(Hs.open_ w1 d 20 N (by have:=aV.out;have:=HM.out;omega) dD.out bA.out).mono ?_;rintro e w4 ⟨o,rfl,hs⟩;have dR:=C6x hs;clear hs dD bA gI)
  |fail)
 go_loopw [9] (SnQ w1 d o N n1) (λt _=>n1-(intOf t).toNat)
 case atStart=>exact⟨0,A0,rfl,Nat.zero_le _,dR.out⟩
 case round=>
  obtain⟨i,A,rfl,hi,hs⟩:=hrel
  have HS:=C6x hs
  have HI:=C6x hi
  clear dR
  by_cases J:i<n1
  ·have W:=C6x J
   have eD:i<(Y4 40 l1).length:=by have:=bF.out;omega
   obtain⟨x,hx⟩:∃x,x=(Y4 40 l1)[i]:=⟨_,rfl⟩
   have cM:(Y4 40 l1)[i]? =some x:=by rw[hx];exact List.getElem?_eq_getElem eD
   obtain⟨_,b,o',fV,cL⟩:=(bY.out.step HS.out.adv).range bF.out cM
   subst fV
   have fM:=C6x cL
   have c0:=B7p cL
   have eL:=bY.out.sz x (List.mem_of_getElem? cM)
   have bB:=C6x (λ(hk:0<=x.k/\x.k<5)=>B9P HS.out (by have:=HI.out;have:=bZ.out;omega) x hk eL)
   obtain⟨xk,cN⟩:∃xk,xk=x.k:=⟨_,rfl⟩
   have fQ:=C6x cN
   rw[<-cN]at c0
   have aD:(i:Int)<(n1:Int):=by omega
   clear J eD hx cM cL eL cN hi hs
   have fY:xk<0\/5<=xk\/(0<=xk/\xk<5):=by omega
   rcases fY with aB|aB|aB
   ·have k1:(0<=xk)=False:=eq_false (by omega)
    clear aB bB
    as_aux_lemma=>
     go_wp2_with fail
     exact⟨⟨i+1,A,by simp,by have:=W.out;omega,HS.out.same (by omega)⟩,by have:=W.out;simp[intOf]<;>omega⟩
   ·have k1:(0<=xk)=True:=eq_true (by omega)
    have k2:(xk<5)=False:=eq_false (by omega)
    clear aB bB
    as_aux_lemma=>
     go_wp2_with fail
     exact⟨⟨i+1,A,by simp,by have:=W.out;omega,HS.out.same (by omega)⟩,by have:=W.out;simp[intOf]<;>omega⟩
   ·have k1:(0<=xk)=True:=eq_true aB.1
    have k2:(xk<5)=True:=eq_true aB.2
    have eZ:=C6x (bB.out (by rw[<-fQ.out];exact aB))
    clear aB bB
    as_aux_lemma=>
     go_wp2_with (first
      |(refine wpList_load_mid rfl 38 (.tmp 77) rfl b _ rfl ((d11 x).toList) _ fM.out Tryz.underlying38 rfl (by rw[A17];rfl) ?_)
      |(go_at_call 14;refine eZ.out.mono ?_;rintro e w6 ⟨rfl,hs,hk⟩;have bI:=C6x hs;clear hs hk)
      |fail)
     exact⟨⟨i+1,_,by simp,by have:=W.out;omega,by rw[show 3 * (i+1)+3=3 * i+3+3 by omega];exact bI.out⟩,by have:=W.out;simp[intOf]<;>omega⟩
  ·obtain rfl:i=n1:=by omega
   have aD:¬(i:Int)<(i:Int):=by omega
   obtain⟨K,hK⟩:∃K,K=3 * i+3:=⟨_,rfl⟩
   rw[<-hK]at hs
   replace HS:=C6x hs
   clear J hi hs hK fZ bY bF bZ HI
   go_wp2_with (first
    |(go_at_call 22;refine(HS.out.again (by have:=aV.out;have:=HM.out;omega)).mono ?_;rintro e w5 ⟨l,H,rfl,hq,hl,I⟩;rw[show N-2-20=M by have:=aV.out;omega]at hq hl;have HQ:=C6x hq;have cC:=C6x hl;have dS:=C6x (HS.out.step I);clear hq hl I HS)
    |(go_at_call 23;refine(cC.out 1 (by have:=HM.out;omega) _ (B0.refl B5 _)).mono ?_;rintro e w6 ⟨z,rfl,cO,bP,hr,hl,I⟩;have dG:=C6x (RdR.in_ bP hr hl (HQ.out.sw.sd.row 1 (by have:=HM.out;omega)).2);have bI:=C6x (dS.out.step I);have dQ:=C6x (cC.out.step I);clear cO bP hr hl I dS cC)
    |(go_at_call 24;refine(B19 _ _ M _ dG.out HQ.out.sw.sd.map).mono ?_;rintro e w7 ⟨dm,rfl,hm,I⟩;have HB:=C6x (show SoB w1 w7 d o N K l M dm H A from⟨bI.out.step I,HQ.out,dQ.out.step I,hm⟩);clear hm I bI dQ dG)
    |(refine B2D rfl _ _ M (by have:=HM.out;omega) rfl rfl rfl ?_;intro aP w8 hz hb I;have fR:=C6x hz;have bQ:=C6x I;have bX:=C6x hb;clear hz hb I)
    |(refine B2D rfl _ _ 41 (by decide) rfl rfl rfl ?_;intro aI w9 hz hb I;have dN:=C6x (show aP≠aI fromλe=>by have:=C3.lt bX.out;omega);have eA:=C6x (Nat.le_trans bQ.out.size hz);have cT:=C6x (bQ.out.trans I);have dH:=C6x (bX.out.over I);have dW:=C6x hb;clear hz hb I bQ bX)
    |fail)
   go_loopw [18,17] (SoQ w7 A H M aP aI) (λt _ _=>41-(intOf t).toNat)
   case atStart=>exact⟨0,rfl,rfl,Nat.zero_le _,dH.out,dW.out,cT.out⟩
   case round=>
    obtain⟨m,rfl,rfl,hm,hi,ht,I⟩:=hrel
    have HI:=C6x hi
    have HT:=C6x ht
    have HA:=C6x I
    clear dH dW cT hi ht I
    obtain⟨q,hq⟩:∃q,q=m+1:=⟨_,rfl⟩
    rw[<-hq]
    have Z:=C6x hq
    obtain⟨fl,aN⟩:∃fl,fl=flN A m:=⟨_,rfl⟩
    rw[<-aN]
    have aS:=C6x aN
    by_cases J:m<40
    ·have W:=C6x J
     have gG:(q:Int)<=40:=by omega
     obtain⟨j,hj⟩:∃j,j=1+q:=⟨_,rfl⟩
     have gU:IntKind.i64.wrap (1+(q:Int))=(j:Int):=by rw[IntKind.wrap_i64];omega
     obtain⟨x,hx⟩:∃x,x=C9 H q:=⟨_,rfl⟩
     obtain⟨X,hX⟩:∃X,X=H j:=⟨_,rfl⟩
     have hd:=HB.out.rq.sw.sd.dec (i:=q) (by omega) (by omega)
     have eK:=HB.out.rq.sw.sd.row j (by have:=HM.out;omega)
     have dP:=C6x (λV (a:B0 B5 wr B5 V)=>show Calls Tryz.prog 23 #[.pointer (some ⟨l,0,none⟩),.int .i64 (j:Int)] V (RdR V X)from by rw[hX];exact HB.out.rl j (by have:=HM.out;omega) V (HA.out.trans a))
     have dE:=C6x (λV v (h:Rd V 1 v X.length (X.map u8))=>show Calls Tryz.prog 25 #[v] V λe w'=>e= .returned (.tuple #[.agg (ic x),.int .i64 0])/\B0 B5 V B5 w' from(A3D v X V h (by rw[hX];exact eK.2)).mono λe w' hr=>by
      have Y:dI X=x:=by rw[hX,hx,hj];rfl
      have h2:eI X=0:=by rw[hX,hj];exact hd.2.1
      have h3:e= .returned (.tuple #[.agg (ic (dI X)),.int .i64 (eI X)])/\B0 B5 V B5 w':=hr
      rw[Y,h2]at h3
      exact h3)
     have HX:=C6x hx
     have cB:=C6x (show∀a∈nzI x 8,42<=a/\a<(M:Int)by rw[hx];exact HB.out.rq.plc_at ⟨by omega,by omega⟩)
     have bH:=C6x (λV=>A3C x V)
     obtain⟨PL,bJ⟩:∃PL,PL=nzI x 8:=⟨_,rfl⟩
     rw[<-bJ]at bH cB
     have dO:=C6x bJ
     obtain⟨np,cK⟩:∃np,np=PL.length:=⟨_,rfl⟩
     rw[<-cK]at bH
     have aW:=C6x cK
     have gC:(np:Int)<=8:=by have:=A6W x 8;rw[<-bJ]at this;omega
     clear hm J hj hx hX hd eK bJ cK hq aN
     go_wp2_with (first
      |(go_at_call 23;refine(dP.out _ (B0.refl B5 _)).mono ?_;rintro e wa ⟨z,rfl,cO,bP,hr,hl,I⟩;have dZ:=C6x (show Rd _ 1 (.slice (some ⟨z,0,none⟩) 128 128) X.length (X.map u8)from by rw[hl];exact hr);have cU:=C6x I;clear cO bP hr hl I)
      |(go_at_call 25;refine(dE.out _ _ dZ.out).mono ?_;rintro e wb ⟨rfl,I⟩;have bR:=C6x (cU.out.trans I);clear I)
      |(refine B9 rfl rfl C6 ?_;intro aQ wc hz hb I;have dC:=C6x hb;have cE:=C6x (Nat.le_trans bR.out.size hz);have cV:=C6x (bR.out.trans I);clear hz hb I)
      |(refine B7 (t:=62) rfl _ _ rfl aQ dC.out rfl rfl C0 (C2 _) (C2 _) (D5 _) ?_;intro wd hb I;have bT:=C6x hb;have cW:=C6x (cV.out.fresh cE.out I);clear hb I dC)
      |(refine B6 (t:=62) rfl _ rfl aQ bT.out rfl Tryz.underlying62 rfl C0 (C2 _) ?_)
      |(go_at_call 26;refine(bH.out _).mono ?_;rintro e wf ⟨v,F3,rfl,hs,I⟩;obtain⟨A3,c3,rfl,_,_⟩:=hs.form0;have dV:=C6x hs;have dU:=C6x I;have bS:=C6x (cW.out.trans I.nul);have dB:=C6x (bT.out.over I);clear hs I)
      |fail)
     have dJ:=C6x (HI.out.over bS.out)
     have dX:=C6x (HT.out.over bS.out)
     have fI:=C6x (show aQ≠aP/\aQ≠aI from⟨λe=>by have:=C3.lt HI.out;have:=cE.out;omega,λe=>by have:=C3.lt HT.out;have:=cE.out;omega⟩)
     have fT:=C6x (show aP<wd.heap.size from Nat.lt_of_lt_of_le (C3.lt HI.out) cW.out.size)
     have cR:=C6x (HA.out.trans bS.out)
     clear dZ cU bR cV bT dP dE bH
     go_loopw [24] (SpQ wf aP M np (A2E H m) PL) (λt _=>np-(intOf t).toNat)
     case atStart=>exact⟨0,rfl,Nat.zero_le _,by rw[List.take_zero,List.append_nil];exact dJ.out,B0.refl _ _⟩
     case round=>
      obtain⟨k,rfl,hk,hi,I⟩:=hrel
      have aF:=C6x hi
      have aC:=C6x I
      clear hi I
      by_cases J:k<np
      ·have aT:=C6x J
       have aD:(k:Int)<(np:Int):=by omega
       have aH:k<PL.length:=by have:=aW.out;omega
       have hv:PL[k]? =some PL[k]:=List.getElem?_eq_getElem aH
       have hr:=cB.out _ (List.getElem_mem aH)
       obtain⟨p,hp⟩:=Int.eq_ofNat_of_zero_le (show 0<=PL[k]by omega)
       rw[hp]at hv hr
       obtain⟨b,o3,rfl,hc⟩:=dV.out.num dU.out fT.out aW.out J hv
       have c1:=hc _ aC.out
       have HV:=C6x hv
       have eJ:p<M:=by omega
       obtain⟨c2,f2⟩:=aF.out.at_ eJ
       obtain⟨U,aA⟩:∃U,U=(A2E H m++PL.take k).count (p:Int):=⟨_,rfl⟩
       rw[<-aA]at c2
       have aJ:=C6x aA
       have cF:U<=1000:=by
        rw[aA]
        have Y:=List.count_le_length (a:=(p:Int)) (l:=A2E H m++PL.take k)
        rw[List.length_append,List.length_take]at Y
        have h2:=B2C H m
        have h3:=W.out
        have h4:=aW.out
        omega
       have hw:IntKind.i64.wrap ((U:Int)+1)=(U:Int)+1:=by rw[IntKind.wrap_i64];omega
       have aM:((p:Int)<42)=False:=eq_false (by omega)
       have gK:((M:Int)<=(p:Int))=False:=eq_false (by omega)
       have eH:(0:Int)<=(p:Int):=by omega
       have gQ:(p:Int)<(M:Int):=by omega
       clear J hk aH hv hr hp hc aA cF eJ
       as_aux_lemma=>
        go_wp2_with fail
        exact⟨SpQ.next aT.out HV.out aF.out aC.out (by rw[aJ.out]),by have:=aT.out;simp[intOf]<;>omega⟩
      ·obtain rfl:k=np:=by omega
       have aD:¬(k:Int)<(k:Int):=by omega
       have bD:=C6x (show Io wr aP M (A2E H (m+1))from by
        have Y:=aF.out
        rw[aW.out,List.take_length,dO.out,HX.out,Z.out]at Y
        exact Y)
       have aX:=C6x (dX.out.far aC.out dN.out.symm)
       have bU:=C6x (C3.far1 dB.out aC.out fI.out.1)
       have aR:=C6x (cR.out.fresh fR.out aC.out)
       have aO:=HB.out.rq.f q (by have:=Z.out;omega) (by omega)
       rw[<-HX.out]at aO
       have c0:wr.cell? ⟨aQ,0,none⟩=some (.int .i64 x.k):=bU.out.cell 0
       have c1:wr.cell? ⟨aQ,1,none⟩=some (.int .i64 x.g):=bU.out.cell 1
       obtain⟨kk,eF⟩:∃kk,kk=x.k:=⟨_,rfl⟩
       obtain⟨gg,eC⟩:∃gg,gg=x.g:=⟨_,rfl⟩
       rw[<-eF]at c0 aO
       rw[<-eC]at c1 aO
       have aN:fl<=40:=by have:=B9V A m;have:=aS.out;have:=W.out;omega
       have gS:IntKind.i64.wrap ((fl:Int)+1)=(fl:Int)+1:=by rw[IntKind.wrap_i64];omega
       have gW:IntKind.i64.wrap ((q:Int)+1)=(q:Int)+1:=by rw[IntKind.wrap_i64];omega
       have aK:=C6x aO.1
       have fB:=C6x aO.2.1
       have bG:=C6x HB.out.ok
       have bM:(1:Nat)<=q:=by have:=Z.out;omega
       have bO:q<=40:=by omega
       have cA:=C6x (bG.out.ok q bM bO)
       clear J hk aO eF eC aN aD aF aC dJ dX dB cR cB aW dO dV dU HI HT HA gC
       by_cases aZ:kk=0
       ·subst aZ
        have bC:=C6x (show flN A (m+1)=fl by
         show flN A m+_=fl
         rw[<-Z.out,if_pos aK.out.symm,aS.out];rfl)
        have aG:=C6x (show tms A (m+1)=tms A m by
         show tms A m++(A.n (m+1)).l.map _=_
         rw[<-Z.out,cA.out.nol (by rw[<-aK.out];decide)]
         simp)
        clear bM bO
        as_aux_lemma=>
         go_wp2_with fail
         exact⟨⟨m+1,by have:=Z.out;simp;omega,by rw[bC.out],W.out,bD.out,by rw[aG.out];exact aX.out,aR.out⟩,by have:=Z.out;have:=W.out;simp[intOf]<;>omega⟩
       ·have fW:(kk==0)=false:=by rw[beq_eq_false_iff_ne];exact aZ
        have bC:=C6x (show flN A (m+1)=fl+1 by
         show flN A m+_=fl+1
         rw[<-Z.out,if_neg (by rw[<-aK.out];exact aZ),aS.out])
        by_cases aB:kk=1
        ·subst aB
         clear aZ fW
         obtain⟨ls,bK⟩:∃ls,ls=(A.n q).l:=⟨_,rfl⟩
         obtain⟨nl,cJ⟩:∃nl,nl=ls.length:=⟨_,rfl⟩
         have aU:=C6x cJ
         have dL:=C6x bK
         have gM:(nl:Int)<=24:=by have:=cA.out.few;rw[<-bK,<-cJ]at this;omega
         have dM:=C6x (λV (a:B0 B5 wr B5 V)=>show Calls Tryz.prog 27 #[.pointer (some ⟨o,0,none⟩),.agg #[.int .i64 (q:Int),.int .i64 gg]] V (EsR V ls 0)from by
          have Y:=(HB.out.hs.step (aR.out.trans a)).list (q:Int) gg
          have h2:U7 A (q:Int) gg 1=0:=A5p ⟨by omega,by omega,by rw[Int.toNat_natCast,<-aK.out];decide,by rw[Int.toNat_natCast];exact fB.out.symm⟩ (by rw[Int.toNat_natCast];exact aK.out.symm)
          rw[h2,show lsA A (q:Int) gg=ls from by unfold lsA;rw[if_pos h2,Int.toNat_natCast];exact bK.symm]at Y
          exact Y)
         clear bK cJ bM bO
         go_wp2_with (first
          |(refine B01 rfl _ _ rfl (q:Int) gg rfl rfl ?_)
          |(go_at_call 27;refine(dM.out _ (B0.refl _ _)).mono ?_;rintro e wg ⟨A4,c4,rfl,ho,I⟩;rw[<-aU.out]at ho⊢;have fJ:=C6x ho;have fF:=C6x (bD.out.over I);have fO:=C6x (aX.out.over I);have cX:=C6x (aR.out.trans I);have fU:=C6x (C3.lt aX.out);clear ho I)
          |fail)
         clear dM bD aX aR bU c0 c1
         go_loopw [27] (SpQ wg aI 41 nl (tms A m) (ls.map (·.i))) (λt _=>nl-(intOf t).toNat)
         case atStart=>exact⟨0,rfl,Nat.zero_le _,by rw[List.take_zero,List.append_nil];exact fO.out,B0.refl _ _⟩
         case round=>
          obtain⟨k,rfl,hk,hi,I⟩:=hrel
          have aF:=C6x hi
          have aC:=C6x I
          clear hi I
          by_cases J:k<nl
          ·have aT:=C6x J
           have aD:(k:Int)<(nl:Int):=by omega
           have aH:k<ls.length:=by have:=aU.out;omega
           obtain⟨y,hy⟩:∃y,y=ls[k]:=⟨_,rfl⟩
           have hv:ls[k]? =some y:=by rw[hy];exact List.getElem?_eq_getElem aH
           have cG:y∈(A.n q).l:=by rw[<-dL.out,hy];exact List.getElem_mem aH
           obtain⟨o1,o2,o3,o4⟩:=bG.out.okE (by have:=Z.out;omega) (by omega) cG
           have he:=bG.out.tr.ent q y (by have:=Z.out;omega) (by omega) cG
           obtain⟨b,o5,rfl,hc⟩:=fJ.out.ent fU.out aU.out J hv
           obtain⟨ys,yi,yg,yk⟩:=y
           obtain⟨p,hp⟩:=Int.eq_ofNat_of_zero_le (show 0<=yi by have:=o1.2.1;exact Int.le_of_lt this)
           have gD:yi=(p:Int):=hp
           subst gD
           have gF:p<=40:=o3
           have hq:=hc _ aC.out
           have e1:wr.cell? ⟨b,o5+k * 4+1,none⟩=some (.int .i64 (p:Int)):=hq 1 _ rfl
           have e3:wr.cell? ⟨b,o5+k * 4+3,none⟩=some (.int .i64 yk):=hq 3 _ rfl
           have fL:=C6x (show wr.rangeAt b (o5+k * 4+1) [.int .i64 (p:Int),.int .i64 yg]fromλj u hu=>by
            have:=hq (1+j) u (by rw[show(ec ⟨ys,(p:Int),yg,yk⟩)=[.string ys,.int .i64 (p:Int),.int .i64 yg,.int .i64 yk]from rfl];match j,hu with
             |0,hu=>exact hu
             |1,hu=>exact hu
             |j+2,hu=>simp at hu)
            rw[Nat.add_assoc];exact this)
           obtain⟨vv,eM⟩:∃vv,vv=(A.n p).v:=⟨_,rfl⟩
           obtain⟨nn,eG⟩:∃nn,nn=atN (A.n p):=⟨_,rfl⟩
           have eW:=C6x (cX.out.fresh eA.out aC.out)
           have eU:=C6x (λV (a:B0 B5 wr B5 V)=>show Calls Tryz.prog 28 #[.pointer (some ⟨o,0,none⟩),.agg #[.int .i64 (p:Int),.int .i64 yg]] V λe w'=>e= .returned (.tuple #[.agg #[.int .i64 yk,.int .u64 (vv:Int),.int .i64 nn],.int .i64 0])/\B0 B5 V B5 w' from by
            have Y:=(HB.out.hs.step (eW.out.trans a)).attr (p:Int) yg
            have h2:T4 A (p:Int) yg:=o4
            have h3:(A.n p).k=yk:=he.1
            unfold atV atE at Y
            rw[if_pos h2,if_pos h2,Int.toNat_natCast,h3,<-eM,<-eG]at Y
            exact Y)
           have HV:=C6x (show(ls.map (·.i))[k]? =some (p:Int)by rw[List.getElem?_map,hv];rfl)
           obtain⟨U,aA⟩:∃U,U=(tms A m++(ls.map (·.i)).take k).count (p:Int):=⟨_,rfl⟩
           have aJ:=C6x aA
           have cF:U<=1000:=by
            rw[aA]
            have Y:=List.count_le_length (a:=(p:Int)) (l:=tms A m++(ls.map (·.i)).take k)
            rw[List.length_append,List.length_take,List.length_map]at Y
            have h2:=bG.out.tms_len (m:=m) (by have:=W.out;omega)
            have h3:=W.out
            have h4:=aU.out
            omega
           have hw:IntKind.i64.wrap ((U:Int)+1)=(U:Int)+1:=by rw[IntKind.wrap_i64];omega
           have fK:=C6x (show p<41 by omega)
           have gO:(p:Int)<41:=by omega
           have eH:(0:Int)<=(p:Int):=by omega
           have fC:=C6x hc
           clear J hk aH hv hy cG o1 o2 o3 o4 he hc hq eM eG aA cF gF hp
           as_aux_lemma=>
            go_upto_region 46 with(first
             |(refine wpList_load_mid rfl 35 (.tmp 181) rfl b _ rfl [.int .i64 (p:Int),.int .i64 yg] _ fL.out Tryz.underlying35 rfl (by rw[B1];rfl) ?_)
             |(go_at_call 28;refine(eU.out _ (B0.refl _ _)).mono ?_;rintro e wh ⟨rfl,I⟩;have cY:=C6x I;clear I e1 e3)
             |(refine B9 rfl rfl A23 ?_;intro cP wi hz hb I;have fS:=C6x (Nat.le_trans cY.out.size hz);have eY:=C6x hb;have eX:=C6x (cY.out.trans I);clear hz hb I)
             |(refine B7 (t:=70) rfl _ _ rfl cP eY.out rfl rfl Z2 rfl rfl (A76 _ _ _) ?_;intro wj hb I;have cZ:=C6x (eX.out.fresh fS.out I);have x0:wj.drew.cell? ⟨cP,0,none⟩=some (.int .i64 yk):=(hb.cell 0);have cQ:=C6x (aC.out.one1 cZ.out);have hq:=fC.out _ cQ.out.drew;have e1:wj.drew.cell? ⟨b,o5+k * 4+1,none⟩=some (.int .i64 (p:Int)):=(hq 1 _ rfl);have e3:wj.drew.cell? ⟨b,o5+k * 4+3,none⟩=some (.int .i64 yk):=(hq 3 _ rfl);have dK:=C6x (aF.out.over cZ.out);obtain⟨c2,f2⟩:=(show Io wj.drew aI 41 (tms A m++(ls.map (·.i)).take k)from dK.out).at_ fK.out;rw[<-aJ.out]at c2;clear hb I hq)
             |fail)
            have fN:=C6x (And.intro x0 e3)
            clear x0 e3
            refine D6 (S:=(λw'=>w'.cell? ⟨cP,0,none⟩=some (.int .i64 yk)/\w'.cell? ⟨b,o5+k * 4+3,none⟩=some (.int .i64 yk))) (by first|with_reducible exact fN.out) (λhH=>?_)
            refine C62 0 rfl ?_
            refine C62 1 rfl ?_
            refine C62 2 rfl ?_
            refine C62 3 rfl ?_
            refine C62 4 rfl ?_
            refine C62 5 rfl ?_
            refine C62 6 rfl ?_
            refine C62 7 rfl ?_
            refine C62 8 rfl ?_
            refine C62 9 rfl ?_
            refine C62 10 rfl ?_
            refine C62 11 rfl ?_
            refine wpAnyH_done (by kernel_rfl) ?_ _
            have eQ:=C6x cQ.out.drew
            have fD:=C6x (show Io wj.drew aI 41 (tms A m++(ls.map (·.i)).take k)from dK.out)
            go_wp2_with fail
            exact⟨SpQ.next aT.out HV.out fD.out eQ.out (by rw[aJ.out]),by have:=aT.out;simp[intOf]<;>omega⟩
          ·obtain rfl:k=nl:=by omega
           have aD:¬(k:Int)<(k:Int):=by omega
           have aG:=C6x (show Io wr aI 41 (tms A (m+1))from by
            have Y:=aF.out
            rw[show k=(ls.map (·.i)).length by rw[List.length_map];exact aU.out,List.take_length,dL.out,Z.out]at Y
            exact Y)
           have fE:=C6x (fF.out.far aC.out dN.out)
           have bA:=C6x (cX.out.fresh eA.out aC.out)
           clear J hk
           as_aux_lemma=>
            go_wp2_with fail
            exact⟨⟨m+1,by have:=Z.out;simp;omega,by rw[bC.out];simp,W.out,fE.out,aG.out,bA.out⟩,by have:=Z.out;have:=W.out;simp[intOf]<;>omega⟩
        ·have gL:(kk==1)=false:=by rw[beq_eq_false_iff_ne];exact aB
         have aG:=C6x (show tms A (m+1)=tms A m by
          show tms A m++(A.n (m+1)).l.map _=_
          rw[<-Z.out,cA.out.nol (by rw[<-aK.out];exact aB)]
          simp)
         clear aZ aB bM bO
         as_aux_lemma=>
          go_wp2_with fail
          exact⟨⟨m+1,by have:=Z.out;simp;omega,by rw[bC.out];simp,W.out,bD.out,by rw[aG.out];exact aX.out,aR.out⟩,by have:=Z.out;have:=W.out;simp[intOf]<;>omega⟩
    ·obtain rfl:m=40:=by omega
     have gG:¬(q:Int)<=40:=by omega
     have fH:=C6x (show M<=1024 by have:=HM.out;omega)
     have fA:=C6x (show alN (tms A 40) 40+1=fl by rw[aS.out];exact HB.out.ok.all_files 40 (by decide) (by decide))
     clear J hq hm aN Z aS
     go_wp2_with fail
     go_loopw [30] (SrQ wr M) (λt _=>M-(intOf t).toNat)
     case atStart=>exact⟨0,rfl,Nat.zero_le _,B0.refl _ _⟩
     case round=>
      obtain⟨p,rfl,hp,I⟩:=hrel
      have aE:=C6x I
      clear I
      by_cases J:p<M
      ·have aL:=C6x J
       have aD:(p:Int)<(M:Int):=by omega
       have eH:(0:Int)<=(p:Int):=by omega
       have gJ:(M:Int)<=1024:=by have:=fH.out;omega
       obtain⟨c2,f2⟩:=(HI.out.over aE.out).at_ J
       have hh:=HB.out.rq.home_at J
       have bV:=C6x (λV (a:B0 B5 wr B5 V)=>C2F V dm (D3 H M) (HB.out.am.later (HA.out.trans (aE.out.trans a))) (p:Int))
       obtain⟨U,aA⟩:∃U,U=(A2E H 40).count (p:Int):=⟨_,rfl⟩
       rw[<-aA]at c2 hh
       clear aA J hp
       rcases hh with⟨aM,hT,hc⟩|⟨aM,rfl,hT⟩|⟨aM,rfl,hT⟩
       ·have eN:((p:Int)<42)=True:=eq_true (by omega)
        have fX:¬(1:Int)<(U:Int):=by omega
        clear aM hc
        as_aux_lemma=>
         go_wp2_with (first
          |(go_at_call 29;refine(bV.out _ (B0.refl _ _)).mono ?_;rintro e _ ⟨rfl,j9,rfl⟩;rw[hT])
          |fail)
         exact⟨⟨p+1,by simp,aL.out,aE.out.trans ((B0.refl B5 _).drewN j9)⟩,by have:=aL.out;simp[intOf]<;>omega⟩
       ·have eN:((p:Int)<42)=False:=eq_false (by omega)
        clear aM
        as_aux_lemma=>
         go_wp2_with (first
          |(go_at_call 29;refine(bV.out _ (B0.refl _ _)).mono ?_;rintro e _ ⟨rfl,j9,rfl⟩;rw[hT])
          |fail)
         exact⟨⟨p+1,by simp,aL.out,aE.out.trans ((B0.refl B5 _).drewN j9)⟩,by have:=aL.out;simp[intOf]<;>omega⟩
       ·have eN:((p:Int)<42)=False:=eq_false (by omega)
        clear aM
        as_aux_lemma=>
         go_wp2_with (first
          |(go_at_call 29;refine(bV.out _ (B0.refl _ _)).mono ?_;rintro e _ ⟨rfl,j9,rfl⟩;rw[hT])
          |fail)
         exact⟨⟨p+1,by simp,aL.out,aE.out.trans ((B0.refl B5 _).drewN j9)⟩,by have:=aL.out;simp[intOf]<;>omega⟩
      ·obtain rfl:p=M:=by omega
       have aD:¬(p:Int)<(p:Int):=by omega
       have eT:=C6x (HA.out.trans aE.out)
       have aG:=C6x (HT.out.over aE.out)
       clear J hp
       go_wp2_with fail
       go_loopw [32,31] (SsQ wr (tms A 40)) (λt _ _=>41-(intOf t).toNat)
       case atStart=>exact⟨0,rfl,rfl,Nat.zero_le _,B0.refl _ _⟩
       case round=>
        obtain⟨m,rfl,rfl,hm,I⟩:=hrel
        have dA:=C6x I
        obtain⟨r,hr⟩:∃r,r=m+1:=⟨_,rfl⟩
        rw[<-hr]
        have cD:=C6x hr
        have dY:=C6x (aG.out.over I)
        obtain⟨al,aY⟩:∃al,al=alN (tms A 40) m:=⟨_,rfl⟩
        rw[<-aY]
        have eR:=C6x aY
        have eB:al<=40:=by have:=B9W (T:=tms A 40) (λa=>A18 (HB.out.ok.tms_pair (Nat.le_refl 40)) a) m;omega
        clear I
        by_cases J:m<40
        ·have W:=C6x J
         have gH:(r:Int)<=40:=by omega
         have gR:(0:Int)<=(r:Int):=by omega
         obtain⟨c2,f2⟩:=dY.out.at_ (k:=r) (by omega)
         have hc:=A18 (HB.out.ok.tms_pair (Nat.le_refl 40)) (r:Int)
         obtain⟨U,aA⟩:∃U,U=(tms A 40).count (r:Int):=⟨_,rfl⟩
         rw[<-aA]at c2 hc
         have aJ:=C6x aA
         have hw:IntKind.i64.wrap ((al:Int)+(U:Int))=(al:Int)+(U:Int):=by rw[IntKind.wrap_i64];omega
         have fX:¬(1:Int)<(U:Int):=by omega
         have HX:=C6x (show alN (tms A 40) (m+1)=al+U by show alN (tms A 40) m+(tms A 40).count ((m+1:Nat):Int)=_;rw[eR.out,aJ.out,cD.out])
         clear J hm hr aA hc aY eB
         as_aux_lemma=>
          go_wp2_with fail
          exact⟨⟨m+1,by have:=cD.out;simp;omega,by rw[HX.out];simp,W.out,dA.out⟩,by have:=cD.out;have:=W.out;simp[intOf]<;>omega⟩
        ·obtain rfl:m=40:=by omega
         have gH:¬(r:Int)<=40:=by omega
         obtain⟨c2,f2⟩:=dY.out.at_ (k:=1) (by decide)
         have hz:(tms A 40).count ((1:Nat):Int)=0:=by rw[HB.out.ok.tm_count (by decide) (by decide),if_pos (.inl rfl)]
         rw[hz]at c2
         have gV:IntKind.i64.wrap ((fl:Int)-1)=(al:Int):=by have:=fA.out;rw[<-aY]at this;rw[IntKind.wrap_i64];omega
         clear J hm hr aY eB hz
         as_aux_lemma=>
          go_wp2_with (first
           |(go_at_call 17;refine(B0w _).mono ?_;rintro e wL ⟨rfl,I⟩;have fG:=C6x ((eO.out.trans (HB.out.hs.adv.trans (eT.out.trans dA.out))).trans I);clear I)
           |fail)
          go_ret
          exact⟨rfl,fG.out.toBelow⟩
end Go.Proofs.YtbefmjiclpobjaaGreat
