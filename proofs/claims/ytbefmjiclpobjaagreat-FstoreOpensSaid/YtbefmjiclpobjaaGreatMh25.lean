import Derived.Test.YtbefmjiclpobjaaGreatMh22
import Derived.Test.YtbefmjiclpobjaaGreatMh24
import Derived.Test.YtbefmjiclpobjaaGreatMh06
import Derived.Test.YtbefmjiclpobjaaGreatMh08
import Derived.Test.YtbefmjiclpobjaaGreatMh07
namespace Go.Proofs.YtbefmjiclpobjaaGreat
set_option maxHeartbeats 6400000
set_option maxRecDepth 3000
section
open Go.RowKit Go.Maps
def D5(A:Nat->Option (List Nat))(M:Nat):List Pt:=(L8 A M).map (λi=>⟨((i:Nat):Int),(A i).getD (List.replicate 128 0)⟩)
theorem R4(A:Nat->Option (List Nat))(M:Nat):(D5 A M).length=(L8 A M).length:=List.length_map _
def C20(w:World)(P:Nat->Pt)(n:Nat)(t3 t15:Value)(wr:World):Prop:=∃k A q F qs,k<=n/\t15= .int .i64 (k:Int)/\t3= .slice A k q/\QW w P k (.slice A k q) F qs wr
def B6E(w:World)(ps:List Pt)(x:Ending)(w':World):Prop:=∃A0 I,x= .returned (.slice A0 ps.length I)/\(∀G,Bd G w->QRd w' G (.slice A0 ps.length I) ps)/\A8 B0 w B0 w'
theorem C06{w:World}{c m l o M:Nat}{e:Int}{A:Nat->Option (List Nat)}(I:C0 w c 175 #[.pointer (some ⟨l,0,none⟩),.map (some m),.pointer (some ⟨o,0,none⟩),.int .i64 e])(hm:Mp w m M A)(hM:M<=4096)(aQ:AOk M A):
 Calls Tryz.prog 148 #[.pointer (some ⟨c,0,none⟩)] w (B6E w (D5 A M)):=by
 have HB:=C3t I
 have HM:=C3t hm
 have bD:=C3t hM
 have bG:=C3t aQ
 have c1:w.cell? ⟨c,1,none⟩=some (.map (some m)):=I.cell 1
 have HK:=C3t (B1v (some m) w)
 have aF:=C3t (C1Q hm hM B0 (λ_ x=>x.elim))
 obtain⟨J,U⟩:∃J,J=L8 A M:=⟨_,rfl⟩
 have bB:=C3t U
 rw[<-U]at aF
 obtain⟨n,W⟩:∃n,n=J.length:=⟨_,rfl⟩
 rw[<-W]at aF
 have HN:=C3t W
 have aE:=C3t (show n<=4096 by rw[W,U];exact Nat.le_trans (A1N A M) hM)
 have bT:(n:Int)<=4096:=by have:=aE.out;omega
 obtain⟨P,hP⟩:∃P:Nat->Pt,P=λk=>(D5 A M).getD k ⟨0,[]⟩:=⟨_,rfl⟩
 have bI:=C3t (show∀k (hk:k<J.length),P k=⟨(J[k]:Int),(A J[k]).getD (List.replicate 128 0)⟩by
  subst U
  intro k hk
  rw[hP]
  simp only[D5]
  rw[List.getD_eq_getElem?_getD,List.getElem?_map,List.getElem?_eq_getElem hk];rfl)
 have aL:=C3t (show(List.range n).map P=D5 A M by
  apply List.ext_getElem
  ·rw[List.length_map,List.length_range,R4,W,U]
  ·intro i h1 h2
   rw[List.getElem_map,List.getElem_range,hP]
   simp only
   rw[List.getD_eq_getElem?_getD,List.getElem?_eq_getElem h2];rfl)
 have aD:=C3t (show(D5 A M).length=n by rw[R4,W,U])
 obtain⟨ps,aR⟩:∃ps,ps=D5 A M:=⟨_,rfl⟩
 rw[<-aR]at aL aD⊢
 clear I hm hM aQ U W hP aR
 go_enter Tryz.func148,Tryz.ntmps148
 go_wp2_with (first
  |(go_at_call 185;refine HK.out.mono ?_;rintro r w1 ⟨rfl,rfl⟩)
  |(go_at_call 184;refine aF.out.mono ?_;rintro r w2 ⟨Ak,ck,rfl,aP,aM⟩;have bA:=C3t aP;have aK:=C3t aM;clear aP aM c1)
  |fail)
 go_loopw [3,15] (C20 w2 P n) (λ_ t _=>n-(intOf t).toNat)
 case atStart=>exact⟨0,none,0,B0,[],Nat.zero_le _,rfl,rfl,QW.nil _ _⟩
 case round=>
  obtain⟨k,A3,q3,F3,qs,hk,rfl,rfl,hw⟩:=hrel
  have HW:=C3t hw
  have aG:=C3t (aK.out.trans (hw.adv.sub (G:=B0) (λ_ x=>x.elim)))
  by_cases aA:k<n
  ·have aB:k<J.length:=by rw[<-HN.out];exact aA
   obtain⟨gk,rfl,bM⟩:=bA.out.at_ (hw.adv.sub (G:=B0) (λ_ x=>x.elim)) aB
   have aC:=bI.out k aB
   have aI:J[k]<M:=by
    have h2:=bB.out
    subst h2
    exact A9N aB
   obtain⟨i,hi⟩:∃i,i=J[k]:=⟨_,rfl⟩
   rw[<-hi]at bM aC aI
   obtain⟨X,hX⟩:∃X,X=(A i).getD (List.replicate 128 0):=⟨_,rfl⟩
   rw[<-hX]at aC
   have HX:=C3t hX
   have Y:=C3t (show X.length=128 by
    rw[hX]
    cases e:A i with
    |none=>simp
    |some x=>exact(bG.out i x e).2.1)
   have aX:=C3t aI
   have bJ:=C3t aC
   have bC:=C3t aA
   have bS:(k:Int)<(n:Int):=by omega
   have c1:wr.cell? ⟨c,1,none⟩=some (.map (some m)):=(HB.out.over aG.out).cell 1
   have bF:=C3t (HM.out.keep (aG.out.block m HM.out.lt (λx=>x)))
   have aY:=C3t (show k+1<=maxLen by have:=aE.out;unfold maxLen;omega)
   have aZ:=C3t (show(k+1) * 32<=140737488355328 by have:=aE.out;omega)
   clear hk hw aB hi hX aI aC aA
   go_wp2_with (first
    |(refine A3P rfl _ _ rfl m M i A bF.out rfl rfl aX.out bD.out HX.out ?_)
    |(refine B6 (t:=173) rfl rfl Z4 ?_;intro V w5 hz I Z;have aH:=C3t hz;have aV:=C3t I;have aS:=C3t Z;clear hz I Z)
    |(refine B5 (t:=173) rfl _ _ rfl V aV.out rfl rfl S5 (by have:=Y.out;simpa using this) A0i (A1h X) ?_;intro w6 I Z;have bR:=C3t I;have aT:=C3t (aS.out.fresh aH.out Z);have HU:=C3t ((HW.out.step aT.out).step ((A8.refl B0 w6).alloc (.cells #[.int .i64 (i:Int),.slice (some ⟨V,0,none⟩) 128 128] 239)));have bK:=C3t ((I.rdS8 Y.out).up (.cells #[.int .i64 (i:Int),.slice (some ⟨V,0,none⟩) 128 128] 239));clear I Z)
    |(at_builtin;refine A1d rfl (.tmp 26) (.tmp 30) 202 239 rfl Tryz.underlying202 B2C rfl (by decide) rfl HU.out.sl.own ⟨w6.heap.size,0,none⟩ 1 1 rfl [.int .i64 (i:Int),.slice (some ⟨V,0,none⟩) 128 128] rfl B8M C2z aY.out aZ.out ?_;intro v' w8 aJ aO aN;obtain⟨a8,k8,rfl⟩:=(A8T aJ);have bH:=C3t aJ;have aW:=C3t aO;have aU:=C3t aN;clear aJ aO aN)
    |fail)
   have bO:∀g,(Value.slice (some ⟨V,0,none⟩) 128 128).ownBlock=some g->0<128->¬F3 g/\w2.heap.size<=g:=λg hg _=>by
    have e:V=g:=by simpa[Value.ownBlock]using hg
    subst e
    refine⟨λhF=>?_,Nat.le_trans HW.out.adv.size aH.out⟩
    have:=HW.out.sl.bd V hF
    have:=aH.out
    omega
   obtain⟨F8,bQ,bP⟩:=HU.out.push (p:=⟨(i:Int),X⟩) bJ.out (by simp only;rw[Y.out];exact bK.out) (by simp only;rw[Y.out];exact bO) (by simp only;rw[Y.out];exact bH.out) aW.out aU.out
   have aA:=bC.out
   exact⟨⟨k+1,a8,k8,F8,bQ,by omega,by go_num,rfl,bP⟩,by simp[intOf]<;>omega⟩
  ·obtain rfl:k=n:=by omega
   have HF:=C3t (show B6E w ps (.returned (.slice A3 k q3)) wr from⟨A3,q3,by rw[aD.out],λG hG=>by
    rw[aD.out,<-aL.out]
    exact HW.out.qrd (λg hg=>Nat.lt_of_lt_of_le (hG g hg) aK.out.size),aG.out⟩)
   clear hk hw aA
   go_wp2_with fail
   go_ret
   exact HF.out
end
section
open Go.RowKit
def A1z(s:DS)(n:Nat)(I:Int)(e:Nat)(h:Hd):DS×Int:=
 if(0<=I/\I+1<(n:Int))/\hOk e h then(if(J5 s (I+((h.g%2:Nat):Int)) (A0q e h)).2=0 then D4 (J5 s (I+((h.g%2:Nat):Int)) (A0q e h)).1 else J5 s (I+((h.g%2:Nat):Int)) (A0q e h))else(s,2)
theorem B6F{s:DS}{n:Nat}{I:Int}{e:Nat}{h:Hd}(k:¬((0<=I/\I+1<(n:Int))/\hOk e h)):A1z s n I e h=(s,2):=if_neg k
def A3R(w:World)(F:Nat->Prop)(d n:Nat)(r:DS×Int)(x:Ending)(w':World):Prop:=x= .returned (.int .i64 r.2)/\∃F',Dk w' F' d n r.1/\A8 F w F' w'
theorem A3S{F F':Nat->Prop}{w U w2:World}(h:A8 B0 w B0 U)(k:A8 F U F' w2):A8 F w F' w2:=
 ⟨k.os.trans h.os,k.tape.trans h.tape,k.output.trans h.output,Nat.le_trans h.size k.size,λj I V=>(k.block j (Nat.lt_of_lt_of_le I h.size) V).trans (h.block j I (λx=>x)),λj I=>by
  rcases k.into j I with J|J
  ·exact .inl J
  ·right;have:=h.size;omega⟩
theorem B8N{I:Int}{n g:Nat}(h:0<=I/\I+1<(n:Int))(J:n<=4096):IntKind.i64.wrap (I+((g%2:Nat):Int))=I+((g%2:Nat):Int):=by
 rw[IntKind.wrap_i64];omega
theorem B6G(d n:Nat)(F:Nat->Prop)(s:DS)(I:Int)(e:Nat)(h:Hd)(w:World)(X:Dk w F d n s)(hq:s.Q.length<=900000)(hn:n<=4096)(aY:2<=n)(ht:h.t<18446744073709551616)(hf:h.f<18446744073709551616):
 Calls Tryz.prog 211 #[.pointer (some ⟨d,0,none⟩),.int .i64 I,.int .u64 (e:Int),.agg #[.int .u64 (h.g:Int),.int .u64 (h.t:Int),.int .u64 (h.f:Int)]] w (A3R w F d n (A1z s n I e h)):=by
 obtain⟨g,t,f⟩:=h
 simp only at ht hf⊢
 obtain⟨y,hy⟩:∃y,y=w.heap.size:=⟨_,rfl⟩
 obtain⟨V,hV⟩:∃V,V=w.alloc (.cells #[.int .u64 (g:Int),.int .u64 (t:Int),.int .u64 (f:Int)] 135):=⟨_,rfl⟩
 have HY:=C3t (show C0 V y 135 #[.int .u64 (g:Int),.int .u64 (t:Int),.int .u64 (f:Int)]by rw[hV,hy];exact C0.new _ _ _)
 have HA:=C3t (show A8 B0 w B0 V by rw[hV];exact(A8.refl _ _).alloc _)
 have HR:=C3t (X.far HA.out (λ_ h _=>h))
 have HV:=C3t hV
 have aX:=C3t hy
 have HQ:=C3t hq
 have aU:=C3t (B3A e ⟨g,t,f⟩ V ht hf)
 have HN:=C3t hn
 have bF:IntKind.i64.wrap ((n:Int)-2)=(n:Int)-2:=by rw[IntKind.wrap_i64];omega
 have bC:((n:Int)==0)=false:=by rw[beq_eq_false_iff_ne];omega
 obtain⟨s0,s1,s2⟩:=HY.out.three
 have aM:∀Z,A8 B0 V B0 Z->¬((0<=I/\I+1<(n:Int))/\hOk e ⟨g,t,f⟩)->A3R w F d n (A1z s n I e ⟨g,t,f⟩) (.returned (.int .i64 2)) Z:=λZ ha hk=>by
  rw[B6F hk]
  exact⟨rfl,F,HR.out.far ha (λ_ h _=>h),(HA.out.trans ha).same (λ_ x=>x.elim)⟩
 have aB:=C3t aM
 have aO:=A1H d n F s V HR.out
 have aA:=C3t aO
 clear X hV hy hq ht hf hn aY aM aO
 go_enter Tryz.func211,Tryz.ntmps211
 go_upto_region 1 with(fail)
 rw[<-HV.out,<-aX.out]
 by_cases h0:I<0
 ·have J:=C3t (aB.out V (A8.refl _ _) (λk=>by omega))
  go_wp2_with fail
  refine aA.out.mono ?_
  rintro x w9 ⟨rfl,rfl⟩
  go_wp2_with fail
  go_ret
  exact J.out
 ·have bA:0<=I:=by omega
  clear h0
  by_cases h1:(n:Int)-2<I
  ·have J:=C3t (aB.out V (A8.refl _ _) (λk=>by omega))
   go_wp2_with fail
   refine aA.out.mono ?_
   rintro x w8 ⟨rfl,rfl⟩
   go_wp2_with fail
   refine aA.out.mono ?_
   rintro x w9 ⟨rfl,rfl⟩
   go_wp2_with fail
   go_ret
   exact J.out
  ·have bB:I<=(n:Int)-2:=by omega
   have aG:=C3t (show 0<=I/\I+1<(n:Int)by omega)
   clear h1
   go_wp2_with fail
   refine aA.out.mono ?_
   rintro x w8 ⟨rfl,rfl⟩
   go_wp2_with fail
   refine aA.out.mono ?_
   rintro x w9 ⟨rfl,rfl⟩
   go_wp2_with fail
   refine aU.out.mono ?_
   intro x Z h1
   obtain⟨A,m,k,F1,rfl,Y,p1,n1⟩:=h1
   obtain⟨E,hE⟩:∃E:Int,E=if hOk e ⟨g,t,f⟩then 0 else 2:=⟨_,rfl⟩
   rw[<-hE]
   have HE:=C3t hE
   have aQ:=C3t Y
   have aR:=C3t p1
   have aW:=C3t (HY.out.keep (Y.block y HY.out.lt (λh=>h)))
   have aV:=C3t (show∀j,(Value.slice A m k).ownBlock=some j->(hOk e ⟨g,t,f⟩)->¬F j fromλj hj ho hg=>by
    obtain⟨rfl,hs⟩:=p1 ho
    rcases Y.into j (hs.inF j hj)with h|h
    ·exact h
    ·have:=HR.out.bd j hg;omega)
   have aF:=C3t (HA.out.trans (Y.sub (G:=B0) (λ_ h=>h.elim)))
   have aS:=C3t (HR.out.far Y (λ_ h _=>h))
   obtain⟨z0,z1,z2⟩:=aW.out.three
   clear hE Y p1 n1 s0 s1 s2
   by_cases U:hOk e ⟨g,t,f⟩
   ·obtain rfl:E=0:=by rw[HE.out,if_pos U]
    obtain⟨rfl,hs⟩:=aR.out U
    have aZ:=C3t U
    have HS:=C3t hs
    obtain⟨r,X⟩:∃r,r=g%2:=⟨_,rfl⟩
    have bD:IntKind.i64.wrap (I+(r:Int))=I+(r:Int):=by rw[X];exact B8N aG.out HN.out
    obtain⟨W,hW⟩:∃W,W=J5 s (I+(r:Int)) (A0q e ⟨g,t,f⟩):=⟨_,rfl⟩
    have aN:A1z s n I e ⟨g,t,f⟩=if W.2=0 then D4 W.1 else W:=by
     unfold A1z
     rw[if_pos ⟨aG.out,U⟩,hW,X]
    have aI:=C3t aN
    have aP:∀v,A8 B0 Z B0 v->Calls Tryz.prog 209 #[.pointer (some ⟨d,0,none⟩),.int .i64 (I+(r:Int)),.slice A 128 k] v λe w'=>e= .returned (.int .i64 W.2)/\∃G',Dk w' G' d n W.1/\A8 F v G' w':=λv hv=>by
     rw[hW]
     exact A5r d n 128 _ _ F s _ v (aS.out.far hv (λ_ h _=>h)) (hs.rd.far (λ_ _ _ h=>hv.block _ h (λh=>h)) hv.size) (λj hj hg=>aV.out j hj U hg) (by have:=HQ.out;omega)
    have aK:=C3t aP
    obtain⟨WE,aD⟩:∃E,E=W.2:=⟨_,rfl⟩
    rw[<-aD]at aK
    have aC:=C3t aD
    have aT:=C3t X
    clear U hs X hW aN aP aD
    go_wp2_with fail
    refine(A6E g t f _).mono ?_
    rintro x w5 ⟨rfl,a5⟩
    rw[<-aT.out]
    have aE:=C3t a5
    clear a5
    go_wp2_with fail
    refine(aK.out w5 aE.out).mono ?_
    rintro x w2 ⟨rfl,G2,k2,t2⟩
    have aH:=C3t k2
    have aJ:=C3t (A3S aE.out t2)
    clear k2 t2
    by_cases hz:WE=0
    ·subst hz
     go_wp2_with fail
     refine(A2V d n G2 W.1 w2 aH.out).mono ?_
     rintro x w3 ⟨rfl,k3,t3⟩
     have J:=C3t (show A3R w F d n (A1z s n I e ⟨g,t,f⟩) (.returned (.int .i64 (D4 W.1).2)) w3 from by
      rw[aI.out,if_pos aC.out.symm]
      exact⟨rfl,G2,k3,A3S aF.out (aJ.out.trans t3)⟩)
     obtain⟨E3,aL⟩:∃E,E=(D4 W.1).2:=⟨_,rfl⟩
     rw[<-aL]at J⊢
     clear k3 t3 aL
     go_wp2_with fail
     go_ret
     exact J.out
    ·have bG:(WE==0)=false:=by rw[beq_eq_false_iff_ne];exact hz
     have J:=C3t (show A3R w F d n (A1z s n I e ⟨g,t,f⟩) (.returned (.int .i64 WE)) w2 from by
      rw[aI.out,if_neg (by rw[<-aC.out];exact hz)]
      exact⟨by rw[aC.out],G2,aH.out,A3S aF.out aJ.out⟩)
     clear hz
     go_wp2_with fail
     go_ret
     exact J.out
   ·obtain rfl:E=2:=by rw[HE.out,if_neg U]
    have J:=C3t (aB.out Z (aQ.out.sub (λ_ h=>h.elim)) (λk=>U k.2))
    clear U
    go_wp2_with fail
    go_ret
    exact J.out
end
section
open Go.RowKit Go.Maps
def U1(s:DS)(N I:Nat)(h:Hd):DS×Int:=if 1099511627775<h.g then(s,8)else A1z s N 0 I h
def SvC(w:World)(l d z I g t f:Nat):Prop:=w.cell? ⟨l,0,none⟩=some (.pointer (some ⟨d,0,none⟩))/\w.cell? ⟨l,6,none⟩=some (.int .u64 (I:Int))/\w.cell? ⟨z,0,none⟩=some (.int .u64 (g:Int))/\w.cell? ⟨z,1,none⟩=some (.int .u64 (t:Int))/\w.cell? ⟨z,2,none⟩=some (.int .u64 (f:Int))
theorem B6H(l b d n N:Nat)(g:LS)(F:Nat->Prop)(s:DS)(h:Hd)(w:World)(hr:Rs w F d l b n N s g)(hq:s.Q.length<=900000)(hN:2<=N/\N<=4096)(hg:h.g<18446744073709551616)(ht:h.t<18446744073709551616)(hf:h.f<18446744073709551616):
 Calls Tryz.prog 190 #[.pointer (some ⟨l,0,none⟩),.agg #[.int .u64 (h.g:Int),.int .u64 (h.t:Int),.int .u64 (h.f:Int)]] w (BrR w F d l b n N g (U1 s N g.ep h)):=by
 obtain⟨R,U⟩:∃R,R=U1 s N g.ep h:=⟨_,rfl⟩
 rw[<-U]
 obtain⟨x,t,f⟩:=h
 simp only at hg ht hf⊢
 obtain⟨V,Y⟩:∃V,V=w.alloc (.cells #[.int .u64 (x:Int),.int .u64 (t:Int),.int .u64 (f:Int)] 135):=⟨_,rfl⟩
 obtain⟨z,hz⟩:∃z,z=w.heap.size:=⟨_,rfl⟩
 have Z:A8 B0 w B0 V:=by rw[Y];exact(A8.refl _ _).alloc _
 have X:=C3t (show C0 V z 135 #[.int .u64 (x:Int),.int .u64 (t:Int),.int .u64 (f:Int)]by rw[Y,hz];exact C0.new _ _ _)
 have I:=C3t (hr.over Z)
 have aK:=C3t Z
 have aE:¬F z:=λy=>by have:=hr.dk.bd z y;omega
 obtain⟨J,aA⟩:∃y,y=g.ep:=⟨_,rfl⟩
 rw[<-aA]at U
 have W:=C3t (show SvC V l d z J x t f from⟨I.out.lg.cells.1,by rw[aA];exact I.out.lg.cells.2.2.2.2.2.2.1,X.out.three.1,X.out.three.2.1,X.out.three.2.2⟩)
 have aH:=C3t (show SvC V.drew l d z J x t f from W.out)
 have aL:=C3t (show∀(F':Nat->Prop) (w':World),A8 F V.drew F' w'->SvC w' l d z J x t f fromλF' w' a=>by
  have hb:=I.out.lg.blk.keep (a.block l I.out.lg.blk.lt (λy=>I.out.sep l y (.inl rfl)))
  have aC:=(X.out.keep (a.block z X.out.lt aE)).three
  exact⟨hb.cell 0,by rw[aA];exact hb.cell 6,aC.1,aC.2.1,aC.2.2⟩)
 have HV:=C3t Y
 have HZ:=C3t hz
 have HR:=C3t U
 by_cases hx:1099511627775<x
 ·have HF:=C3t (show BrR w F d l b n N g R (.returned (.int .i64 8)) V by
   rw[U]
   unfold U1
   rw[if_pos hx]
   exact⟨rfl,F,I.out,Q8 Z⟩)
  have aD:(1099511627775:Int)<(x:Int):=by omega
  obtain⟨c0,c6,z0,z1,z2⟩:=W.out
  clear hr hq hN hg ht hf Y hz Z aE aA hx U
  go_enter Tryz.func190,Tryz.ntmps190
  go_upto_region 1 with(fail)
  rw[<-HV.out,<-HZ.out]
  go_wp2_with fail
  go_ret
  exact HF.out
 ·have aJ:R=A1z s N 0 J ⟨x,t,f⟩:=by rw[U];unfold U1;rw[if_neg hx]
  have aI:=C3t (show Calls Tryz.prog 211 #[.pointer (some ⟨d,0,none⟩),.int .i64 0,.int .u64 (J:Int),.agg #[.int .u64 (x:Int),.int .u64 (t:Int),.int .u64 (f:Int)]] V.drew (A3R V.drew F d N R)by
   rw[aJ]
   exact B6G d N F s 0 J ⟨x,t,f⟩ V.drew (I.out.dk.far ((A8.refl B0 V).drew) (λ_ x _=>x)) hq hN.2 hN.1 ht hf)
  have aD:¬(1099511627775:Int)<(x:Int):=by omega
  have aO:((1099511627775:Int)<(x:Int))=False:=eq_false aD
  obtain⟨c0,c6,z0,z1,z2⟩:=W.out
  obtain⟨RE,aB⟩:∃y,y=R.2:=⟨_,rfl⟩
  rw[show A3R V.drew F d N R=λe w'=>e= .returned (.int .i64 RE)/\∃F',Dk w' F' d N R.1/\A8 F V.drew F' w' by rw[aB];rfl]at aI
  have aN:=C3t aB
  clear hr hq hN hg ht hf Y hz Z aE aA hx U aJ aB aD
  go_enter Tryz.func190,Tryz.ntmps190
  go_upto_region 1 with(fail)
  rw[<-HV.out,<-HZ.out]
  go_wp2_with fail
  refine E6 (S:=(λw'=>SvC w' l d z J x t f)) (by with_reducible first|exact aG.out|exact aH.out|exact W.out) (λhH=>?_)
  refine C35 0 rfl ?_
  refine C35 1 rfl ?_
  refine C35 2 rfl ?_
  refine C35 3 rfl ?_
  refine C35 4 rfl ?_
  refine C35 5 rfl ?_
  refine C35 6 rfl ?_
  refine C35 7 rfl ?_
  refine C35 8 rfl ?_
  refine C3v 9 rfl (λK hK=>?_)
  go_simp
  refine aI.out.mono ?_
  rintro x w9 ⟨rfl,F9,k9,a9⟩
  have aG:=C3t (aL.out F9 w9 a9)
  have aM:=C3t k9
  have aF:=C3t (A8.of_drew a9)
  clear k9 a9
  go_wp2_with fail
  refine C3w hK (by with_reducible first|exact aG.out|exact aH.out|exact W.out) ?_
  clear hK K hH
  intro hH
  try simp only[Act.put,sA,sB,sC]
  refine C35 10 rfl ?_
  refine wpAnyH_done (by kernel_rfl) ?_ _
  have HF:=C3t (show BrR w F d l b n N g R (.returned (.int .i64 RE)) w9 from⟨by rw[aN.out],F9,I.out.disk aF.out aM.out,(Q8 aK.out).trans (A04 (l:=l) (b:=b) aF.out)⟩)
  clear c0 c6 z0 z1 z2
  go_wp2_with fail
  go_ret
  exact HF.out
end
section
open Go.RowKit Go.Maps
theorem B2L(n:Nat):∀(T:List (Nat×List Nat)) (s:DS),(L9 s n T).1.Q.length<=s.Q.length+T.length
 |[],s=>by simp[L9]
 |q::qs,s=>by
  unfold L9
  have I:=A36 s ((2+n+q.1:Nat):Int) q.2
  have J:=B2L n qs (J5 s ((2+n+q.1:Nat):Int) q.2).1
  split
  ·simp only[List.length_cons];omega
  ·simp only[List.length_cons];omega
theorem B41(s:DS)(n M:Nat)(A:Nat->Option (List Nat)):(N4 s n M A).1.Q.length<=s.Q.length+M:=by
 have I:=A37 s
 have J:=B2L n (R7 A M) (D4 s).1
 have h3:(R7 A M).length<=M:=by unfold R7;rw[List.length_map];exact A1N A M
 have U:=A37 (L9 (D4 s).1 n (R7 A M)).1
 unfold N4
 split
 ·split<;>omega
 ·omega
theorem B6J{ops:Array Oper}{rest:List Oper}{o:Oper}{a:Act}{w:World}{Q:Exit->Act->World->Prop}(W:o.guard=none)(m:Operand)(Y:o.op=Op.call { callee:=Callee.builtin Builtin.clear,args:= #[m],argTypes:= #[138] })(b N:Nat)(A:Nat->Option (List Nat))(V:Mp w b N A)(X:a.eval m= .map (some b))
 (hK:∀w',Mp w' b N (λ_=>none)->w.grownBy w' (some b)->wpList Tryz.prog ops Q rest (a.put o.dst (.tuple #[])) w'):wpList Tryz.prog ops Q (o::rest) a w:=by
 obtain⟨D,⟨es,J,I,hF⟩,d⟩:=V
 refine wpList_plain W λK' U=>?_
 have Z:(Builtin.clear_ #[138] o.type #[.map (some b)]).run Tryz.prog w= .ok (.tuple #[]) (ChangeMaps.setBlock w b (.map #[] J)):=by
  simp[Builtin.clear_,run_underlying Tryz.underlying138,MapKept.run_getObj_map I,MapKept.run_setObj_map _ I,Result.andThen,ChangeMaps.setBlock]
 unfold Oper.wp
 simp[execOp,Y,resolve,invoke,builtin,X,Z,Result.andThen]
 refine U _ _ (hK _ ⟨.map [],?_,MpD.empty N⟩ ⟨rfl,rfl,rfl,by simp[ChangeMaps.setBlock],λi _ hi=>ChangeMaps.heap_setBlock_other I _ (λe=>hi (by rw[e]))⟩)
 rw[A5t]
 exact⟨#[],J,ChangeMaps.heap_setBlock_same I _,⟨by simp,MapKept.stamped_empty J,by simp⟩,Nat.le_refl _,rfl⟩
def V8(g:LS):Hd:=⟨g.h.g+1,g.next,g.ep⟩
def D8(s:DS)(n N:Nat)(g:LS):(DS×LS)×Int:=
 if g.err=0 then
  if(N4 s n (N-2-n) g.A).2=0 then
   if(U1 (N4 s n (N-2-n) g.A).1 N g.ep (V8 g)).2=0 then(((U1 (N4 s n (N-2-n) g.A).1 N g.ep (V8 g)).1,{ g with h:=V8 g,A:=λ_=>none }),0)
   else(((U1 (N4 s n (N-2-n) g.A).1 N g.ep (V8 g)).1,{ g with err:=(U1 (N4 s n (N-2-n) g.A).1 N g.ep (V8 g)).2 }),(U1 (N4 s n (N-2-n) g.A).1 N g.ep (V8 g)).2)
  else(((N4 s n (N-2-n) g.A).1,{ g with err:=(N4 s n (N-2-n) g.A).2 }),(N4 s n (N-2-n) g.A).2)
 else((s,g),g.err)
def CkC(w:World)(l g t f:Nat):Prop:=w.cell? ⟨l,2,none⟩=some (.int .u64 (g:Int))/\w.cell? ⟨l,5,none⟩=some (.int .u64 (t:Int))/\w.cell? ⟨l,6,none⟩=some (.int .u64 (f:Int))
theorem Lg.ckc{w:World}{l b d n N:Nat}{g:LS}(h:Lg w l b d n N g):CkC w l g.h.g g.next g.ep:=⟨h.cells.2.2.1,h.cells.2.2.2.2.2.1,h.cells.2.2.2.2.2.2.1⟩
theorem Lg.there2{w:World}{l b d n N:Nat}{g:LS}(h:Lg w l b d n N g):w.there l 2 3:=λj I=>by
 obtain⟨-, -,c2,c3,c4, -⟩:=h.cells
 match j,I with
 |0,_=>exact⟨by rw[show 2+0=2 from rfl,c2];rfl,h.blk.frozen 2⟩
 |1,_=>exact⟨by rw[show 2+1=3 from rfl,c3];rfl,h.blk.frozen 3⟩
 |2,_=>exact⟨by rw[show 2+2=4 from rfl,c4];rfl,h.blk.frozen 4⟩
theorem Lg.setHead{w:World}{l b d n N:Nat}{g:LS}(h:Lg w l b d n N g)(x:Hd):Lg (w.setCells l 2 (h3 (x.g:Int) (x.t:Int) (x.f:Int)).toList) l b d n N { g with h:=x }:=
 ⟨show C0 (((w.setCell ⟨l,2,none⟩ (.int .u64 (x.g:Int))).setCell ⟨l,3,none⟩ (.int .u64 (x.t:Int))).setCell ⟨l,4,none⟩ (.int .u64 (x.f:Int))) l 140 _ from((h.blk.set_ 2 _).set_ 3 _).set_ 4 _,
  h.mp.keep (N1 l (λe=>h.ne e.symm) _ 2 w)⟩
theorem Lg.cleared{w w':World}{l b d n N:Nat}{g:LS}(h:Lg w l b d n N g)(J:Mp w' b (N-2-n) (λ_=>none))(I:w.grownBy w' (some b)):Lg w' l b d n N { g with A:=λ_=>none }:=
 ⟨h.blk.keep (I.block l h.blk.lt (λe=>h.ne (by injection e))),J⟩
theorem B42{w w':World}{l b:Nat}(I:w.grownBy w' (some b)):A8 (LF l b) w (LF l b) w':=
 ⟨I.os,I.tape,I.output,I.size,λk J U=>I.block k J (λe=>U (.inr (by injection e))),λ_ J=>.inl J⟩
theorem B43(l b d n N:Nat)(g:LS)(F:Nat->Prop)(s:DS)(w:World)(h:Rs w F d l b n N s g)(hn:2<=n/\n+3<=N/\N<=4096)(hA:AOk (N-2-n) g.A)(hq:s.Q.length<=800000)(aW:g.h.g<=1099511627776)(aX:g.next<18446744073709551616)(aV:g.ep<18446744073709551616):
 Calls Tryz.prog 150 #[.pointer (some ⟨l,0,none⟩)] w (WrR w F d l b n N (D8 s n N g)):=by
 obtain⟨R,hR⟩:∃R,R=D8 s n N g:=⟨_,rfl⟩
 rw[<-hR]
 have HR:=C3t hR
 have HS:=C3t h
 have aR:=C3t (A38 h.lg)
 obtain⟨E,hE⟩:∃E,E=g.err:=⟨_,rfl⟩
 rw[<-hE]at aR
 have HE:=C3t hE
 have aJ:=C3t (B4x l b d n N g F s w h hn hA (by omega))
 obtain⟨X,hX⟩:∃x,x=N4 s n (N-2-n) g.A:=⟨_,rfl⟩
 have bV:=C3t (show X.1.Q.length<=900000 by rw[hX];exact Nat.le_trans (B41 s n _ _) (by omega))
 rw[<-hX]at aJ
 have HX:=C3t hX
 obtain⟨XE,aT⟩:∃x,x=X.2:=⟨_,rfl⟩
 rw[show BrR w F d l b n N g X=λe w'=>e= .returned (.int .i64 XE)/\∃F',Rs w' F' d l b n N X.1 g/\A8 (UF F l b) w (UF F' l b) w' by rw[aT];rfl]at aJ
 have aF:=C3t aT
 obtain⟨gg,aH⟩:∃x,x=g.h.g:=⟨_,rfl⟩
 obtain⟨nx,aI⟩:∃x,x=g.next:=⟨_,rfl⟩
 obtain⟨I,aD⟩:∃x,x=g.ep:=⟨_,rfl⟩
 obtain⟨gN,bJ⟩:∃x,x=gg+1:=⟨_,rfl⟩
 have bF:V8 g=⟨gN,nx,I⟩:=by rw[bJ,aH,aI,aD];rfl
 have bD:=C3t bF
 rw[<-aH]at aW
 rw[<-aI]at aX
 rw[<-aD]at aV
 have cA:=C3t aW
 have bQ:=C3t aX
 have bM:=C3t aV
 have HN:=C3t hn
 have aN:=C3t (show∀(w':World) (F':Nat->Prop) (s':DS),Rs w' F' d l b n N s' g->CkC w' l gg nx I fromλ_ _ _ h=>by rw[aH,aI,aD];exact h.lg.ckc)
 have bC:=C3t (show I=g.ep from aD)
 have cB:IntKind.u64.wrap ((gg:Int)+1)=(gN:Int):=by
  rw[show(gg:Int)+1=(gN:Int)by omega]
  exact A2c (by omega)
 have bO:=C3t (show gN<18446744073709551616 by omega)
 clear h hn hA hq aW aX aV hR hE hX aT aH aI aD bF bJ
 by_cases h0:E=0
 ·subst h0
  go_enter Tryz.func150,Tryz.ntmps150
  go_wp2_with fail
  refine aR.out.mono ?_
  rintro x U ⟨rfl,rfl⟩
  go_wp2_with fail
  refine aJ.out.mono ?_
  rintro x U ⟨rfl,F1,r1,a1⟩
  have Z:=C3t r1
  have aY:=C3t a1
  clear r1 a1
  by_cases J:XE=0
  ·subst J
   have aB:=C3t (aN.out _ _ _ Z.out)
   have aK:=C3t (show CkC U.drew l gg nx I from aB.out)
   obtain⟨z,J⟩:∃z,z=U.heap.size:=⟨_,rfl⟩
   have HZ:=C3t J
   obtain⟨c2,c5,c6⟩:=aB.out
   clear J
   go_wp2_with fail
   refine E6 (S:=(λw'=>CkC w' l gg nx I)) (by with_reducible first|exact aM.out|exact aL.out|exact aK.out|exact aB.out) (λhH=>?_)
   refine C30 0 rfl ?_
   refine C30 1 rfl ?_
   refine C30 2 rfl ?_
   refine C30 3 rfl ?_
   refine C30 4 rfl ?_
   refine C30 5 rfl ?_
   refine C30 6 rfl ?_
   refine C30 7 rfl ?_
   refine C30 8 rfl ?_
   refine C30 9 rfl ?_
   refine C30 10 rfl ?_
   refine C30 11 rfl ?_
   refine C30 12 rfl ?_
   refine C30 13 rfl ?_
   refine C30 14 rfl ?_
   refine C3v 15 rfl (λK hK=>?_)
   go_simp
   have bB:=C3t (C0.drew (C0.new U 135 #[.int .u64 0,.int .u64 0,.int .u64 0]))
   have bA:=C3t (((A8.refl B0 U).alloc (.cells #[.int .u64 0,.int .u64 0,.int .u64 0] 135)).drew)
   have aL:=C3t (aN.out _ _ _ (Z.out.over bA.out))
   refine C3w hK (by with_reducible first|exact aM.out|exact aL.out|exact aK.out|exact aB.out) ?_
   clear hK K hH
   intro hH
   try simp only[Act.put,sA,sB,sC]
   refine C3v 16 rfl (λK hK=>?_)
   refine Y7 P2 rfl (.tmp 5) (.tmp 33) rfl _ _ (h3 (gN:Int) (nx:Int) (I:Int)) bB.out rfl rfl (U5 _ _ _) rfl rfl ?_
   have aA:=C3t (bB.out.putAll (D:=h3 (gN:Int) (nx:Int) (I:Int)) rfl)
   have aE:=C3t (A8.lsetCells (h3 (gN:Int) (nx:Int) (I:Int)).toList 0 _ bA.out (.inr (Nat.le_refl U.heap.size)))
   have aM:=C3t (aN.out _ _ _ (Z.out.over aE.out))
   refine C3w hK (by with_reducible first|exact aM.out|exact aL.out|exact aK.out|exact aB.out) ?_
   clear hK K hH
   intro hH
   try simp only[Act.put]
   refine wpAnyH_done (by kernel_rfl) ?_ _
   obtain⟨V,hV⟩:∃V,V=((U.alloc (.cells #[.int .u64 0,.int .u64 0,.int .u64 0] 135)).drew.setCells U.heap.size 0 (h3 (gN:Int) (nx:Int) (I:Int)).toList):=⟨_,rfl⟩
   rw[<-hV]at aA aE⊢
   rw[<-HZ.out]at aA⊢
   have bR:=C3t (Z.out.over aE.out)
   obtain⟨Y,hY⟩:∃x,x=U1 X.1 N I ⟨gN,nx,I⟩:=⟨_,rfl⟩
   obtain⟨YE,aU⟩:∃x,x=Y.2:=⟨_,rfl⟩
   have bS:=C3t (show Calls Tryz.prog 190 #[.pointer (some ⟨l,0,none⟩),.agg #[.int .u64 (gN:Int),.int .u64 (nx:Int),.int .u64 (I:Int)]] V λe w'=>e= .returned (.int .i64 YE)/\∃F',Rs w' F' d l b n N Y.1 g/\A8 (UF F1 l b) V (UF F' l b) w' by
    have h:=B6H l b d n N g F1 X.1 ⟨gN,nx,I⟩ V bR.out bV.out (by have:=HN.out;omega) bO.out bQ.out bM.out
    rw[<-bC.out,<-hY]at h
    rw[aU]
    exact h)
   have HY:=C3t (show U1 X.1 N g.ep (V8 g)=Y by rw[bD.out,<-bC.out,hY])
   have aS:=C3t aU
   have bX:=C3t (show¬UF F1 l b z fromλJ=>by have:=Z.out.bd z J;rw[HZ.out]at this;omega)
   obtain⟨z0,z1,z2⟩:=(show C0 V z 135 #[.int .u64 (gN:Int),.int .u64 (nx:Int),.int .u64 (I:Int)]from aA.out).three
   clear hV hY aU c2 c5 c6
   go_wp2_with fail
   refine bS.out.mono ?_
   rintro x w2 ⟨rfl,F2,r2,a2⟩
   have aC:=C3t r2
   have aZ:=C3t (aY.out.trans ((Q8 (F:=F1) (l:=l) (b:=b) aE.out).trans a2))
   obtain⟨y0,y1,y2⟩:=(show C0 w2 z 135 #[.int .u64 (gN:Int),.int .u64 (nx:Int),.int .u64 (I:Int)]from(show C0 V z 135 #[.int .u64 (gN:Int),.int .u64 (nx:Int),.int .u64 (I:Int)]from aA.out).keep (a2.block z aA.out.lt bX.out)).three
   clear r2 a2 z0 z1 z2
   by_cases J:YE=0
   ·subst J
    obtain⟨W3,aG⟩:∃W,W=w2.setCells l 2 (h3 (gN:Int) (nx:Int) (I:Int)).toList:=⟨_,rfl⟩
    have bU:=C3t aG
    have aP:=C3t (show Lg W3 l b d n N { g with h:=⟨gN,nx,I⟩ } by rw[aG];exact aC.out.lg.setHead ⟨gN,nx,I⟩)
    have bK:=C3t (show A8 (LF l b) w2 (LF l b) W3 by rw[aG];exact A8.lsetCells _ 2 _ (A8.refl _ w2) (.inl (.inl rfl)))
    have bT:=C3t aC.out.lg.there2
    have bP:=C3t (show Mp W3 b (N-2-n) g.A from aP.out.mp)
    have c7:=aP.out.cells.2.2.2.2.2.2.2.1
    clear aG
    go_wp2_with (first
     |(refine wpList_store_mid rfl 135 (.tmp 45) (.tmp 43) rfl l 2 (h3 (gN:Int) (nx:Int) (I:Int)) rfl rfl bT.out P2 (U5 _ _ _) ?_;rw[<-bU.out])
     |(refine B6J rfl (.tmp 49) rfl b (N-2-n) g.A bP.out rfl (λw4 bZ bI=>?_))
     |fail)
    go_ret
    have bY:=aP.out.cleared bZ bI
    have bG:=bK.out.trans (B42 (l:=l) bI)
    rw[HR.out]
    unfold D8
    rw[if_pos HE.out.symm,<-HX.out,if_pos aF.out.symm,HY.out,if_pos aS.out.symm,bD.out]
    exact⟨rfl,F2,aC.out.log bG bY,aZ.out.trans (A1K bG)⟩
   ·have hb:((YE:Int)!=0)=true:=by rw[bne_iff_ne];exact J
    have bH:((YE:Int)==0)=false:=by rw[beq_eq_false_iff_ne];exact J
    have aO:=C3t (A2Z YE aC.out.lg)
    have aQ:=C3t J
    clear J
    go_wp2_with fail
    refine aO.out.mono ?_
    rintro x w3 ⟨rfl,l3,a3⟩
    have HF:=C3t (show WrR w F d l b n N R (.returned (.int .i64 YE)) w3 by
     rw[HR.out]
     unfold D8
     rw[if_pos HE.out.symm,<-HX.out,if_pos aF.out.symm,HY.out,if_neg (by rw[<-aS.out];exact aQ.out),<-aS.out]
     exact⟨rfl,F2,aC.out.log a3 l3,aZ.out.trans (A1K a3)⟩)
    clear l3 a3
    go_wp2_with fail
    go_ret
    exact HF.out
  ·have hb:((XE:Int)!=0)=true:=by rw[bne_iff_ne];exact J
   have bH:((XE:Int)==0)=false:=by rw[beq_eq_false_iff_ne];exact J
   have aO:=C3t (A2Z XE Z.out.lg)
   have aQ:=C3t J
   clear J
   go_wp2_with fail
   refine aO.out.mono ?_
   rintro x w3 ⟨rfl,l3,a3⟩
   have HF:=C3t (show WrR w F d l b n N R (.returned (.int .i64 XE)) w3 by
    rw[HR.out]
    unfold D8
    rw[if_pos HE.out.symm,<-HX.out,if_neg (by rw[<-aF.out];exact aQ.out),<-aF.out]
    exact⟨rfl,F1,Z.out.log a3 l3,aY.out.trans (A1K a3)⟩)
   clear l3 a3
   go_wp2_with fail
   go_ret
   exact HF.out
 ·have hb:((E:Int)!=0)=true:=by rw[bne_iff_ne];exact h0
  have bH:((E:Int)==0)=false:=by rw[beq_eq_false_iff_ne];exact h0
  have HF:=C3t (show WrR w F d l b n N R (.returned (.int .i64 E)) w by
   rw[HR.out]
   unfold D8
   rw[if_neg (by rw[<-HE.out];exact h0),<-HE.out]
   exact⟨rfl,F,HS.out,A8.refl _ _⟩)
  clear h0
  go_enter Tryz.func150,Tryz.ntmps150
  go_wp2_with fail
  refine aR.out.mono ?_
  rintro x U ⟨rfl,rfl⟩
  go_wp2_with fail
  go_ret
  exact HF.out
end
section
open Go.RowKit Go.Maps
def V5(s:DS)(n N:Nat)(g:LS)(ps:List Pt):(DS×LS)×Int:=
 if ps.length=0 then((s,g),0)else
  if(J0 s n N g ps).2=8 then
   if(D8 s n N g).2=0 then J0 (D8 s n N g).1.1 n N (D8 s n N g).1.2 ps else D8 s n N g
  else J0 s n N g ps
theorem B6K(s:DS)(i:Int)(l:List Nat):(J5 s i l).2≠8:=by
 unfold J5
 (repeat' split)<;>simp
theorem A9W:∀(P:List Pc) (s:DS) (n:Nat),(M7 s n P).2≠8
 |[],s,n=>by simp[M7]
 |p::ps,s,n=>by
  unfold M7
  split
  ·exact A9W ps _ n
  ·exact B6K _ _ _
theorem B6L{s:DS}{n N:Nat}{g:LS}{ps:List Pt}(h:(J0 s n N g ps).2=8):(J0 s n N g ps).1=(s,g):=by
 unfold J0 at h⊢
 split at h
 ·rename_i I
  rw[if_pos I]
  split at h
  ·rename_i J
   rw[if_pos J]
   split at h
   ·rename_i h3
    rw[if_pos h3]
    split at h
    ·cases h
    ·exact absurd h (A9W _ _ _)
   ·rename_i h3
    rw[if_neg h3]
  ·rename_i J
   rw[if_neg J]
 ·rename_i I
  rw[if_neg I]
structure WOk (n N:Nat) (s:DS) (g:LS):Prop where
 ok:GOk n N s g
 q:s.Q.length<=800000
 hg:g.h.g<=1099511627776
 A:AOk (N-2-n) g.A
 ok2:(D8 s n N g).2=0->GOk n N (D8 s n N g).1.1 (D8 s n N g).1.2
theorem B8P{w:World}{c m l o b d n N:Nat}{e:Int}{A:Nat->Option (List Nat)}{F:Nat->Prop}{s:DS}{g:LS}(hb:C0 w c 175 #[.pointer (some ⟨l,0,none⟩),.map (some m),.pointer (some ⟨o,0,none⟩),.int .i64 e])(hc:¬UF F l b c)(hm:Mp w m (N-2-n) A)(hM:N<=4096)(aU:AOk (N-2-n) A)
 (hr:Rs w F d l b n N s g) (hw:WOk n N s g):Calls Tryz.prog 106 #[.pointer (some ⟨c,0,none⟩)] w (WrR w F d l b n N (V5 s n N g (D5 A (N-2-n)))):=by
 have HB:=C3t hb
 have HC:=C3t hc
 have HR:=C3t hr
 have aH:=C3t (C06 hb hm (by omega) aU)
 have Z:∀p∈D5 A (N-2-n),∀x∈p.d,x<256:=λp hp=>by
  unfold D5 at hp
  obtain⟨i,hi,rfl⟩:=List.mem_map.1 hp
  intro x hx
  simp only at hx
  cases J:A i with
  |none=>rw[J]at hx;simp only[Option.getD_none]at hx;rw[(List.mem_replicate.1 hx).2];decide
  |some y=>rw[J]at hx;exact(aU i y J).2.2 x hx
 have H8:=C3t Z
 have V:=C3t hw
 have HN:=C3t hM
 obtain⟨ps,aV⟩:∃ps,ps=D5 A (N-2-n):=⟨_,rfl⟩
 rw[<-aV]at aH H8⊢
 unfold B6E at aH
 obtain⟨k,hk⟩:∃k,k=ps.length:=⟨_,rfl⟩
 rw[<-hk]at aH
 have HK:=C3t hk
 have bQ:(k:Int)<=9223372036854775807:=by
  rw[hk,aV,R4]
  have:=A1N A (N-2-n)
  omega
 have aS:=C3t (λW Y s1 g1 (r:Rs W Y d l b n N s1 g1) (ok:GOk n N s1 g1) A0 X (q:QRd W (UF Y l b) (.slice A0 k X) ps)=>B3J l b d n N g1 Y s1 A0 k X ps W r ok q H8.out)
 clear hb hc hm hM aU hr Z aV hw hk
 by_cases aO:k=0
 ·have HG:=C3t (show V5 s n N g ps=((s,g),0)by unfold V5;rw[if_pos (by rw[<-HK.out];exact aO)])
  subst aO
  rw[HG.out]
  go_enter Tryz.func106,Tryz.ntmps106
  go_wp2_with (first
   |(go_at_call 148;refine aH.out.mono ?_;rintro r w1 ⟨A1,k1,rfl,J,I⟩;have aB:=C3t I;clear J I)
   |fail)
  go_ret
  exact⟨rfl,F,HR.out.over aB.out,Q8 aB.out⟩
 ·have bR:((k:Int)==0)=false:=by rw[beq_eq_false_iff_ne];omega
  have HG:=C3t (show V5 s n N g ps=(if(J0 s n N g ps).2=8 then(if(D8 s n N g).2=0 then J0 (D8 s n N g).1.1 n N (D8 s n N g).1.2 ps else D8 s n N g)else J0 s n N g ps)by unfold V5;rw[if_neg (by rw[<-HK.out];exact aO)])
  rw[HG.out]
  have aQ:=C3t (aH.out.mono (R':=λx w'=>∃A0 X,x= .returned (.slice A0 k X)/\QRd w' (UF F l b) (.slice A0 k X) ps/\A8 B0 w B0 w'/\w'.cell? ⟨c,0,none⟩=some (.pointer (some ⟨l,0,none⟩))) λx w' ⟨A0,X,h1,h2,h3⟩=>⟨A0,X,h1,h2 _ HR.out.bd,h3,(HB.out.over h3).cell 0⟩)
  clear aO aH
  by_cases Z:(J0 s n N g ps).2=8
  ·rw[if_pos Z]
   have e1:=B6L Z
   have aA:=C3t (λW (r:Rs W F d l b n N s g) A0 X q=>(aS.out W F s g r V.out.ok A0 X q).mono (R':=λe w'=>e= .returned (.int .i64 8)/\∃F',Rs w' F' d l b n N s g/\A8 (UF F l b) W (UF F' l b) w') λe w' ⟨x1,F',x2,x3⟩=>⟨by rw[x1,Z],F',by rw[e1]at x2;exact x2,x3⟩)
   have aG:=C3t (λW Y (r:Rs W Y d l b n N s g)=>B43 l b d n N g Y s W r ⟨V.out.ok.hn.1,V.out.ok.hn.2.1,V.out.ok.hn.2.2⟩ V.out.A V.out.q V.out.hg (by have:=V.out.ok.nx;omega) (by have:=V.out.ok.ep;omega))
   clear Z e1
   by_cases aE:(D8 s n N g).2=0
   ·rw[if_pos aE]
    have bG:=C3t aE
    have aX:=C3t (V.out.ok2 aE)
    obtain⟨s2,aW⟩:∃s2,s2=(D8 s n N g).1.1:=⟨_,rfl⟩
    obtain⟨g2,aT⟩:∃g2,g2=(D8 s n N g).1.2:=⟨_,rfl⟩
    have bI:=C3t (λW Y (r:Rs W Y d l b n N s g)=>(aG.out W Y r).mono (R':=λe w'=>e= .returned (.int .i64 0)/\∃F',Rs w' F' d l b n N s2 g2/\A8 (UF Y l b) W (UF F' l b) w') λe w' ⟨x1,F',x2,x3⟩=>⟨by rw[x1,bG.out],F',by rw[aW,aT];exact x2,x3⟩)
    rw[<-aW,<-aT]at aX⊢
    obtain⟨R,hR⟩:∃R,R=J0 s2 n N g2 ps:=⟨_,rfl⟩
    rw[<-hR]
    have aY:=C3t hR
    clear aE aW aT aG hR
    go_enter Tryz.func106,Tryz.ntmps106
    go_wp2_with (first
     |(go_at_call 148;refine aQ.out.mono ?_;rintro r w1 ⟨A1,k1,rfl,J,I,c0⟩;have aI:=C3t J;have aB:=C3t I;have aF:=C3t (HB.out.over I);have aL:=C3t (HR.out.over I);clear J I)
     |(go_at_call 149;refine(aA.out w1 aL.out A1 k1 aI.out).mono ?_;rintro r w2 ⟨rfl,F2,aD,U⟩;have aM:=C3t aD;have aJ:=C3t U;have bJ:=C3t (aI.out.adv U (λ_ x=>x) (λk hk=>U.into k hk));have aK:=C3t (aF.out.keep (U.block c aF.out.lt HC.out));have bO:w2.cell? ⟨c,0,none⟩=some (.pointer (some ⟨l,0,none⟩)):=aK.out.cell 0;have bH:=C3t (show¬UF F2 l b c fromλhu=>(by rcases U.into c hu with x|x;exact HC.out x;have:=aF.out.lt;omega));clear aD U aA)
     |(go_at_call 150;refine(bI.out w2 F2 aM.out).mono ?_;rintro r w3 ⟨rfl,F3,aN,aC⟩;have aR:=C3t aN;have aP:=C3t aC;have bK:=C3t (bJ.out.adv aC (λ_ x=>x) (λk hk=>aC.into k hk));have bF:=C3t (aK.out.keep (aC.block c aK.out.lt bH.out));have bP:w3.cell? ⟨c,0,none⟩=some (.pointer (some ⟨l,0,none⟩)):=bF.out.cell 0;clear aN aC)
     |(go_at_call 149;refine(aS.out w3 F3 s2 g2 aR.out aX.out A1 k1 bK.out).mono ?_;rintro r w4 ⟨rfl,F4,bC,bA⟩;have bM:=C3t bC;have bD:=C3t bA;clear bC bA)
     |fail)
    go_ret
    exact⟨by rw[aY.out];rfl,F4,by rw[aY.out];exact bM.out,(((Q8 aB.out).trans aJ.out).trans aP.out).trans bD.out⟩
   ·rw[if_neg aE]
    have bB:((D8 s n N g).2!=0)=true:=by rw[bne_iff_ne];exact aE
    obtain⟨R,hR⟩:∃R,R=D8 s n N g:=⟨_,rfl⟩
    unfold WrR at aG
    rw[<-hR]at aG bB⊢
    obtain⟨⟨s2,g2⟩,er⟩:=R
    simp only at aG bB⊢
    clear aE hR
    go_enter Tryz.func106,Tryz.ntmps106
    go_wp2_with (first
     |(go_at_call 148;refine aQ.out.mono ?_;rintro r w1 ⟨A1,k1,rfl,J,I,c0⟩;have aI:=C3t J;have aB:=C3t I;have aF:=C3t (HB.out.over I);have aL:=C3t (HR.out.over I);clear J I)
     |(go_at_call 149;refine(aA.out w1 aL.out A1 k1 aI.out).mono ?_;rintro r w2 ⟨rfl,F2,aD,U⟩;have aM:=C3t aD;have aJ:=C3t U;have aK:=C3t (aF.out.keep (U.block c aF.out.lt HC.out));have bO:w2.cell? ⟨c,0,none⟩=some (.pointer (some ⟨l,0,none⟩)):=aK.out.cell 0;clear aD U aA)
     |(go_at_call 150;refine(aG.out w2 F2 aM.out).mono ?_;rintro r w3 ⟨rfl,F3,aN,aC⟩;have aR:=C3t aN;have aP:=C3t aC;clear aN aC)
     |fail)
    go_ret
    exact⟨rfl,F3,aR.out,((Q8 aB.out).trans aJ.out).trans aP.out⟩
  ·rw[if_neg Z]
   have aZ:((J0 s n N g ps).2!=8)=true:=by rw[bne_iff_ne];exact Z
   have aA:=C3t (λW (r:Rs W F d l b n N s g) A0 X q=>aS.out W F s g r V.out.ok A0 X q)
   obtain⟨R,hR⟩:∃R,R=J0 s n N g ps:=⟨_,rfl⟩
   unfold WrR at aA
   rw[<-hR]at aA aZ⊢
   obtain⟨⟨s2,g2⟩,er⟩:=R
   simp only at aA aZ⊢
   clear Z hR
   go_enter Tryz.func106,Tryz.ntmps106
   go_wp2_with (first
    |(go_at_call 148;refine aQ.out.mono ?_;rintro r w1 ⟨A1,k1,rfl,J,I,c0⟩;have aI:=C3t J;have aB:=C3t I;have aL:=C3t (HR.out.over I);clear J I)
    |(go_at_call 149;refine(aA.out w1 aL.out A1 k1 aI.out).mono ?_;rintro r w2 ⟨rfl,F2,aD,U⟩;have aM:=C3t aD;have aJ:=C3t U;clear aD U)
    |fail)
   go_ret
   exact⟨rfl,F2,aM.out,(Q8 aB.out).trans aJ.out⟩
end
section
open Go.RowKit Go.Maps
def A8l(O B:Nat->Option (List Nat))(left:Lit->Bool):Nat->Option (List Nat):=λj=>if(B j).isSome=true/\left (ik j)=false then B j else O j
def B10(O B:Nat->Option (List Nat)):Nat->Option (List Nat):=λj=>if(B j).isSome=true then B j else O j
theorem B44{O B:Nat->Option (List Nat)}{left:Lit->Bool}{i:Nat}{l:List Nat}(I:B i=some l):A8l O B (λz=>left z&& !z.sameKey (ik i))=P3 (A8l O B left) i l:=by
 funext j
 unfold A8l P3
 simp only[A4J]
 by_cases e:j=i
 ·subst e;rw[if_pos rfl,if_pos (by simp[I]),I]
 ·rw[if_neg e];simp[e]
def C07(w:World)(M d J r I:Nat)(O B:Nat->Option (List Nat))(D:DU)(wr:World):Prop:=
 ∃(left:Lit->Bool) (cnt:Nat),wr.ranges Tryz.prog 3 Y1 J r I D left cnt/\Mp wr d M (A8l O B left)/\A8 (M0 d) w (M0 d) wr
theorem C08{w:World}{M d I:Nat}{O B:Nat->Option (List Nat)}(hd:Mp w d M O)(hs:Mp w I M B)(aZ:d≠I)(hM:M<=4096)(hB:AOk M B):Calls Tryz.prog 108 #[.map (some d),.map (some I)] w λe w'=>e= .returned (.tuple #[])/\Mp w' d M (B10 O B)/\A8 (M0 d) w (M0 d) w':=by
 obtain⟨U,aB,aQ⟩:=hs
 have aK:=C3t aQ
 obtain⟨V,aY⟩:∃V,V=cnt B M:=⟨_,rfl⟩
 rw[<-aY]at aB
 have HO:=C3t aB
 have aC:=C3t hd
 have bI:=C3t hM
 have aJ:=C3t hB
 have bO:=C3t (show I<w.heap.size from aB.lt)
 clear aB aQ aY hd hM hB
 go_enter Tryz.func108,Tryz.ntmps108
 go_wp2_with (first
  |(at_range;refine wpList_range_own _ rfl _ 86 rfl 3 173 M5 Tryz.underlying86 Y1 I V U rfl HO.out ?_;intro w0 aG W bS)
  |fail)
 go_frame
 obtain⟨r,hr⟩:∃r,r=w.heap.size:=⟨_,rfl⟩
 rw[<-hr]at aG⊢
 have aL:=C3t (show A8 B0 w B0 w0 from⟨W.os,W.tape,W.output,W.size,λk X _=>W.block k X (by simp),λ_ x=>x.elim⟩)
 have aA:=C3t (show d≠r/\I≠r/\w.heap.size<=r/\d≠I by
  have h1:=aC.out.lt
  have h2:=bO.out
  exact⟨by omega,by omega,by omega,aZ⟩)
 have Y:A8l O B (Maps.has U)=O:=by
  funext j
  unfold A8l
  split
  ·rename_i h1
   obtain⟨x,hx⟩:=Option.isSome_iff_exists.1 h1.1
   have:=aK.out.has j (aJ.out j x hx).1
   rw[h1.2,hx]at this;cases this
  ·rfl
 have bP:=C3t (show C07 w M d I r V O B U w0 from⟨Maps.has U,_,aG,by rw[Y];exact aC.out.keep (aL.out.block d aC.out.lt (λx=>x)),aL.out.same (λ_ x=>x.elim)⟩)
 clear aG W bS hr Y HO aZ
 go_loopw [4] (λ_ wr=>C07 w M d I r V O B U wr) (λ_ wr=>wr.rangeLeft I r)
 case atStart=>exact bP.out
 case round=>
  obtain⟨left,cn,bA,aX,J⟩:=hrel
  have aN:=C3t bA
  have aD:=C3t aX
  have HA:=C3t J
  clear aX J bA
  go_wp2_with (first
   |(at_next;refine wpList_next_ranges _ rfl _ rfl 3 M5 Y1 (Value.int .i64) Value.agg (λbV kl X=>A9L X) (λv y hv=>A9K hv) I r V U left cn rfl aN.out ?done ?more)
   |fail)
  case done=>
   intro h0 hl
   have Y:A8l O B left=B10 O B:=by funext j;simp[A8l,B10,hl]
   have HF:=C3t (show Mp wr d M (B10 O B)from by rw[<-Y];exact aD.out)
   clear h0 hl Y
   go_wp2_with fail
   exact bodyPost_end (results_none rfl _ _ _) rfl ⟨rfl,HF.out,HA.out⟩
  case more=>
   intro x cs kl yd yp w1 bQ X hl hv aR bB aV aS bT bU
   obtain⟨i,l,rfl,rfl,aU,aF,rfl⟩:=C1P (y:=(yd,yp)) aK.out X hv aR
   have aO:=C3t (B44 (O:=O) (left:=left) aF)
   have HI:=C3t aU
   have HL:=C3t ((aJ.out i l aF).2)
   have a1:A8 (M0 r) wr (M0 r) w1:=A0b aS
   have bM:=C3t bB
   have bH:=C3t aV
   have aE:=C3t (aD.out.keep (a1.block d aD.out.lt (λx=>aA.out.1 x)))
   have bD:=C3t (HA.out.freshG aA.out.2.2.1 a1)
   obtain⟨Q,hQ⟩:∃Q,Q=A8l O B left:=⟨_,rfl⟩
   rw[<-hQ]at aE aO
   clear X hl hv aR bB aV aS bT aF aU a1 hQ
   go_wp2_with (first
    |(refine B6 (t:=173) rfl rfl Z4 ?_;intro z5 w2 hz Z J;have aP:=C3t hz;have bF:=C3t Z;have aH:=C3t J;clear hz Z J)
    |(refine B5 (t:=173) rfl _ _ rfl z5 bF.out rfl rfl S5 (by have:=HL.out.1;simpa using this) A0i (A1h l) ?_;intro w3 Z J;have bG:=C3t Z;have aI:=C3t (aH.out.fresh aP.out J);have bK:=C3t (aE.out.keep ((aH.out.fresh aP.out J).block d aE.out.lt (λx=>x)));clear Z J)
    |(refine C3 (t:=173) rfl _ rfl z5 bG.out rfl Tryz.underlying173 rfl S5 (by have:=HL.out.1;simpa using this) ?_)
    |(refine A7G rfl _ _ _ rfl d M i Q l bK.out rfl rfl rfl HI.out bI.out ?_;intro w5 aW aT;have bJ:=C3t aW;have aM:=C3t aT;clear aW aT)
    |fail)
   go_frame
   have bC:=(bM.out.kept aI.out.grow (by simp) (by simp)).kept aM.out (λx=>aA.out.2.2.2 (Option.some.inj x).symm) (λx=>aA.out.1 (Option.some.inj x).symm)
   have hq:C07 w M d I r V O B U w5:=⟨_,bQ,bC,by rw[aO.out];exact bJ.out,(bD.out.over aI.out).trans (A0b aM.out)⟩
   have bR:w5.rangeLeft I r<wr.rangeLeft I r:=by rw[bC.left_eq,aN.out.left_eq];exact bH.out
   exact⟨⟨_,_,_,_,_,_,_,_,_,_,hq,rfl⟩,bR⟩
end
end Go.Proofs.YtbefmjiclpobjaaGreat
