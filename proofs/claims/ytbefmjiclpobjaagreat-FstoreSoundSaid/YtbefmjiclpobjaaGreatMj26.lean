import Derived.Test.YtbefmjiclpobjaaGreatMj23
import Derived.Test.YtbefmjiclpobjaaGreatMj25
import Derived.Test.YtbefmjiclpobjaaGreatMj06
import Derived.Test.YtbefmjiclpobjaaGreatMj08
import Derived.Test.YtbefmjiclpobjaaGreatMj07
namespace Go.Proofs.YtbefmjiclpobjaaGreat
set_option maxHeartbeats 6400000
set_option maxRecDepth 3000
section
open Go.RowKit Go.Maps
def E6(A:Nat->Option (List Nat))(M:Nat):List Pt:=(N0 A M).map (λi=>⟨((i:Nat):Int),(A i).getD (List.replicate 128 0)⟩)
theorem U5(A:Nat->Option (List Nat))(M:Nat):(E6 A M).length=(N0 A M).length:=List.length_map _
def C5w(w:World)(P:Nat->Pt)(n:Nat)(t3 t15:Value)(wr:World):Prop:=∃k A q F qs,k<=n/\t15= .int .i64 (k:Int)/\t3= .slice A k q/\QW w P k (.slice A k q) F qs wr
def B9m(w:World)(ps:List Pt)(x:Ending)(w':World):Prop:=∃A0 I,x= .returned (.slice A0 ps.length I)/\(∀G,Bd G w->QRd w' G (.slice A0 ps.length I) ps)/\B0 B5 w B5 w'
theorem C3q{w:World}{c m l o M:Nat}{e:Int}{A:Nat->Option (List Nat)}(I:C3 w c 175 #[.pointer (some ⟨l,0,none⟩),.map (some m),.pointer (some ⟨o,0,none⟩),.int .i64 e])(hm:Mp w m M A)(hM:M<=4096)(aQ:AOk M A):
 Calls Tryz.prog 148 #[.pointer (some ⟨c,0,none⟩)] w (B9m w (E6 A M)):=by
 have HB:=C6x I
 have HM:=C6x hm
 have bD:=C6x hM
 have bG:=C6x aQ
 have c1:w.cell? ⟨c,1,none⟩=some (.map (some m)):=I.cell 1
 have HK:=C6x (B3G (some m) w)
 have aF:=C6x (C4K hm hM B5 (λ_ x=>x.elim))
 obtain⟨J,U⟩:∃J,J=N0 A M:=⟨_,rfl⟩
 have bB:=C6x U
 rw[<-U]at aF
 obtain⟨n,W⟩:∃n,n=J.length:=⟨_,rfl⟩
 rw[<-W]at aF
 have HN:=C6x W
 have aE:=C6x (show n<=4096 by rw[W,U];exact Nat.le_trans (A2W A M) hM)
 have bT:(n:Int)<=4096:=by have:=aE.out;omega
 obtain⟨P,hP⟩:∃P:Nat->Pt,P=λk=>(E6 A M).getD k ⟨0,[]⟩:=⟨_,rfl⟩
 have bI:=C6x (show∀k (hk:k<J.length),P k=⟨(J[k]:Int),(A J[k]).getD (List.replicate 128 0)⟩by
  subst U
  intro k hk
  rw[hP]
  simp only[E6]
  rw[List.getD_eq_getElem?_getD,List.getElem?_map,List.getElem?_eq_getElem hk];rfl)
 have aL:=C6x (show(List.range n).map P=E6 A M by
  apply List.ext_getElem
  ·rw[List.length_map,List.length_range,U5,W,U]
  ·intro i h1 h2
   rw[List.getElem_map,List.getElem_range,hP]
   simp only
   rw[List.getD_eq_getElem?_getD,List.getElem?_eq_getElem h2];rfl)
 have aD:=C6x (show(E6 A M).length=n by rw[U5,W,U])
 obtain⟨ps,aR⟩:∃ps,ps=E6 A M:=⟨_,rfl⟩
 rw[<-aR]at aL aD⊢
 clear I hm hM aQ U W hP aR
 go_enter Tryz.func148,Tryz.ntmps148
 go_wp2_with (first
  |(go_at_call 185;refine HK.out.mono ?_;rintro r w1 ⟨rfl,rfl⟩)
  |(go_at_call 184;refine aF.out.mono ?_;rintro r w2 ⟨Ak,ck,rfl,aP,aM⟩;have bA:=C6x aP;have aK:=C6x aM;clear aP aM c1)
  |fail)
 go_loopw [3,15] (C5w w2 P n) (λ_ t _=>n-(intOf t).toNat)
 case atStart=>exact⟨0,none,0,B5,[],Nat.zero_le _,rfl,rfl,QW.nil _ _⟩
 case round=>
  obtain⟨k,A3,q3,F3,qs,hk,rfl,rfl,hw⟩:=hrel
  have HW:=C6x hw
  have aG:=C6x (aK.out.trans (hw.adv.sub (G:=B5) (λ_ x=>x.elim)))
  by_cases aA:k<n
  ·have aB:k<J.length:=by rw[<-HN.out];exact aA
   obtain⟨gk,rfl,bM⟩:=bA.out.at_ (hw.adv.sub (G:=B5) (λ_ x=>x.elim)) aB
   have aC:=bI.out k aB
   have aI:J[k]<M:=by
    have h2:=bB.out
    subst h2
    exact B1L aB
   obtain⟨i,hi⟩:∃i,i=J[k]:=⟨_,rfl⟩
   rw[<-hi]at bM aC aI
   obtain⟨X,hX⟩:∃X,X=(A i).getD (List.replicate 128 0):=⟨_,rfl⟩
   rw[<-hX]at aC
   have HX:=C6x hX
   have Y:=C6x (show X.length=128 by
    rw[hX]
    cases e:A i with
    |none=>simp
    |some x=>exact(bG.out i x e).2.1)
   have aX:=C6x aI
   have bJ:=C6x aC
   have bC:=C6x aA
   have bS:(k:Int)<(n:Int):=by omega
   have c1:wr.cell? ⟨c,1,none⟩=some (.map (some m)):=(HB.out.over aG.out).cell 1
   have bF:=C6x (HM.out.keep (aG.out.block m HM.out.lt (λx=>x)))
   have aY:=C6x (show k+1<=maxLen by have:=aE.out;unfold maxLen;omega)
   have aZ:=C6x (show(k+1) * 32<=140737488355328 by have:=aE.out;omega)
   clear hk hw aB hi hX aI aC aA
   go_wp2_with (first
    |(refine A5k rfl _ _ rfl m M i A bF.out rfl rfl aX.out bD.out HX.out ?_)
    |(refine B9 (t:=173) rfl rfl A0A ?_;intro V w5 hz I Z;have aH:=C6x hz;have aV:=C6x I;have aS:=C6x Z;clear hz I Z)
    |(refine B7 (t:=173) rfl _ _ rfl V aV.out rfl rfl V3 (by have:=Y.out;simpa using this) A0S (A2i X) ?_;intro w6 I Z;have bR:=C6x I;have aT:=C6x (aS.out.fresh aH.out Z);have HU:=C6x ((HW.out.step aT.out).step ((B0.refl B5 w6).alloc (.cells #[.int .i64 (i:Int),.slice (some ⟨V,0,none⟩) 128 128] 239)));have bK:=C6x ((I.rdS8 Y.out).up (.cells #[.int .i64 (i:Int),.slice (some ⟨V,0,none⟩) 128 128] 239));clear I Z)
    |(at_builtin;refine A2e rfl (.tmp 26) (.tmp 30) 202 239 rfl Tryz.underlying202 B4R rfl (by decide) rfl HU.out.sl.own ⟨w6.heap.size,0,none⟩ 1 1 rfl [.int .i64 (i:Int),.slice (some ⟨V,0,none⟩) 128 128] rfl C1w C5v aY.out aZ.out ?_;intro v' w8 aJ aO aN;obtain⟨a8,k8,rfl⟩:=(B0U aJ);have bH:=C6x aJ;have aW:=C6x aO;have aU:=C6x aN;clear aJ aO aN)
    |fail)
   have bO:∀g,(Value.slice (some ⟨V,0,none⟩) 128 128).ownBlock=some g->0<128->¬F3 g/\w2.heap.size<=g:=λg hg _=>by
    have e:V=g:=by simpa[Value.ownBlock]using hg
    subst e
    refine⟨λhF=>?_,Nat.le_trans HW.out.adv.size aH.out⟩
    have:=HW.out.sl.bd V hF
    have:=aH.out
    omega
   obtain⟨F8,bQ,bP⟩:=HU.out.push (p:=⟨(i:Int),X⟩) bJ.out (by simp only;rw[Y.out];exact bK.out) (by simp only;rw[Y.out];exact bO) (by simp only;rw[Y.out];exact bH.out) aW.out aU.out
   have aA:=bC.out
   exact⟨⟨k+1,a8,k8,F8,bQ,by omega,by go_num,rfl,bP⟩,by simp[intOf]<;>omega⟩
  ·obtain rfl:k=n:=by omega
   have HF:=C6x (show B9m w ps (.returned (.slice A3 k q3)) wr from⟨A3,q3,by rw[aD.out],λG hG=>by
    rw[aD.out,<-aL.out]
    exact HW.out.qrd (λg hg=>Nat.lt_of_lt_of_le (hG g hg) aK.out.size),aG.out⟩)
   clear hk hw aA
   go_wp2_with fail
   go_ret
   exact HF.out
end
section
open Go.RowKit
def A2z(s:DS)(n:Nat)(I:Int)(e:Nat)(h:Hd):DS×Int:=
 if(0<=I/\I+1<(n:Int))/\hOk e h then(if(L3 s (I+((h.g%2:Nat):Int)) (A1b e h)).2=0 then E0 (L3 s (I+((h.g%2:Nat):Int)) (A1b e h)).1 else L3 s (I+((h.g%2:Nat):Int)) (A1b e h))else(s,2)
theorem B9n{s:DS}{n:Nat}{I:Int}{e:Nat}{h:Hd}(k:¬((0<=I/\I+1<(n:Int))/\hOk e h)):A2z s n I e h=(s,2):=if_neg k
def A5m(w:World)(F:Nat->Prop)(d n:Nat)(r:DS×Int)(x:Ending)(w':World):Prop:=x= .returned (.int .i64 r.2)/\∃F',Dk w' F' d n r.1/\B0 F w F' w'
theorem A5n{F F':Nat->Prop}{w U w2:World}(h:B0 B5 w B5 U)(k:B0 F U F' w2):B0 F w F' w2:=
 ⟨k.os.trans h.os,k.tape.trans h.tape,k.output.trans h.output,Nat.le_trans h.size k.size,λj I V=>(k.block j (Nat.lt_of_lt_of_le I h.size) V).trans (h.block j I (λx=>x)),λj I=>by
  rcases k.into j I with J|J
  ·exact .inl J
  ·right;have:=h.size;omega⟩
theorem C1x{I:Int}{n g:Nat}(h:0<=I/\I+1<(n:Int))(J:n<=4096):IntKind.i64.wrap (I+((g%2:Nat):Int))=I+((g%2:Nat):Int):=by
 rw[IntKind.wrap_i64];omega
theorem B9o(d n:Nat)(F:Nat->Prop)(s:DS)(I:Int)(e:Nat)(h:Hd)(w:World)(X:Dk w F d n s)(hq:s.Q.length<=900000)(hn:n<=4096)(aY:2<=n)(ht:h.t<18446744073709551616)(hf:h.f<18446744073709551616):
 Calls Tryz.prog 211 #[.pointer (some ⟨d,0,none⟩),.int .i64 I,.int .u64 (e:Int),.agg #[.int .u64 (h.g:Int),.int .u64 (h.t:Int),.int .u64 (h.f:Int)]] w (A5m w F d n (A2z s n I e h)):=by
 obtain⟨g,t,f⟩:=h
 simp only at ht hf⊢
 obtain⟨y,hy⟩:∃y,y=w.heap.size:=⟨_,rfl⟩
 obtain⟨V,hV⟩:∃V,V=w.alloc (.cells #[.int .u64 (g:Int),.int .u64 (t:Int),.int .u64 (f:Int)] 135):=⟨_,rfl⟩
 have HY:=C6x (show C3 V y 135 #[.int .u64 (g:Int),.int .u64 (t:Int),.int .u64 (f:Int)]by rw[hV,hy];exact C3.new _ _ _)
 have HA:=C6x (show B0 B5 w B5 V by rw[hV];exact(B0.refl _ _).alloc _)
 have HR:=C6x (X.far HA.out (λ_ h _=>h))
 have HV:=C6x hV
 have aX:=C6x hy
 have HQ:=C6x hq
 have aU:=C6x (B6c e ⟨g,t,f⟩ V ht hf)
 have HN:=C6x hn
 have bF:IntKind.i64.wrap ((n:Int)-2)=(n:Int)-2:=by rw[IntKind.wrap_i64];omega
 have bC:((n:Int)==0)=false:=by rw[beq_eq_false_iff_ne];omega
 obtain⟨s0,s1,s2⟩:=HY.out.three
 have aM:∀Z,B0 B5 V B5 Z->¬((0<=I/\I+1<(n:Int))/\hOk e ⟨g,t,f⟩)->A5m w F d n (A2z s n I e ⟨g,t,f⟩) (.returned (.int .i64 2)) Z:=λZ ha hk=>by
  rw[B9n hk]
  exact⟨rfl,F,HR.out.far ha (λ_ h _=>h),(HA.out.trans ha).same (λ_ x=>x.elim)⟩
 have aB:=C6x aM
 have aO:=A4i d n F s V HR.out
 have aA:=C6x aO
 clear X hV hy hq ht hf hn aY aM aO
 go_enter Tryz.func211,Tryz.ntmps211
 go_upto_region 1 with(fail)
 rw[<-HV.out,<-aX.out]
 by_cases h0:I<0
 ·have J:=C6x (aB.out V (B0.refl _ _) (λk=>by omega))
  go_wp2_with fail
  refine aA.out.mono ?_
  rintro x w9 ⟨rfl,rfl⟩
  go_wp2_with fail
  go_ret
  exact J.out
 ·have bA:0<=I:=by omega
  clear h0
  by_cases h1:(n:Int)-2<I
  ·have J:=C6x (aB.out V (B0.refl _ _) (λk=>by omega))
   go_wp2_with fail
   refine aA.out.mono ?_
   rintro x w8 ⟨rfl,rfl⟩
   go_wp2_with fail
   refine aA.out.mono ?_
   rintro x w9 ⟨rfl,rfl⟩
   go_wp2_with fail
   go_ret
   exact J.out
  ·have bB:I<=(n:Int)-2:=by omega
   have aG:=C6x (show 0<=I/\I+1<(n:Int)by omega)
   clear h1
   go_wp2_with fail
   refine aA.out.mono ?_
   rintro x w8 ⟨rfl,rfl⟩
   go_wp2_with fail
   refine aA.out.mono ?_
   rintro x w9 ⟨rfl,rfl⟩
   go_wp2_with fail
   refine aU.out.mono ?_
   intro x Z h1
   obtain⟨A,m,k,F1,rfl,Y,p1,n1⟩:=h1
   obtain⟨E,hE⟩:∃E:Int,E=if hOk e ⟨g,t,f⟩then 0 else 2:=⟨_,rfl⟩
   rw[<-hE]
   have HE:=C6x hE
   have aQ:=C6x Y
   have aR:=C6x p1
   have aW:=C6x (HY.out.keep (Y.block y HY.out.lt (λh=>h)))
   have aV:=C6x (show∀j,(Value.slice A m k).ownBlock=some j->(hOk e ⟨g,t,f⟩)->¬F j fromλj hj ho hg=>by
    obtain⟨rfl,hs⟩:=p1 ho
    rcases Y.into j (hs.inF j hj)with h|h
    ·exact h
    ·have:=HR.out.bd j hg;omega)
   have aF:=C6x (HA.out.trans (Y.sub (G:=B5) (λ_ h=>h.elim)))
   have aS:=C6x (HR.out.far Y (λ_ h _=>h))
   obtain⟨z0,z1,z2⟩:=aW.out.three
   clear hE Y p1 n1 s0 s1 s2
   by_cases U:hOk e ⟨g,t,f⟩
   ·obtain rfl:E=0:=by rw[HE.out,if_pos U]
    obtain⟨rfl,hs⟩:=aR.out U
    have aZ:=C6x U
    have HS:=C6x hs
    obtain⟨r,X⟩:∃r,r=g%2:=⟨_,rfl⟩
    have bD:IntKind.i64.wrap (I+(r:Int))=I+(r:Int):=by rw[X];exact C1x aG.out HN.out
    obtain⟨W,hW⟩:∃W,W=L3 s (I+(r:Int)) (A1b e ⟨g,t,f⟩):=⟨_,rfl⟩
    have aN:A2z s n I e ⟨g,t,f⟩=if W.2=0 then E0 W.1 else W:=by
     unfold A2z
     rw[if_pos ⟨aG.out,U⟩,hW,X]
    have aI:=C6x aN
    have aP:∀v,B0 B5 Z B5 v->Calls Tryz.prog 209 #[.pointer (some ⟨d,0,none⟩),.int .i64 (I+(r:Int)),.slice A 128 k] v λe w'=>e= .returned (.int .i64 W.2)/\∃G',Dk w' G' d n W.1/\B0 F v G' w':=λv hv=>by
     rw[hW]
     exact A6K d n 128 _ _ F s _ v (aS.out.far hv (λ_ h _=>h)) (hs.rd.far (λ_ _ _ h=>hv.block _ h (λh=>h)) hv.size) (λj hj hg=>aV.out j hj U hg) (by have:=HQ.out;omega)
    have aK:=C6x aP
    obtain⟨WE,aD⟩:∃E,E=W.2:=⟨_,rfl⟩
    rw[<-aD]at aK
    have aC:=C6x aD
    have aT:=C6x X
    clear U hs X hW aN aP aD
    go_wp2_with fail
    refine(A81 g t f _).mono ?_
    rintro x w5 ⟨rfl,a5⟩
    rw[<-aT.out]
    have aE:=C6x a5
    clear a5
    go_wp2_with fail
    refine(aK.out w5 aE.out).mono ?_
    rintro x w2 ⟨rfl,G2,k2,t2⟩
    have aH:=C6x k2
    have aJ:=C6x (A5n aE.out t2)
    clear k2 t2
    by_cases hz:WE=0
    ·subst hz
     go_wp2_with fail
     refine(A4h d n G2 W.1 w2 aH.out).mono ?_
     rintro x w3 ⟨rfl,k3,t3⟩
     have J:=C6x (show A5m w F d n (A2z s n I e ⟨g,t,f⟩) (.returned (.int .i64 (E0 W.1).2)) w3 from by
      rw[aI.out,if_pos aC.out.symm]
      exact⟨rfl,G2,k3,A5n aF.out (aJ.out.trans t3)⟩)
     obtain⟨E3,aL⟩:∃E,E=(E0 W.1).2:=⟨_,rfl⟩
     rw[<-aL]at J⊢
     clear k3 t3 aL
     go_wp2_with fail
     go_ret
     exact J.out
    ·have bG:(WE==0)=false:=by rw[beq_eq_false_iff_ne];exact hz
     have J:=C6x (show A5m w F d n (A2z s n I e ⟨g,t,f⟩) (.returned (.int .i64 WE)) w2 from by
      rw[aI.out,if_neg (by rw[<-aC.out];exact hz)]
      exact⟨by rw[aC.out],G2,aH.out,A5n aF.out aJ.out⟩)
     clear hz
     go_wp2_with fail
     go_ret
     exact J.out
   ·obtain rfl:E=2:=by rw[HE.out,if_neg U]
    have J:=C6x (aB.out Z (aQ.out.sub (λ_ h=>h.elim)) (λk=>U k.2))
    clear U
    go_wp2_with fail
    go_ret
    exact J.out
end
section
open Go.RowKit Go.Maps
def Z1(s:DS)(N I:Nat)(h:Hd):DS×Int:=if 1099511627775<h.g then(s,8)else A2z s N 0 I h
def SvC(w:World)(l d z I g t f:Nat):Prop:=w.cell? ⟨l,0,none⟩=some (.pointer (some ⟨d,0,none⟩))/\w.cell? ⟨l,6,none⟩=some (.int .u64 (I:Int))/\w.cell? ⟨z,0,none⟩=some (.int .u64 (g:Int))/\w.cell? ⟨z,1,none⟩=some (.int .u64 (t:Int))/\w.cell? ⟨z,2,none⟩=some (.int .u64 (f:Int))
theorem B9p(l b d n N:Nat)(g:LS)(F:Nat->Prop)(s:DS)(h:Hd)(w:World)(hr:Rs w F d l b n N s g)(hq:s.Q.length<=900000)(hN:2<=N/\N<=4096)(hg:h.g<18446744073709551616)(ht:h.t<18446744073709551616)(hf:h.f<18446744073709551616):
 Calls Tryz.prog 190 #[.pointer (some ⟨l,0,none⟩),.agg #[.int .u64 (h.g:Int),.int .u64 (h.t:Int),.int .u64 (h.f:Int)]] w (BrR w F d l b n N g (Z1 s N g.ep h)):=by
 obtain⟨R,U⟩:∃R,R=Z1 s N g.ep h:=⟨_,rfl⟩
 rw[<-U]
 obtain⟨x,t,f⟩:=h
 simp only at hg ht hf⊢
 obtain⟨V,Y⟩:∃V,V=w.alloc (.cells #[.int .u64 (x:Int),.int .u64 (t:Int),.int .u64 (f:Int)] 135):=⟨_,rfl⟩
 obtain⟨z,hz⟩:∃z,z=w.heap.size:=⟨_,rfl⟩
 have Z:B0 B5 w B5 V:=by rw[Y];exact(B0.refl _ _).alloc _
 have X:=C6x (show C3 V z 135 #[.int .u64 (x:Int),.int .u64 (t:Int),.int .u64 (f:Int)]by rw[Y,hz];exact C3.new _ _ _)
 have I:=C6x (hr.over Z)
 have aK:=C6x Z
 have aE:¬F z:=λy=>by have:=hr.dk.bd z y;omega
 obtain⟨J,aA⟩:∃y,y=g.ep:=⟨_,rfl⟩
 rw[<-aA]at U
 have W:=C6x (show SvC V l d z J x t f from⟨I.out.lg.cells.1,by rw[aA];exact I.out.lg.cells.2.2.2.2.2.2.1,X.out.three.1,X.out.three.2.1,X.out.three.2.2⟩)
 have aH:=C6x (show SvC V.drew l d z J x t f from W.out)
 have aL:=C6x (show∀(F':Nat->Prop) (w':World),B0 F V.drew F' w'->SvC w' l d z J x t f fromλF' w' a=>by
  have hb:=I.out.lg.blk.keep (a.block l I.out.lg.blk.lt (λy=>I.out.sep l y (.inl rfl)))
  have aC:=(X.out.keep (a.block z X.out.lt aE)).three
  exact⟨hb.cell 0,by rw[aA];exact hb.cell 6,aC.1,aC.2.1,aC.2.2⟩)
 have HV:=C6x Y
 have HZ:=C6x hz
 have HR:=C6x U
 by_cases hx:1099511627775<x
 ·have HF:=C6x (show BrR w F d l b n N g R (.returned (.int .i64 8)) V by
   rw[U]
   unfold Z1
   rw[if_pos hx]
   exact⟨rfl,F,I.out,T9 Z⟩)
  have aD:(1099511627775:Int)<(x:Int):=by omega
  obtain⟨c0,c6,z0,z1,z2⟩:=W.out
  clear hr hq hN hg ht hf Y hz Z aE aA hx U
  go_enter Tryz.func190,Tryz.ntmps190
  go_upto_region 1 with(fail)
  rw[<-HV.out,<-HZ.out]
  go_wp2_with fail
  go_ret
  exact HF.out
 ·have aJ:R=A2z s N 0 J ⟨x,t,f⟩:=by rw[U];unfold Z1;rw[if_neg hx]
  have aI:=C6x (show Calls Tryz.prog 211 #[.pointer (some ⟨d,0,none⟩),.int .i64 0,.int .u64 (J:Int),.agg #[.int .u64 (x:Int),.int .u64 (t:Int),.int .u64 (f:Int)]] V.drew (A5m V.drew F d N R)by
   rw[aJ]
   exact B9o d N F s 0 J ⟨x,t,f⟩ V.drew (I.out.dk.far ((B0.refl B5 V).drew) (λ_ x _=>x)) hq hN.2 hN.1 ht hf)
  have aD:¬(1099511627775:Int)<(x:Int):=by omega
  have aO:((1099511627775:Int)<(x:Int))=False:=eq_false aD
  obtain⟨c0,c6,z0,z1,z2⟩:=W.out
  obtain⟨RE,aB⟩:∃y,y=R.2:=⟨_,rfl⟩
  rw[show A5m V.drew F d N R=λe w'=>e= .returned (.int .i64 RE)/\∃F',Dk w' F' d N R.1/\B0 F V.drew F' w' by rw[aB];rfl]at aI
  have aN:=C6x aB
  clear hr hq hN hg ht hf Y hz Z aE aA hx U aJ aB aD
  go_enter Tryz.func190,Tryz.ntmps190
  go_upto_region 1 with(fail)
  rw[<-HV.out,<-HZ.out]
  go_wp2_with fail
  refine D6 (S:=(λw'=>SvC w' l d z J x t f)) (by with_reducible first|exact aG.out|exact aH.out|exact W.out) (λhH=>?_)
  refine C69 0 rfl ?_
  refine C69 1 rfl ?_
  refine C69 2 rfl ?_
  refine C69 3 rfl ?_
  refine C69 4 rfl ?_
  refine C69 5 rfl ?_
  refine C69 6 rfl ?_
  refine C69 7 rfl ?_
  refine C69 8 rfl ?_
  refine C6z 9 rfl (λK hK=>?_)
  go_simp
  refine aI.out.mono ?_
  rintro x w9 ⟨rfl,F9,k9,a9⟩
  have aG:=C6x (aL.out F9 w9 a9)
  have aM:=C6x k9
  have aF:=C6x (B0.of_drew a9)
  clear k9 a9
  go_wp2_with fail
  refine C60 hK (by with_reducible first|exact aG.out|exact aH.out|exact W.out) ?_
  clear hK K hH
  intro hH
  try simp only[Act.put,sA,sB,sC]
  refine C69 10 rfl ?_
  refine wpAnyH_done (by kernel_rfl) ?_ _
  have HF:=C6x (show BrR w F d l b n N g R (.returned (.int .i64 RE)) w9 from⟨by rw[aN.out],F9,I.out.disk aF.out aM.out,(T9 aK.out).trans (A1u (l:=l) (b:=b) aF.out)⟩)
  clear c0 c6 z0 z1 z2
  go_wp2_with fail
  go_ret
  exact HF.out
end
section
open Go.RowKit Go.Maps
theorem B5b(n:Nat):∀(T:List (Nat×List Nat)) (s:DS),(N5 s n T).1.Q.length<=s.Q.length+T.length
 |[],s=>by simp[N5]
 |q::qs,s=>by
  unfold N5
  have I:=A4T s ((2+n+q.1:Nat):Int) q.2
  have J:=B5b n qs (L3 s ((2+n+q.1:Nat):Int) q.2).1
  split
  ·simp only[List.length_cons];omega
  ·simp only[List.length_cons];omega
theorem B6W(s:DS)(n M:Nat)(A:Nat->Option (List Nat)):(Q0 s n M A).1.Q.length<=s.Q.length+M:=by
 have I:=A4U s
 have J:=B5b n (U8 A M) (E0 s).1
 have h3:(U8 A M).length<=M:=by unfold U8;rw[List.length_map];exact A2W A M
 have U:=A4U (N5 (E0 s).1 n (U8 A M)).1
 unfold Q0
 split
 ·split<;>omega
 ·omega
theorem B9q{ops:Array Oper}{rest:List Oper}{o:Oper}{a:Act}{w:World}{Q:Exit->Act->World->Prop}(W:o.guard=none)(m:Operand)(Y:o.op=Op.call { callee:=Callee.builtin Builtin.clear,args:= #[m],argTypes:= #[138] })(b N:Nat)(A:Nat->Option (List Nat))(V:Mp w b N A)(X:a.eval m= .map (some b))
 (hK:∀w',Mp w' b N (λ_=>none)->w.grownBy w' (some b)->wpList Tryz.prog ops Q rest (a.put o.dst (.tuple #[])) w'):wpList Tryz.prog ops Q (o::rest) a w:=by
 obtain⟨D,⟨es,J,I,hF⟩,d⟩:=V
 refine wpList_plain W λK' U=>?_
 have Z:(Builtin.clear_ #[138] o.type #[.map (some b)]).run Tryz.prog w= .ok (.tuple #[]) (ChangeMaps.setBlock w b (.map #[] J)):=by
  simp[Builtin.clear_,run_underlying Tryz.underlying138,MapKept.run_getObj_map I,MapKept.run_setObj_map _ I,Result.andThen,ChangeMaps.setBlock]
 unfold Oper.wp
 simp[execOp,Y,resolve,invoke,builtin,X,Z,Result.andThen]
 refine U _ _ (hK _ ⟨.map [],?_,MpD.empty N⟩ ⟨rfl,rfl,rfl,by simp[ChangeMaps.setBlock],λi _ hi=>ChangeMaps.heap_setBlock_other I _ (λe=>hi (by rw[e]))⟩)
 rw[A6M]
 exact⟨#[],J,ChangeMaps.heap_setBlock_same I _,⟨by simp,MapKept.stamped_empty J,by simp⟩,Nat.le_refl _,rfl⟩
def A0o(g:LS):Hd:=⟨g.h.g+1,g.next,g.ep⟩
def G9(s:DS)(n N:Nat)(g:LS):(DS×LS)×Int:=
 if g.err=0 then
  if(Q0 s n (N-2-n) g.A).2=0 then
   if(Z1 (Q0 s n (N-2-n) g.A).1 N g.ep (A0o g)).2=0 then(((Z1 (Q0 s n (N-2-n) g.A).1 N g.ep (A0o g)).1,{ g with h:=A0o g,A:=λ_=>none }),0)
   else(((Z1 (Q0 s n (N-2-n) g.A).1 N g.ep (A0o g)).1,{ g with err:=(Z1 (Q0 s n (N-2-n) g.A).1 N g.ep (A0o g)).2 }),(Z1 (Q0 s n (N-2-n) g.A).1 N g.ep (A0o g)).2)
  else(((Q0 s n (N-2-n) g.A).1,{ g with err:=(Q0 s n (N-2-n) g.A).2 }),(Q0 s n (N-2-n) g.A).2)
 else((s,g),g.err)
def CkC(w:World)(l g t f:Nat):Prop:=w.cell? ⟨l,2,none⟩=some (.int .u64 (g:Int))/\w.cell? ⟨l,5,none⟩=some (.int .u64 (t:Int))/\w.cell? ⟨l,6,none⟩=some (.int .u64 (f:Int))
theorem Lg.ckc{w:World}{l b d n N:Nat}{g:LS}(h:Lg w l b d n N g):CkC w l g.h.g g.next g.ep:=⟨h.cells.2.2.1,h.cells.2.2.2.2.2.1,h.cells.2.2.2.2.2.2.1⟩
theorem Lg.there2{w:World}{l b d n N:Nat}{g:LS}(h:Lg w l b d n N g):w.there l 2 3:=λj I=>by
 obtain⟨-, -,c2,c3,c4, -⟩:=h.cells
 match j,I with
 |0,_=>exact⟨by rw[show 2+0=2 from rfl,c2];rfl,h.blk.frozen 2⟩
 |1,_=>exact⟨by rw[show 2+1=3 from rfl,c3];rfl,h.blk.frozen 3⟩
 |2,_=>exact⟨by rw[show 2+2=4 from rfl,c4];rfl,h.blk.frozen 4⟩
theorem Lg.setHead{w:World}{l b d n N:Nat}{g:LS}(h:Lg w l b d n N g)(x:Hd):Lg (w.setCells l 2 (h3 (x.g:Int) (x.t:Int) (x.f:Int)).toList) l b d n N { g with h:=x }:=
 ⟨show C3 (((w.setCell ⟨l,2,none⟩ (.int .u64 (x.g:Int))).setCell ⟨l,3,none⟩ (.int .u64 (x.t:Int))).setCell ⟨l,4,none⟩ (.int .u64 (x.f:Int))) l 140 _ from((h.blk.set_ 2 _).set_ 3 _).set_ 4 _,
  h.mp.keep (P4 l (λe=>h.ne e.symm) _ 2 w)⟩
theorem Lg.cleared{w w':World}{l b d n N:Nat}{g:LS}(h:Lg w l b d n N g)(J:Mp w' b (N-2-n) (λ_=>none))(I:w.grownBy w' (some b)):Lg w' l b d n N { g with A:=λ_=>none }:=
 ⟨h.blk.keep (I.block l h.blk.lt (λe=>h.ne (by injection e))),J⟩
theorem B6X{w w':World}{l b:Nat}(I:w.grownBy w' (some b)):B0 (LF l b) w (LF l b) w':=
 ⟨I.os,I.tape,I.output,I.size,λk J U=>I.block k J (λe=>U (.inr (by injection e))),λ_ J=>.inl J⟩
theorem B6Y(l b d n N:Nat)(g:LS)(F:Nat->Prop)(s:DS)(w:World)(h:Rs w F d l b n N s g)(hn:2<=n/\n+3<=N/\N<=4096)(hA:AOk (N-2-n) g.A)(hq:s.Q.length<=800000)(aW:g.h.g<=1099511627776)(aX:g.next<18446744073709551616)(aV:g.ep<18446744073709551616):
 Calls Tryz.prog 150 #[.pointer (some ⟨l,0,none⟩)] w (WrR w F d l b n N (G9 s n N g)):=by
 obtain⟨R,hR⟩:∃R,R=G9 s n N g:=⟨_,rfl⟩
 rw[<-hR]
 have HR:=C6x hR
 have HS:=C6x h
 have aR:=C6x (A4V h.lg)
 obtain⟨E,hE⟩:∃E,E=g.err:=⟨_,rfl⟩
 rw[<-hE]at aR
 have HE:=C6x hE
 have aJ:=C6x (B6S l b d n N g F s w h hn hA (by omega))
 obtain⟨X,hX⟩:∃x,x=Q0 s n (N-2-n) g.A:=⟨_,rfl⟩
 have bV:=C6x (show X.1.Q.length<=900000 by rw[hX];exact Nat.le_trans (B6W s n _ _) (by omega))
 rw[<-hX]at aJ
 have HX:=C6x hX
 obtain⟨XE,aT⟩:∃x,x=X.2:=⟨_,rfl⟩
 rw[show BrR w F d l b n N g X=λe w'=>e= .returned (.int .i64 XE)/\∃F',Rs w' F' d l b n N X.1 g/\B0 (UF F l b) w (UF F' l b) w' by rw[aT];rfl]at aJ
 have aF:=C6x aT
 obtain⟨gg,aH⟩:∃x,x=g.h.g:=⟨_,rfl⟩
 obtain⟨nx,aI⟩:∃x,x=g.next:=⟨_,rfl⟩
 obtain⟨I,aD⟩:∃x,x=g.ep:=⟨_,rfl⟩
 obtain⟨gN,bJ⟩:∃x,x=gg+1:=⟨_,rfl⟩
 have bF:A0o g=⟨gN,nx,I⟩:=by rw[bJ,aH,aI,aD];rfl
 have bD:=C6x bF
 rw[<-aH]at aW
 rw[<-aI]at aX
 rw[<-aD]at aV
 have cA:=C6x aW
 have bQ:=C6x aX
 have bM:=C6x aV
 have HN:=C6x hn
 have aN:=C6x (show∀(w':World) (F':Nat->Prop) (s':DS),Rs w' F' d l b n N s' g->CkC w' l gg nx I fromλ_ _ _ h=>by rw[aH,aI,aD];exact h.lg.ckc)
 have bC:=C6x (show I=g.ep from aD)
 have cB:IntKind.u64.wrap ((gg:Int)+1)=(gN:Int):=by
  rw[show(gg:Int)+1=(gN:Int)by omega]
  exact A3k (by omega)
 have bO:=C6x (show gN<18446744073709551616 by omega)
 clear h hn hA hq aW aX aV hR hE hX aT aH aI aD bF bJ
 by_cases h0:E=0
 ·subst h0
  go_enter Tryz.func150,Tryz.ntmps150
  go_wp2_with fail
  refine aR.out.mono ?_
  rintro x U ⟨rfl,rfl⟩
  go_wp2_with fail
  refine aJ.out.mono ?_
  rintro x U ⟨rfl,F1,r1,a1⟩
  have Z:=C6x r1
  have aY:=C6x a1
  clear r1 a1
  by_cases J:XE=0
  ·subst J
   have aB:=C6x (aN.out _ _ _ Z.out)
   have aK:=C6x (show CkC U.drew l gg nx I from aB.out)
   obtain⟨z,J⟩:∃z,z=U.heap.size:=⟨_,rfl⟩
   have HZ:=C6x J
   obtain⟨c2,c5,c6⟩:=aB.out
   clear J
   go_wp2_with fail
   refine D6 (S:=(λw'=>CkC w' l gg nx I)) (by with_reducible first|exact aM.out|exact aL.out|exact aK.out|exact aB.out) (λhH=>?_)
   refine C64 0 rfl ?_
   refine C64 1 rfl ?_
   refine C64 2 rfl ?_
   refine C64 3 rfl ?_
   refine C64 4 rfl ?_
   refine C64 5 rfl ?_
   refine C64 6 rfl ?_
   refine C64 7 rfl ?_
   refine C64 8 rfl ?_
   refine C64 9 rfl ?_
   refine C64 10 rfl ?_
   refine C64 11 rfl ?_
   refine C64 12 rfl ?_
   refine C64 13 rfl ?_
   refine C64 14 rfl ?_
   refine C6z 15 rfl (λK hK=>?_)
   go_simp
   have bB:=C6x (C3.drew (C3.new U 135 #[.int .u64 0,.int .u64 0,.int .u64 0]))
   have bA:=C6x (((B0.refl B5 U).alloc (.cells #[.int .u64 0,.int .u64 0,.int .u64 0] 135)).drew)
   have aL:=C6x (aN.out _ _ _ (Z.out.over bA.out))
   refine C60 hK (by with_reducible first|exact aM.out|exact aL.out|exact aK.out|exact aB.out) ?_
   clear hK K hH
   intro hH
   try simp only[Act.put,sA,sB,sC]
   refine C6z 16 rfl (λK hK=>?_)
   refine A04 Q8 rfl (.tmp 5) (.tmp 33) rfl _ _ (h3 (gN:Int) (nx:Int) (I:Int)) bB.out rfl rfl (Z8 _ _ _) rfl rfl ?_
   have aA:=C6x (bB.out.putAll (D:=h3 (gN:Int) (nx:Int) (I:Int)) rfl)
   have aE:=C6x (B0.lsetCells (h3 (gN:Int) (nx:Int) (I:Int)).toList 0 _ bA.out (.inr (Nat.le_refl U.heap.size)))
   have aM:=C6x (aN.out _ _ _ (Z.out.over aE.out))
   refine C60 hK (by with_reducible first|exact aM.out|exact aL.out|exact aK.out|exact aB.out) ?_
   clear hK K hH
   intro hH
   try simp only[Act.put]
   refine wpAnyH_done (by kernel_rfl) ?_ _
   obtain⟨V,hV⟩:∃V,V=((U.alloc (.cells #[.int .u64 0,.int .u64 0,.int .u64 0] 135)).drew.setCells U.heap.size 0 (h3 (gN:Int) (nx:Int) (I:Int)).toList):=⟨_,rfl⟩
   rw[<-hV]at aA aE⊢
   rw[<-HZ.out]at aA⊢
   have bR:=C6x (Z.out.over aE.out)
   obtain⟨Y,hY⟩:∃x,x=Z1 X.1 N I ⟨gN,nx,I⟩:=⟨_,rfl⟩
   obtain⟨YE,aU⟩:∃x,x=Y.2:=⟨_,rfl⟩
   have bS:=C6x (show Calls Tryz.prog 190 #[.pointer (some ⟨l,0,none⟩),.agg #[.int .u64 (gN:Int),.int .u64 (nx:Int),.int .u64 (I:Int)]] V λe w'=>e= .returned (.int .i64 YE)/\∃F',Rs w' F' d l b n N Y.1 g/\B0 (UF F1 l b) V (UF F' l b) w' by
    have h:=B9p l b d n N g F1 X.1 ⟨gN,nx,I⟩ V bR.out bV.out (by have:=HN.out;omega) bO.out bQ.out bM.out
    rw[<-bC.out,<-hY]at h
    rw[aU]
    exact h)
   have HY:=C6x (show Z1 X.1 N g.ep (A0o g)=Y by rw[bD.out,<-bC.out,hY])
   have aS:=C6x aU
   have bX:=C6x (show¬UF F1 l b z fromλJ=>by have:=Z.out.bd z J;rw[HZ.out]at this;omega)
   obtain⟨z0,z1,z2⟩:=(show C3 V z 135 #[.int .u64 (gN:Int),.int .u64 (nx:Int),.int .u64 (I:Int)]from aA.out).three
   clear hV hY aU c2 c5 c6
   go_wp2_with fail
   refine bS.out.mono ?_
   rintro x w2 ⟨rfl,F2,r2,a2⟩
   have aC:=C6x r2
   have aZ:=C6x (aY.out.trans ((T9 (F:=F1) (l:=l) (b:=b) aE.out).trans a2))
   obtain⟨y0,y1,y2⟩:=(show C3 w2 z 135 #[.int .u64 (gN:Int),.int .u64 (nx:Int),.int .u64 (I:Int)]from(show C3 V z 135 #[.int .u64 (gN:Int),.int .u64 (nx:Int),.int .u64 (I:Int)]from aA.out).keep (a2.block z aA.out.lt bX.out)).three
   clear r2 a2 z0 z1 z2
   by_cases J:YE=0
   ·subst J
    obtain⟨W3,aG⟩:∃W,W=w2.setCells l 2 (h3 (gN:Int) (nx:Int) (I:Int)).toList:=⟨_,rfl⟩
    have bU:=C6x aG
    have aP:=C6x (show Lg W3 l b d n N { g with h:=⟨gN,nx,I⟩ } by rw[aG];exact aC.out.lg.setHead ⟨gN,nx,I⟩)
    have bK:=C6x (show B0 (LF l b) w2 (LF l b) W3 by rw[aG];exact B0.lsetCells _ 2 _ (B0.refl _ w2) (.inl (.inl rfl)))
    have bT:=C6x aC.out.lg.there2
    have bP:=C6x (show Mp W3 b (N-2-n) g.A from aP.out.mp)
    have c7:=aP.out.cells.2.2.2.2.2.2.2.1
    clear aG
    go_wp2_with (first
     |(refine wpList_store_mid rfl 135 (.tmp 45) (.tmp 43) rfl l 2 (h3 (gN:Int) (nx:Int) (I:Int)) rfl rfl bT.out Q8 (Z8 _ _ _) ?_;rw[<-bU.out])
     |(refine B9q rfl (.tmp 49) rfl b (N-2-n) g.A bP.out rfl (λw4 bZ bI=>?_))
     |fail)
    go_ret
    have bY:=aP.out.cleared bZ bI
    have bG:=bK.out.trans (B6X (l:=l) bI)
    rw[HR.out]
    unfold G9
    rw[if_pos HE.out.symm,<-HX.out,if_pos aF.out.symm,HY.out,if_pos aS.out.symm,bD.out]
    exact⟨rfl,F2,aC.out.log bG bY,aZ.out.trans (A2Q bG)⟩
   ·have hb:((YE:Int)!=0)=true:=by rw[bne_iff_ne];exact J
    have bH:((YE:Int)==0)=false:=by rw[beq_eq_false_iff_ne];exact J
    have aO:=C6x (A4m YE aC.out.lg)
    have aQ:=C6x J
    clear J
    go_wp2_with fail
    refine aO.out.mono ?_
    rintro x w3 ⟨rfl,l3,a3⟩
    have HF:=C6x (show WrR w F d l b n N R (.returned (.int .i64 YE)) w3 by
     rw[HR.out]
     unfold G9
     rw[if_pos HE.out.symm,<-HX.out,if_pos aF.out.symm,HY.out,if_neg (by rw[<-aS.out];exact aQ.out),<-aS.out]
     exact⟨rfl,F2,aC.out.log a3 l3,aZ.out.trans (A2Q a3)⟩)
    clear l3 a3
    go_wp2_with fail
    go_ret
    exact HF.out
  ·have hb:((XE:Int)!=0)=true:=by rw[bne_iff_ne];exact J
   have bH:((XE:Int)==0)=false:=by rw[beq_eq_false_iff_ne];exact J
   have aO:=C6x (A4m XE Z.out.lg)
   have aQ:=C6x J
   clear J
   go_wp2_with fail
   refine aO.out.mono ?_
   rintro x w3 ⟨rfl,l3,a3⟩
   have HF:=C6x (show WrR w F d l b n N R (.returned (.int .i64 XE)) w3 by
    rw[HR.out]
    unfold G9
    rw[if_pos HE.out.symm,<-HX.out,if_neg (by rw[<-aF.out];exact aQ.out),<-aF.out]
    exact⟨rfl,F1,Z.out.log a3 l3,aY.out.trans (A2Q a3)⟩)
   clear l3 a3
   go_wp2_with fail
   go_ret
   exact HF.out
 ·have hb:((E:Int)!=0)=true:=by rw[bne_iff_ne];exact h0
  have bH:((E:Int)==0)=false:=by rw[beq_eq_false_iff_ne];exact h0
  have HF:=C6x (show WrR w F d l b n N R (.returned (.int .i64 E)) w by
   rw[HR.out]
   unfold G9
   rw[if_neg (by rw[<-HE.out];exact h0),<-HE.out]
   exact⟨rfl,F,HS.out,B0.refl _ _⟩)
  clear h0
  go_enter Tryz.func150,Tryz.ntmps150
  go_wp2_with fail
  refine aR.out.mono ?_
  rintro x U ⟨rfl,rfl⟩
  go_wp2_with fail
  go_ret
  exact HF.out
end
section
open Go.RowKit Go.Maps
def A0j(s:DS)(n N:Nat)(g:LS)(ps:List Pt):(DS×LS)×Int:=
 if ps.length=0 then((s,g),0)else
  if(J6 s n N g ps).2=8 then
   if(G9 s n N g).2=0 then J6 (G9 s n N g).1.1 n N (G9 s n N g).1.2 ps else G9 s n N g
  else J6 s n N g ps
theorem B9r(s:DS)(i:Int)(l:List Nat):(L3 s i l).2≠8:=by
 unfold L3
 (repeat' split)<;>simp
theorem B1T:∀(P:List Pc) (s:DS) (n:Nat),(N9 s n P).2≠8
 |[],s,n=>by simp[N9]
 |p::ps,s,n=>by
  unfold N9
  split
  ·exact B1T ps _ n
  ·exact B9r _ _ _
theorem B9s{s:DS}{n N:Nat}{g:LS}{ps:List Pt}(h:(J6 s n N g ps).2=8):(J6 s n N g ps).1=(s,g):=by
 unfold J6 at h⊢
 split at h
 ·rename_i I
  rw[if_pos I]
  split at h
  ·rename_i J
   rw[if_pos J]
   split at h
   ·rename_i h3
    rw[if_pos h3]
    split at h
    ·cases h
    ·exact absurd h (B1T _ _ _)
   ·rename_i h3
    rw[if_neg h3]
  ·rename_i J
   rw[if_neg J]
 ·rename_i I
  rw[if_neg I]
structure WOk (n N:Nat) (s:DS) (g:LS):Prop where
 ok:GOk n N s g
 q:s.Q.length<=800000
 hg:g.h.g<=1099511627776
 A:AOk (N-2-n) g.A
 ok2:(G9 s n N g).2=0->GOk n N (G9 s n N g).1.1 (G9 s n N g).1.2
theorem C1y{w:World}{c m l o b d n N:Nat}{e:Int}{A:Nat->Option (List Nat)}{F:Nat->Prop}{s:DS}{g:LS}(hb:C3 w c 175 #[.pointer (some ⟨l,0,none⟩),.map (some m),.pointer (some ⟨o,0,none⟩),.int .i64 e])(hc:¬UF F l b c)(hm:Mp w m (N-2-n) A)(hM:N<=4096)(aU:AOk (N-2-n) A)
 (hr:Rs w F d l b n N s g) (hw:WOk n N s g):Calls Tryz.prog 106 #[.pointer (some ⟨c,0,none⟩)] w (WrR w F d l b n N (A0j s n N g (E6 A (N-2-n)))):=by
 have HB:=C6x hb
 have HC:=C6x hc
 have HR:=C6x hr
 have aH:=C6x (C3q hb hm (by omega) aU)
 have Z:∀p∈E6 A (N-2-n),∀x∈p.d,x<256:=λp hp=>by
  unfold E6 at hp
  obtain⟨i,hi,rfl⟩:=List.mem_map.1 hp
  intro x hx
  simp only at hx
  cases J:A i with
  |none=>rw[J]at hx;simp only[Option.getD_none]at hx;rw[(List.mem_replicate.1 hx).2];decide
  |some y=>rw[J]at hx;exact(aU i y J).2.2 x hx
 have H8:=C6x Z
 have V:=C6x hw
 have HN:=C6x hM
 obtain⟨ps,aV⟩:∃ps,ps=E6 A (N-2-n):=⟨_,rfl⟩
 rw[<-aV]at aH H8⊢
 unfold B9m at aH
 obtain⟨k,hk⟩:∃k,k=ps.length:=⟨_,rfl⟩
 rw[<-hk]at aH
 have HK:=C6x hk
 have bQ:(k:Int)<=9223372036854775807:=by
  rw[hk,aV,U5]
  have:=A2W A (N-2-n)
  omega
 have aS:=C6x (λW Y s1 g1 (r:Rs W Y d l b n N s1 g1) (ok:GOk n N s1 g1) A0 X (q:QRd W (UF Y l b) (.slice A0 k X) ps)=>B6k l b d n N g1 Y s1 A0 k X ps W r ok q H8.out)
 clear hb hc hm hM aU hr Z aV hw hk
 by_cases aO:k=0
 ·have HG:=C6x (show A0j s n N g ps=((s,g),0)by unfold A0j;rw[if_pos (by rw[<-HK.out];exact aO)])
  subst aO
  rw[HG.out]
  go_enter Tryz.func106,Tryz.ntmps106
  go_wp2_with (first
   |(go_at_call 148;refine aH.out.mono ?_;rintro r w1 ⟨A1,k1,rfl,J,I⟩;have aB:=C6x I;clear J I)
   |fail)
  go_ret
  exact⟨rfl,F,HR.out.over aB.out,T9 aB.out⟩
 ·have bR:((k:Int)==0)=false:=by rw[beq_eq_false_iff_ne];omega
  have HG:=C6x (show A0j s n N g ps=(if(J6 s n N g ps).2=8 then(if(G9 s n N g).2=0 then J6 (G9 s n N g).1.1 n N (G9 s n N g).1.2 ps else G9 s n N g)else J6 s n N g ps)by unfold A0j;rw[if_neg (by rw[<-HK.out];exact aO)])
  rw[HG.out]
  have aQ:=C6x (aH.out.mono (R':=λx w'=>∃A0 X,x= .returned (.slice A0 k X)/\QRd w' (UF F l b) (.slice A0 k X) ps/\B0 B5 w B5 w'/\w'.cell? ⟨c,0,none⟩=some (.pointer (some ⟨l,0,none⟩))) λx w' ⟨A0,X,h1,h2,h3⟩=>⟨A0,X,h1,h2 _ HR.out.bd,h3,(HB.out.over h3).cell 0⟩)
  clear aO aH
  by_cases Z:(J6 s n N g ps).2=8
  ·rw[if_pos Z]
   have e1:=B9s Z
   have aA:=C6x (λW (r:Rs W F d l b n N s g) A0 X q=>(aS.out W F s g r V.out.ok A0 X q).mono (R':=λe w'=>e= .returned (.int .i64 8)/\∃F',Rs w' F' d l b n N s g/\B0 (UF F l b) W (UF F' l b) w') λe w' ⟨x1,F',x2,x3⟩=>⟨by rw[x1,Z],F',by rw[e1]at x2;exact x2,x3⟩)
   have aG:=C6x (λW Y (r:Rs W Y d l b n N s g)=>B6Y l b d n N g Y s W r ⟨V.out.ok.hn.1,V.out.ok.hn.2.1,V.out.ok.hn.2.2⟩ V.out.A V.out.q V.out.hg (by have:=V.out.ok.nx;omega) (by have:=V.out.ok.ep;omega))
   clear Z e1
   by_cases aE:(G9 s n N g).2=0
   ·rw[if_pos aE]
    have bG:=C6x aE
    have aX:=C6x (V.out.ok2 aE)
    obtain⟨s2,aW⟩:∃s2,s2=(G9 s n N g).1.1:=⟨_,rfl⟩
    obtain⟨g2,aT⟩:∃g2,g2=(G9 s n N g).1.2:=⟨_,rfl⟩
    have bI:=C6x (λW Y (r:Rs W Y d l b n N s g)=>(aG.out W Y r).mono (R':=λe w'=>e= .returned (.int .i64 0)/\∃F',Rs w' F' d l b n N s2 g2/\B0 (UF Y l b) W (UF F' l b) w') λe w' ⟨x1,F',x2,x3⟩=>⟨by rw[x1,bG.out],F',by rw[aW,aT];exact x2,x3⟩)
    rw[<-aW,<-aT]at aX⊢
    obtain⟨R,hR⟩:∃R,R=J6 s2 n N g2 ps:=⟨_,rfl⟩
    rw[<-hR]
    have aY:=C6x hR
    clear aE aW aT aG hR
    go_enter Tryz.func106,Tryz.ntmps106
    go_wp2_with (first
     |(go_at_call 148;refine aQ.out.mono ?_;rintro r w1 ⟨A1,k1,rfl,J,I,c0⟩;have aI:=C6x J;have aB:=C6x I;have aF:=C6x (HB.out.over I);have aL:=C6x (HR.out.over I);clear J I)
     |(go_at_call 149;refine(aA.out w1 aL.out A1 k1 aI.out).mono ?_;rintro r w2 ⟨rfl,F2,aD,U⟩;have aM:=C6x aD;have aJ:=C6x U;have bJ:=C6x (aI.out.adv U (λ_ x=>x) (λk hk=>U.into k hk));have aK:=C6x (aF.out.keep (U.block c aF.out.lt HC.out));have bO:w2.cell? ⟨c,0,none⟩=some (.pointer (some ⟨l,0,none⟩)):=aK.out.cell 0;have bH:=C6x (show¬UF F2 l b c fromλhu=>(by rcases U.into c hu with x|x;exact HC.out x;have:=aF.out.lt;omega));clear aD U aA)
     |(go_at_call 150;refine(bI.out w2 F2 aM.out).mono ?_;rintro r w3 ⟨rfl,F3,aN,aC⟩;have aR:=C6x aN;have aP:=C6x aC;have bK:=C6x (bJ.out.adv aC (λ_ x=>x) (λk hk=>aC.into k hk));have bF:=C6x (aK.out.keep (aC.block c aK.out.lt bH.out));have bP:w3.cell? ⟨c,0,none⟩=some (.pointer (some ⟨l,0,none⟩)):=bF.out.cell 0;clear aN aC)
     |(go_at_call 149;refine(aS.out w3 F3 s2 g2 aR.out aX.out A1 k1 bK.out).mono ?_;rintro r w4 ⟨rfl,F4,bC,bA⟩;have bM:=C6x bC;have bD:=C6x bA;clear bC bA)
     |fail)
    go_ret
    exact⟨by rw[aY.out];rfl,F4,by rw[aY.out];exact bM.out,(((T9 aB.out).trans aJ.out).trans aP.out).trans bD.out⟩
   ·rw[if_neg aE]
    have bB:((G9 s n N g).2!=0)=true:=by rw[bne_iff_ne];exact aE
    obtain⟨R,hR⟩:∃R,R=G9 s n N g:=⟨_,rfl⟩
    unfold WrR at aG
    rw[<-hR]at aG bB⊢
    obtain⟨⟨s2,g2⟩,er⟩:=R
    simp only at aG bB⊢
    clear aE hR
    go_enter Tryz.func106,Tryz.ntmps106
    go_wp2_with (first
     |(go_at_call 148;refine aQ.out.mono ?_;rintro r w1 ⟨A1,k1,rfl,J,I,c0⟩;have aI:=C6x J;have aB:=C6x I;have aF:=C6x (HB.out.over I);have aL:=C6x (HR.out.over I);clear J I)
     |(go_at_call 149;refine(aA.out w1 aL.out A1 k1 aI.out).mono ?_;rintro r w2 ⟨rfl,F2,aD,U⟩;have aM:=C6x aD;have aJ:=C6x U;have aK:=C6x (aF.out.keep (U.block c aF.out.lt HC.out));have bO:w2.cell? ⟨c,0,none⟩=some (.pointer (some ⟨l,0,none⟩)):=aK.out.cell 0;clear aD U aA)
     |(go_at_call 150;refine(aG.out w2 F2 aM.out).mono ?_;rintro r w3 ⟨rfl,F3,aN,aC⟩;have aR:=C6x aN;have aP:=C6x aC;clear aN aC)
     |fail)
    go_ret
    exact⟨rfl,F3,aR.out,((T9 aB.out).trans aJ.out).trans aP.out⟩
  ·rw[if_neg Z]
   have aZ:((J6 s n N g ps).2!=8)=true:=by rw[bne_iff_ne];exact Z
   have aA:=C6x (λW (r:Rs W F d l b n N s g) A0 X q=>aS.out W F s g r V.out.ok A0 X q)
   obtain⟨R,hR⟩:∃R,R=J6 s n N g ps:=⟨_,rfl⟩
   unfold WrR at aA
   rw[<-hR]at aA aZ⊢
   obtain⟨⟨s2,g2⟩,er⟩:=R
   simp only at aA aZ⊢
   clear Z hR
   go_enter Tryz.func106,Tryz.ntmps106
   go_wp2_with (first
    |(go_at_call 148;refine aQ.out.mono ?_;rintro r w1 ⟨A1,k1,rfl,J,I,c0⟩;have aI:=C6x J;have aB:=C6x I;have aL:=C6x (HR.out.over I);clear J I)
    |(go_at_call 149;refine(aA.out w1 aL.out A1 k1 aI.out).mono ?_;rintro r w2 ⟨rfl,F2,aD,U⟩;have aM:=C6x aD;have aJ:=C6x U;clear aD U)
    |fail)
   go_ret
   exact⟨rfl,F2,aM.out,(T9 aB.out).trans aJ.out⟩
end
section
open Go.RowKit Go.Maps
def B0j(O B:Nat->Option (List Nat))(left:Lit->Bool):Nat->Option (List Nat):=λj=>if(B j).isSome=true/\left (ik j)=false then B j else O j
def B3M(O B:Nat->Option (List Nat)):Nat->Option (List Nat):=λj=>if(B j).isSome=true then B j else O j
theorem B6Z{O B:Nat->Option (List Nat)}{left:Lit->Bool}{i:Nat}{l:List Nat}(I:B i=some l):B0j O B (λz=>left z&& !z.sameKey (ik i))=Q9 (B0j O B left) i l:=by
 funext j
 unfold B0j Q9
 simp only[A6j]
 by_cases e:j=i
 ·subst e;rw[if_pos rfl,if_pos (by simp[I]),I]
 ·rw[if_neg e];simp[e]
def C3r(w:World)(M d J r I:Nat)(O B:Nat->Option (List Nat))(D:DU)(wr:World):Prop:=
 ∃(left:Lit->Bool) (cnt:Nat),wr.ranges Tryz.prog 3 A0w J r I D left cnt/\Mp wr d M (B0j O B left)/\B0 (J0 d) w (J0 d) wr
theorem C3s{w:World}{M d I:Nat}{O B:Nat->Option (List Nat)}(hd:Mp w d M O)(hs:Mp w I M B)(aZ:d≠I)(hM:M<=4096)(hB:AOk M B):Calls Tryz.prog 108 #[.map (some d),.map (some I)] w λe w'=>e= .returned (.tuple #[])/\Mp w' d M (B3M O B)/\B0 (J0 d) w (J0 d) w':=by
 obtain⟨U,aB,aQ⟩:=hs
 have aK:=C6x aQ
 obtain⟨V,aY⟩:∃V,V=cnt B M:=⟨_,rfl⟩
 rw[<-aY]at aB
 have HO:=C6x aB
 have aC:=C6x hd
 have bI:=C6x hM
 have aJ:=C6x hB
 have bO:=C6x (show I<w.heap.size from aB.lt)
 clear aB aQ aY hd hM hB
 go_enter Tryz.func108,Tryz.ntmps108
 go_wp2_with (first
  |(at_range;refine wpList_range_own _ rfl _ 86 rfl 3 173 N7 Tryz.underlying86 A0w I V U rfl HO.out ?_;intro w0 aG W bS)
  |fail)
 go_frame
 obtain⟨r,hr⟩:∃r,r=w.heap.size:=⟨_,rfl⟩
 rw[<-hr]at aG⊢
 have aL:=C6x (show B0 B5 w B5 w0 from⟨W.os,W.tape,W.output,W.size,λk X _=>W.block k X (by simp),λ_ x=>x.elim⟩)
 have aA:=C6x (show d≠r/\I≠r/\w.heap.size<=r/\d≠I by
  have h1:=aC.out.lt
  have h2:=bO.out
  exact⟨by omega,by omega,by omega,aZ⟩)
 have Y:B0j O B (Maps.has U)=O:=by
  funext j
  unfold B0j
  split
  ·rename_i h1
   obtain⟨x,hx⟩:=Option.isSome_iff_exists.1 h1.1
   have:=aK.out.has j (aJ.out j x hx).1
   rw[h1.2,hx]at this;cases this
  ·rfl
 have bP:=C6x (show C3r w M d I r V O B U w0 from⟨Maps.has U,_,aG,by rw[Y];exact aC.out.keep (aL.out.block d aC.out.lt (λx=>x)),aL.out.same (λ_ x=>x.elim)⟩)
 clear aG W bS hr Y HO aZ
 go_loopw [4] (λ_ wr=>C3r w M d I r V O B U wr) (λ_ wr=>wr.rangeLeft I r)
 case atStart=>exact bP.out
 case round=>
  obtain⟨left,cn,bA,aX,J⟩:=hrel
  have aN:=C6x bA
  have aD:=C6x aX
  have HA:=C6x J
  clear aX J bA
  go_wp2_with (first
   |(at_next;refine wpList_next_ranges _ rfl _ rfl 3 N7 A0w (Value.int .i64) Value.agg (λbV kl X=>B1J X) (λv y hv=>B1H hv) I r V U left cn rfl aN.out ?done ?more)
   |fail)
  case done=>
   intro h0 hl
   have Y:B0j O B left=B3M O B:=by funext j;simp[B0j,B3M,hl]
   have HF:=C6x (show Mp wr d M (B3M O B)from by rw[<-Y];exact aD.out)
   clear h0 hl Y
   go_wp2_with fail
   exact bodyPost_end (results_none rfl _ _ _) rfl ⟨rfl,HF.out,HA.out⟩
  case more=>
   intro x cs kl yd yp w1 bQ X hl hv aR bB aV aS bT bU
   obtain⟨i,l,rfl,rfl,aU,aF,rfl⟩:=C4J (y:=(yd,yp)) aK.out X hv aR
   have aO:=C6x (B6Z (O:=O) (left:=left) aF)
   have HI:=C6x aU
   have HL:=C6x ((aJ.out i l aF).2)
   have a1:B0 (J0 r) wr (J0 r) w1:=A0G aS
   have bM:=C6x bB
   have bH:=C6x aV
   have aE:=C6x (aD.out.keep (a1.block d aD.out.lt (λx=>aA.out.1 x)))
   have bD:=C6x (HA.out.freshG aA.out.2.2.1 a1)
   obtain⟨Q,hQ⟩:∃Q,Q=B0j O B left:=⟨_,rfl⟩
   rw[<-hQ]at aE aO
   clear X hl hv aR bB aV aS bT aF aU a1 hQ
   go_wp2_with (first
    |(refine B9 (t:=173) rfl rfl A0A ?_;intro z5 w2 hz Z J;have aP:=C6x hz;have bF:=C6x Z;have aH:=C6x J;clear hz Z J)
    |(refine B7 (t:=173) rfl _ _ rfl z5 bF.out rfl rfl V3 (by have:=HL.out.1;simpa using this) A0S (A2i l) ?_;intro w3 Z J;have bG:=C6x Z;have aI:=C6x (aH.out.fresh aP.out J);have bK:=C6x (aE.out.keep ((aH.out.fresh aP.out J).block d aE.out.lt (λx=>x)));clear Z J)
    |(refine B6 (t:=173) rfl _ rfl z5 bG.out rfl Tryz.underlying173 rfl V3 (by have:=HL.out.1;simpa using this) ?_)
    |(refine A99 rfl _ _ _ rfl d M i Q l bK.out rfl rfl rfl HI.out bI.out ?_;intro w5 aW aT;have bJ:=C6x aW;have aM:=C6x aT;clear aW aT)
    |fail)
   go_frame
   have bC:=(bM.out.kept aI.out.grow (by simp) (by simp)).kept aM.out (λx=>aA.out.2.2.2 (Option.some.inj x).symm) (λx=>aA.out.1 (Option.some.inj x).symm)
   have hq:C3r w M d I r V O B U w5:=⟨_,bQ,bC,by rw[aO.out];exact bJ.out,(bD.out.over aI.out).trans (A0G aM.out)⟩
   have bR:w5.rangeLeft I r<wr.rangeLeft I r:=by rw[bC.left_eq,aN.out.left_eq];exact bH.out
   exact⟨⟨_,_,_,_,_,_,_,_,_,_,hq,rfl⟩,bR⟩
end
end Go.Proofs.YtbefmjiclpobjaaGreat
