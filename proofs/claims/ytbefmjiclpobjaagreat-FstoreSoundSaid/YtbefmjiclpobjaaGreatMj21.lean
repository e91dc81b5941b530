import Derived.Test.YtbefmjiclpobjaaGreatMj20
namespace Go.Proofs.YtbefmjiclpobjaaGreat
set_option maxHeartbeats 3200000
set_option maxRecDepth 3000
section
open Go.RowKit
def upI(X:L6):L6:=⟨X.k,X.g,X.v+1,X.a⟩
def A8i(X:L6):L6:=⟨0,X.g,0,λ_=>0⟩
def CS.touch(s:CS)(i g:Int):CS:=
 (if(fileX s.H i g).v=1099511627775 then(s.note (fileE s.H i g)).note 8 else s.note (fileE s.H i g)).set i.toNat (upI (fileX s.H i g))
noncomputable def CS.free(s:CS)(M:Nat)(i g:Int):CS:=((s.note (fileE s.H i g)).fill M (fileX s.H i g) []).set i.toNat (A8i (fileX s.H i g))
theorem C2j(X:L6):(ic X).setIfInBounds 2 (.int .u64 ((X.v:Int)+1))=ic (upI X):=rfl
theorem A7x(g:Int):Tryz.prog.built 62 [(1,.int .i64 g)]=some (ic ⟨0,g,0,λ_=>0⟩):=by kernel_rfl
theorem A7y{ops:Array Oper}{rest:List Oper}{o:Oper}{a:Act}{w:World}{Q:Exit->Act->World->Prop}(I:o.guard=none)(x:Operand)(J:o.op= .build 62 #[(1,x)])(g:Int)(U:a.eval x= .int .i64 g)
 (h:wpList Tryz.prog ops Q rest (a.put o.dst (.agg (ic ⟨0,g,0,λ_=>0⟩))) w):wpList Tryz.prog ops Q (o::rest) a w:=by
 have e:((#[(1,x)]:Array (Nat×Operand)).map λ(i,x)=>(i,a.eval x)).toList=[(1,.int .i64 g)]:=by simp[U]
 refine wpList_build I 62 _ J (by rw[e,A7x g];rfl) ?_
 rw[e,A7x g]
 exact h
section
variable {w w':World} {E:Ev} {c m:Nat} {s:CS}
theorem A4w(h:Cs w E c m s)(hs:Sw s.H E.M)(i g:Int)(hi:0<=i/\i<=40):
 Calls Tryz.prog 84 #[.pointer (some ⟨c,0,none⟩),.agg #[.int .i64 i,.int .i64 g]] w λr w'=>r= .returned (.tuple #[])/\Cs w' E c m (s.touch i g)/\B0 (CF c m) w (CF c m) w':=by
 have HC:=C6x h
 have cE:=C6x hs
 have bP:=C6x (λW (k:Cs W E c m s)=>A7m k.rdv hs.sd i g)
 have aM:=C6x (V8 hs.sd i g)
 have HM:=C6x hs.sd.hM
 have aL:=C6x (λ(d:Nat) (hd:w.heap.size<=d)=>h.apart (G:=J0 d) (λk hk=>by unfold J0 at hk;omega))
 have HN:=C6x (λW (k:Cs W E c m s)=>show Calls Tryz.prog 101 #[.pointer (some ⟨c,0,none⟩),.int .i64 (fileE s.H i g)] W λr w'=>r= .returned (.tuple #[])/\Cs w' E c m (s.note (fileE s.H i g))/\B0 (CF c m) W (CF c m) w' from T6 k _)
 have hR:s.touch i g=(if(fileX s.H i g).v=1099511627775 then(s.note (fileE s.H i g)).note 8 else s.note (fileE s.H i g)).set i.toNat (upI (fileX s.H i g)):=rfl
 rw[hR]
 obtain⟨n,rfl⟩:∃n:Nat,i=(n:Int):=⟨i.toNat,by omega⟩
 rw[Int.toNat_natCast]
 obtain⟨X,hX⟩:∃X,X=fileX s.H (n:Int) g:=⟨_,rfl⟩
 obtain⟨fe,bJ⟩:∃fe,fe=fileE s.H (n:Int) g:=⟨_,rfl⟩
 rw[<-hX,<-bJ]at bP⊢
 rw[<-bJ]at HN
 rw[<-hX]at aM
 have bZ:WfI (upI X):=⟨aM.out.1.k,aM.out.1.g,by show X.v+1<_;have:=aM.out.2.2;omega,aM.out.1.a⟩
 have bT:=C6x (λW (t:CS) (k:Cs W E c m t)=>show Calls Tryz.prog 104 #[.pointer (some ⟨c,0,none⟩),.int .i64 (n:Int),.agg (ic (upI X))] W λr w'=>r= .returned (.tuple #[])/\Cs w' E c m (t.set n (upI X))/\B0 (CF c m) W (CF c m) w' from A7s k n (by omega) (upI X) bZ (by have:=HM.out;omega))
 obtain⟨s1,bV⟩:∃s1,s1=s.note fe:=⟨_,rfl⟩
 rw[<-bV]at HN⊢
 obtain⟨v,hv⟩:∃v,v=X.v:=⟨_,rfl⟩
 have hw:IntKind.u64.wrap ((v:Int)+1)=((v:Int)+1):=by have:=aM.out.2.2;rw[IntKind.wrap_u64];omega
 rw[<-hv]
 have HV:=C6x hv
 obtain⟨s2,bK⟩:∃s2,s2=if v=1099511627775 then s1.note 8 else s1:=⟨_,rfl⟩
 rw[<-bK]
 have bS:=C6x bK
 have bF:=C6x (λW (k:Cs W E c m s2)=>bT.out W s2 k)
 obtain⟨s3,bX⟩:∃s3,s3=s2.set n (upI X):=⟨_,rfl⟩
 rw[<-bX]at bF⊢
 clear hR hX bJ bV hv bZ hi h hs bK bX bT
 go_enter Tryz.func84,Tryz.ntmps84
 go_upto_region 1 with(first
  |(refine C5 (t:=35) rfl _ rfl rfl ?_;intro zb W hz U I;have bH:=C6x hz;have bB:=C6x U;have aX:=C6x I;clear hz U I)
  |fail)
 have bO:=C6x (λV (a:B0 B5 W B5 V)=>bP.out V (HC.out.step (aX.out.trans a)))
 have aO:=C6x (show B0 B5 W B5 W.drew from(B0.refl _ _).drew)
 have aD:=C6x (show∀V,B0 B5 W B5 V->C3 V zb 35 #[.int .i64 (n:Int),.int .i64 g]fromλV a=>bB.out.over a)
 have aE:=C6x (aD.out _ aO.out)
 go_frame
 go_cut [4,5] (λt4 t5 W9=>C3i W X fe t5 t4 W9)
 case first=>
  refine D6 (S:=(λw'=>C3 w' zb 35 #[.int .i64 (n:Int),.int .i64 g])) (by with_reducible first|exact aH.out|exact aG.out|exact aF.out|exact aE.out) (λhH=>?_)
  refine C6y 0 rfl ?_
  refine C6y 1 rfl ?_
  refine C6y 2 rfl ?_
  refine C65 3 (.agg #[.int .i64 (n:Int),.int .i64 g]) rfl (Q2 rfl (.tmp 3) rfl zb rfl (λ_ h=>h) Tryz.underlying35 rfl B1 rfl) ?_
  refine C63 4 8 rfl rfl (λK hK=>?_) (λK hK=>?_)
  ·go_simp
   refine(bO.out _ aO.out).mono ?_
   rintro r w5 ⟨rfl,a5⟩
   have aJ:=C6x (aO.out.trans a5)
   have aF:=C6x (aD.out _ aJ.out)
   clear a5
   go_wp2_with fail
   refine C60 hK (by with_reducible first|exact aH.out|exact aG.out|exact aF.out|exact aE.out) ?_
   clear hK K hH
   intro hH
   try simp only[Act.put,sA,sB,sC]
   refine C6y 5 rfl ?_
   refine C6y 6 rfl ?_
   refine C6y 7 rfl ?_
   refine C6z 8 rfl (λK hK=>?_)
   refine T2 rfl rfl C6 (λJ w8 hz U I=>?_)
   have Z:=C6x (Nat.le_trans aJ.out.size hz)
   have bA:=C6x (U)
   have aK:=C6x (aJ.out.trans I)
   have aG:=C6x (aD.out _ aK.out)
   clear hz U I
   refine C60 hK (by with_reducible first|exact aH.out|exact aG.out|exact aF.out|exact aE.out) ?_
   clear hK K hH
   intro hH
   try simp only[Act.put,sA,sB,sC]
   refine C6z 9 rfl (λK hK=>?_)
   refine T3 rfl _ _ rfl J bA.out rfl rfl C0 (C2 _) (C2 _) (D5 _) (λw9 U I=>?_)
   have aC:=C6x (U)
   have aB:=C6x (aK.out.fresh Z.out I)
   have aH:=C6x (aD.out _ aB.out)
   clear U I
   refine C60 hK (by with_reducible first|exact aH.out|exact aG.out|exact aF.out|exact aE.out) ?_
   clear hK K hH
   intro hH
   try simp only[Act.put]
   refine C6y 10 rfl ?_
   refine wpAnyH_done (by kernel_rfl) ?_ _
   go_wp2_with fail
   go_meet
   exact⟨J,rfl,rfl,aC.out,Z.out,aB.out⟩
  ·refine T2 rfl rfl C6 (λJ w8 hz U I=>?_)
   have Z:=C6x (Nat.le_trans aO.out.size hz)
   have bA:=C6x (U)
   have aK:=C6x (aO.out.trans I)
   have aG:=C6x (aD.out _ aK.out)
   clear hz U I
   refine C60 hK (by with_reducible first|exact aH.out|exact aG.out|exact aF.out|exact aE.out) ?_
   clear hK K hH
   intro hH
   try simp only[Act.put,sA,sB,sC]
   refine C6z 4 rfl (λK hK=>?_)
   go_simp
   refine(bO.out _ aK.out).mono ?_
   rintro r w5 ⟨rfl,a5⟩
   have aJ:=C6x (aK.out.trans a5)
   have cB:=C6x (bA.out.over a5)
   have aF:=C6x (aD.out _ aJ.out)
   clear a5
   go_wp2_with fail
   refine C60 hK (by with_reducible first|exact aH.out|exact aG.out|exact aF.out|exact aE.out) ?_
   clear hK K hH
   intro hH
   try simp only[Act.put,sA,sB,sC]
   refine C6y 5 rfl ?_
   refine C6y 6 rfl ?_
   refine C6y 7 rfl ?_
   refine C6z 9 rfl (λK hK=>?_)
   refine T3 rfl _ _ rfl J cB.out rfl rfl C0 (C2 _) (C2 _) (D5 _) (λw9 U I=>?_)
   have aC:=C6x (U)
   have aB:=C6x (aJ.out.fresh Z.out I)
   have aH:=C6x (aD.out _ aB.out)
   clear U I
   refine C60 hK (by with_reducible first|exact aH.out|exact aG.out|exact aF.out|exact aE.out) ?_
   clear hK K hH
   intro hH
   try simp only[Act.put]
   refine C6y 10 rfl ?_
   refine wpAnyH_done (by kernel_rfl) ?_ _
   go_wp2_with fail
   go_meet
   exact⟨J,rfl,rfl,aC.out,Z.out,aB.out⟩
 case rest=>
 obtain⟨J,rfl,rfl,bU,cA,bI⟩:=hcut
 have aC:=C6x bU
 have aB:=C6x (aX.out.trans bI)
 have aV:=C6x (bB.out.over bI)
 have bM:=C6x (HC.out.step aB.out)
 have Z:=C6x (Nat.le_trans aX.out.size cA)
 have bR:=C6x (show zb≠J fromλe=>by have:=bB.out.lt;omega)
 clear bU cA bI aE aD
 by_cases aQ:v=1099511627775
 ·have e2:s2=s1.note 8:=by rw[bS.out,if_pos aQ]
  have bQ:=C6x (λW (k:Cs W E c m s1)=>show Calls Tryz.prog 101 #[.pointer (some ⟨c,0,none⟩),.int .i64 8] W λr w'=>r= .returned (.tuple #[])/\Cs w' E c m s2/\B0 (CF c m) W (CF c m) w' by rw[e2];exact T6 k _)
  have cC:((v:Int)==1099511627775)=true:=by rw[aQ];rfl
  clear aQ e2
  go_wp2_with (first
  |(go_at_call 101;refine(HN.out _ bM.out).mono ?_;rintro r aW ⟨rfl,Y,I⟩;have bC:=C6x Y;have aY:=C6x ((aB.out.same (G:=CF c m) (λ_ x=>x.elim)).trans I);have aT:=C6x (aV.out.keep (I.block zb aV.out.lt (λhk=>aL.out zb bH.out zb hk rfl)));have aI:=C6x (aC.out.keep (I.block J aC.out.lt (λhk=>aL.out J Z.out J hk rfl)));have d2:aW.cell? ⟨J,2,none⟩=some (.int .u64 (v:Int)):=(by rw[HV.out];exact aI.out.cell 2);clear Y I HN)
   |(go_at_call 101;refine(bQ.out _ bC.out).mono ?_;rintro r aA ⟨rfl,Y,I⟩;have aS:=C6x Y;have aR:=C6x (aY.out.trans I);have aU:=C6x (aT.out.keep (I.block zb aT.out.lt (λhk=>aL.out zb bH.out zb hk rfl)));have aN:=C6x (aI.out.keep (I.block J aI.out.lt (λhk=>aL.out J Z.out J hk rfl)));have cF:aA.cell? ⟨J,2,none⟩=some (.int .u64 (v:Int)):=(by rw[HV.out];exact aN.out.cell 2);have cG:=aN.out.frozen 2;have sc:=B0.setCell (F:=J0 J) (F':=J0 J) (p:=⟨J,2,none⟩) (B0.refl _ aA) (.inl rfl) (.int .u64 ((v:Int)+1));have bG:=C6x (show C3 (aA.setCell ⟨J,2,none⟩ (.int .u64 ((v:Int)+1))) J 62 (ic (upI X))from(by have:=aN.out.set_ 2 (.int .u64 ((v:Int)+1));rw[HV.out,C2j]at this;rw[HV.out];exact this));have bD:=C6x (HC.out.fresh aS.out Z.out sc);have aZ:=C6x (aR.out.freshG Z.out sc);have d0:(aA.setCell ⟨J,2,none⟩ (.int .u64 ((v:Int)+1))).cell? ⟨zb,0,none⟩=some (.int .i64 (n:Int)):=(aU.out.far1 sc bR.out).cell 0;clear sc;clear Y I bQ)
   |(refine B6 (t:=62) (C:=ic (upI X)) rfl _ rfl J bG.out rfl Tryz.underlying62 rfl C0 (C2 _) ?_)
   |(go_at_call 104;refine(bF.out _ bD.out).mono ?_;rintro r cD ⟨rfl,Y,I⟩;have aP:=C6x (And.intro Y (aZ.out.trans I));clear Y I)
   |fail)
  exact bodyPost_end (results_none rfl _ _ _) rfl ⟨rfl,aP.out.1,aP.out.2⟩
 ·have e2:s1=s2:=by rw[bS.out,if_neg aQ]
  subst e2
  have cC:((v:Int)==1099511627775)=false:=by rw[beq_eq_false_iff_ne];omega
  clear aQ
  go_wp2_with (first
  |(go_at_call 101;refine(HN.out _ bM.out).mono ?_;rintro r aW ⟨rfl,Y,I⟩;have bC:=C6x Y;have aY:=C6x ((aB.out.same (G:=CF c m) (λ_ x=>x.elim)).trans I);have aT:=C6x (aV.out.keep (I.block zb aV.out.lt (λhk=>aL.out zb bH.out zb hk rfl)));have aI:=C6x (aC.out.keep (I.block J aC.out.lt (λhk=>aL.out J Z.out J hk rfl)));have aS:=C6x bC.out;have aR:=C6x aY.out;have aU:=C6x aT.out;have aN:=C6x aI.out;have d2:aW.cell? ⟨J,2,none⟩=some (.int .u64 (v:Int)):=(by rw[HV.out];exact aI.out.cell 2);have f2:=aI.out.frozen 2;obtain⟨aA,bY⟩:∃aA,aA=aW:=⟨_,rfl⟩;rw[<-bY]at aS aR aU aN d2 f2⊢;clear bY;have sc:=B0.setCell (F:=J0 J) (F':=J0 J) (p:=⟨J,2,none⟩) (B0.refl _ aA) (.inl rfl) (.int .u64 ((v:Int)+1));have bG:=C6x (show C3 (aA.setCell ⟨J,2,none⟩ (.int .u64 ((v:Int)+1))) J 62 (ic (upI X))from(by have:=aN.out.set_ 2 (.int .u64 ((v:Int)+1));rw[HV.out,C2j]at this;rw[HV.out];exact this));have bD:=C6x (HC.out.fresh aS.out Z.out sc);have aZ:=C6x (aR.out.freshG Z.out sc);have d0:(aA.setCell ⟨J,2,none⟩ (.int .u64 ((v:Int)+1))).cell? ⟨zb,0,none⟩=some (.int .i64 (n:Int)):=(aU.out.far1 sc bR.out).cell 0;clear sc;clear Y I HN)
   |(refine B6 (t:=62) (C:=ic (upI X)) rfl _ rfl J bG.out rfl Tryz.underlying62 rfl C0 (C2 _) ?_)
   |(go_at_call 104;refine(bF.out _ bD.out).mono ?_;rintro r cD ⟨rfl,Y,I⟩;have aP:=C6x (And.intro Y (aZ.out.trans I));clear Y I)
   |fail)
  exact bodyPost_end (results_none rfl _ _ _) rfl ⟨rfl,aP.out.1,aP.out.2⟩
end
end
section
open Go.RowKit
section
variable {w w':World} {E:Ev} {c m:Nat} {s:CS}
theorem B9c(h:Cs w E c m s)(hs:Sw s.H E.M)(i g:Int)(hi:0<=i/\i<=40):
 Calls Tryz.prog 82 #[.pointer (some ⟨c,0,none⟩),.agg #[.int .i64 i,.int .i64 g]] w λr w'=>r= .returned (.tuple #[])/\Cs w' E c m (s.free E.M i g)/\B0 (CF c m) w (CF c m) w':=by
 have HC:=C6x h
 have bX:=C6x hs
 have bA:=C6x (λW (k:Cs W E c m s)=>A7m k.rdv hs.sd i g)
 have aO:=C6x (V8 hs.sd i g)
 have HM:=C6x hs.sd.hM
 have aK:=C6x (λ(d:Nat) (hd:w.heap.size<=d)=>h.apart (G:=J0 d) (λk Y=>by unfold J0 at Y;omega))
 have HN:=C6x (λW (k:Cs W E c m s)=>show Calls Tryz.prog 101 #[.pointer (some ⟨c,0,none⟩),.int .i64 (fileE s.H i g)] W λr w'=>r= .returned (.tuple #[])/\Cs w' E c m (s.note (fileE s.H i g))/\B0 (CF c m) W (CF c m) w' from T6 k _)
 have hR:s.free E.M i g=((s.note (fileE s.H i g)).fill E.M (fileX s.H i g) []).set i.toNat (A8i (fileX s.H i g)):=rfl
 rw[hR]
 obtain⟨n,rfl⟩:∃n:Nat,i=(n:Int):=⟨i.toNat,by omega⟩
 rw[Int.toNat_natCast]
 obtain⟨X,hX⟩:∃X,X=fileX s.H (n:Int) g:=⟨_,rfl⟩
 obtain⟨fe,aS⟩:∃fe,fe=fileE s.H (n:Int) g:=⟨_,rfl⟩
 rw[<-hX,<-aS]at bA⊢
 rw[<-aS]at HN
 rw[<-hX]at aO
 have bI:WfI (A8i X):=⟨by show -9223372036854775808<=(0:Int)/\(0:Int)<9223372036854775808;decide,aO.out.1.g,by show 0<18446744073709551616;decide,λj _=>by show -9223372036854775808<=(0:Int)/\(0:Int)<9223372036854775808;decide⟩
 obtain⟨s1,aT⟩:∃s1,s1=s.note fe:=⟨_,rfl⟩
 have bH:Sw s1.H E.M:=by rw[aT];exact hs
 have aX:=C6x (λW (k:Cs W E c m s1)=>B3D k bH X aO.out.2.1 none 0 0 [] rfl (λr hr=>by cases hr) (by decide) (A1X.nil W c m))
 rw[<-aT]at HN⊢
 obtain⟨X2,bD⟩:∃X2,X2=s1.fillX E.M X []:=⟨_,rfl⟩
 obtain⟨s2,aU⟩:∃s2,s2=s1.fill E.M X []:=⟨_,rfl⟩
 rw[<-aU,<-bD]at aX
 rw[<-aU]
 have bB:=C6x (λW (k:Cs W E c m s2)=>show Calls Tryz.prog 104 #[.pointer (some ⟨c,0,none⟩),.int .i64 (n:Int),.agg (ic (A8i X))] W λr w'=>r= .returned (.tuple #[])/\Cs w' E c m (s2.set n (A8i X))/\B0 (CF c m) W (CF c m) w' from A7s k n (by omega) (A8i X) bI (by have:=HM.out;omega))
 obtain⟨s3,bG⟩:∃s3,s3=s2.set n (A8i X):=⟨_,rfl⟩
 rw[<-bG]at bB⊢
 clear hR hX aS aT bI hi h hs aU bG bD bH
 go_enter Tryz.func82,Tryz.ntmps82
 go_upto_region 1 with(first
  |(refine C5 (t:=35) rfl _ rfl rfl ?_;intro zb W hz U I;have bC:=C6x hz;have aN:=C6x U;have aL:=C6x I;clear hz U I)
  |fail)
 have aZ:=C6x (λV (a:B0 B5 W B5 V)=>bA.out V (HC.out.step (aL.out.trans a)))
 have aJ:=C6x (show B0 B5 W B5 W.drew from(B0.refl _ _).drew)
 have aA:=C6x (show∀V,B0 B5 W B5 V->C3 V zb 35 #[.int .i64 (n:Int),.int .i64 g]fromλV a=>aN.out.over a)
 have aB:=C6x (aA.out _ aJ.out)
 go_frame
 go_cut [4,5] (λt4 t5 W9=>C3i W X fe t5 t4 W9)
 case first=>
  refine D6 (S:=(λw'=>C3 w' zb 35 #[.int .i64 (n:Int),.int .i64 g])) (by with_reducible first|exact aE.out|exact aD.out|exact aC.out|exact aB.out) (λhH=>?_)
  refine C6y 0 rfl ?_
  refine C6y 1 rfl ?_
  refine C6y 2 rfl ?_
  refine C65 3 (.agg #[.int .i64 (n:Int),.int .i64 g]) rfl (Q2 rfl (.tmp 3) rfl zb rfl (λ_ h=>h) Tryz.underlying35 rfl B1 rfl) ?_
  refine C63 4 8 rfl rfl (λK hK=>?_) (λK hK=>?_)
  ·go_simp
   refine(aZ.out _ aJ.out).mono ?_
   rintro r w5 ⟨rfl,a5⟩
   have aG:=C6x (aJ.out.trans a5)
   have aC:=C6x (aA.out _ aG.out)
   clear a5
   go_wp2_with fail
   refine C60 hK (by with_reducible first|exact aE.out|exact aD.out|exact aC.out|exact aB.out) ?_
   clear hK K hH
   intro hH
   try simp only[Act.put,sA,sB,sC]
   refine C6y 5 rfl ?_
   refine C6y 6 rfl ?_
   refine C6y 7 rfl ?_
   refine C6z 8 rfl (λK hK=>?_)
   refine T2 rfl rfl C6 (λJ w8 hz U I=>?_)
   have aF:=C6x (Nat.le_trans aG.out.size hz)
   have aM:=C6x (U)
   have aH:=C6x (aG.out.trans I)
   have aD:=C6x (aA.out _ aH.out)
   clear hz U I
   refine C60 hK (by with_reducible first|exact aE.out|exact aD.out|exact aC.out|exact aB.out) ?_
   clear hK K hH
   intro hH
   try simp only[Act.put,sA,sB,sC]
   refine C6z 9 rfl (λK hK=>?_)
   refine T3 rfl _ _ rfl J aM.out rfl rfl C0 (C2 _) (C2 _) (D5 _) (λw9 U I=>?_)
   have aI:=C6x (U)
   have Z:=C6x (aH.out.fresh aF.out I)
   have aE:=C6x (aA.out _ Z.out)
   clear U I
   refine C60 hK (by with_reducible first|exact aE.out|exact aD.out|exact aC.out|exact aB.out) ?_
   clear hK K hH
   intro hH
   try simp only[Act.put]
   refine C6y 10 rfl ?_
   refine wpAnyH_done (by kernel_rfl) ?_ _
   go_wp2_with fail
   go_meet
   exact⟨J,rfl,rfl,aI.out,aF.out,Z.out⟩
  ·refine T2 rfl rfl C6 (λJ w8 hz U I=>?_)
   have aF:=C6x (Nat.le_trans aJ.out.size hz)
   have aM:=C6x (U)
   have aH:=C6x (aJ.out.trans I)
   have aD:=C6x (aA.out _ aH.out)
   clear hz U I
   refine C60 hK (by with_reducible first|exact aE.out|exact aD.out|exact aC.out|exact aB.out) ?_
   clear hK K hH
   intro hH
   try simp only[Act.put,sA,sB,sC]
   refine C6z 4 rfl (λK hK=>?_)
   go_simp
   refine(aZ.out _ aH.out).mono ?_
   rintro r w5 ⟨rfl,a5⟩
   have aG:=C6x (aH.out.trans a5)
   have bP:=C6x (aM.out.over a5)
   have aC:=C6x (aA.out _ aG.out)
   clear a5
   go_wp2_with fail
   refine C60 hK (by with_reducible first|exact aE.out|exact aD.out|exact aC.out|exact aB.out) ?_
   clear hK K hH
   intro hH
   try simp only[Act.put,sA,sB,sC]
   refine C6y 5 rfl ?_
   refine C6y 6 rfl ?_
   refine C6y 7 rfl ?_
   refine C6z 9 rfl (λK hK=>?_)
   refine T3 rfl _ _ rfl J bP.out rfl rfl C0 (C2 _) (C2 _) (D5 _) (λw9 U I=>?_)
   have aI:=C6x (U)
   have Z:=C6x (aG.out.fresh aF.out I)
   have aE:=C6x (aA.out _ Z.out)
   clear U I
   refine C60 hK (by with_reducible first|exact aE.out|exact aD.out|exact aC.out|exact aB.out) ?_
   clear hK K hH
   intro hH
   try simp only[Act.put]
   refine C6y 10 rfl ?_
   refine wpAnyH_done (by kernel_rfl) ?_ _
   go_wp2_with fail
   go_meet
   exact⟨J,rfl,rfl,aI.out,aF.out,Z.out⟩
 case rest=>
 obtain⟨J,rfl,rfl,bF,bJ,aR⟩:=hcut
 have aI:=C6x bF
 have Z:=C6x (aL.out.trans aR)
 have aW:=C6x (aN.out.over aR)
 have bS:=C6x (HC.out.step Z.out)
 have aF:=C6x (Nat.le_trans aL.out.size bJ)
 have bV:=C6x (show zb≠J fromλe=>by have:=aN.out.lt;omega)
 clear bF bJ aR aB aA
 obtain⟨X0,aQ⟩:∃X0,X0=X.g:=⟨_,rfl⟩
 have bT:=C6x (show(ic (A8i X))=ic ⟨0,X0,0,λ_=>0⟩by rw[aQ];rfl)
 have bU:=C6x (show∀V,C3 V J 62 (ic X)->V.cell? ⟨J,1,none⟩=some (.int .i64 X0)fromλV b=>by rw[aQ];exact b.cell 1)
 clear aQ
 go_wp2_with (first
  |(go_at_call 101;refine(HN.out _ bS.out).mono ?_;rintro r bY ⟨rfl,hc,I⟩;have bQ:=C6x hc;have bM:=C6x ((Z.out.same (G:=CF c m) (λ_ x=>x.elim)).trans I);have aV:=C6x (aW.out.keep (I.block zb aW.out.lt (λY=>aK.out zb bC.out zb Y rfl)));have aP:=C6x (aI.out.keep (I.block J aI.out.lt (λY=>aK.out J aF.out J Y rfl)));clear hc I HN)
  |(refine B6 (t:=62) rfl _ rfl J aP.out rfl Tryz.underlying62 rfl C0 (C2 _) ?_)
  |(go_at_call 93;refine(aX.out _ bQ.out).mono ?_;rintro r bK ⟨rfl,hc,I⟩;have bR:=C6x hc;have bO:=C6x (bM.out.trans I);have d0:bK.cell? ⟨zb,0,none⟩=some (.int .i64 (n:Int)):=(aV.out.keep (I.block zb aV.out.lt (λY=>aK.out zb bC.out zb Y rfl))).cell 0;have d1:=bU.out bK (aP.out.keep (I.block J aP.out.lt (λY=>aK.out J aF.out J Y rfl)));clear hc I)
  |(refine A7y rfl _ rfl X0 rfl ?_;rw[<-bT.out])
  |(go_at_call 104;refine(bB.out _ bR.out).mono ?_;rintro r bZ ⟨rfl,hc,I⟩;have aY:=C6x (And.intro hc (bO.out.trans I));clear hc I)
  |fail)
 exact bodyPost_end (results_none rfl _ _ _) rfl ⟨rfl,aY.out.1,aY.out.2⟩
end
end
section
open Go.RowKit
noncomputable def CS.repl(s:CS)(M:Nat)(i g:Int)(I:ByteArray)(J:Int):CS:=
 if M4 s.H i g I=11 then s else
  ((if(L5 s.H i g I).k=J then s.note (M4 s.H i g I)else(s.note (M4 s.H i g I)).note 12).note (mfE s.H (L5 s.H i g I))).free M (L5 s.H i g I).i (L5 s.H i g I).g
def C5t(W:World)(X:En)(U:Int)(t7 t8:Value)(J:World):Prop:=∃I,t7= .int .i64 U/\t8= .pointer (some ⟨I,0,none⟩)/\C3 J I 74 (ea X)/\W.heap.size<=I/\B0 B5 W B5 J
theorem C1r(r:List (List Nat)):∀e∈A5c r,okE e:=λe I=>by
 by_cases h:okP r
 ·obtain⟨x,_⟩:=A6h h
  rw[x]at I
  exact(B4F h.2.2.1).1.all e I
 ·rw[(B3z h).1]at I;cases I
theorem B1D(H:Nat->List Nat)(i g:Int)(s:ByteArray):0<=(L5 H i g s).i/\(L5 H i g s).i<=40:=by
 unfold L5
 split
 ·cases hq:Y5 (L4 H i g) s with
  |none=>exact⟨by decide,by decide⟩
  |some x=>
   have I:x∈L4 H i g:=List.mem_of_find?_eq_some hq
   have:okE x:=by
    unfold L4 at I
    split at I
    ·exact C1r _ x I
    ·cases I
   have J:=this.2.1
   have U:=this.2.2.1
   show 0<=x.i/\x.i<=40
   omega
 ·exact⟨by decide,by decide⟩
section
variable {w w':World} {E:Ev} {c m:Nat} {s:CS}
theorem C3j(h:Cs w E c m s)(hs:Sw s.H E.M)(i g:Int)(Z:ByteArray)(kd:Int):
 Calls Tryz.prog 97 #[.pointer (some ⟨c,0,none⟩),.agg #[.int .i64 i,.int .i64 g],.string Z,.int .i64 kd] w λr w'=>r= .returned (.tuple #[])/\Cs w' E c m (s.repl E.M i g Z kd)/\B0 (CF c m) w (CF c m) w':=by
 have HC:=C6x h
 have bP:=C6x (λW (k:Cs W E c m s)=>A9W k.rdv hs.sd i g Z)
 have aT:=C6x (λ(d:Nat) (hd:w.heap.size<=d)=>h.apart (G:=J0 d) (λk Y=>by unfold J0 at Y;omega))
 have bQ:=C6x (λ(t:CS) (ht:t.H=s.H) W (k:Cs W E c m t)=>A8J (k.rdv) (by rw[ht];exact hs.sd) (L5 s.H i g Z))
 have bO:=C6x (λ(t:CS) (ht:t.H=s.H) W (k:Cs W E c m t)=>B9c k (by rw[ht];exact hs) (L5 s.H i g Z).i (L5 s.H i g Z).g (B1D _ _ _ _))
 have hR:s.repl E.M i g Z kd=if M4 s.H i g Z=11 then s else((if(L5 s.H i g Z).k=kd then s.note (M4 s.H i g Z)else(s.note (M4 s.H i g Z)).note 12).note (mfE s.H (L5 s.H i g Z))).free E.M (L5 s.H i g Z).i (L5 s.H i g Z).g:=rfl
 rw[hR]
 obtain⟨X,hX⟩:∃X,X=L5 s.H i g Z:=⟨_,rfl⟩
 obtain⟨U,cD⟩:∃U,U=M4 s.H i g Z:=⟨_,rfl⟩
 rw[<-hX,<-cD]at bP⊢
 rw[<-hX]at bQ bO
 unfold EnX at bP
 have HN:=C6x (λW (k:Cs W E c m s)=>show Calls Tryz.prog 101 #[.pointer (some ⟨c,0,none⟩),.int .i64 U] W λr w'=>r= .returned (.tuple #[])/\Cs w' E c m (s.note U)/\B0 (CF c m) W (CF c m) w' from T6 k _)
 clear hR hX cD h
 obtain⟨s9,bU⟩:∃s9,s9=if U=11 then s else((if X.k=kd then s.note U else(s.note U).note 12).note (mfE s.H X)).free E.M X.i X.g:=⟨_,rfl⟩
 rw[<-bU]
 have aA:=C6x bU
 clear bU
 go_enter Tryz.func97,Tryz.ntmps97
 go_upto_region 1 with(first
  |(refine C5 (t:=35) rfl _ rfl rfl ?_;intro zb W hz hb I;have cO:=C6x hz;have cH:=C6x hb;have bA:=C6x I;clear hz hb I)
  |fail)
 have bY:=C6x (λV (a:B0 B5 W B5 V)=>bP.out V (HC.out.step (bA.out.trans a)))
 have aQ:=C6x (show B0 B5 W B5 W.drew from(B0.refl _ _).drew)
 have aJ:=C6x (show∀V,B0 B5 W B5 V->C3 V zb 35 #[.int .i64 i,.int .i64 g]fromλV a=>cH.out.over a)
 have aK:=C6x (aJ.out _ aQ.out)
 go_frame
 go_cut [8,9] (λt8 t9 W9=>C5t W X U t9 t8 W9)
 case first=>
  refine D6 (S:=(λw'=>C3 w' zb 35 #[.int .i64 i,.int .i64 g])) (by with_reducible first|exact aA.out|exact aC.out|exact aL.out|exact aK.out) (λhH=>?_)
  refine C6y 0 rfl ?_
  refine C6y 1 rfl ?_
  refine C6y 2 rfl ?_
  refine C65 3 (.agg #[.int .i64 i,.int .i64 g]) rfl (Q2 rfl (.tmp 5) rfl zb rfl (λ_ h=>h) Tryz.underlying35 rfl B1 rfl) ?_
  refine C6y 4 rfl ?_
  refine C63 5 9 rfl rfl (λK hK=>?_) (λK hK=>?_)
  ·go_simp
   refine(bY.out _ aQ.out).mono ?_
   rintro r w5 ⟨rfl,a5⟩
   have aM:=C6x (aQ.out.trans a5)
   have aL:=C6x (aJ.out _ aM.out)
   clear a5
   go_wp2_with fail
   refine C60 hK (by with_reducible first|exact aA.out|exact aC.out|exact aL.out|exact aK.out) ?_
   clear hK K hH
   intro hH
   try simp only[Act.put,sA,sB,sC]
   refine C6y 6 rfl ?_
   refine C6y 7 rfl ?_
   refine C6y 8 rfl ?_
   refine C6z 9 rfl (λK hK=>?_)
   refine T2 rfl rfl E7 (λz8 w8 hz hb I=>?_)
   have aF:=C6x (Nat.le_trans aM.out.size hz)
   have bG:=C6x (hb)
   have aN:=C6x (aM.out.trans I)
   have aC:=C6x (aJ.out _ aN.out)
   clear hz hb I
   refine C60 hK (by with_reducible first|exact aA.out|exact aC.out|exact aL.out|exact aK.out) ?_
   clear hK K hH
   intro hH
   try simp only[Act.put,sA,sB,sC]
   refine C6z 10 rfl (λK hK=>?_)
   refine T3 rfl _ _ rfl z8 bG.out rfl rfl C8 (D1 _) (D1 _) (R4 _) (λw9 hb I=>?_)
   have aI:=C6x (hb)
   have aG:=C6x (aN.out.fresh aF.out I)
   have aA:=C6x (aJ.out _ aG.out)
   clear hb I
   refine C60 hK (by with_reducible first|exact aA.out|exact aC.out|exact aL.out|exact aK.out) ?_
   clear hK K hH
   intro hH
   try simp only[Act.put]
   refine C6y 11 rfl ?_
   refine wpAnyH_done (by kernel_rfl) ?_ _
   go_wp2_with fail
   go_meet
   exact⟨z8,rfl,rfl,aI.out,aF.out,aG.out⟩
  ·refine T2 rfl rfl E7 (λz8 w8 hz hb I=>?_)
   have aF:=C6x (Nat.le_trans aQ.out.size hz)
   have bG:=C6x (hb)
   have aN:=C6x (aQ.out.trans I)
   have aC:=C6x (aJ.out _ aN.out)
   clear hz hb I
   refine C60 hK (by with_reducible first|exact aA.out|exact aC.out|exact aL.out|exact aK.out) ?_
   clear hK K hH
   intro hH
   try simp only[Act.put,sA,sB,sC]
   refine C6z 5 rfl (λK hK=>?_)
   go_simp
   refine(bY.out _ aN.out).mono ?_
   rintro r w5 ⟨rfl,a5⟩
   have aM:=C6x (aN.out.trans a5)
   have cG:=C6x (bG.out.over a5)
   have aL:=C6x (aJ.out _ aM.out)
   clear a5
   go_wp2_with fail
   refine C60 hK (by with_reducible first|exact aA.out|exact aC.out|exact aL.out|exact aK.out) ?_
   clear hK K hH
   intro hH
   try simp only[Act.put,sA,sB,sC]
   refine C6y 6 rfl ?_
   refine C6y 7 rfl ?_
   refine C6y 8 rfl ?_
   refine C6z 10 rfl (λK hK=>?_)
   refine T3 rfl _ _ rfl z8 cG.out rfl rfl C8 (D1 _) (D1 _) (R4 _) (λw9 hb I=>?_)
   have aI:=C6x (hb)
   have aG:=C6x (aM.out.fresh aF.out I)
   have aA:=C6x (aJ.out _ aG.out)
   clear hb I
   refine C60 hK (by with_reducible first|exact aA.out|exact aC.out|exact aL.out|exact aK.out) ?_
   clear hK K hH
   intro hH
   try simp only[Act.put]
   refine C6y 11 rfl ?_
   refine wpAnyH_done (by kernel_rfl) ?_ _
   go_wp2_with fail
   go_meet
   exact⟨z8,rfl,rfl,aI.out,aF.out,aG.out⟩
 case rest=>
 obtain⟨z8,rfl,rfl,cC,cF,cB⟩:=hcut
 have aI:=C6x cC
 have aG:=C6x (bA.out.trans cB)
 have bM:=C6x (HC.out.step aG.out)
 have aF:=C6x (Nat.le_trans bA.out.size cF)
 clear cC cF cB aK aJ
 by_cases aP:U=11
 ·have e:s9=s:=by rw[aA.out,if_pos aP]
  subst e
  have cK:(U==11)=true:=by rw[aP];rfl
  have cJ:=C6x (aG.out.same (G:=CF c m) (λ_ x=>x.elim))
  clear aP
  go_wp2_with fail
  exact bodyPost_ret (results_none rfl _ _ _) rfl ⟨rfl,bM.out,cJ.out⟩
 ·have cK:(U==11)=false:=by rw[beq_eq_false_iff_ne];exact aP
  have aC:=C6x (show s9=((if X.k=kd then s.note U else(s.note U).note 12).note (mfE s.H X)).free E.M X.i X.g by rw[aA.out,if_neg aP])
  clear aP
  obtain⟨s2,aY⟩:∃s2,s2=if X.k=kd then s.note U else(s.note U).note 12:=⟨_,rfl⟩
  have aX:s2.H=s.H:=by rw[aY];split<;>rfl
  have aW:=C6x (bQ.out s2 aX)
  rw[aX]at aW
  have bR:=C6x (λW (k:Cs W E c m s2)=>show Calls Tryz.prog 101 #[.pointer (some ⟨c,0,none⟩),.int .i64 (mfE s.H X)] W λr w'=>r= .returned (.tuple #[])/\Cs w' E c m (s2.note (mfE s.H X))/\B0 (CF c m) W (CF c m) w' from T6 k _)
  have aV:=C6x (bO.out (s2.note (mfE s.H X)) aX)
  have cA:=C6x (show s9=(s2.note (mfE s.H X)).free E.M X.i X.g by rw[aC.out,aY])
  rw[<-cA.out]at aV
  obtain⟨me,cE⟩:∃me,me=mfE s.H X:=⟨_,rfl⟩
  rw[<-cE]at aW bR aV
  have bX:=C6x aY
  clear cE aX aY bQ bO aC aA cA
  by_cases Y:X.k=kd
  ·have e:s2=s.note U:=by rw[bX.out,if_pos Y]
   rw[<-e]at HN
   have cL:(X.k !=kd)=false:=by rw[Y,bne_self_eq_false]
   clear e Y
   go_upto_region 6 with(first
  |(go_at_call 101;refine(HN.out _ bM.out).mono ?_;rintro r aZ ⟨rfl,J,I⟩;have bH:=C6x J;have bB:=C6x ((aG.out.same (G:=CF c m) (λ_ x=>x.elim)).trans I);have aO:=C6x (aI.out.keep (I.block z8 aI.out.lt (λY=>aT.out z8 aF.out z8 Y rfl)));have d3:aZ.cell? ⟨z8,3,none⟩=some (.int .i64 X.k):=aO.out.cell 3;clear J I HN)
  |fail)
   obtain⟨aB,aU⟩:∃aB,aB=aZ:=⟨_,rfl⟩
   have bI:=C6x (show Cs aB E c m s2 by rw[aU];exact bH.out)
   have bC:=C6x (show B0 (CF c m) w (CF c m) aB by rw[aU];exact bB.out)
   have bT:=C6x (show C3 aB z8 74 (ea X)by rw[aU];exact aO.out)
   rw[<-aU]
   clear d3 aU
   have aH:=C6x (show C3 aB.drew z8 74 (ea X)from bT.out)
   have aR:=C6x (bI.out.step ((B0.refl B5 aB).drew))
   refine D6 (S:=(λw'=>C3 w' z8 74 (ea X))) (by with_reducible first|exact aE.out|exact aD.out|exact aH.out) (λhH=>?_)
   refine C6y 0 rfl ?_
   refine C6y 1 rfl ?_
   refine C6y 2 rfl ?_
   refine C6y 3 rfl ?_
   refine C65 4 (.agg (ea X)) rfl (Q2 rfl (.tmp 8) rfl z8 rfl (λ_ h=>h) Tryz.underlying74 rfl C8 (D1 _)) ?_
   refine C6z 5 rfl (λK hK=>?_)
   go_simp
   refine(aW.out _ aR.out).mono ?_
   rintro r cM ⟨rfl,I⟩
   have bJ:=C6x (aR.out.step I)
   have bD:=C6x ((bC.out.over ((B0.refl B5 aB).drew)).over I)
   have aD:=C6x (aH.out.over I)
   clear I
   go_wp2_with fail
   refine C60 hK (by with_reducible first|exact aE.out|exact aD.out|exact aH.out) ?_
   clear hK K hH
   intro hH
   try simp only[Act.put,sA,sB,sC]
   refine C6z 6 rfl (λK hK=>?_)
   go_simp
   refine(bR.out _ bJ.out).mono ?_
   rintro r bV ⟨rfl,J,I⟩
   have bK:=C6x (J)
   have bF:=C6x (bD.out.trans I)
   have aE:=C6x (aD.out.keep (I.block z8 aD.out.lt (λY=>aT.out z8 aF.out z8 Y rfl)))
   clear J I
   go_wp2_with fail
   refine C60 hK (by with_reducible first|exact aE.out|exact aD.out|exact aH.out) ?_
   clear hK K hH
   intro hH
   try simp only[Act.put,sA,sB,sC]
   refine wpAnyH_done (by kernel_rfl) ?_ _
   have bS:=C6x (show bV.rangeAt z8 1 [.int .i64 X.i,.int .i64 X.g]fromλj u hu=>by
    have hj:j<2:=(List.getElem?_eq_some_iff.1 hu).1
    match j,hj with
    |0,_=>simp at hu;subst hu;exact aE.out.cell 1
    |1,_=>simp at hu;subst hu;exact aE.out.cell 2)
   go_wp2_with (first
    |(refine wpList_load_mid rfl 35 (.tmp 38) rfl z8 1 rfl [.int .i64 X.i,.int .i64 X.g] _ bS.out Tryz.underlying35 rfl (by rw[B1];rfl) ?_)
    |(go_at_call 82;refine(aV.out _ bK.out).mono ?_;rintro r cN ⟨rfl,J,I⟩;have aS:=C6x (And.intro J (bF.out.trans I));clear J I)
    |fail)
   exact bodyPost_end (results_none rfl _ _ _) rfl ⟨rfl,aS.out.1,aS.out.2⟩
  ·have e:s2=(s.note U).note 12:=by rw[bX.out,if_neg Y]
   have bZ:=C6x (λW (k:Cs W E c m (s.note U))=>show Calls Tryz.prog 101 #[.pointer (some ⟨c,0,none⟩),.int .i64 12] W λr w'=>r= .returned (.tuple #[])/\Cs w' E c m s2/\B0 (CF c m) W (CF c m) w' by rw[e];exact T6 k _)
   have cL:(X.k !=kd)=true:=by rw[bne_iff_ne];exact Y
   clear e Y
   go_upto_region 6 with(first
  |(go_at_call 101;refine(HN.out _ bM.out).mono ?_;rintro r aZ ⟨rfl,J,I⟩;have bH:=C6x J;have bB:=C6x ((aG.out.same (G:=CF c m) (λ_ x=>x.elim)).trans I);have aO:=C6x (aI.out.keep (I.block z8 aI.out.lt (λY=>aT.out z8 aF.out z8 Y rfl)));have d3:aZ.cell? ⟨z8,3,none⟩=some (.int .i64 X.k):=aO.out.cell 3;clear J I HN)
  |(go_at_call 101;refine(bZ.out _ bH.out).mono ?_;rintro r aB ⟨rfl,J,I⟩;have bI:=C6x J;have bC:=C6x (bB.out.trans I);have bT:=C6x (aO.out.keep (I.block z8 aO.out.lt (λY=>aT.out z8 aF.out z8 Y rfl)));clear J I bZ)
   |fail)
   have aH:=C6x (show C3 aB.drew z8 74 (ea X)from bT.out)
   have aR:=C6x (bI.out.step ((B0.refl B5 aB).drew))
   refine D6 (S:=(λw'=>C3 w' z8 74 (ea X))) (by with_reducible first|exact aE.out|exact aD.out|exact aH.out) (λhH=>?_)
   refine C6y 0 rfl ?_
   refine C6y 1 rfl ?_
   refine C6y 2 rfl ?_
   refine C6y 3 rfl ?_
   refine C65 4 (.agg (ea X)) rfl (Q2 rfl (.tmp 8) rfl z8 rfl (λ_ h=>h) Tryz.underlying74 rfl C8 (D1 _)) ?_
   refine C6z 5 rfl (λK hK=>?_)
   go_simp
   refine(aW.out _ aR.out).mono ?_
   rintro r cM ⟨rfl,I⟩
   have bJ:=C6x (aR.out.step I)
   have bD:=C6x ((bC.out.over ((B0.refl B5 aB).drew)).over I)
   have aD:=C6x (aH.out.over I)
   clear I
   go_wp2_with fail
   refine C60 hK (by with_reducible first|exact aE.out|exact aD.out|exact aH.out) ?_
   clear hK K hH
   intro hH
   try simp only[Act.put,sA,sB,sC]
   refine C6z 6 rfl (λK hK=>?_)
   go_simp
   refine(bR.out _ bJ.out).mono ?_
   rintro r bV ⟨rfl,J,I⟩
   have bK:=C6x (J)
   have bF:=C6x (bD.out.trans I)
   have aE:=C6x (aD.out.keep (I.block z8 aD.out.lt (λY=>aT.out z8 aF.out z8 Y rfl)))
   clear J I
   go_wp2_with fail
   refine C60 hK (by with_reducible first|exact aE.out|exact aD.out|exact aH.out) ?_
   clear hK K hH
   intro hH
   try simp only[Act.put,sA,sB,sC]
   refine wpAnyH_done (by kernel_rfl) ?_ _
   have bS:=C6x (show bV.rangeAt z8 1 [.int .i64 X.i,.int .i64 X.g]fromλj u hu=>by
    have hj:j<2:=(List.getElem?_eq_some_iff.1 hu).1
    match j,hj with
    |0,_=>simp at hu;subst hu;exact aE.out.cell 1
    |1,_=>simp at hu;subst hu;exact aE.out.cell 2)
   go_wp2_with (first
    |(refine wpList_load_mid rfl 35 (.tmp 38) rfl z8 1 rfl [.int .i64 X.i,.int .i64 X.g] _ bS.out Tryz.underlying35 rfl (by rw[B1];rfl) ?_)
    |(go_at_call 82;refine(aV.out _ bK.out).mono ?_;rintro r cN ⟨rfl,J,I⟩;have aS:=C6x (And.intro J (bF.out.trans I));clear J I)
    |fail)
   exact bodyPost_end (results_none rfl _ _ _) rfl ⟨rfl,aS.out.1,aS.out.2⟩
end
end
end Go.Proofs.YtbefmjiclpobjaaGreat
