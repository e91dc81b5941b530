import Derived.Test.YtbefmjiclpobjaaGreatMh27
namespace Go.Proofs.YtbefmjiclpobjaaGreat
set_option maxHeartbeats 12800000
set_option maxRecDepth 3000
section
open Go.RowKit Go.Maps
theorem A9Z(s:ByteArray)(i g k:Int):Tryz.prog.built 74 [(0,.string s),(1,.agg #[.int .i64 i,.int .i64 g]),(2,.int .i64 k)]=some (ea ⟨s,i,g,k⟩):=by kernel_rfl
theorem Y3{ops:Array Oper}{rest:List Oper}{o:Oper}{a:Act}{w:World}{Q:Exit->Act->World->Prop}(I:o.guard=none)(x y z:Operand)(J:o.op= .build 74 #[(0,x),(1,y),(2,z)])(s:ByteArray)(i g k:Int)(U:a.eval x= .string s)(V:a.eval y= .agg #[.int .i64 i,.int .i64 g])(W:a.eval z= .int .i64 k)
 (h:wpList Tryz.prog ops Q rest (a.put o.dst (.agg (ea ⟨s,i,g,k⟩))) w):wpList Tryz.prog ops Q (o::rest) a w:=by
 have e:((#[(0,x),(1,y),(2,z)]:Array (Nat×Operand)).map λ(i,x)=>(i,a.eval x)).toList=[(0,.string s),(1,.agg #[.int .i64 i,.int .i64 g]),(2,.int .i64 k)]:=by simp[U,V,W]
 refine wpList_build I 74 _ J (by rw[e,A9Z s i g k];rfl) ?_
 rw[e,A9Z s i g k]
 exact h
section
variable {w w1 w3 w4 w5:World} {E:Ev} {c m z:Nat} {R:(DS×LS)×Int} {x:Ending} {s:CS} {F:Nat->Prop}
theorem B8V{H:Nat->List Nat}{e:Int}(h:Cg w E c m H e)(X:w.heap.size<=z):¬EF E c m z/\z≠E.o:=by
 obtain⟨I,J,U⟩:=h.so.bd
 obtain⟨V,W⟩:=h.lt
 refine⟨λy=>?_,by omega⟩
 rcases y with y|y|y|y
 ·have:=I _ y;omega
 ·omega
 ·omega
 ·omega
theorem A43.opz(h:A43 w3 E c m R x w4)(J:A8 (CF c m) w (CF c m) w3)(hc:w.heap.size<=c)(hm:w.heap.size<=m)(aB:w.heap.size<=z)(hz:z<w3.heap.size)(hn:¬EF E c m z)(ho:z≠E.o)(U:A8 (M0 z) w4 F w5):OdR w E R w5:=by
 obtain⟨h1,F',W,h2,h3,I⟩:=h
 have Y:∀k,EO (E.at_ F' R.1.1 R.1.2 W) k->EF (E.at_ F' R.1.1 R.1.2 W) c m k:=λk y=>by
  rcases y with y|y
  ·exact .inl y
  ·exact .inr (.inl y)
 have hd:∀k,EO (E.at_ F' R.1.1 R.1.2 W) k->¬M0 z k:=λk y u=>by
  unfold M0 at u
  subst u
  rcases I.into _ (Y _ y)with v|v
  ·exact hn v
  ·omega
 refine⟨F',W,h2.far (U.same (λ_ y=>y)) (λk V hu=>hd k (.inl hu) V) (λy=>ho y.symm) (hd _ (.inr rfl)),h3,U.os.trans (I.os.trans J.os),U.tape.trans (I.tape.trans J.tape),U.output.trans (I.output.trans J.output),Nat.le_trans J.size (Nat.le_trans I.size U.size),λk V aA=>?_,λk V=>?_⟩
 ·have Z:¬CF c m k:=λy=>by rcases y with y|y<;>omega
  have X:=Nat.lt_of_lt_of_le V J.size
  refine(U.block k (Nat.lt_of_lt_of_le X I.size) (λy=>by unfold M0 at y;omega)).trans ((I.block k X (λy=>?_)).trans (J.block k V Z))
  rcases y with y|y|y
  ·exact aA (.inl y)
  ·exact aA (.inr y)
  ·exact Z y
 ·rcases I.into k (Y k V)with y|y
  ·rcases y with y|y|y|y
   ·exact .inl (.inl y)
   ·exact .inl (.inr y)
   ·exact .inr (by omega)
   ·exact .inr (by omega)
  ·exact .inr (Nat.le_trans J.size y)
end
theorem C0E{s:CS}{M:Nat}(h:Sw s.H M){I:Int}(hk:I=1\/I=2):Sw (s.add I).H M:=by
 unfold CS.add
 split
 ·rename_i j U
  unfold addO at U
  rw[List.find?_range_eq_some]at U
  obtain⟨J,V,_⟩:=U
  have J:=of_decide_eq_true J
  have X:j<40:=by simpa using V
  have W:WfI (C9 s.H (1+j)):=B65 _
  have Y:=W.g
  have Z:=J.2
  exact B12 h ⟨by show -9223372036854775808<=I/\I<_;omega,by show -9223372036854775808<=(C9 s.H (1+j)).g+1/\(C9 s.H (1+j)).g+1<_;omega,by show 1<18446744073709551616;decide,λj _=>by show -9223372036854775808<=(0:Int)/\(0:Int)<9223372036854775808;decide⟩ (λ_=>by omega) (λ_ j _=>.inl rfl)
 ·exact h
theorem B14{H:Nat->List Nat}{i g:Int}{s:ByteArray}(h:A0m H i g s=11):0<=i/\i<=40:=by
 have J:U2 H i g 1=0:=by
  unfold A0m at h
  split at h
  ·rename_i I
   unfold R6 at I
   split at I
   ·assumption
   ·exact I
  ·unfold R6 at h
   split at h
   ·assumption
   ·rcases A5C H i g 1 with y|y|y
    ·exact y
    ·omega
    ·omega
 have:=A09 (A4G J).1
 omega
noncomputable def A60(H:Nat->List Nat)(i g:Int)(s:ByteArray)(I:Int):Int:=
 if A41 [s]=0 then(if I=1\/I=2 then(if A0m H i g s=11 then 0 else if A0m H i g s=0 then 10 else A0m H i g s)else 2)else A41 [s]
noncomputable def A61(E:Ev)(i g:Int)(s:ByteArray)(I:Int):CS:=
 (((⟨E.H,0⟩:CS).add I).enter E.M i g ⟨s,(addF E.H).1,(addF E.H).2,I⟩).touch i g
noncomputable def B46(E:Ev)(i g:Int)(s:ByteArray)(I:Int):Int×Int:=if(T1 E (A61 E i g s I)).2=0 then addF E.H else(0,0)
section
variable {w:World} {E:Ev}
theorem B6U(h:So w E)(hs:Sw E.H E.M)(i g:Int)(s:ByteArray)(kd:Int)(hm:s.size<=maxLen)(hl:A60 E.H i g s kd=0->LOk E (A61 E i g s kd)):
 Calls Tryz.prog 36 #[.pointer (some ⟨E.o,0,none⟩),.agg #[.int .i64 i,.int .i64 g],.string s,.int .i64 kd] w λr w'=>
  (A60 E.H i g s kd≠0/\r= .returned (.tuple #[.agg #[.int .i64 0,.int .i64 0],.int .i64 (A60 E.H i g s kd)])/\A8 B0 w B0 w')\/
  (A60 E.H i g s kd=0/\r= .returned (.tuple #[.agg #[.int .i64 (B46 E i g s kd).1,.int .i64 (B46 E i g s kd).2],.int .i64 (T1 E (A61 E i g s kd)).2])/\OdR w E (T1 E (A61 E i g s kd)) w'):=by
 have hv:=h.vu.rdv
 have dS:=C3t (λV (a:A8 B0 w B0 V)=>C0o (hv.step a) hs.sd i g s)
 have HM:=C3t (λV (a:A8 B0 w B0 V)=>A8n (hv.step a))
 have HC:=C3t (λV z (r:Rd V 1 (.slice (some ⟨z,0,none⟩) 1 1) 1 ([s].map Value.string))=>B8z (.slice (some ⟨z,0,none⟩) 1 1) [s] V r (λt ht=>by rw[List.mem_singleton.1 ht];exact hm) (by simp))
 have cB:=C3t (λV (a:A8 B0 w B0 V)=>A5N (h.step a))
 have HG:=C3t (h.new)
 have dE:=C3t (h.new_o)
 have HL:=C3t hl
 have HR:=C3t (show A60 E.H i g s kd=if A41 [s]=0 then(if kd=1\/kd=2 then(if A0m E.H i g s=11 then 0 else if A0m E.H i g s=0 then 10 else A0m E.H i g s)else 2)else A41 [s]from rfl)
 have cT:=C3t (λx:A0m E.H i g s=11=>B14 x)
 have HS:=C3t hs
 have dB:=C3t hm
 obtain⟨X,hX⟩:∃X,X=A9A E.H i g s:=⟨_,rfl⟩
 obtain⟨fe,dF⟩:∃fe,fe=A0m E.H i g s:=⟨_,rfl⟩
 obtain⟨ck,dG⟩:∃ck,ck=A41 [s]:=⟨_,rfl⟩
 obtain⟨re,dH⟩:∃re,re=A60 E.H i g s kd:=⟨_,rfl⟩
 rw[<-dF,<-dG,<-dH]at HR
 rw[<-dH]at HL⊢
 rw[<-dF]at cT
 have HF:=C3t (λV (a:A8 B0 w B0 V)=>(dS.out V a).mono (R':=λe w'=>e= .returned (.tuple #[.agg (ea X),.int .i64 fe])/\A8 B0 V B0 w') (λe w' y=>by rw[hX,dF];exact y))
 rw[<-dG]at HC
 clear hX dF dG dH h hs hv hm hl dS
 by_cases h0:ck=0
 ·subst h0
  rw[if_pos rfl]at HR
  by_cases cC:kd=1\/kd=2
  ·rw[if_pos cC]at HR
   have dU:=C3t cC
   by_cases h1:fe=11
   ·subst h1
    rw[if_pos rfl]at HR
    have aN:=C3t HR.out
    have hi:=cT.out rfl
    have dJ:Sw (⟨E.H,0⟩:CS).H E.M:=HS.out
    have cD:=C3t (λW c m (k:Cs W E c m ⟨E.H,0⟩)=>C1N k dJ kd dU.out)
    have dK:=C0E dJ dU.out
    have cE:=C3t (λW c m (k:Cs W E c m ((⟨E.H,0⟩:CS).add kd))=>B8E k dK i g hi ⟨s,(addF E.H).1,(addF E.H).2,kd⟩ dB.out)
    have dY:=B6R dK i g ⟨s,(addF E.H).1,(addF E.H).2,kd⟩
    have cW:=C3t (λW c m (k:Cs W E c m (((⟨E.H,0⟩:CS).add kd).enter E.M i g ⟨s,(addF E.H).1,(addF E.H).2,kd⟩))=>B2E k dY i g hi)
    rw[show(((⟨E.H,0⟩:CS).add kd).enter E.M i g ⟨s,(addF E.H).1,(addF E.H).2,kd⟩).touch i g=A61 E i g s kd from rfl]at cW
    have dA:=C3t (λW c m (k:Cs W E c m (A61 E i g s kd))=>B6S k HS.out.sd.row (HL.out aN.out))
    have bI:=C3t (show B46 E i g s kd=if(T1 E (A61 E i g s kd)).2=0 then addF E.H else(0,0)from rfl)
    obtain⟨S3,dX⟩:∃S3,S3=A61 E i g s kd:=⟨_,rfl⟩
    rw[<-dX]at cW dA bI⊢
    obtain⟨S2,dW⟩:∃S2,S2=((⟨E.H,0⟩:CS).add kd).enter E.M i g ⟨s,(addF E.H).1,(addF E.H).2,kd⟩:=⟨_,rfl⟩
    rw[<-dW]at cW cE
    obtain⟨S1,dV⟩:∃S1,S1=(⟨E.H,0⟩:CS).add kd:=⟨_,rfl⟩
    rw[<-dV]at cE cD
    obtain⟨cf,aZ⟩:∃cf,cf=B46 E i g s kd:=⟨_,rfl⟩
    rw[<-aZ]at bI⊢
    obtain⟨f,hf⟩:∃f,f=addF E.H:=⟨_,rfl⟩
    have cD:=C3t (λW c m (k:Cs W E c m ⟨E.H,0⟩)=>show Calls Tryz.prog 91 #[.pointer (some ⟨c,0,none⟩),.int .i64 kd] W λr w'=>r= .returned (.agg #[.int .i64 f.1,.int .i64 f.2])/\Cs w' E c m S1/\A8 (CF c m) W (CF c m) w' by rw[hf];exact cD.out W c m k)
    rw[<-hf]at bI cE
    obtain⟨R,hR⟩:∃R,R=T1 E S3:=⟨_,rfl⟩
    rw[<-hR]at dA bI⊢
    obtain⟨rr,er⟩:=R
    obtain⟨f1,f2⟩:=f
    simp only at bI cE cD⊢
    obtain⟨o,ho⟩:∃o,o=E.o:=⟨_,rfl⟩
    rw[<-ho]at HM cB HF⊢
    clear dV dW dX dJ dK dY hR ho hi aZ hf HL cT HR HS dB
    rcases cC with rfl|rfl
    ·by_cases he:er=0
     ·subst he
      have aZ:=bI.out
      rw[if_pos rfl]at aZ
      have cR:=C3t aZ
      clear bI aZ
      go_enter Tryz.func36,Tryz.ntmps36
      go_wp2_with (first
       |(refine C4 (t:=35) rfl _ rfl rfl ?_;intro Z w0 U J I;have aP:=C3t J;have aC:=C3t I;have bJ:=C3t U;clear U J I)
       |(refine B6 rfl rfl J4 ?_;intro Y w1 U J I;have aG:=C3t (Nat.le_trans aC.out.size U);have aT:=C3t J;have aD:=C3t (aC.out.trans I);have aQ:=C3t (aP.out.over I);clear U J I)
       |(go_at_call 73;refine(HM.out _ aD.out).mono ?_;rintro e w2 ⟨rfl,rfl⟩)
       |(refine Q4 rfl _ rfl s rfl ?_;intro z3 w3 U J I;have aY:=C3t J;have aO:=C3t (aD.out.trans I);have aS:=C3t (aQ.out.over I);have aU:=C3t (aT.out.over I);clear U J I)
       |(go_at_call 79;refine(HC.out _ _ aY.out).mono ?_;rintro e w4 ⟨rfl,I⟩;have aE:=C3t (aO.out.trans I);have aH:=C3t (aS.out.over I);have aV:=C3t (aU.out.over I);clear I)
       |(refine C3 (t:=35) rfl _ rfl Z aH.out rfl Tryz.underlying35 rfl B1 rfl ?_)
       |(go_at_call 80;refine(HF.out _ aE.out).mono ?_;rintro e w5 ⟨rfl,I⟩;have aI:=C3t (aE.out.trans I);have aJ:=C3t (aH.out.over I);have aM:=C3t (aV.out.over I);clear I)
       |(refine B6 rfl rfl L5 ?_;intro z8 w6 U J I;have bH:=C3t (Nat.le_trans aI.out.size U);have bG:=C3t J;have bA:=C3t (aI.out.trans I);have bB:=C3t (aJ.out.over I);have bD:=C3t (aM.out.over I);have aL:=C3t (show Z≠z8/\Y≠z8 from⟨λe=>by have:=aJ.out.lt;omega,λe=>by have:=aM.out.lt;omega⟩);clear U J I)
       |(refine B5 rfl _ _ rfl z8 bG.out rfl rfl D9 (G9 _) (G9 _) (U0 _) ?_;intro w7 J I;have aF:=C3t (bA.out.fresh bH.out I);have bC:=C3t (bB.out.far1 I aL.out.1);have aW:=C3t (bD.out.far1 I aL.out.2);clear J I)
       |(go_at_call 44;refine(cB.out _ aF.out).mono ?_;rintro e w9 ⟨c,m,rfl,hc,h1,h2,I⟩;have cQ:=C3t (show Cs _ E c m ⟨E.H,0⟩from hc);have cA:=C3t (And.intro (Nat.le_trans aF.out.size h1) (Nat.le_trans aF.out.size h2));have bQ:=C3t (bC.out.over I);have bY:=C3t (aW.out.over I);have aB:=C3t (show(¬EF E c m Z)/\¬EF E c m Y from⟨nef h1 h2 bC.out.lt (HG.out Z bJ.out),nef h1 h2 aW.out.lt (HG.out Y aG.out)⟩);have cK:=C3t (aF.out.trans I);clear hc h1 h2 I)
       |(go_at_call 91;refine(cD.out _ c m cQ.out).mono ?_;rintro e dL ⟨rfl,hc,I⟩;have bR:=C3t hc;have bK:=C3t ((cK.out.same (G:=CF c m) (λ_ y=>y.elim)).trans I);have bO:=C3t (bQ.out.keep (I.block Z bQ.out.lt (λy=>aB.out.1 (.inr (.inr y)))));have bT:=C3t (bY.out.keep (I.block Y bY.out.lt (λy=>aB.out.2 (.inr (.inr y)))));clear hc I)
       |(refine B6 rfl rfl J4 ?_;intro aA dM U J I;have cX:=C3t J;have cM:=C3t (bR.out.step I);have aK:=C3t (show¬EF E c m aA/\aA≠E.o from B8V bR.out U);have cZ:=C3t (Nat.le_trans bK.out.size U);have bS:=C3t (show Z≠aA/\Y≠aA from⟨λe=>by have:=bO.out.lt;omega,λe=>by have:=bT.out.lt;omega⟩);have cF:=C3t (bK.out.over I);have cL:=C3t (bO.out.over I);have cU:=C3t (bT.out.over I);clear U J I)
       |(refine B5 rfl _ _ rfl aA cX.out rfl rfl B1 rfl rfl (P4 _ _) ?_;intro dN J I;have bF:=C3t J;have cN:=C3t (Cg.aside cM.out aK.out.1 aK.out.2 I);have cG:=C3t (cF.out.freshG cZ.out I);have aR:=C3t (cL.out.far1 I bS.out.1);have bU:=C3t (cU.out.far1 I bS.out.2);clear J I)
       |(refine C3 (t:=35) rfl _ rfl Z aR.out rfl Tryz.underlying35 rfl B1 rfl ?_)
       |(refine C3 (t:=35) rfl _ rfl aA bF.out rfl Tryz.underlying35 rfl B1 rfl ?_)
       |(refine Y3 rfl _ _ _ rfl s f1 f2 1 rfl rfl rfl ?_)
       |(go_at_call 92;refine(cE.out _ c m cN.out).mono ?_;rintro e dO ⟨rfl,hc,I⟩;have cO:=C3t hc;have cH:=C3t (cG.out.trans I);have bP:=C3t (aR.out.keep (I.block Z aR.out.lt (λy=>aB.out.1 (.inr (.inr y)))));have bV:=C3t (bU.out.keep (I.block Y bU.out.lt (λy=>aB.out.2 (.inr (.inr y)))));have bZ:=C3t (bF.out.keep (I.block aA bF.out.lt (λy=>aK.out.1 (.inr (.inr y)))));clear hc I aR)
       |(refine C3 (t:=35) rfl _ rfl Z bP.out rfl Tryz.underlying35 rfl B1 rfl ?_)
       |(go_at_call 84;refine(cW.out _ c m cO.out).mono ?_;rintro e dP ⟨rfl,hc,I⟩;have cP:=C3t hc;have cJ:=C3t (cH.out.trans I);have bX:=C3t (bV.out.keep (I.block Y bV.out.lt (λy=>aB.out.2 (.inr (.inr y)))));have cY:=C3t (bZ.out.keep (I.block aA bZ.out.lt (λy=>aK.out.1 (.inr (.inr y)))));clear hc I bP)
       |(go_at_call 46;refine(dA.out _ c m cP.out).mono ?_;rintro e dQ he;obtain⟨rfl,_⟩:=id he;have HE:=C3t he;have cV:=C3t (he.blk bX.out aB.out.2);have dC:=C3t (he.blk cY.out aK.out.1);clear he)
       |(refine C3 (t:=35) rfl _ rfl aA dC.out rfl Tryz.underlying35 rfl B1 rfl ?_)
       |(refine B5 rfl _ _ rfl Y cV.out rfl rfl B1 rfl rfl (P4 _ _) ?_;intro dR J I;have aX:=C3t J;have HO:=C3t (HE.out.opz cJ.out cA.out.1 cA.out.2 aG.out bX.out.lt aB.out.2 (dE.out Y aG.out) I);clear J I)
       |fail)
      exact bodyPost_ret (Q2 rfl _ _ rfl rfl aX.out Tryz.underlying35 rfl (by rw[B1];rfl)) rfl (.inr ⟨aN.out,(by rw[cR.out]<;>rfl),HO.out⟩)
     ·have J:(er !=0)=true:=by rw[bne_iff_ne];exact he
      have aZ:=bI.out
      rw[if_neg he]at aZ
      have cR:=C3t aZ
      clear bI aZ he
      go_enter Tryz.func36,Tryz.ntmps36
      go_wp2_with (first
       |(refine C4 (t:=35) rfl _ rfl rfl ?_;intro Z w0 U J I;have aP:=C3t J;have aC:=C3t I;have bJ:=C3t U;clear U J I)
       |(refine B6 rfl rfl J4 ?_;intro Y w1 U J I;have aG:=C3t (Nat.le_trans aC.out.size U);have aT:=C3t J;have aD:=C3t (aC.out.trans I);have aQ:=C3t (aP.out.over I);clear U J I)
       |(go_at_call 73;refine(HM.out _ aD.out).mono ?_;rintro e w2 ⟨rfl,rfl⟩)
       |(refine Q4 rfl _ rfl s rfl ?_;intro z3 w3 U J I;have aY:=C3t J;have aO:=C3t (aD.out.trans I);have aS:=C3t (aQ.out.over I);have aU:=C3t (aT.out.over I);clear U J I)
       |(go_at_call 79;refine(HC.out _ _ aY.out).mono ?_;rintro e w4 ⟨rfl,I⟩;have aE:=C3t (aO.out.trans I);have aH:=C3t (aS.out.over I);have aV:=C3t (aU.out.over I);clear I)
       |(refine C3 (t:=35) rfl _ rfl Z aH.out rfl Tryz.underlying35 rfl B1 rfl ?_)
       |(go_at_call 80;refine(HF.out _ aE.out).mono ?_;rintro e w5 ⟨rfl,I⟩;have aI:=C3t (aE.out.trans I);have aJ:=C3t (aH.out.over I);have aM:=C3t (aV.out.over I);clear I)
       |(refine B6 rfl rfl L5 ?_;intro z8 w6 U J I;have bH:=C3t (Nat.le_trans aI.out.size U);have bG:=C3t J;have bA:=C3t (aI.out.trans I);have bB:=C3t (aJ.out.over I);have bD:=C3t (aM.out.over I);have aL:=C3t (show Z≠z8/\Y≠z8 from⟨λe=>by have:=aJ.out.lt;omega,λe=>by have:=aM.out.lt;omega⟩);clear U J I)
       |(refine B5 rfl _ _ rfl z8 bG.out rfl rfl D9 (G9 _) (G9 _) (U0 _) ?_;intro w7 J I;have aF:=C3t (bA.out.fresh bH.out I);have bC:=C3t (bB.out.far1 I aL.out.1);have aW:=C3t (bD.out.far1 I aL.out.2);clear J I)
       |(go_at_call 44;refine(cB.out _ aF.out).mono ?_;rintro e w9 ⟨c,m,rfl,hc,h1,h2,I⟩;have cQ:=C3t (show Cs _ E c m ⟨E.H,0⟩from hc);have cA:=C3t (And.intro (Nat.le_trans aF.out.size h1) (Nat.le_trans aF.out.size h2));have bQ:=C3t (bC.out.over I);have bY:=C3t (aW.out.over I);have aB:=C3t (show(¬EF E c m Z)/\¬EF E c m Y from⟨nef h1 h2 bC.out.lt (HG.out Z bJ.out),nef h1 h2 aW.out.lt (HG.out Y aG.out)⟩);have cK:=C3t (aF.out.trans I);clear hc h1 h2 I)
       |(go_at_call 91;refine(cD.out _ c m cQ.out).mono ?_;rintro e dL ⟨rfl,hc,I⟩;have bR:=C3t hc;have bK:=C3t ((cK.out.same (G:=CF c m) (λ_ y=>y.elim)).trans I);have bO:=C3t (bQ.out.keep (I.block Z bQ.out.lt (λy=>aB.out.1 (.inr (.inr y)))));have bT:=C3t (bY.out.keep (I.block Y bY.out.lt (λy=>aB.out.2 (.inr (.inr y)))));clear hc I)
       |(refine B6 rfl rfl J4 ?_;intro aA dM U J I;have cX:=C3t J;have cM:=C3t (bR.out.step I);have aK:=C3t (show¬EF E c m aA/\aA≠E.o from B8V bR.out U);have cZ:=C3t (Nat.le_trans bK.out.size U);have bS:=C3t (show Z≠aA/\Y≠aA from⟨λe=>by have:=bO.out.lt;omega,λe=>by have:=bT.out.lt;omega⟩);have cF:=C3t (bK.out.over I);have cL:=C3t (bO.out.over I);have cU:=C3t (bT.out.over I);clear U J I)
       |(refine B5 rfl _ _ rfl aA cX.out rfl rfl B1 rfl rfl (P4 _ _) ?_;intro dN J I;have bF:=C3t J;have cN:=C3t (Cg.aside cM.out aK.out.1 aK.out.2 I);have cG:=C3t (cF.out.freshG cZ.out I);have aR:=C3t (cL.out.far1 I bS.out.1);have bU:=C3t (cU.out.far1 I bS.out.2);clear J I)
       |(refine C3 (t:=35) rfl _ rfl Z aR.out rfl Tryz.underlying35 rfl B1 rfl ?_)
       |(refine C3 (t:=35) rfl _ rfl aA bF.out rfl Tryz.underlying35 rfl B1 rfl ?_)
       |(refine Y3 rfl _ _ _ rfl s f1 f2 1 rfl rfl rfl ?_)
       |(go_at_call 92;refine(cE.out _ c m cN.out).mono ?_;rintro e dO ⟨rfl,hc,I⟩;have cO:=C3t hc;have cH:=C3t (cG.out.trans I);have bP:=C3t (aR.out.keep (I.block Z aR.out.lt (λy=>aB.out.1 (.inr (.inr y)))));have bV:=C3t (bU.out.keep (I.block Y bU.out.lt (λy=>aB.out.2 (.inr (.inr y)))));have bZ:=C3t (bF.out.keep (I.block aA bF.out.lt (λy=>aK.out.1 (.inr (.inr y)))));clear hc I aR)
       |(refine C3 (t:=35) rfl _ rfl Z bP.out rfl Tryz.underlying35 rfl B1 rfl ?_)
       |(go_at_call 84;refine(cW.out _ c m cO.out).mono ?_;rintro e dP ⟨rfl,hc,I⟩;have cP:=C3t hc;have cJ:=C3t (cH.out.trans I);have bX:=C3t (bV.out.keep (I.block Y bV.out.lt (λy=>aB.out.2 (.inr (.inr y)))));have cY:=C3t (bZ.out.keep (I.block aA bZ.out.lt (λy=>aK.out.1 (.inr (.inr y)))));clear hc I bP)
       |(go_at_call 46;refine(dA.out _ c m cP.out).mono ?_;rintro e dQ he;obtain⟨rfl,_⟩:=id he;have HE:=C3t he;have cV:=C3t (he.blk bX.out aB.out.2);have dC:=C3t (he.blk cY.out aK.out.1);clear he)
       |(refine J9 rfl rfl ?_)
       |(refine B5 rfl _ _ rfl Y cV.out rfl rfl B1 rfl rfl (P4 _ _) ?_;intro dR J I;have aX:=C3t J;have HO:=C3t (HE.out.opz cJ.out cA.out.1 cA.out.2 aG.out bX.out.lt aB.out.2 (dE.out Y aG.out) I);clear J I)
       |fail)
      exact bodyPost_ret (Q2 rfl _ _ rfl rfl aX.out Tryz.underlying35 rfl (by rw[B1];rfl)) rfl (.inr ⟨aN.out,(by rw[cR.out]<;>rfl),HO.out⟩)
    ·by_cases he:er=0
     ·subst he
      have aZ:=bI.out
      rw[if_pos rfl]at aZ
      have cR:=C3t aZ
      clear bI aZ
      go_enter Tryz.func36,Tryz.ntmps36
      go_wp2_with (first
       |(refine C4 (t:=35) rfl _ rfl rfl ?_;intro Z w0 U J I;have aP:=C3t J;have aC:=C3t I;have bJ:=C3t U;clear U J I)
       |(refine B6 rfl rfl J4 ?_;intro Y w1 U J I;have aG:=C3t (Nat.le_trans aC.out.size U);have aT:=C3t J;have aD:=C3t (aC.out.trans I);have aQ:=C3t (aP.out.over I);clear U J I)
       |(go_at_call 73;refine(HM.out _ aD.out).mono ?_;rintro e w2 ⟨rfl,rfl⟩)
       |(refine Q4 rfl _ rfl s rfl ?_;intro z3 w3 U J I;have aY:=C3t J;have aO:=C3t (aD.out.trans I);have aS:=C3t (aQ.out.over I);have aU:=C3t (aT.out.over I);clear U J I)
       |(go_at_call 79;refine(HC.out _ _ aY.out).mono ?_;rintro e w4 ⟨rfl,I⟩;have aE:=C3t (aO.out.trans I);have aH:=C3t (aS.out.over I);have aV:=C3t (aU.out.over I);clear I)
       |(refine C3 (t:=35) rfl _ rfl Z aH.out rfl Tryz.underlying35 rfl B1 rfl ?_)
       |(go_at_call 80;refine(HF.out _ aE.out).mono ?_;rintro e w5 ⟨rfl,I⟩;have aI:=C3t (aE.out.trans I);have aJ:=C3t (aH.out.over I);have aM:=C3t (aV.out.over I);clear I)
       |(refine B6 rfl rfl L5 ?_;intro z8 w6 U J I;have bH:=C3t (Nat.le_trans aI.out.size U);have bG:=C3t J;have bA:=C3t (aI.out.trans I);have bB:=C3t (aJ.out.over I);have bD:=C3t (aM.out.over I);have aL:=C3t (show Z≠z8/\Y≠z8 from⟨λe=>by have:=aJ.out.lt;omega,λe=>by have:=aM.out.lt;omega⟩);clear U J I)
       |(refine B5 rfl _ _ rfl z8 bG.out rfl rfl D9 (G9 _) (G9 _) (U0 _) ?_;intro w7 J I;have aF:=C3t (bA.out.fresh bH.out I);have bC:=C3t (bB.out.far1 I aL.out.1);have aW:=C3t (bD.out.far1 I aL.out.2);clear J I)
       |(go_at_call 44;refine(cB.out _ aF.out).mono ?_;rintro e w9 ⟨c,m,rfl,hc,h1,h2,I⟩;have cQ:=C3t (show Cs _ E c m ⟨E.H,0⟩from hc);have cA:=C3t (And.intro (Nat.le_trans aF.out.size h1) (Nat.le_trans aF.out.size h2));have bQ:=C3t (bC.out.over I);have bY:=C3t (aW.out.over I);have aB:=C3t (show(¬EF E c m Z)/\¬EF E c m Y from⟨nef h1 h2 bC.out.lt (HG.out Z bJ.out),nef h1 h2 aW.out.lt (HG.out Y aG.out)⟩);have cK:=C3t (aF.out.trans I);clear hc h1 h2 I)
       |(go_at_call 91;refine(cD.out _ c m cQ.out).mono ?_;rintro e dL ⟨rfl,hc,I⟩;have bR:=C3t hc;have bK:=C3t ((cK.out.same (G:=CF c m) (λ_ y=>y.elim)).trans I);have bO:=C3t (bQ.out.keep (I.block Z bQ.out.lt (λy=>aB.out.1 (.inr (.inr y)))));have bT:=C3t (bY.out.keep (I.block Y bY.out.lt (λy=>aB.out.2 (.inr (.inr y)))));clear hc I)
       |(refine B6 rfl rfl J4 ?_;intro aA dM U J I;have cX:=C3t J;have cM:=C3t (bR.out.step I);have aK:=C3t (show¬EF E c m aA/\aA≠E.o from B8V bR.out U);have cZ:=C3t (Nat.le_trans bK.out.size U);have bS:=C3t (show Z≠aA/\Y≠aA from⟨λe=>by have:=bO.out.lt;omega,λe=>by have:=bT.out.lt;omega⟩);have cF:=C3t (bK.out.over I);have cL:=C3t (bO.out.over I);have cU:=C3t (bT.out.over I);clear U J I)
       |(refine B5 rfl _ _ rfl aA cX.out rfl rfl B1 rfl rfl (P4 _ _) ?_;intro dN J I;have bF:=C3t J;have cN:=C3t (Cg.aside cM.out aK.out.1 aK.out.2 I);have cG:=C3t (cF.out.freshG cZ.out I);have aR:=C3t (cL.out.far1 I bS.out.1);have bU:=C3t (cU.out.far1 I bS.out.2);clear J I)
       |(refine C3 (t:=35) rfl _ rfl Z aR.out rfl Tryz.underlying35 rfl B1 rfl ?_)
       |(refine C3 (t:=35) rfl _ rfl aA bF.out rfl Tryz.underlying35 rfl B1 rfl ?_)
       |(refine Y3 rfl _ _ _ rfl s f1 f2 2 rfl rfl rfl ?_)
       |(go_at_call 92;refine(cE.out _ c m cN.out).mono ?_;rintro e dO ⟨rfl,hc,I⟩;have cO:=C3t hc;have cH:=C3t (cG.out.trans I);have bP:=C3t (aR.out.keep (I.block Z aR.out.lt (λy=>aB.out.1 (.inr (.inr y)))));have bV:=C3t (bU.out.keep (I.block Y bU.out.lt (λy=>aB.out.2 (.inr (.inr y)))));have bZ:=C3t (bF.out.keep (I.block aA bF.out.lt (λy=>aK.out.1 (.inr (.inr y)))));clear hc I aR)
       |(refine C3 (t:=35) rfl _ rfl Z bP.out rfl Tryz.underlying35 rfl B1 rfl ?_)
       |(go_at_call 84;refine(cW.out _ c m cO.out).mono ?_;rintro e dP ⟨rfl,hc,I⟩;have cP:=C3t hc;have cJ:=C3t (cH.out.trans I);have bX:=C3t (bV.out.keep (I.block Y bV.out.lt (λy=>aB.out.2 (.inr (.inr y)))));have cY:=C3t (bZ.out.keep (I.block aA bZ.out.lt (λy=>aK.out.1 (.inr (.inr y)))));clear hc I bP)
       |(go_at_call 46;refine(dA.out _ c m cP.out).mono ?_;rintro e dQ he;obtain⟨rfl,_⟩:=id he;have HE:=C3t he;have cV:=C3t (he.blk bX.out aB.out.2);have dC:=C3t (he.blk cY.out aK.out.1);clear he)
       |(refine C3 (t:=35) rfl _ rfl aA dC.out rfl Tryz.underlying35 rfl B1 rfl ?_)
       |(refine B5 rfl _ _ rfl Y cV.out rfl rfl B1 rfl rfl (P4 _ _) ?_;intro dR J I;have aX:=C3t J;have HO:=C3t (HE.out.opz cJ.out cA.out.1 cA.out.2 aG.out bX.out.lt aB.out.2 (dE.out Y aG.out) I);clear J I)
       |fail)
      exact bodyPost_ret (Q2 rfl _ _ rfl rfl aX.out Tryz.underlying35 rfl (by rw[B1];rfl)) rfl (.inr ⟨aN.out,(by rw[cR.out]<;>rfl),HO.out⟩)
     ·have J:(er !=0)=true:=by rw[bne_iff_ne];exact he
      have aZ:=bI.out
      rw[if_neg he]at aZ
      have cR:=C3t aZ
      clear bI aZ he
      go_enter Tryz.func36,Tryz.ntmps36
      go_wp2_with (first
       |(refine C4 (t:=35) rfl _ rfl rfl ?_;intro Z w0 U J I;have aP:=C3t J;have aC:=C3t I;have bJ:=C3t U;clear U J I)
       |(refine B6 rfl rfl J4 ?_;intro Y w1 U J I;have aG:=C3t (Nat.le_trans aC.out.size U);have aT:=C3t J;have aD:=C3t (aC.out.trans I);have aQ:=C3t (aP.out.over I);clear U J I)
       |(go_at_call 73;refine(HM.out _ aD.out).mono ?_;rintro e w2 ⟨rfl,rfl⟩)
       |(refine Q4 rfl _ rfl s rfl ?_;intro z3 w3 U J I;have aY:=C3t J;have aO:=C3t (aD.out.trans I);have aS:=C3t (aQ.out.over I);have aU:=C3t (aT.out.over I);clear U J I)
       |(go_at_call 79;refine(HC.out _ _ aY.out).mono ?_;rintro e w4 ⟨rfl,I⟩;have aE:=C3t (aO.out.trans I);have aH:=C3t (aS.out.over I);have aV:=C3t (aU.out.over I);clear I)
       |(refine C3 (t:=35) rfl _ rfl Z aH.out rfl Tryz.underlying35 rfl B1 rfl ?_)
       |(go_at_call 80;refine(HF.out _ aE.out).mono ?_;rintro e w5 ⟨rfl,I⟩;have aI:=C3t (aE.out.trans I);have aJ:=C3t (aH.out.over I);have aM:=C3t (aV.out.over I);clear I)
       |(refine B6 rfl rfl L5 ?_;intro z8 w6 U J I;have bH:=C3t (Nat.le_trans aI.out.size U);have bG:=C3t J;have bA:=C3t (aI.out.trans I);have bB:=C3t (aJ.out.over I);have bD:=C3t (aM.out.over I);have aL:=C3t (show Z≠z8/\Y≠z8 from⟨λe=>by have:=aJ.out.lt;omega,λe=>by have:=aM.out.lt;omega⟩);clear U J I)
       |(refine B5 rfl _ _ rfl z8 bG.out rfl rfl D9 (G9 _) (G9 _) (U0 _) ?_;intro w7 J I;have aF:=C3t (bA.out.fresh bH.out I);have bC:=C3t (bB.out.far1 I aL.out.1);have aW:=C3t (bD.out.far1 I aL.out.2);clear J I)
       |(go_at_call 44;refine(cB.out _ aF.out).mono ?_;rintro e w9 ⟨c,m,rfl,hc,h1,h2,I⟩;have cQ:=C3t (show Cs _ E c m ⟨E.H,0⟩from hc);have cA:=C3t (And.intro (Nat.le_trans aF.out.size h1) (Nat.le_trans aF.out.size h2));have bQ:=C3t (bC.out.over I);have bY:=C3t (aW.out.over I);have aB:=C3t (show(¬EF E c m Z)/\¬EF E c m Y from⟨nef h1 h2 bC.out.lt (HG.out Z bJ.out),nef h1 h2 aW.out.lt (HG.out Y aG.out)⟩);have cK:=C3t (aF.out.trans I);clear hc h1 h2 I)
       |(go_at_call 91;refine(cD.out _ c m cQ.out).mono ?_;rintro e dL ⟨rfl,hc,I⟩;have bR:=C3t hc;have bK:=C3t ((cK.out.same (G:=CF c m) (λ_ y=>y.elim)).trans I);have bO:=C3t (bQ.out.keep (I.block Z bQ.out.lt (λy=>aB.out.1 (.inr (.inr y)))));have bT:=C3t (bY.out.keep (I.block Y bY.out.lt (λy=>aB.out.2 (.inr (.inr y)))));clear hc I)
       |(refine B6 rfl rfl J4 ?_;intro aA dM U J I;have cX:=C3t J;have cM:=C3t (bR.out.step I);have aK:=C3t (show¬EF E c m aA/\aA≠E.o from B8V bR.out U);have cZ:=C3t (Nat.le_trans bK.out.size U);have bS:=C3t (show Z≠aA/\Y≠aA from⟨λe=>by have:=bO.out.lt;omega,λe=>by have:=bT.out.lt;omega⟩);have cF:=C3t (bK.out.over I);have cL:=C3t (bO.out.over I);have cU:=C3t (bT.out.over I);clear U J I)
       |(refine B5 rfl _ _ rfl aA cX.out rfl rfl B1 rfl rfl (P4 _ _) ?_;intro dN J I;have bF:=C3t J;have cN:=C3t (Cg.aside cM.out aK.out.1 aK.out.2 I);have cG:=C3t (cF.out.freshG cZ.out I);have aR:=C3t (cL.out.far1 I bS.out.1);have bU:=C3t (cU.out.far1 I bS.out.2);clear J I)
       |(refine C3 (t:=35) rfl _ rfl Z aR.out rfl Tryz.underlying35 rfl B1 rfl ?_)
       |(refine C3 (t:=35) rfl _ rfl aA bF.out rfl Tryz.underlying35 rfl B1 rfl ?_)
       |(refine Y3 rfl _ _ _ rfl s f1 f2 2 rfl rfl rfl ?_)
       |(go_at_call 92;refine(cE.out _ c m cN.out).mono ?_;rintro e dO ⟨rfl,hc,I⟩;have cO:=C3t hc;have cH:=C3t (cG.out.trans I);have bP:=C3t (aR.out.keep (I.block Z aR.out.lt (λy=>aB.out.1 (.inr (.inr y)))));have bV:=C3t (bU.out.keep (I.block Y bU.out.lt (λy=>aB.out.2 (.inr (.inr y)))));have bZ:=C3t (bF.out.keep (I.block aA bF.out.lt (λy=>aK.out.1 (.inr (.inr y)))));clear hc I aR)
       |(refine C3 (t:=35) rfl _ rfl Z bP.out rfl Tryz.underlying35 rfl B1 rfl ?_)
       |(go_at_call 84;refine(cW.out _ c m cO.out).mono ?_;rintro e dP ⟨rfl,hc,I⟩;have cP:=C3t hc;have cJ:=C3t (cH.out.trans I);have bX:=C3t (bV.out.keep (I.block Y bV.out.lt (λy=>aB.out.2 (.inr (.inr y)))));have cY:=C3t (bZ.out.keep (I.block aA bZ.out.lt (λy=>aK.out.1 (.inr (.inr y)))));clear hc I bP)
       |(go_at_call 46;refine(dA.out _ c m cP.out).mono ?_;rintro e dQ he;obtain⟨rfl,_⟩:=id he;have HE:=C3t he;have cV:=C3t (he.blk bX.out aB.out.2);have dC:=C3t (he.blk cY.out aK.out.1);clear he)
       |(refine J9 rfl rfl ?_)
       |(refine B5 rfl _ _ rfl Y cV.out rfl rfl B1 rfl rfl (P4 _ _) ?_;intro dR J I;have aX:=C3t J;have HO:=C3t (HE.out.opz cJ.out cA.out.1 cA.out.2 aG.out bX.out.lt aB.out.2 (dE.out Y aG.out) I);clear J I)
       |fail)
      exact bodyPost_ret (Q2 rfl _ _ rfl rfl aX.out Tryz.underlying35 rfl (by rw[B1];rfl)) rfl (.inr ⟨aN.out,(by rw[cR.out]<;>rfl),HO.out⟩)
   ·rw[if_neg h1]at HR
    have dZ:(fe !=11)=true:=by rw[bne_iff_ne];exact h1
    obtain⟨o,ho⟩:∃o,o=E.o:=⟨_,rfl⟩
    rw[<-ho]at HM HF⊢
    by_cases h2:fe=0
    ·subst h2
     rw[if_pos rfl]at HR
     have aN:=C3t HR.out
     clear h1 dZ HL cT HR HS dB cB ho
     rcases cC with rfl|rfl
     ·go_enter Tryz.func36,Tryz.ntmps36
      go_wp2_with (first
       |(refine C4 (t:=35) rfl _ rfl rfl ?_;intro Z w0 U J I;have aP:=C3t J;have aC:=C3t I;have bJ:=C3t U;clear U J I)
       |(refine B6 rfl rfl J4 ?_;intro Y w1 U J I;have aG:=C3t (Nat.le_trans aC.out.size U);have aT:=C3t J;have aD:=C3t (aC.out.trans I);have aQ:=C3t (aP.out.over I);clear U J I)
       |(go_at_call 73;refine(HM.out _ aD.out).mono ?_;rintro e w2 ⟨rfl,rfl⟩)
       |(refine Q4 rfl _ rfl s rfl ?_;intro z3 w3 U J I;have aY:=C3t J;have aO:=C3t (aD.out.trans I);have aS:=C3t (aQ.out.over I);have aU:=C3t (aT.out.over I);clear U J I)
       |(go_at_call 79;refine(HC.out _ _ aY.out).mono ?_;rintro e w4 ⟨rfl,I⟩;have aE:=C3t (aO.out.trans I);have aH:=C3t (aS.out.over I);have aV:=C3t (aU.out.over I);clear I)
       |(refine C3 (t:=35) rfl _ rfl Z aH.out rfl Tryz.underlying35 rfl B1 rfl ?_)
       |(go_at_call 80;refine(HF.out _ aE.out).mono ?_;rintro e w5 ⟨rfl,I⟩;have aI:=C3t (aE.out.trans I);have aJ:=C3t (aH.out.over I);have aM:=C3t (aV.out.over I);clear I)
       |(refine B6 rfl rfl L5 ?_;intro z8 w6 U J I;have bH:=C3t (Nat.le_trans aI.out.size U);have bG:=C3t J;have bA:=C3t (aI.out.trans I);have bB:=C3t (aJ.out.over I);have bD:=C3t (aM.out.over I);have aL:=C3t (show Z≠z8/\Y≠z8 from⟨λe=>by have:=aJ.out.lt;omega,λe=>by have:=aM.out.lt;omega⟩);clear U J I)
       |(refine B5 rfl _ _ rfl z8 bG.out rfl rfl D9 (G9 _) (G9 _) (U0 _) ?_;intro w7 J I;have aF:=C3t (bA.out.fresh bH.out I);have bC:=C3t (bB.out.far1 I aL.out.1);have aW:=C3t (bD.out.far1 I aL.out.2);clear J I)
       |(refine J9 rfl rfl ?_)
       |(refine B5 rfl _ _ rfl Y aW.out rfl rfl B1 rfl rfl (P4 _ _) ?_;intro dD J I;have aX:=C3t J;have bM:=C3t (aF.out.fresh aG.out I);clear J I)
       |fail)
      exact bodyPost_ret (Q2 rfl _ _ rfl rfl aX.out Tryz.underlying35 rfl (by rw[B1];rfl)) rfl (.inl ⟨(by rw[aN.out];decide),(by rw[aN.out]<;>rfl),bM.out⟩)
     ·go_enter Tryz.func36,Tryz.ntmps36
      go_wp2_with (first
       |(refine C4 (t:=35) rfl _ rfl rfl ?_;intro Z w0 U J I;have aP:=C3t J;have aC:=C3t I;have bJ:=C3t U;clear U J I)
       |(refine B6 rfl rfl J4 ?_;intro Y w1 U J I;have aG:=C3t (Nat.le_trans aC.out.size U);have aT:=C3t J;have aD:=C3t (aC.out.trans I);have aQ:=C3t (aP.out.over I);clear U J I)
       |(go_at_call 73;refine(HM.out _ aD.out).mono ?_;rintro e w2 ⟨rfl,rfl⟩)
       |(refine Q4 rfl _ rfl s rfl ?_;intro z3 w3 U J I;have aY:=C3t J;have aO:=C3t (aD.out.trans I);have aS:=C3t (aQ.out.over I);have aU:=C3t (aT.out.over I);clear U J I)
       |(go_at_call 79;refine(HC.out _ _ aY.out).mono ?_;rintro e w4 ⟨rfl,I⟩;have aE:=C3t (aO.out.trans I);have aH:=C3t (aS.out.over I);have aV:=C3t (aU.out.over I);clear I)
       |(refine C3 (t:=35) rfl _ rfl Z aH.out rfl Tryz.underlying35 rfl B1 rfl ?_)
       |(go_at_call 80;refine(HF.out _ aE.out).mono ?_;rintro e w5 ⟨rfl,I⟩;have aI:=C3t (aE.out.trans I);have aJ:=C3t (aH.out.over I);have aM:=C3t (aV.out.over I);clear I)
       |(refine B6 rfl rfl L5 ?_;intro z8 w6 U J I;have bH:=C3t (Nat.le_trans aI.out.size U);have bG:=C3t J;have bA:=C3t (aI.out.trans I);have bB:=C3t (aJ.out.over I);have bD:=C3t (aM.out.over I);have aL:=C3t (show Z≠z8/\Y≠z8 from⟨λe=>by have:=aJ.out.lt;omega,λe=>by have:=aM.out.lt;omega⟩);clear U J I)
       |(refine B5 rfl _ _ rfl z8 bG.out rfl rfl D9 (G9 _) (G9 _) (U0 _) ?_;intro w7 J I;have aF:=C3t (bA.out.fresh bH.out I);have bC:=C3t (bB.out.far1 I aL.out.1);have aW:=C3t (bD.out.far1 I aL.out.2);clear J I)
       |(refine J9 rfl rfl ?_)
       |(refine B5 rfl _ _ rfl Y aW.out rfl rfl B1 rfl rfl (P4 _ _) ?_;intro dD J I;have aX:=C3t J;have bM:=C3t (aF.out.fresh aG.out I);clear J I)
       |fail)
      exact bodyPost_ret (Q2 rfl _ _ rfl rfl aX.out Tryz.underlying35 rfl (by rw[B1];rfl)) rfl (.inl ⟨(by rw[aN.out];decide),(by rw[aN.out]<;>rfl),bM.out⟩)
    ·rw[if_neg h2]at HR
     have aN:=C3t HR.out
     have eA:(fe==0)=false:=by rw[beq_eq_false_iff_ne];exact h2
     have HN:=C3t h2
     clear h1 h2 HL cT HR HS dB cB ho
     rcases cC with rfl|rfl
     ·go_enter Tryz.func36,Tryz.ntmps36
      go_wp2_with (first
       |(refine C4 (t:=35) rfl _ rfl rfl ?_;intro Z w0 U J I;have aP:=C3t J;have aC:=C3t I;have bJ:=C3t U;clear U J I)
       |(refine B6 rfl rfl J4 ?_;intro Y w1 U J I;have aG:=C3t (Nat.le_trans aC.out.size U);have aT:=C3t J;have aD:=C3t (aC.out.trans I);have aQ:=C3t (aP.out.over I);clear U J I)
       |(go_at_call 73;refine(HM.out _ aD.out).mono ?_;rintro e w2 ⟨rfl,rfl⟩)
       |(refine Q4 rfl _ rfl s rfl ?_;intro z3 w3 U J I;have aY:=C3t J;have aO:=C3t (aD.out.trans I);have aS:=C3t (aQ.out.over I);have aU:=C3t (aT.out.over I);clear U J I)
       |(go_at_call 79;refine(HC.out _ _ aY.out).mono ?_;rintro e w4 ⟨rfl,I⟩;have aE:=C3t (aO.out.trans I);have aH:=C3t (aS.out.over I);have aV:=C3t (aU.out.over I);clear I)
       |(refine C3 (t:=35) rfl _ rfl Z aH.out rfl Tryz.underlying35 rfl B1 rfl ?_)
       |(go_at_call 80;refine(HF.out _ aE.out).mono ?_;rintro e w5 ⟨rfl,I⟩;have aI:=C3t (aE.out.trans I);have aJ:=C3t (aH.out.over I);have aM:=C3t (aV.out.over I);clear I)
       |(refine B6 rfl rfl L5 ?_;intro z8 w6 U J I;have bH:=C3t (Nat.le_trans aI.out.size U);have bG:=C3t J;have bA:=C3t (aI.out.trans I);have bB:=C3t (aJ.out.over I);have bD:=C3t (aM.out.over I);have aL:=C3t (show Z≠z8/\Y≠z8 from⟨λe=>by have:=aJ.out.lt;omega,λe=>by have:=aM.out.lt;omega⟩);clear U J I)
       |(refine B5 rfl _ _ rfl z8 bG.out rfl rfl D9 (G9 _) (G9 _) (U0 _) ?_;intro w7 J I;have aF:=C3t (bA.out.fresh bH.out I);have bC:=C3t (bB.out.far1 I aL.out.1);have aW:=C3t (bD.out.far1 I aL.out.2);clear J I)
       |(refine J9 rfl rfl ?_)
       |(refine B5 rfl _ _ rfl Y aW.out rfl rfl B1 rfl rfl (P4 _ _) ?_;intro dD J I;have aX:=C3t J;have bM:=C3t (aF.out.fresh aG.out I);clear J I)
       |fail)
      exact bodyPost_ret (Q2 rfl _ _ rfl rfl aX.out Tryz.underlying35 rfl (by rw[B1];rfl)) rfl (.inl ⟨(by rw[aN.out];exact HN.out),(by rw[aN.out]<;>rfl),bM.out⟩)
     ·go_enter Tryz.func36,Tryz.ntmps36
      go_wp2_with (first
       |(refine C4 (t:=35) rfl _ rfl rfl ?_;intro Z w0 U J I;have aP:=C3t J;have aC:=C3t I;have bJ:=C3t U;clear U J I)
       |(refine B6 rfl rfl J4 ?_;intro Y w1 U J I;have aG:=C3t (Nat.le_trans aC.out.size U);have aT:=C3t J;have aD:=C3t (aC.out.trans I);have aQ:=C3t (aP.out.over I);clear U J I)
       |(go_at_call 73;refine(HM.out _ aD.out).mono ?_;rintro e w2 ⟨rfl,rfl⟩)
       |(refine Q4 rfl _ rfl s rfl ?_;intro z3 w3 U J I;have aY:=C3t J;have aO:=C3t (aD.out.trans I);have aS:=C3t (aQ.out.over I);have aU:=C3t (aT.out.over I);clear U J I)
       |(go_at_call 79;refine(HC.out _ _ aY.out).mono ?_;rintro e w4 ⟨rfl,I⟩;have aE:=C3t (aO.out.trans I);have aH:=C3t (aS.out.over I);have aV:=C3t (aU.out.over I);clear I)
       |(refine C3 (t:=35) rfl _ rfl Z aH.out rfl Tryz.underlying35 rfl B1 rfl ?_)
       |(go_at_call 80;refine(HF.out _ aE.out).mono ?_;rintro e w5 ⟨rfl,I⟩;have aI:=C3t (aE.out.trans I);have aJ:=C3t (aH.out.over I);have aM:=C3t (aV.out.over I);clear I)
       |(refine B6 rfl rfl L5 ?_;intro z8 w6 U J I;have bH:=C3t (Nat.le_trans aI.out.size U);have bG:=C3t J;have bA:=C3t (aI.out.trans I);have bB:=C3t (aJ.out.over I);have bD:=C3t (aM.out.over I);have aL:=C3t (show Z≠z8/\Y≠z8 from⟨λe=>by have:=aJ.out.lt;omega,λe=>by have:=aM.out.lt;omega⟩);clear U J I)
       |(refine B5 rfl _ _ rfl z8 bG.out rfl rfl D9 (G9 _) (G9 _) (U0 _) ?_;intro w7 J I;have aF:=C3t (bA.out.fresh bH.out I);have bC:=C3t (bB.out.far1 I aL.out.1);have aW:=C3t (bD.out.far1 I aL.out.2);clear J I)
       |(refine J9 rfl rfl ?_)
       |(refine B5 rfl _ _ rfl Y aW.out rfl rfl B1 rfl rfl (P4 _ _) ?_;intro dD J I;have aX:=C3t J;have bM:=C3t (aF.out.fresh aG.out I);clear J I)
       |fail)
      exact bodyPost_ret (Q2 rfl _ _ rfl rfl aX.out Tryz.underlying35 rfl (by rw[B1];rfl)) rfl (.inl ⟨(by rw[aN.out];exact HN.out),(by rw[aN.out]<;>rfl),bM.out⟩)
  ·rw[if_neg cC]at HR
   have aN:=C3t HR.out
   have eB:(kd !=1)=true:=by rw[bne_iff_ne];exactλy=>cC (.inl y)
   have eC:(kd !=2)=true:=by rw[bne_iff_ne];exactλy=>cC (.inr y)
   obtain⟨o,ho⟩:∃o,o=E.o:=⟨_,rfl⟩
   rw[<-ho]at HM⊢
   clear cC HL cT HR HS dB cB HF ho
   go_enter Tryz.func36,Tryz.ntmps36
   go_wp2_with (first
    |(refine C4 (t:=35) rfl _ rfl rfl ?_;intro Z w0 U J I;have aP:=C3t J;have aC:=C3t I;have bJ:=C3t U;clear U J I)
    |(refine B6 rfl rfl J4 ?_;intro Y w1 U J I;have aG:=C3t (Nat.le_trans aC.out.size U);have aT:=C3t J;have aD:=C3t (aC.out.trans I);have aQ:=C3t (aP.out.over I);clear U J I)
    |(go_at_call 73;refine(HM.out _ aD.out).mono ?_;rintro e w2 ⟨rfl,rfl⟩)
    |(refine Q4 rfl _ rfl s rfl ?_;intro z3 w3 U J I;have aY:=C3t J;have aO:=C3t (aD.out.trans I);have aS:=C3t (aQ.out.over I);have aU:=C3t (aT.out.over I);clear U J I)
    |(go_at_call 79;refine(HC.out _ _ aY.out).mono ?_;rintro e w4 ⟨rfl,I⟩;have aE:=C3t (aO.out.trans I);have aH:=C3t (aS.out.over I);have aV:=C3t (aU.out.over I);clear I)
    |(refine J9 rfl rfl ?_)
    |(refine B5 rfl _ _ rfl Y aV.out rfl rfl B1 rfl rfl (P4 _ _) ?_;intro dD J I;have aX:=C3t J;have bM:=C3t (aE.out.fresh aG.out I);clear J I)
    |fail)
   exact bodyPost_ret (Q2 rfl _ _ rfl rfl aX.out Tryz.underlying35 rfl (by rw[B1];rfl)) rfl (.inl ⟨(by rw[aN.out];decide),(by rw[aN.out]<;>rfl),bM.out⟩)
 ·rw[if_neg h0]at HR
  have aN:=C3t HR.out
  have J:(ck !=0)=true:=by rw[bne_iff_ne];exact h0
  have HN:=C3t h0
  obtain⟨o,ho⟩:∃o,o=E.o:=⟨_,rfl⟩
  rw[<-ho]at HM⊢
  clear h0 HL cT HR HS dB cB HF ho
  go_enter Tryz.func36,Tryz.ntmps36
  go_wp2_with (first
   |(refine C4 (t:=35) rfl _ rfl rfl ?_;intro Z w0 U J I;have aP:=C3t J;have aC:=C3t I;have bJ:=C3t U;clear U J I)
   |(refine B6 rfl rfl J4 ?_;intro Y w1 U J I;have aG:=C3t (Nat.le_trans aC.out.size U);have aT:=C3t J;have aD:=C3t (aC.out.trans I);have aQ:=C3t (aP.out.over I);clear U J I)
   |(go_at_call 73;refine(HM.out _ aD.out).mono ?_;rintro e w2 ⟨rfl,rfl⟩)
   |(refine Q4 rfl _ rfl s rfl ?_;intro z3 w3 U J I;have aY:=C3t J;have aO:=C3t (aD.out.trans I);have aS:=C3t (aQ.out.over I);have aU:=C3t (aT.out.over I);clear U J I)
   |(go_at_call 79;refine(HC.out _ _ aY.out).mono ?_;rintro e w4 ⟨rfl,I⟩;have aE:=C3t (aO.out.trans I);have aH:=C3t (aS.out.over I);have aV:=C3t (aU.out.over I);clear I)
   |(refine J9 rfl rfl ?_)
   |(refine B5 rfl _ _ rfl Y aV.out rfl rfl B1 rfl rfl (P4 _ _) ?_;intro dD J I;have aX:=C3t J;have bM:=C3t (aE.out.fresh aG.out I);clear J I)
   |fail)
  exact bodyPost_ret (Q2 rfl _ _ rfl rfl aX.out Tryz.underlying35 rfl (by rw[B1];rfl)) rfl (.inl ⟨(by rw[aN.out];exact HN.out),(by rw[aN.out]<;>rfl),bM.out⟩)
end
end
section
open Go.RowKit
theorem A3m:(Tryz.prog.info? 70).map (·.size)=some 3:=by kernel_rfl
theorem B0a:(Tryz.prog.info? 70).map (λi=>(i.zero,i.size,i.bytes))=some (some (.agg #[.int .i64 0,.int .u64 0,.int .i64 0]),3,24):=by kernel_rfl
theorem C0F(k v n:Int):(#[Value.int .i64 k,.int .u64 v,.int .i64 n]).all (·.oneCell')=true:=by
 rw[Array.all_eq_true_iff_forall_mem]
 intro u I
 simp at I
 rcases I with rfl|rfl|rfl<;>rfl
theorem B0b:Tryz.prog.built 70 []=some #[.int .i64 0,.int .u64 0,.int .i64 0]:=by kernel_rfl
section
variable {ops:Array Oper} {rest:List Oper} {o:Oper} {a:Act} {w:World} {Q:Exit->Act->World->Prop}
theorem A3n(I:o.guard=none)(J:o.op= .build 70 #[])
 (h:wpList Tryz.prog ops Q rest (a.put o.dst (.agg #[.int .i64 0,.int .u64 0,.int .i64 0])) w):wpList Tryz.prog ops Q (o::rest) a w:=by
 refine wpList_build I 70 #[] J (by simp[B0b]) ?_
 simpa[B0b]using h
end
section
variable {p M:Nat} {H:Nat->List Nat} {w:World}
end
end
end Go.Proofs.YtbefmjiclpobjaaGreat
