import Derived.Test.YtbefmjiclpobjaaGreatMi30
namespace Go.Proofs.YtbefmjiclpobjaaGreat
set_option maxHeartbeats 12800000
set_option maxRecDepth 3000
open Go.RowKit Go.Maps
theorem B2e(s:ByteArray)(i g k:Int):Tryz.prog.built 74 [(0,.string s),(1,.agg #[.int .i64 i,.int .i64 g]),(2,.int .i64 k)]=some (ea ⟨s,i,g,k⟩):=by kernel_rfl
theorem V4{ops:Array Oper}{rest:List Oper}{o:Oper}{a:Act}{w:World}{Q:Exit->Act->World->Prop}(I:o.guard=none)(x y z:Operand)(J:o.op= .build 74 #[(0,x),(1,y),(2,z)])(s:ByteArray)(i g k:Int)(U:a.eval x= .string s)(V:a.eval y= .agg #[.int .i64 i,.int .i64 g])(W:a.eval z= .int .i64 k)
 (h:wpList Tryz.prog ops Q rest (a.put o.dst (.agg (ea ⟨s,i,g,k⟩))) w):wpList Tryz.prog ops Q (o::rest) a w:=by
 have e:((#[(0,x),(1,y),(2,z)]:Array (Nat×Operand)).map λ(i,x)=>(i,a.eval x)).toList=[(0,.string s),(1,.agg #[.int .i64 i,.int .i64 g]),(2,.int .i64 k)]:=by simp[U,V,W]
 refine wpList_build I 74 _ J (by rw[e,B2e s i g k];rfl) ?_
 rw[e,B2e s i g k]
 exact h
section
variable {w w1 w3 w4 w5:World} {E:Ev} {c m z:Nat} {R:(DS×LS)×Int} {x:Ending} {s:CS} {F:Nat->Prop}
theorem C1v{H:Nat->List Nat}{e:Int}(h:Cg w E c m H e)(X:w.heap.size<=z):¬EF E c m z/\z≠E.o:=by
 obtain⟨I,J,U⟩:=h.so.bd
 obtain⟨V,W⟩:=h.lt
 refine⟨λy=>?_,by omega⟩
 rcases y with y|y|y|y
 ·have:=I _ y;omega
 ·omega
 ·omega
 ·omega
theorem A5U.opz(h:A5U w3 E c m R x w4)(J:B1 (CF c m) w (CF c m) w3)(hc:w.heap.size<=c)(hm:w.heap.size<=m)(aB:w.heap.size<=z)(hz:z<w3.heap.size)(hn:¬EF E c m z)(ho:z≠E.o)(U:B1 (L6 z) w4 F w5):OdR w E R w5:=by
 obtain⟨h1,F',W,h2,h3,I⟩:=h
 have Y:∀k,EO (E.at_ F' R.1.1 R.1.2 W) k->EF (E.at_ F' R.1.1 R.1.2 W) c m k:=λk y=>by
  rcases y with y|y
  ·exact .inl y
  ·exact .inr (.inl y)
 have hd:∀k,EO (E.at_ F' R.1.1 R.1.2 W) k->¬L6 z k:=λk y u=>by
  unfold L6 at u
  subst u
  rcases I.into _ (Y _ y)with v|v
  ·exact hn v
  ·omega
 refine⟨F',W,h2.far (U.same (λ_ y=>y)) (λk V hu=>hd k (.inl hu) V) (λy=>ho y.symm) (hd _ (.inr rfl)),h3,U.os.trans (I.os.trans J.os),U.tape.trans (I.tape.trans J.tape),U.output.trans (I.output.trans J.output),Nat.le_trans J.size (Nat.le_trans I.size U.size),λk V aA=>?_,λk V=>?_⟩
 ·have Z:¬CF c m k:=λy=>by rcases y with y|y<;>omega
  have X:=Nat.lt_of_lt_of_le V J.size
  refine(U.block k (Nat.lt_of_lt_of_le X I.size) (λy=>by unfold L6 at y;omega)).trans ((I.block k X (λy=>?_)).trans (J.block k V Z))
  rcases y with y|y|y
  ·exact aA (.inl y)
  ·exact aA (.inr y)
  ·exact Z y
 ·rcases I.into k (Y k V)with y|y
  ·rcases y with y|y|y|y
   ·exact .inl (.inl y)
   ·exact .inl (.inr y)
   ·exact .inr (by omega)
   ·exact .inr (by omega)
  ·exact .inr (Nat.le_trans J.size y)
end
theorem C3k{s:CS}{M:Nat}(h:Sw s.H M){I:Int}(hk:I=1\/I=2):Sw (s.add I).H M:=by
 unfold CS.add
 split
 ·rename_i j U
  unfold addO at U
  rw[List.find?_range_eq_some]at U
  obtain⟨J,V,_⟩:=U
  have J:=of_decide_eq_true J
  have X:j<40:=by simpa using V
  have W:WfI (D3 s.H (1+j)):=B8R _
  have Y:=W.g
  have Z:=J.2
  exact A3R h ⟨by show -9223372036854775808<=I/\I<_;omega,by show -9223372036854775808<=(D3 s.H (1+j)).g+1/\(D3 s.H (1+j)).g+1<_;omega,by show 1<18446744073709551616;decide,λj _=>by show -9223372036854775808<=(0:Int)/\(0:Int)<9223372036854775808;decide⟩ (λ_=>by omega) (λ_ j _=>.inl rfl)
 ·exact h
theorem B3C{H:Nat->List Nat}{i g:Int}{s:ByteArray}(h:L4 H i g s=11):0<=i/\i<=40:=by
 have J:Q9 H i g 1=0:=by
  unfold L4 at h
  split at h
  ·rename_i I
   unfold J5 at I
   split at I
   ·assumption
   ·exact I
  ·unfold J5 at h
   split at h
   ·assumption
   ·rcases A7j H i g 1 with y|y|y
    ·exact y
    ·omega
    ·omega
 have:=S9 (A1h J).1
 omega
noncomputable def A8f(H:Nat->List Nat)(i g:Int)(s:ByteArray)(I:Int):Int:=
 if A0a [s]=0 then(if I=1\/I=2 then(if L4 H i g s=11 then 0 else if L4 H i g s=0 then 10 else L4 H i g s)else 2)else A0a [s]
noncomputable def A8g(E:Ev)(i g:Int)(s:ByteArray)(I:Int):CS:=
 (((⟨E.H,0⟩:CS).add I).enter E.M i g ⟨s,(addF E.H).1,(addF E.H).2,I⟩).touch i g
noncomputable def B6P(E:Ev)(i g:Int)(s:ByteArray)(I:Int):Int×Int:=if(Q3 E (A8g E i g s I)).2=0 then addF E.H else(0,0)
section
variable {w:World} {E:Ev}
theorem B91(h:So w E)(hs:Sw E.H E.M)(i g:Int)(s:ByteArray)(kd:Int)(hm:s.size<=maxLen)(hl:A8f E.H i g s kd=0->LOk E (A8g E i g s kd)):
 Calls Tryz.prog 36 #[.pointer (some ⟨E.o,0,none⟩),.agg #[.int .i64 i,.int .i64 g],.string s,.int .i64 kd] w λr w'=>
  (A8f E.H i g s kd≠0/\r= .returned (.tuple #[.agg #[.int .i64 0,.int .i64 0],.int .i64 (A8f E.H i g s kd)])/\B1 B5 w B5 w')\/
  (A8f E.H i g s kd=0/\r= .returned (.tuple #[.agg #[.int .i64 (B6P E i g s kd).1,.int .i64 (B6P E i g s kd).2],.int .i64 (Q3 E (A8g E i g s kd)).2])/\OdR w E (Q3 E (A8g E i g s kd)) w'):=by
 have hv:=h.vu.rdv
 have dS:=C5Z (λV (a:B1 B5 w B5 V)=>A7l (hv.step a) hs.sd i g s)
 have HM:=C5Z (λV (a:B1 B5 w B5 V)=>A1k (hv.step a))
 have HC:=C5Z (λV z (r:Rd V 1 (.slice (some ⟨z,0,none⟩) 1 1) 1 ([s].map Value.string))=>A6g (.slice (some ⟨z,0,none⟩) 1 1) [s] V r (λt ht=>by rw[List.mem_singleton.1 ht];exact hm) (by simp))
 have cB:=C5Z (λV (a:B1 B5 w B5 V)=>A19 (h.step a))
 have HG:=C5Z (h.new)
 have dE:=C5Z (h.new_o)
 have HL:=C5Z hl
 have HR:=C5Z (show A8f E.H i g s kd=if A0a [s]=0 then(if kd=1\/kd=2 then(if L4 E.H i g s=11 then 0 else if L4 E.H i g s=0 then 10 else L4 E.H i g s)else 2)else A0a [s]from rfl)
 have cT:=C5Z (λx:L4 E.H i g s=11=>B3C x)
 have HS:=C5Z hs
 have dB:=C5Z hm
 obtain⟨X,hX⟩:∃X,X=J6 E.H i g s:=⟨_,rfl⟩
 obtain⟨fe,dF⟩:∃fe,fe=L4 E.H i g s:=⟨_,rfl⟩
 obtain⟨ck,dG⟩:∃ck,ck=A0a [s]:=⟨_,rfl⟩
 obtain⟨re,dH⟩:∃re,re=A8f E.H i g s kd:=⟨_,rfl⟩
 rw[<-dF,<-dG,<-dH]at HR
 rw[<-dH]at HL⊢
 rw[<-dF]at cT
 have HF:=C5Z (λV (a:B1 B5 w B5 V)=>(dS.out V a).mono (R':=λe w'=>e= .returned (.tuple #[.agg (ea X),.int .i64 fe])/\B1 B5 V B5 w') (λe w' y=>by rw[hX,dF];exact y))
 rw[<-dG]at HC
 clear hX dF dG dH h hs hv hm hl dS
 by_cases h0:ck=0
 ·subst h0
  rw[if_pos rfl]at HR
  by_cases cC:kd=1\/kd=2
  ·rw[if_pos cC]at HR
   have dU:=C5Z cC
   by_cases h1:fe=11
   ·subst h1
    rw[if_pos rfl]at HR
    have aN:=C5Z HR.out
    have hi:=cT.out rfl
    have dJ:Sw (⟨E.H,0⟩:CS).H E.M:=HS.out
    have cD:=C5Z (λW c m (k:Cs W E c m ⟨E.H,0⟩)=>C42 k dJ kd dU.out)
    have dK:=C3k dJ dU.out
    have cE:=C5Z (λW c m (k:Cs W E c m ((⟨E.H,0⟩:CS).add kd))=>B4F k dK i g hi ⟨s,(addF E.H).1,(addF E.H).2,kd⟩ dB.out)
    have dY:=B1Q dK i g ⟨s,(addF E.H).1,(addF E.H).2,kd⟩
    have cW:=C5Z (λW c m (k:Cs W E c m (((⟨E.H,0⟩:CS).add kd).enter E.M i g ⟨s,(addF E.H).1,(addF E.H).2,kd⟩))=>A41 k dY i g hi)
    rw[show(((⟨E.H,0⟩:CS).add kd).enter E.M i g ⟨s,(addF E.H).1,(addF E.H).2,kd⟩).touch i g=A8g E i g s kd from rfl]at cW
    have dA:=C5Z (λW c m (k:Cs W E c m (A8g E i g s kd))=>A8R k HS.out.sd.row (HL.out aN.out))
    have bI:=C5Z (show B6P E i g s kd=if(Q3 E (A8g E i g s kd)).2=0 then addF E.H else(0,0)from rfl)
    obtain⟨S3,dX⟩:∃S3,S3=A8g E i g s kd:=⟨_,rfl⟩
    rw[<-dX]at cW dA bI⊢
    obtain⟨S2,dW⟩:∃S2,S2=((⟨E.H,0⟩:CS).add kd).enter E.M i g ⟨s,(addF E.H).1,(addF E.H).2,kd⟩:=⟨_,rfl⟩
    rw[<-dW]at cW cE
    obtain⟨S1,dV⟩:∃S1,S1=(⟨E.H,0⟩:CS).add kd:=⟨_,rfl⟩
    rw[<-dV]at cE cD
    obtain⟨cf,aZ⟩:∃cf,cf=B6P E i g s kd:=⟨_,rfl⟩
    rw[<-aZ]at bI⊢
    obtain⟨f,hf⟩:∃f,f=addF E.H:=⟨_,rfl⟩
    have cD:=C5Z (λW c m (k:Cs W E c m ⟨E.H,0⟩)=>show Calls Tryz.prog 91 #[.pointer (some ⟨c,0,none⟩),.int .i64 kd] W λr w'=>r= .returned (.agg #[.int .i64 f.1,.int .i64 f.2])/\Cs w' E c m S1/\B1 (CF c m) W (CF c m) w' by rw[hf];exact cD.out W c m k)
    rw[<-hf]at bI cE
    obtain⟨R,hR⟩:∃R,R=Q3 E S3:=⟨_,rfl⟩
    rw[<-hR]at dA bI⊢
    obtain⟨rr,er⟩:=R
    obtain⟨f1,f2⟩:=f
    simp only at bI cE cD⊢
    obtain⟨o,ho⟩:∃o,o=E.o:=⟨_,rfl⟩
    rw[<-ho]at HM cB HF⊢
    clear dV dW dX dJ dK dY hR ho hi aZ hf HL cT HR HS dB
    rcases cC with rfl|rfl
    ·by_cases he:er=0
     ·subst he
      have aZ:=bI.out
      rw[if_pos rfl]at aZ
      have cR:=C5Z aZ
      clear bI aZ
      go_enter Tryz.func36,Tryz.ntmps36
      go_wp2_with (first
       |(refine C4 (t:=35) rfl _ rfl rfl ?_;intro Z w0 U J I;have aP:=C5Z J;have aC:=C5Z I;have bJ:=C5Z U;clear U J I)
       |(refine B9 rfl rfl J0 ?_;intro Y w1 U J I;have aG:=C5Z (Nat.le_trans aC.out.size U);have aT:=C5Z J;have aD:=C5Z (aC.out.trans I);have aQ:=C5Z (aP.out.over I);clear U J I)
       |(go_at_call 73;refine(HM.out _ aD.out).mono ?_;rintro e w2 ⟨rfl,rfl⟩)
       |(refine M7 rfl _ rfl s rfl ?_;intro z3 w3 U J I;have aY:=C5Z J;have aO:=C5Z (aD.out.trans I);have aS:=C5Z (aQ.out.over I);have aU:=C5Z (aT.out.over I);clear U J I)
       |(go_at_call 79;refine(HC.out _ _ aY.out).mono ?_;rintro e w4 ⟨rfl,I⟩;have aE:=C5Z (aO.out.trans I);have aH:=C5Z (aS.out.over I);have aV:=C5Z (aU.out.over I);clear I)
       |(refine B6 (t:=35) rfl _ rfl Z aH.out rfl Tryz.underlying35 rfl B0 rfl ?_)
       |(go_at_call 80;refine(HF.out _ aE.out).mono ?_;rintro e w5 ⟨rfl,I⟩;have aI:=C5Z (aE.out.trans I);have aJ:=C5Z (aH.out.over I);have aM:=C5Z (aV.out.over I);clear I)
       |(refine B9 rfl rfl D1 ?_;intro z8 w6 U J I;have bH:=C5Z (Nat.le_trans aI.out.size U);have bG:=C5Z J;have bA:=C5Z (aI.out.trans I);have bB:=C5Z (aJ.out.over I);have bD:=C5Z (aM.out.over I);have aL:=C5Z (show Z≠z8/\Y≠z8 from⟨λe=>by have:=aJ.out.lt;omega,λe=>by have:=aM.out.lt;omega⟩);clear U J I)
       |(refine B7 rfl _ _ rfl z8 bG.out rfl rfl C7 (C6 _) (C6 _) (L8 _) ?_;intro w7 J I;have aF:=C5Z (bA.out.fresh bH.out I);have bC:=C5Z (bB.out.far1 I aL.out.1);have aW:=C5Z (bD.out.far1 I aL.out.2);clear J I)
       |(go_at_call 44;refine(cB.out _ aF.out).mono ?_;rintro e w9 ⟨c,m,rfl,hc,h1,h2,I⟩;have cQ:=C5Z (show Cs _ E c m ⟨E.H,0⟩from hc);have cA:=C5Z (And.intro (Nat.le_trans aF.out.size h1) (Nat.le_trans aF.out.size h2));have bQ:=C5Z (bC.out.over I);have bY:=C5Z (aW.out.over I);have aB:=C5Z (show(¬EF E c m Z)/\¬EF E c m Y from⟨nef h1 h2 bC.out.lt (HG.out Z bJ.out),nef h1 h2 aW.out.lt (HG.out Y aG.out)⟩);have cK:=C5Z (aF.out.trans I);clear hc h1 h2 I)
       |(go_at_call 91;refine(cD.out _ c m cQ.out).mono ?_;rintro e dL ⟨rfl,hc,I⟩;have bR:=C5Z hc;have bK:=C5Z ((cK.out.same (G:=CF c m) (λ_ y=>y.elim)).trans I);have bO:=C5Z (bQ.out.keep (I.block Z bQ.out.lt (λy=>aB.out.1 (.inr (.inr y)))));have bT:=C5Z (bY.out.keep (I.block Y bY.out.lt (λy=>aB.out.2 (.inr (.inr y)))));clear hc I)
       |(refine B9 rfl rfl J0 ?_;intro aA dM U J I;have cX:=C5Z J;have cM:=C5Z (bR.out.step I);have aK:=C5Z (show¬EF E c m aA/\aA≠E.o from C1v bR.out U);have cZ:=C5Z (Nat.le_trans bK.out.size U);have bS:=C5Z (show Z≠aA/\Y≠aA from⟨λe=>by have:=bO.out.lt;omega,λe=>by have:=bT.out.lt;omega⟩);have cF:=C5Z (bK.out.over I);have cL:=C5Z (bO.out.over I);have cU:=C5Z (bT.out.over I);clear U J I)
       |(refine B7 rfl _ _ rfl aA cX.out rfl rfl B0 rfl rfl (P9 _ _) ?_;intro dN J I;have bF:=C5Z J;have cN:=C5Z (Cg.aside cM.out aK.out.1 aK.out.2 I);have cG:=C5Z (cF.out.freshG cZ.out I);have aR:=C5Z (cL.out.far1 I bS.out.1);have bU:=C5Z (cU.out.far1 I bS.out.2);clear J I)
       |(refine B6 (t:=35) rfl _ rfl Z aR.out rfl Tryz.underlying35 rfl B0 rfl ?_)
       |(refine B6 (t:=35) rfl _ rfl aA bF.out rfl Tryz.underlying35 rfl B0 rfl ?_)
       |(refine V4 rfl _ _ _ rfl s f1 f2 1 rfl rfl rfl ?_)
       |(go_at_call 92;refine(cE.out _ c m cN.out).mono ?_;rintro e dO ⟨rfl,hc,I⟩;have cO:=C5Z hc;have cH:=C5Z (cG.out.trans I);have bP:=C5Z (aR.out.keep (I.block Z aR.out.lt (λy=>aB.out.1 (.inr (.inr y)))));have bV:=C5Z (bU.out.keep (I.block Y bU.out.lt (λy=>aB.out.2 (.inr (.inr y)))));have bZ:=C5Z (bF.out.keep (I.block aA bF.out.lt (λy=>aK.out.1 (.inr (.inr y)))));clear hc I aR)
       |(refine B6 (t:=35) rfl _ rfl Z bP.out rfl Tryz.underlying35 rfl B0 rfl ?_)
       |(go_at_call 84;refine(cW.out _ c m cO.out).mono ?_;rintro e dP ⟨rfl,hc,I⟩;have cP:=C5Z hc;have cJ:=C5Z (cH.out.trans I);have bX:=C5Z (bV.out.keep (I.block Y bV.out.lt (λy=>aB.out.2 (.inr (.inr y)))));have cY:=C5Z (bZ.out.keep (I.block aA bZ.out.lt (λy=>aK.out.1 (.inr (.inr y)))));clear hc I bP)
       |(go_at_call 46;refine(dA.out _ c m cP.out).mono ?_;rintro e dQ he;obtain⟨rfl,_⟩:=id he;have HE:=C5Z he;have cV:=C5Z (he.blk bX.out aB.out.2);have dC:=C5Z (he.blk cY.out aK.out.1);clear he)
       |(refine B6 (t:=35) rfl _ rfl aA dC.out rfl Tryz.underlying35 rfl B0 rfl ?_)
       |(refine B7 rfl _ _ rfl Y cV.out rfl rfl B0 rfl rfl (P9 _ _) ?_;intro dR J I;have aX:=C5Z J;have HO:=C5Z (HE.out.opz cJ.out cA.out.1 cA.out.2 aG.out bX.out.lt aB.out.2 (dE.out Y aG.out) I);clear J I)
       |fail)
      exact bodyPost_ret (R5 rfl _ _ rfl rfl aX.out Tryz.underlying35 rfl (by rw[B0];rfl)) rfl (.inr ⟨aN.out,(by rw[cR.out]<;>rfl),HO.out⟩)
     ·have J:(er !=0)=true:=by rw[bne_iff_ne];exact he
      have aZ:=bI.out
      rw[if_neg he]at aZ
      have cR:=C5Z aZ
      clear bI aZ he
      go_enter Tryz.func36,Tryz.ntmps36
      go_wp2_with (first
       |(refine C4 (t:=35) rfl _ rfl rfl ?_;intro Z w0 U J I;have aP:=C5Z J;have aC:=C5Z I;have bJ:=C5Z U;clear U J I)
       |(refine B9 rfl rfl J0 ?_;intro Y w1 U J I;have aG:=C5Z (Nat.le_trans aC.out.size U);have aT:=C5Z J;have aD:=C5Z (aC.out.trans I);have aQ:=C5Z (aP.out.over I);clear U J I)
       |(go_at_call 73;refine(HM.out _ aD.out).mono ?_;rintro e w2 ⟨rfl,rfl⟩)
       |(refine M7 rfl _ rfl s rfl ?_;intro z3 w3 U J I;have aY:=C5Z J;have aO:=C5Z (aD.out.trans I);have aS:=C5Z (aQ.out.over I);have aU:=C5Z (aT.out.over I);clear U J I)
       |(go_at_call 79;refine(HC.out _ _ aY.out).mono ?_;rintro e w4 ⟨rfl,I⟩;have aE:=C5Z (aO.out.trans I);have aH:=C5Z (aS.out.over I);have aV:=C5Z (aU.out.over I);clear I)
       |(refine B6 (t:=35) rfl _ rfl Z aH.out rfl Tryz.underlying35 rfl B0 rfl ?_)
       |(go_at_call 80;refine(HF.out _ aE.out).mono ?_;rintro e w5 ⟨rfl,I⟩;have aI:=C5Z (aE.out.trans I);have aJ:=C5Z (aH.out.over I);have aM:=C5Z (aV.out.over I);clear I)
       |(refine B9 rfl rfl D1 ?_;intro z8 w6 U J I;have bH:=C5Z (Nat.le_trans aI.out.size U);have bG:=C5Z J;have bA:=C5Z (aI.out.trans I);have bB:=C5Z (aJ.out.over I);have bD:=C5Z (aM.out.over I);have aL:=C5Z (show Z≠z8/\Y≠z8 from⟨λe=>by have:=aJ.out.lt;omega,λe=>by have:=aM.out.lt;omega⟩);clear U J I)
       |(refine B7 rfl _ _ rfl z8 bG.out rfl rfl C7 (C6 _) (C6 _) (L8 _) ?_;intro w7 J I;have aF:=C5Z (bA.out.fresh bH.out I);have bC:=C5Z (bB.out.far1 I aL.out.1);have aW:=C5Z (bD.out.far1 I aL.out.2);clear J I)
       |(go_at_call 44;refine(cB.out _ aF.out).mono ?_;rintro e w9 ⟨c,m,rfl,hc,h1,h2,I⟩;have cQ:=C5Z (show Cs _ E c m ⟨E.H,0⟩from hc);have cA:=C5Z (And.intro (Nat.le_trans aF.out.size h1) (Nat.le_trans aF.out.size h2));have bQ:=C5Z (bC.out.over I);have bY:=C5Z (aW.out.over I);have aB:=C5Z (show(¬EF E c m Z)/\¬EF E c m Y from⟨nef h1 h2 bC.out.lt (HG.out Z bJ.out),nef h1 h2 aW.out.lt (HG.out Y aG.out)⟩);have cK:=C5Z (aF.out.trans I);clear hc h1 h2 I)
       |(go_at_call 91;refine(cD.out _ c m cQ.out).mono ?_;rintro e dL ⟨rfl,hc,I⟩;have bR:=C5Z hc;have bK:=C5Z ((cK.out.same (G:=CF c m) (λ_ y=>y.elim)).trans I);have bO:=C5Z (bQ.out.keep (I.block Z bQ.out.lt (λy=>aB.out.1 (.inr (.inr y)))));have bT:=C5Z (bY.out.keep (I.block Y bY.out.lt (λy=>aB.out.2 (.inr (.inr y)))));clear hc I)
       |(refine B9 rfl rfl J0 ?_;intro aA dM U J I;have cX:=C5Z J;have cM:=C5Z (bR.out.step I);have aK:=C5Z (show¬EF E c m aA/\aA≠E.o from C1v bR.out U);have cZ:=C5Z (Nat.le_trans bK.out.size U);have bS:=C5Z (show Z≠aA/\Y≠aA from⟨λe=>by have:=bO.out.lt;omega,λe=>by have:=bT.out.lt;omega⟩);have cF:=C5Z (bK.out.over I);have cL:=C5Z (bO.out.over I);have cU:=C5Z (bT.out.over I);clear U J I)
       |(refine B7 rfl _ _ rfl aA cX.out rfl rfl B0 rfl rfl (P9 _ _) ?_;intro dN J I;have bF:=C5Z J;have cN:=C5Z (Cg.aside cM.out aK.out.1 aK.out.2 I);have cG:=C5Z (cF.out.freshG cZ.out I);have aR:=C5Z (cL.out.far1 I bS.out.1);have bU:=C5Z (cU.out.far1 I bS.out.2);clear J I)
       |(refine B6 (t:=35) rfl _ rfl Z aR.out rfl Tryz.underlying35 rfl B0 rfl ?_)
       |(refine B6 (t:=35) rfl _ rfl aA bF.out rfl Tryz.underlying35 rfl B0 rfl ?_)
       |(refine V4 rfl _ _ _ rfl s f1 f2 1 rfl rfl rfl ?_)
       |(go_at_call 92;refine(cE.out _ c m cN.out).mono ?_;rintro e dO ⟨rfl,hc,I⟩;have cO:=C5Z hc;have cH:=C5Z (cG.out.trans I);have bP:=C5Z (aR.out.keep (I.block Z aR.out.lt (λy=>aB.out.1 (.inr (.inr y)))));have bV:=C5Z (bU.out.keep (I.block Y bU.out.lt (λy=>aB.out.2 (.inr (.inr y)))));have bZ:=C5Z (bF.out.keep (I.block aA bF.out.lt (λy=>aK.out.1 (.inr (.inr y)))));clear hc I aR)
       |(refine B6 (t:=35) rfl _ rfl Z bP.out rfl Tryz.underlying35 rfl B0 rfl ?_)
       |(go_at_call 84;refine(cW.out _ c m cO.out).mono ?_;rintro e dP ⟨rfl,hc,I⟩;have cP:=C5Z hc;have cJ:=C5Z (cH.out.trans I);have bX:=C5Z (bV.out.keep (I.block Y bV.out.lt (λy=>aB.out.2 (.inr (.inr y)))));have cY:=C5Z (bZ.out.keep (I.block aA bZ.out.lt (λy=>aK.out.1 (.inr (.inr y)))));clear hc I bP)
       |(go_at_call 46;refine(dA.out _ c m cP.out).mono ?_;rintro e dQ he;obtain⟨rfl,_⟩:=id he;have HE:=C5Z he;have cV:=C5Z (he.blk bX.out aB.out.2);have dC:=C5Z (he.blk cY.out aK.out.1);clear he)
       |(refine P5 rfl rfl ?_)
       |(refine B7 rfl _ _ rfl Y cV.out rfl rfl B0 rfl rfl (P9 _ _) ?_;intro dR J I;have aX:=C5Z J;have HO:=C5Z (HE.out.opz cJ.out cA.out.1 cA.out.2 aG.out bX.out.lt aB.out.2 (dE.out Y aG.out) I);clear J I)
       |fail)
      exact bodyPost_ret (R5 rfl _ _ rfl rfl aX.out Tryz.underlying35 rfl (by rw[B0];rfl)) rfl (.inr ⟨aN.out,(by rw[cR.out]<;>rfl),HO.out⟩)
    ·by_cases he:er=0
     ·subst he
      have aZ:=bI.out
      rw[if_pos rfl]at aZ
      have cR:=C5Z aZ
      clear bI aZ
      go_enter Tryz.func36,Tryz.ntmps36
      go_wp2_with (first
       |(refine C4 (t:=35) rfl _ rfl rfl ?_;intro Z w0 U J I;have aP:=C5Z J;have aC:=C5Z I;have bJ:=C5Z U;clear U J I)
       |(refine B9 rfl rfl J0 ?_;intro Y w1 U J I;have aG:=C5Z (Nat.le_trans aC.out.size U);have aT:=C5Z J;have aD:=C5Z (aC.out.trans I);have aQ:=C5Z (aP.out.over I);clear U J I)
       |(go_at_call 73;refine(HM.out _ aD.out).mono ?_;rintro e w2 ⟨rfl,rfl⟩)
       |(refine M7 rfl _ rfl s rfl ?_;intro z3 w3 U J I;have aY:=C5Z J;have aO:=C5Z (aD.out.trans I);have aS:=C5Z (aQ.out.over I);have aU:=C5Z (aT.out.over I);clear U J I)
       |(go_at_call 79;refine(HC.out _ _ aY.out).mono ?_;rintro e w4 ⟨rfl,I⟩;have aE:=C5Z (aO.out.trans I);have aH:=C5Z (aS.out.over I);have aV:=C5Z (aU.out.over I);clear I)
       |(refine B6 (t:=35) rfl _ rfl Z aH.out rfl Tryz.underlying35 rfl B0 rfl ?_)
       |(go_at_call 80;refine(HF.out _ aE.out).mono ?_;rintro e w5 ⟨rfl,I⟩;have aI:=C5Z (aE.out.trans I);have aJ:=C5Z (aH.out.over I);have aM:=C5Z (aV.out.over I);clear I)
       |(refine B9 rfl rfl D1 ?_;intro z8 w6 U J I;have bH:=C5Z (Nat.le_trans aI.out.size U);have bG:=C5Z J;have bA:=C5Z (aI.out.trans I);have bB:=C5Z (aJ.out.over I);have bD:=C5Z (aM.out.over I);have aL:=C5Z (show Z≠z8/\Y≠z8 from⟨λe=>by have:=aJ.out.lt;omega,λe=>by have:=aM.out.lt;omega⟩);clear U J I)
       |(refine B7 rfl _ _ rfl z8 bG.out rfl rfl C7 (C6 _) (C6 _) (L8 _) ?_;intro w7 J I;have aF:=C5Z (bA.out.fresh bH.out I);have bC:=C5Z (bB.out.far1 I aL.out.1);have aW:=C5Z (bD.out.far1 I aL.out.2);clear J I)
       |(go_at_call 44;refine(cB.out _ aF.out).mono ?_;rintro e w9 ⟨c,m,rfl,hc,h1,h2,I⟩;have cQ:=C5Z (show Cs _ E c m ⟨E.H,0⟩from hc);have cA:=C5Z (And.intro (Nat.le_trans aF.out.size h1) (Nat.le_trans aF.out.size h2));have bQ:=C5Z (bC.out.over I);have bY:=C5Z (aW.out.over I);have aB:=C5Z (show(¬EF E c m Z)/\¬EF E c m Y from⟨nef h1 h2 bC.out.lt (HG.out Z bJ.out),nef h1 h2 aW.out.lt (HG.out Y aG.out)⟩);have cK:=C5Z (aF.out.trans I);clear hc h1 h2 I)
       |(go_at_call 91;refine(cD.out _ c m cQ.out).mono ?_;rintro e dL ⟨rfl,hc,I⟩;have bR:=C5Z hc;have bK:=C5Z ((cK.out.same (G:=CF c m) (λ_ y=>y.elim)).trans I);have bO:=C5Z (bQ.out.keep (I.block Z bQ.out.lt (λy=>aB.out.1 (.inr (.inr y)))));have bT:=C5Z (bY.out.keep (I.block Y bY.out.lt (λy=>aB.out.2 (.inr (.inr y)))));clear hc I)
       |(refine B9 rfl rfl J0 ?_;intro aA dM U J I;have cX:=C5Z J;have cM:=C5Z (bR.out.step I);have aK:=C5Z (show¬EF E c m aA/\aA≠E.o from C1v bR.out U);have cZ:=C5Z (Nat.le_trans bK.out.size U);have bS:=C5Z (show Z≠aA/\Y≠aA from⟨λe=>by have:=bO.out.lt;omega,λe=>by have:=bT.out.lt;omega⟩);have cF:=C5Z (bK.out.over I);have cL:=C5Z (bO.out.over I);have cU:=C5Z (bT.out.over I);clear U J I)
       |(refine B7 rfl _ _ rfl aA cX.out rfl rfl B0 rfl rfl (P9 _ _) ?_;intro dN J I;have bF:=C5Z J;have cN:=C5Z (Cg.aside cM.out aK.out.1 aK.out.2 I);have cG:=C5Z (cF.out.freshG cZ.out I);have aR:=C5Z (cL.out.far1 I bS.out.1);have bU:=C5Z (cU.out.far1 I bS.out.2);clear J I)
       |(refine B6 (t:=35) rfl _ rfl Z aR.out rfl Tryz.underlying35 rfl B0 rfl ?_)
       |(refine B6 (t:=35) rfl _ rfl aA bF.out rfl Tryz.underlying35 rfl B0 rfl ?_)
       |(refine V4 rfl _ _ _ rfl s f1 f2 2 rfl rfl rfl ?_)
       |(go_at_call 92;refine(cE.out _ c m cN.out).mono ?_;rintro e dO ⟨rfl,hc,I⟩;have cO:=C5Z hc;have cH:=C5Z (cG.out.trans I);have bP:=C5Z (aR.out.keep (I.block Z aR.out.lt (λy=>aB.out.1 (.inr (.inr y)))));have bV:=C5Z (bU.out.keep (I.block Y bU.out.lt (λy=>aB.out.2 (.inr (.inr y)))));have bZ:=C5Z (bF.out.keep (I.block aA bF.out.lt (λy=>aK.out.1 (.inr (.inr y)))));clear hc I aR)
       |(refine B6 (t:=35) rfl _ rfl Z bP.out rfl Tryz.underlying35 rfl B0 rfl ?_)
       |(go_at_call 84;refine(cW.out _ c m cO.out).mono ?_;rintro e dP ⟨rfl,hc,I⟩;have cP:=C5Z hc;have cJ:=C5Z (cH.out.trans I);have bX:=C5Z (bV.out.keep (I.block Y bV.out.lt (λy=>aB.out.2 (.inr (.inr y)))));have cY:=C5Z (bZ.out.keep (I.block aA bZ.out.lt (λy=>aK.out.1 (.inr (.inr y)))));clear hc I bP)
       |(go_at_call 46;refine(dA.out _ c m cP.out).mono ?_;rintro e dQ he;obtain⟨rfl,_⟩:=id he;have HE:=C5Z he;have cV:=C5Z (he.blk bX.out aB.out.2);have dC:=C5Z (he.blk cY.out aK.out.1);clear he)
       |(refine B6 (t:=35) rfl _ rfl aA dC.out rfl Tryz.underlying35 rfl B0 rfl ?_)
       |(refine B7 rfl _ _ rfl Y cV.out rfl rfl B0 rfl rfl (P9 _ _) ?_;intro dR J I;have aX:=C5Z J;have HO:=C5Z (HE.out.opz cJ.out cA.out.1 cA.out.2 aG.out bX.out.lt aB.out.2 (dE.out Y aG.out) I);clear J I)
       |fail)
      exact bodyPost_ret (R5 rfl _ _ rfl rfl aX.out Tryz.underlying35 rfl (by rw[B0];rfl)) rfl (.inr ⟨aN.out,(by rw[cR.out]<;>rfl),HO.out⟩)
     ·have J:(er !=0)=true:=by rw[bne_iff_ne];exact he
      have aZ:=bI.out
      rw[if_neg he]at aZ
      have cR:=C5Z aZ
      clear bI aZ he
      go_enter Tryz.func36,Tryz.ntmps36
      go_wp2_with (first
       |(refine C4 (t:=35) rfl _ rfl rfl ?_;intro Z w0 U J I;have aP:=C5Z J;have aC:=C5Z I;have bJ:=C5Z U;clear U J I)
       |(refine B9 rfl rfl J0 ?_;intro Y w1 U J I;have aG:=C5Z (Nat.le_trans aC.out.size U);have aT:=C5Z J;have aD:=C5Z (aC.out.trans I);have aQ:=C5Z (aP.out.over I);clear U J I)
       |(go_at_call 73;refine(HM.out _ aD.out).mono ?_;rintro e w2 ⟨rfl,rfl⟩)
       |(refine M7 rfl _ rfl s rfl ?_;intro z3 w3 U J I;have aY:=C5Z J;have aO:=C5Z (aD.out.trans I);have aS:=C5Z (aQ.out.over I);have aU:=C5Z (aT.out.over I);clear U J I)
       |(go_at_call 79;refine(HC.out _ _ aY.out).mono ?_;rintro e w4 ⟨rfl,I⟩;have aE:=C5Z (aO.out.trans I);have aH:=C5Z (aS.out.over I);have aV:=C5Z (aU.out.over I);clear I)
       |(refine B6 (t:=35) rfl _ rfl Z aH.out rfl Tryz.underlying35 rfl B0 rfl ?_)
       |(go_at_call 80;refine(HF.out _ aE.out).mono ?_;rintro e w5 ⟨rfl,I⟩;have aI:=C5Z (aE.out.trans I);have aJ:=C5Z (aH.out.over I);have aM:=C5Z (aV.out.over I);clear I)
       |(refine B9 rfl rfl D1 ?_;intro z8 w6 U J I;have bH:=C5Z (Nat.le_trans aI.out.size U);have bG:=C5Z J;have bA:=C5Z (aI.out.trans I);have bB:=C5Z (aJ.out.over I);have bD:=C5Z (aM.out.over I);have aL:=C5Z (show Z≠z8/\Y≠z8 from⟨λe=>by have:=aJ.out.lt;omega,λe=>by have:=aM.out.lt;omega⟩);clear U J I)
       |(refine B7 rfl _ _ rfl z8 bG.out rfl rfl C7 (C6 _) (C6 _) (L8 _) ?_;intro w7 J I;have aF:=C5Z (bA.out.fresh bH.out I);have bC:=C5Z (bB.out.far1 I aL.out.1);have aW:=C5Z (bD.out.far1 I aL.out.2);clear J I)
       |(go_at_call 44;refine(cB.out _ aF.out).mono ?_;rintro e w9 ⟨c,m,rfl,hc,h1,h2,I⟩;have cQ:=C5Z (show Cs _ E c m ⟨E.H,0⟩from hc);have cA:=C5Z (And.intro (Nat.le_trans aF.out.size h1) (Nat.le_trans aF.out.size h2));have bQ:=C5Z (bC.out.over I);have bY:=C5Z (aW.out.over I);have aB:=C5Z (show(¬EF E c m Z)/\¬EF E c m Y from⟨nef h1 h2 bC.out.lt (HG.out Z bJ.out),nef h1 h2 aW.out.lt (HG.out Y aG.out)⟩);have cK:=C5Z (aF.out.trans I);clear hc h1 h2 I)
       |(go_at_call 91;refine(cD.out _ c m cQ.out).mono ?_;rintro e dL ⟨rfl,hc,I⟩;have bR:=C5Z hc;have bK:=C5Z ((cK.out.same (G:=CF c m) (λ_ y=>y.elim)).trans I);have bO:=C5Z (bQ.out.keep (I.block Z bQ.out.lt (λy=>aB.out.1 (.inr (.inr y)))));have bT:=C5Z (bY.out.keep (I.block Y bY.out.lt (λy=>aB.out.2 (.inr (.inr y)))));clear hc I)
       |(refine B9 rfl rfl J0 ?_;intro aA dM U J I;have cX:=C5Z J;have cM:=C5Z (bR.out.step I);have aK:=C5Z (show¬EF E c m aA/\aA≠E.o from C1v bR.out U);have cZ:=C5Z (Nat.le_trans bK.out.size U);have bS:=C5Z (show Z≠aA/\Y≠aA from⟨λe=>by have:=bO.out.lt;omega,λe=>by have:=bT.out.lt;omega⟩);have cF:=C5Z (bK.out.over I);have cL:=C5Z (bO.out.over I);have cU:=C5Z (bT.out.over I);clear U J I)
       |(refine B7 rfl _ _ rfl aA cX.out rfl rfl B0 rfl rfl (P9 _ _) ?_;intro dN J I;have bF:=C5Z J;have cN:=C5Z (Cg.aside cM.out aK.out.1 aK.out.2 I);have cG:=C5Z (cF.out.freshG cZ.out I);have aR:=C5Z (cL.out.far1 I bS.out.1);have bU:=C5Z (cU.out.far1 I bS.out.2);clear J I)
       |(refine B6 (t:=35) rfl _ rfl Z aR.out rfl Tryz.underlying35 rfl B0 rfl ?_)
       |(refine B6 (t:=35) rfl _ rfl aA bF.out rfl Tryz.underlying35 rfl B0 rfl ?_)
       |(refine V4 rfl _ _ _ rfl s f1 f2 2 rfl rfl rfl ?_)
       |(go_at_call 92;refine(cE.out _ c m cN.out).mono ?_;rintro e dO ⟨rfl,hc,I⟩;have cO:=C5Z hc;have cH:=C5Z (cG.out.trans I);have bP:=C5Z (aR.out.keep (I.block Z aR.out.lt (λy=>aB.out.1 (.inr (.inr y)))));have bV:=C5Z (bU.out.keep (I.block Y bU.out.lt (λy=>aB.out.2 (.inr (.inr y)))));have bZ:=C5Z (bF.out.keep (I.block aA bF.out.lt (λy=>aK.out.1 (.inr (.inr y)))));clear hc I aR)
       |(refine B6 (t:=35) rfl _ rfl Z bP.out rfl Tryz.underlying35 rfl B0 rfl ?_)
       |(go_at_call 84;refine(cW.out _ c m cO.out).mono ?_;rintro e dP ⟨rfl,hc,I⟩;have cP:=C5Z hc;have cJ:=C5Z (cH.out.trans I);have bX:=C5Z (bV.out.keep (I.block Y bV.out.lt (λy=>aB.out.2 (.inr (.inr y)))));have cY:=C5Z (bZ.out.keep (I.block aA bZ.out.lt (λy=>aK.out.1 (.inr (.inr y)))));clear hc I bP)
       |(go_at_call 46;refine(dA.out _ c m cP.out).mono ?_;rintro e dQ he;obtain⟨rfl,_⟩:=id he;have HE:=C5Z he;have cV:=C5Z (he.blk bX.out aB.out.2);have dC:=C5Z (he.blk cY.out aK.out.1);clear he)
       |(refine P5 rfl rfl ?_)
       |(refine B7 rfl _ _ rfl Y cV.out rfl rfl B0 rfl rfl (P9 _ _) ?_;intro dR J I;have aX:=C5Z J;have HO:=C5Z (HE.out.opz cJ.out cA.out.1 cA.out.2 aG.out bX.out.lt aB.out.2 (dE.out Y aG.out) I);clear J I)
       |fail)
      exact bodyPost_ret (R5 rfl _ _ rfl rfl aX.out Tryz.underlying35 rfl (by rw[B0];rfl)) rfl (.inr ⟨aN.out,(by rw[cR.out]<;>rfl),HO.out⟩)
   ·rw[if_neg h1]at HR
    have dZ:(fe !=11)=true:=by rw[bne_iff_ne];exact h1
    obtain⟨o,ho⟩:∃o,o=E.o:=⟨_,rfl⟩
    rw[<-ho]at HM HF⊢
    by_cases h2:fe=0
    ·subst h2
     rw[if_pos rfl]at HR
     have aN:=C5Z HR.out
     clear h1 dZ HL cT HR HS dB cB ho
     rcases cC with rfl|rfl
     ·go_enter Tryz.func36,Tryz.ntmps36
      go_wp2_with (first
       |(refine C4 (t:=35) rfl _ rfl rfl ?_;intro Z w0 U J I;have aP:=C5Z J;have aC:=C5Z I;have bJ:=C5Z U;clear U J I)
       |(refine B9 rfl rfl J0 ?_;intro Y w1 U J I;have aG:=C5Z (Nat.le_trans aC.out.size U);have aT:=C5Z J;have aD:=C5Z (aC.out.trans I);have aQ:=C5Z (aP.out.over I);clear U J I)
       |(go_at_call 73;refine(HM.out _ aD.out).mono ?_;rintro e w2 ⟨rfl,rfl⟩)
       |(refine M7 rfl _ rfl s rfl ?_;intro z3 w3 U J I;have aY:=C5Z J;have aO:=C5Z (aD.out.trans I);have aS:=C5Z (aQ.out.over I);have aU:=C5Z (aT.out.over I);clear U J I)
       |(go_at_call 79;refine(HC.out _ _ aY.out).mono ?_;rintro e w4 ⟨rfl,I⟩;have aE:=C5Z (aO.out.trans I);have aH:=C5Z (aS.out.over I);have aV:=C5Z (aU.out.over I);clear I)
       |(refine B6 (t:=35) rfl _ rfl Z aH.out rfl Tryz.underlying35 rfl B0 rfl ?_)
       |(go_at_call 80;refine(HF.out _ aE.out).mono ?_;rintro e w5 ⟨rfl,I⟩;have aI:=C5Z (aE.out.trans I);have aJ:=C5Z (aH.out.over I);have aM:=C5Z (aV.out.over I);clear I)
       |(refine B9 rfl rfl D1 ?_;intro z8 w6 U J I;have bH:=C5Z (Nat.le_trans aI.out.size U);have bG:=C5Z J;have bA:=C5Z (aI.out.trans I);have bB:=C5Z (aJ.out.over I);have bD:=C5Z (aM.out.over I);have aL:=C5Z (show Z≠z8/\Y≠z8 from⟨λe=>by have:=aJ.out.lt;omega,λe=>by have:=aM.out.lt;omega⟩);clear U J I)
       |(refine B7 rfl _ _ rfl z8 bG.out rfl rfl C7 (C6 _) (C6 _) (L8 _) ?_;intro w7 J I;have aF:=C5Z (bA.out.fresh bH.out I);have bC:=C5Z (bB.out.far1 I aL.out.1);have aW:=C5Z (bD.out.far1 I aL.out.2);clear J I)
       |(refine P5 rfl rfl ?_)
       |(refine B7 rfl _ _ rfl Y aW.out rfl rfl B0 rfl rfl (P9 _ _) ?_;intro dD J I;have aX:=C5Z J;have bM:=C5Z (aF.out.fresh aG.out I);clear J I)
       |fail)
      exact bodyPost_ret (R5 rfl _ _ rfl rfl aX.out Tryz.underlying35 rfl (by rw[B0];rfl)) rfl (.inl ⟨(by rw[aN.out];decide),(by rw[aN.out]<;>rfl),bM.out⟩)
     ·go_enter Tryz.func36,Tryz.ntmps36
      go_wp2_with (first
       |(refine C4 (t:=35) rfl _ rfl rfl ?_;intro Z w0 U J I;have aP:=C5Z J;have aC:=C5Z I;have bJ:=C5Z U;clear U J I)
       |(refine B9 rfl rfl J0 ?_;intro Y w1 U J I;have aG:=C5Z (Nat.le_trans aC.out.size U);have aT:=C5Z J;have aD:=C5Z (aC.out.trans I);have aQ:=C5Z (aP.out.over I);clear U J I)
       |(go_at_call 73;refine(HM.out _ aD.out).mono ?_;rintro e w2 ⟨rfl,rfl⟩)
       |(refine M7 rfl _ rfl s rfl ?_;intro z3 w3 U J I;have aY:=C5Z J;have aO:=C5Z (aD.out.trans I);have aS:=C5Z (aQ.out.over I);have aU:=C5Z (aT.out.over I);clear U J I)
       |(go_at_call 79;refine(HC.out _ _ aY.out).mono ?_;rintro e w4 ⟨rfl,I⟩;have aE:=C5Z (aO.out.trans I);have aH:=C5Z (aS.out.over I);have aV:=C5Z (aU.out.over I);clear I)
       |(refine B6 (t:=35) rfl _ rfl Z aH.out rfl Tryz.underlying35 rfl B0 rfl ?_)
       |(go_at_call 80;refine(HF.out _ aE.out).mono ?_;rintro e w5 ⟨rfl,I⟩;have aI:=C5Z (aE.out.trans I);have aJ:=C5Z (aH.out.over I);have aM:=C5Z (aV.out.over I);clear I)
       |(refine B9 rfl rfl D1 ?_;intro z8 w6 U J I;have bH:=C5Z (Nat.le_trans aI.out.size U);have bG:=C5Z J;have bA:=C5Z (aI.out.trans I);have bB:=C5Z (aJ.out.over I);have bD:=C5Z (aM.out.over I);have aL:=C5Z (show Z≠z8/\Y≠z8 from⟨λe=>by have:=aJ.out.lt;omega,λe=>by have:=aM.out.lt;omega⟩);clear U J I)
       |(refine B7 rfl _ _ rfl z8 bG.out rfl rfl C7 (C6 _) (C6 _) (L8 _) ?_;intro w7 J I;have aF:=C5Z (bA.out.fresh bH.out I);have bC:=C5Z (bB.out.far1 I aL.out.1);have aW:=C5Z (bD.out.far1 I aL.out.2);clear J I)
       |(refine P5 rfl rfl ?_)
       |(refine B7 rfl _ _ rfl Y aW.out rfl rfl B0 rfl rfl (P9 _ _) ?_;intro dD J I;have aX:=C5Z J;have bM:=C5Z (aF.out.fresh aG.out I);clear J I)
       |fail)
      exact bodyPost_ret (R5 rfl _ _ rfl rfl aX.out Tryz.underlying35 rfl (by rw[B0];rfl)) rfl (.inl ⟨(by rw[aN.out];decide),(by rw[aN.out]<;>rfl),bM.out⟩)
    ·rw[if_neg h2]at HR
     have aN:=C5Z HR.out
     have eA:(fe==0)=false:=by rw[beq_eq_false_iff_ne];exact h2
     have HN:=C5Z h2
     clear h1 h2 HL cT HR HS dB cB ho
     rcases cC with rfl|rfl
     ·go_enter Tryz.func36,Tryz.ntmps36
      go_wp2_with (first
       |(refine C4 (t:=35) rfl _ rfl rfl ?_;intro Z w0 U J I;have aP:=C5Z J;have aC:=C5Z I;have bJ:=C5Z U;clear U J I)
       |(refine B9 rfl rfl J0 ?_;intro Y w1 U J I;have aG:=C5Z (Nat.le_trans aC.out.size U);have aT:=C5Z J;have aD:=C5Z (aC.out.trans I);have aQ:=C5Z (aP.out.over I);clear U J I)
       |(go_at_call 73;refine(HM.out _ aD.out).mono ?_;rintro e w2 ⟨rfl,rfl⟩)
       |(refine M7 rfl _ rfl s rfl ?_;intro z3 w3 U J I;have aY:=C5Z J;have aO:=C5Z (aD.out.trans I);have aS:=C5Z (aQ.out.over I);have aU:=C5Z (aT.out.over I);clear U J I)
       |(go_at_call 79;refine(HC.out _ _ aY.out).mono ?_;rintro e w4 ⟨rfl,I⟩;have aE:=C5Z (aO.out.trans I);have aH:=C5Z (aS.out.over I);have aV:=C5Z (aU.out.over I);clear I)
       |(refine B6 (t:=35) rfl _ rfl Z aH.out rfl Tryz.underlying35 rfl B0 rfl ?_)
       |(go_at_call 80;refine(HF.out _ aE.out).mono ?_;rintro e w5 ⟨rfl,I⟩;have aI:=C5Z (aE.out.trans I);have aJ:=C5Z (aH.out.over I);have aM:=C5Z (aV.out.over I);clear I)
       |(refine B9 rfl rfl D1 ?_;intro z8 w6 U J I;have bH:=C5Z (Nat.le_trans aI.out.size U);have bG:=C5Z J;have bA:=C5Z (aI.out.trans I);have bB:=C5Z (aJ.out.over I);have bD:=C5Z (aM.out.over I);have aL:=C5Z (show Z≠z8/\Y≠z8 from⟨λe=>by have:=aJ.out.lt;omega,λe=>by have:=aM.out.lt;omega⟩);clear U J I)
       |(refine B7 rfl _ _ rfl z8 bG.out rfl rfl C7 (C6 _) (C6 _) (L8 _) ?_;intro w7 J I;have aF:=C5Z (bA.out.fresh bH.out I);have bC:=C5Z (bB.out.far1 I aL.out.1);have aW:=C5Z (bD.out.far1 I aL.out.2);clear J I)
       |(refine P5 rfl rfl ?_)
       |(refine B7 rfl _ _ rfl Y aW.out rfl rfl B0 rfl rfl (P9 _ _) ?_;intro dD J I;have aX:=C5Z J;have bM:=C5Z (aF.out.fresh aG.out I);clear J I)
       |fail)
      exact bodyPost_ret (R5 rfl _ _ rfl rfl aX.out Tryz.underlying35 rfl (by rw[B0];rfl)) rfl (.inl ⟨(by rw[aN.out];exact HN.out),(by rw[aN.out]<;>rfl),bM.out⟩)
     ·go_enter Tryz.func36,Tryz.ntmps36
      go_wp2_with (first
       |(refine C4 (t:=35) rfl _ rfl rfl ?_;intro Z w0 U J I;have aP:=C5Z J;have aC:=C5Z I;have bJ:=C5Z U;clear U J I)
       |(refine B9 rfl rfl J0 ?_;intro Y w1 U J I;have aG:=C5Z (Nat.le_trans aC.out.size U);have aT:=C5Z J;have aD:=C5Z (aC.out.trans I);have aQ:=C5Z (aP.out.over I);clear U J I)
       |(go_at_call 73;refine(HM.out _ aD.out).mono ?_;rintro e w2 ⟨rfl,rfl⟩)
       |(refine M7 rfl _ rfl s rfl ?_;intro z3 w3 U J I;have aY:=C5Z J;have aO:=C5Z (aD.out.trans I);have aS:=C5Z (aQ.out.over I);have aU:=C5Z (aT.out.over I);clear U J I)
       |(go_at_call 79;refine(HC.out _ _ aY.out).mono ?_;rintro e w4 ⟨rfl,I⟩;have aE:=C5Z (aO.out.trans I);have aH:=C5Z (aS.out.over I);have aV:=C5Z (aU.out.over I);clear I)
       |(refine B6 (t:=35) rfl _ rfl Z aH.out rfl Tryz.underlying35 rfl B0 rfl ?_)
       |(go_at_call 80;refine(HF.out _ aE.out).mono ?_;rintro e w5 ⟨rfl,I⟩;have aI:=C5Z (aE.out.trans I);have aJ:=C5Z (aH.out.over I);have aM:=C5Z (aV.out.over I);clear I)
       |(refine B9 rfl rfl D1 ?_;intro z8 w6 U J I;have bH:=C5Z (Nat.le_trans aI.out.size U);have bG:=C5Z J;have bA:=C5Z (aI.out.trans I);have bB:=C5Z (aJ.out.over I);have bD:=C5Z (aM.out.over I);have aL:=C5Z (show Z≠z8/\Y≠z8 from⟨λe=>by have:=aJ.out.lt;omega,λe=>by have:=aM.out.lt;omega⟩);clear U J I)
       |(refine B7 rfl _ _ rfl z8 bG.out rfl rfl C7 (C6 _) (C6 _) (L8 _) ?_;intro w7 J I;have aF:=C5Z (bA.out.fresh bH.out I);have bC:=C5Z (bB.out.far1 I aL.out.1);have aW:=C5Z (bD.out.far1 I aL.out.2);clear J I)
       |(refine P5 rfl rfl ?_)
       |(refine B7 rfl _ _ rfl Y aW.out rfl rfl B0 rfl rfl (P9 _ _) ?_;intro dD J I;have aX:=C5Z J;have bM:=C5Z (aF.out.fresh aG.out I);clear J I)
       |fail)
      exact bodyPost_ret (R5 rfl _ _ rfl rfl aX.out Tryz.underlying35 rfl (by rw[B0];rfl)) rfl (.inl ⟨(by rw[aN.out];exact HN.out),(by rw[aN.out]<;>rfl),bM.out⟩)
  ·rw[if_neg cC]at HR
   have aN:=C5Z HR.out
   have eB:(kd !=1)=true:=by rw[bne_iff_ne];exactλy=>cC (.inl y)
   have eC:(kd !=2)=true:=by rw[bne_iff_ne];exactλy=>cC (.inr y)
   obtain⟨o,ho⟩:∃o,o=E.o:=⟨_,rfl⟩
   rw[<-ho]at HM⊢
   clear cC HL cT HR HS dB cB HF ho
   go_enter Tryz.func36,Tryz.ntmps36
   go_wp2_with (first
    |(refine C4 (t:=35) rfl _ rfl rfl ?_;intro Z w0 U J I;have aP:=C5Z J;have aC:=C5Z I;have bJ:=C5Z U;clear U J I)
    |(refine B9 rfl rfl J0 ?_;intro Y w1 U J I;have aG:=C5Z (Nat.le_trans aC.out.size U);have aT:=C5Z J;have aD:=C5Z (aC.out.trans I);have aQ:=C5Z (aP.out.over I);clear U J I)
    |(go_at_call 73;refine(HM.out _ aD.out).mono ?_;rintro e w2 ⟨rfl,rfl⟩)
    |(refine M7 rfl _ rfl s rfl ?_;intro z3 w3 U J I;have aY:=C5Z J;have aO:=C5Z (aD.out.trans I);have aS:=C5Z (aQ.out.over I);have aU:=C5Z (aT.out.over I);clear U J I)
    |(go_at_call 79;refine(HC.out _ _ aY.out).mono ?_;rintro e w4 ⟨rfl,I⟩;have aE:=C5Z (aO.out.trans I);have aH:=C5Z (aS.out.over I);have aV:=C5Z (aU.out.over I);clear I)
    |(refine P5 rfl rfl ?_)
    |(refine B7 rfl _ _ rfl Y aV.out rfl rfl B0 rfl rfl (P9 _ _) ?_;intro dD J I;have aX:=C5Z J;have bM:=C5Z (aE.out.fresh aG.out I);clear J I)
    |fail)
   exact bodyPost_ret (R5 rfl _ _ rfl rfl aX.out Tryz.underlying35 rfl (by rw[B0];rfl)) rfl (.inl ⟨(by rw[aN.out];decide),(by rw[aN.out]<;>rfl),bM.out⟩)
 ·rw[if_neg h0]at HR
  have aN:=C5Z HR.out
  have J:(ck !=0)=true:=by rw[bne_iff_ne];exact h0
  have HN:=C5Z h0
  obtain⟨o,ho⟩:∃o,o=E.o:=⟨_,rfl⟩
  rw[<-ho]at HM⊢
  clear h0 HL cT HR HS dB cB HF ho
  go_enter Tryz.func36,Tryz.ntmps36
  go_wp2_with (first
   |(refine C4 (t:=35) rfl _ rfl rfl ?_;intro Z w0 U J I;have aP:=C5Z J;have aC:=C5Z I;have bJ:=C5Z U;clear U J I)
   |(refine B9 rfl rfl J0 ?_;intro Y w1 U J I;have aG:=C5Z (Nat.le_trans aC.out.size U);have aT:=C5Z J;have aD:=C5Z (aC.out.trans I);have aQ:=C5Z (aP.out.over I);clear U J I)
   |(go_at_call 73;refine(HM.out _ aD.out).mono ?_;rintro e w2 ⟨rfl,rfl⟩)
   |(refine M7 rfl _ rfl s rfl ?_;intro z3 w3 U J I;have aY:=C5Z J;have aO:=C5Z (aD.out.trans I);have aS:=C5Z (aQ.out.over I);have aU:=C5Z (aT.out.over I);clear U J I)
   |(go_at_call 79;refine(HC.out _ _ aY.out).mono ?_;rintro e w4 ⟨rfl,I⟩;have aE:=C5Z (aO.out.trans I);have aH:=C5Z (aS.out.over I);have aV:=C5Z (aU.out.over I);clear I)
   |(refine P5 rfl rfl ?_)
   |(refine B7 rfl _ _ rfl Y aV.out rfl rfl B0 rfl rfl (P9 _ _) ?_;intro dD J I;have aX:=C5Z J;have bM:=C5Z (aE.out.fresh aG.out I);clear J I)
   |fail)
  exact bodyPost_ret (R5 rfl _ _ rfl rfl aX.out Tryz.underlying35 rfl (by rw[B0];rfl)) rfl (.inl ⟨(by rw[aN.out];exact HN.out),(by rw[aN.out]<;>rfl),bM.out⟩)
end
end Go.Proofs.YtbefmjiclpobjaaGreat
