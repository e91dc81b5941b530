import Derived.Test.YtbefmjiclpobjaaGreatMj29
namespace Go.Proofs.YtbefmjiclpobjaaGreat
set_option maxHeartbeats 12800000
set_option maxRecDepth 3000
section
open Go.RowKit Go.Maps
theorem B2l(s:ByteArray)(i g k:Int):Tryz.prog.built 74 [(0,.string s),(1,.agg #[.int .i64 i,.int .i64 g]),(2,.int .i64 k)]=some (ea ⟨s,i,g,k⟩):=by kernel_rfl
theorem A0z{ops:Array Oper}{rest:List Oper}{o:Oper}{a:Act}{w:World}{Q:Exit->Act->World->Prop}(I:o.guard=none)(x y z:Operand)(J:o.op= .build 74 #[(0,x),(1,y),(2,z)])(s:ByteArray)(i g k:Int)(U:a.eval x= .string s)(V:a.eval y= .agg #[.int .i64 i,.int .i64 g])(W:a.eval z= .int .i64 k)
 (h:wpList Tryz.prog ops Q rest (a.put o.dst (.agg (ea ⟨s,i,g,k⟩))) w):wpList Tryz.prog ops Q (o::rest) a w:=by
 have e:((#[(0,x),(1,y),(2,z)]:Array (Nat×Operand)).map λ(i,x)=>(i,a.eval x)).toList=[(0,.string s),(1,.agg #[.int .i64 i,.int .i64 g]),(2,.int .i64 k)]:=by simp[U,V,W]
 refine wpList_build I 74 _ J (by rw[e,B2l s i g k];rfl) ?_
 rw[e,B2l s i g k]
 exact h
section
variable {w w1 w3 w4 w5:World} {E:Ev} {c m z:Nat} {R:(DS×LS)×Int} {x:Ending} {s:CS} {F:Nat->Prop}
theorem C5y{H:Nat->List Nat}{e:Int}(h:Cg w E c m H e)(X:w.heap.size<=z):¬EF E c m z/\z≠E.o:=by
 obtain⟨I,J,U⟩:=h.so.bd
 obtain⟨V,W⟩:=h.lt
 refine⟨λy=>?_,by omega⟩
 rcases y with y|y|y|y
 ·have:=I _ y;omega
 ·omega
 ·omega
 ·omega
theorem A5T.opz(h:A5T w3 E c m R x w4)(J:B0 (CF c m) w (CF c m) w3)(hc:w.heap.size<=c)(hm:w.heap.size<=m)(aB:w.heap.size<=z)(hz:z<w3.heap.size)(hn:¬EF E c m z)(ho:z≠E.o)(U:B0 (J0 z) w4 F w5):OdR w E R w5:=by
 obtain⟨h1,F',W,h2,h3,I⟩:=h
 have Y:∀k,EO (E.at_ F' R.1.1 R.1.2 W) k->EF (E.at_ F' R.1.1 R.1.2 W) c m k:=λk y=>by
  rcases y with y|y
  ·exact .inl y
  ·exact .inr (.inl y)
 have hd:∀k,EO (E.at_ F' R.1.1 R.1.2 W) k->¬J0 z k:=λk y u=>by
  unfold J0 at u
  subst u
  rcases I.into _ (Y _ y)with v|v
  ·exact hn v
  ·omega
 refine⟨F',W,h2.far (U.same (λ_ y=>y)) (λk V hu=>hd k (.inl hu) V) (λy=>ho y.symm) (hd _ (.inr rfl)),h3,U.os.trans (I.os.trans J.os),U.tape.trans (I.tape.trans J.tape),U.output.trans (I.output.trans J.output),Nat.le_trans J.size (Nat.le_trans I.size U.size),λk V aA=>?_,λk V=>?_⟩
 ·have Z:¬CF c m k:=λy=>by rcases y with y|y<;>omega
  have X:=Nat.lt_of_lt_of_le V J.size
  refine(U.block k (Nat.lt_of_lt_of_le X I.size) (λy=>by unfold J0 at y;omega)).trans ((I.block k X (λy=>?_)).trans (J.block k V Z))
  rcases y with y|y|y
  ·exact aA (.inl y)
  ·exact aA (.inr y)
  ·exact Z y
 ·rcases I.into k (Y k V)with y|y
  ·rcases y with y|y|y|y
   ·exact .inl (.inl y)
   ·exact .inl (.inr y)
   ·exact .inr (by omega)
   ·exact .inr (by omega)
  ·exact .inr (Nat.le_trans J.size y)
end
theorem C3z{s:CS}{M:Nat}(h:Sw s.H M){I:Int}(hk:I=1\/I=2):Sw (s.add I).H M:=by
 unfold CS.add
 split
 ·rename_i j U
  unfold addO at U
  rw[List.find?_range_eq_some]at U
  obtain⟨J,V,_⟩:=U
  have J:=of_decide_eq_true J
  have X:j<40:=by simpa using V
  have W:WfI (C9 s.H (1+j)):=B9d _
  have Y:=W.g
  have Z:=J.2
  exact A3M h ⟨by show -9223372036854775808<=I/\I<_;omega,by show -9223372036854775808<=(C9 s.H (1+j)).g+1/\(C9 s.H (1+j)).g+1<_;omega,by show 1<18446744073709551616;decide,λj _=>by show -9223372036854775808<=(0:Int)/\(0:Int)<9223372036854775808;decide⟩ (λ_=>by omega) (λ_ j _=>.inl rfl)
 ·exact h
theorem B3S{H:Nat->List Nat}{i g:Int}{s:ByteArray}(h:M4 H i g s=11):0<=i/\i<=40:=by
 have J:Q3 H i g 1=0:=by
  unfold M4 at h
  split at h
  ·rename_i I
   unfold J3 at I
   split at I
   ·assumption
   ·exact I
  ·unfold J3 at h
   split at h
   ·assumption
   ·rcases A7n H i g 1 with y|y|y
    ·exact y
    ·omega
    ·omega
 have:=R5 (A0W J).1
 omega
noncomputable def A8l(H:Nat->List Nat)(i g:Int)(s:ByteArray)(I:Int):Int:=
 if A0y [s]=0 then(if I=1\/I=2 then(if M4 H i g s=11 then 0 else if M4 H i g s=0 then 10 else M4 H i g s)else 2)else A0y [s]
noncomputable def A8m(E:Ev)(i g:Int)(s:ByteArray)(I:Int):CS:=
 (((⟨E.H,0⟩:CS).add I).enter E.M i g ⟨s,(addF E.H).1,(addF E.H).2,I⟩).touch i g
noncomputable def B7c(E:Ev)(i g:Int)(s:ByteArray)(I:Int):Int×Int:=if(P8 E (A8m E i g s I)).2=0 then addF E.H else(0,0)
section
variable {w:World} {E:Ev}
theorem B9A(h:So w E)(hs:Sw E.H E.M)(i g:Int)(s:ByteArray)(Y:Int)(hm:s.size<=maxLen)(hl:A8l E.H i g s Y=0->LOk E (A8m E i g s Y)):
 Calls Tryz.prog 36 #[.pointer (some ⟨E.o,0,none⟩),.agg #[.int .i64 i,.int .i64 g],.string s,.int .i64 Y] w λr w'=>
  (A8l E.H i g s Y≠0/\r= .returned (.tuple #[.agg #[.int .i64 0,.int .i64 0],.int .i64 (A8l E.H i g s Y)])/\B0 B5 w B5 w')\/
  (A8l E.H i g s Y=0/\r= .returned (.tuple #[.agg #[.int .i64 (B7c E i g s Y).1,.int .i64 (B7c E i g s Y).2],.int .i64 (P8 E (A8m E i g s Y)).2])/\OdR w E (P8 E (A8m E i g s Y)) w'):=by
 have hv:=h.vu.rdv
 have cJ:=C6x (λV (a:B0 B5 w B5 V)=>A9W (hv.step a) hs.sd i g s)
 have HM:=C6x (λV (a:B0 B5 w B5 V)=>A0Y (hv.step a))
 have HC:=C6x (λV z (r:Rd V 1 (.slice (some ⟨z,0,none⟩) 1 1) 1 ([s].map Value.string))=>A9Y (.slice (some ⟨z,0,none⟩) 1 1) [s] V r (λt ht=>by rw[List.mem_singleton.1 ht];exact hm) (by simp))
 have bB:=C6x (λV (a:B0 B5 w B5 V)=>A11 (h.step a))
 have HG:=C6x (h.new)
 have dK:=C6x (h.new_o)
 have HL:=C6x hl
 have Z:=C6x (show A8l E.H i g s Y=if A0y [s]=0 then(if Y=1\/Y=2 then(if M4 E.H i g s=11 then 0 else if M4 E.H i g s=0 then 10 else M4 E.H i g s)else 2)else A0y [s]from rfl)
 have aZ:=C6x (λx:M4 E.H i g s=11=>B3S x)
 have HS:=C6x hs
 have bC:=C6x hm
 obtain⟨X,hX⟩:∃X,X=L5 E.H i g s:=⟨_,rfl⟩
 obtain⟨fe,bT⟩:∃fe,fe=M4 E.H i g s:=⟨_,rfl⟩
 obtain⟨ck,bX⟩:∃ck,ck=A0y [s]:=⟨_,rfl⟩
 obtain⟨re,bY⟩:∃re,re=A8l E.H i g s Y:=⟨_,rfl⟩
 rw[<-bT,<-bX,<-bY]at Z
 rw[<-bY]at HL⊢
 rw[<-bT]at aZ
 have HF:=C6x (λV (a:B0 B5 w B5 V)=>(cJ.out V a).mono (R':=λe w'=>e= .returned (.tuple #[.agg (ea X),.int .i64 fe])/\B0 B5 V B5 w') (λe w' y=>by rw[hX,bT];exact y))
 rw[<-bX]at HC
 clear hX bT bX bY h hs hv hm hl cJ
 by_cases h0:ck=0
 ·subst h0
  rw[if_pos rfl]at Z
  by_cases aR:Y=1\/Y=2
  ·rw[if_pos aR]at Z
   have cK:=C6x aR
   by_cases h1:fe=11
   ·subst h1
    rw[if_pos rfl]at Z
    have aC:=C6x Z.out
    have hi:=aZ.out rfl
    have bZ:Sw (⟨E.H,0⟩:CS).H E.M:=HS.out
    have bG:=C6x (λW c m (k:Cs W E c m ⟨E.H,0⟩)=>C4H k bZ Y cK.out)
    have cA:=C3z bZ cK.out
    have bI:=C6x (λW c m (k:Cs W E c m ((⟨E.H,0⟩:CS).add Y))=>B4U k cA i g hi ⟨s,(addF E.H).1,(addF E.H).2,Y⟩ bC.out)
    have cX:=B1X cA i g ⟨s,(addF E.H).1,(addF E.H).2,Y⟩
    have bS:=C6x (λW c m (k:Cs W E c m (((⟨E.H,0⟩:CS).add Y).enter E.M i g ⟨s,(addF E.H).1,(addF E.H).2,Y⟩))=>A4w k cX i g hi)
    rw[show(((⟨E.H,0⟩:CS).add Y).enter E.M i g ⟨s,(addF E.H).1,(addF E.H).2,Y⟩).touch i g=A8m E i g s Y from rfl]at bS
    have bU:=C6x (λW c m (k:Cs W E c m (A8m E i g s Y))=>A8Y k HS.out.sd.row (HL.out aC.out))
    have aL:=C6x (show B7c E i g s Y=if(P8 E (A8m E i g s Y)).2=0 then addF E.H else(0,0)from rfl)
    obtain⟨S3,cW⟩:∃S3,S3=A8m E i g s Y:=⟨_,rfl⟩
    rw[<-cW]at bS bU aL⊢
    obtain⟨S2,cV⟩:∃S2,S2=((⟨E.H,0⟩:CS).add Y).enter E.M i g ⟨s,(addF E.H).1,(addF E.H).2,Y⟩:=⟨_,rfl⟩
    rw[<-cV]at bS bI
    obtain⟨S1,cU⟩:∃S1,S1=(⟨E.H,0⟩:CS).add Y:=⟨_,rfl⟩
    rw[<-cU]at bI bG
    obtain⟨cf,aG⟩:∃cf,cf=B7c E i g s Y:=⟨_,rfl⟩
    rw[<-aG]at aL⊢
    obtain⟨f,hf⟩:∃f,f=addF E.H:=⟨_,rfl⟩
    have bG:=C6x (λW c m (k:Cs W E c m ⟨E.H,0⟩)=>show Calls Tryz.prog 91 #[.pointer (some ⟨c,0,none⟩),.int .i64 Y] W λr w'=>r= .returned (.agg #[.int .i64 f.1,.int .i64 f.2])/\Cs w' E c m S1/\B0 (CF c m) W (CF c m) w' by rw[hf];exact bG.out W c m k)
    rw[<-hf]at aL bI
    obtain⟨R,hR⟩:∃R,R=P8 E S3:=⟨_,rfl⟩
    rw[<-hR]at bU aL⊢
    obtain⟨rr,er⟩:=R
    obtain⟨f1,f2⟩:=f
    simp only at aL bI bG⊢
    obtain⟨o,ho⟩:∃o,o=E.o:=⟨_,rfl⟩
    rw[<-ho]at HM bB HF⊢
    clear cU cV cW bZ cA cX hR ho hi aG hf HL aZ Z HS bC
    rcases aR with rfl|rfl
    all_goals by_cases he:er=0
    all_goals first
     |(subst he;have aG:=aL.out;rw[if_pos rfl]at aG;have cH:=C6x aG;clear aL aG)
     |(have J:(er !=0)=true:=(by rw[bne_iff_ne];exact he);have aG:=aL.out;rw[if_neg he]at aG;have cH:=C6x aG;clear aL aG he)
    all_goals
     go_enter Tryz.func36,Tryz.ntmps36
     go_wp2_with (first
      |(refine C5 (t:=35) rfl _ rfl rfl ?_;intro z0 w0 U J I;have aI:=C6x J;have aA:=C6x I;have bO:=C6x U;clear U J I)
      |(refine B9 rfl rfl P1 ?_;intro zr w1 U J I;have aE:=C6x (Nat.le_trans aA.out.size U);have aM:=C6x J;have aB:=C6x (aA.out.trans I);have aJ:=C6x (aI.out.over I);clear U J I)
      |(go_at_call 73;refine(HM.out _ aB.out).mono ?_;rintro e w2 ⟨rfl,rfl⟩)
      |(refine U6 rfl _ rfl s rfl ?_;intro z3 w3 U J I;have aQ:=C6x J;have aH:=C6x (aB.out.trans I);have aK:=C6x (aJ.out.over I);have aN:=C6x (aM.out.over I);clear U J I)
      |(go_at_call 79;refine(HC.out _ _ aQ.out).mono ?_;rintro e w4 ⟨rfl,I⟩;have aD:=C6x (aH.out.trans I);have aF:=C6x (aK.out.over I);have aO:=C6x (aN.out.over I);clear I)
      |(refine B6 (t:=35) rfl _ rfl z0 aF.out rfl Tryz.underlying35 rfl B1 rfl ?_)
      |(go_at_call 80;refine(HF.out _ aD.out).mono ?_;rintro e w5 ⟨rfl,I⟩;have aT:=C6x (aD.out.trans I);have aV:=C6x (aF.out.over I);have aX:=C6x (aO.out.over I);clear I)
      |(refine B9 rfl rfl E7 ?_;intro z8 w6 U J I;have bP:=C6x (Nat.le_trans aT.out.size U);have bM:=C6x J;have bF:=C6x (aT.out.trans I);have bH:=C6x (aV.out.over I);have bK:=C6x (aX.out.over I);have aW:=C6x (show z0≠z8/\zr≠z8 from⟨λe=>by have:=aV.out.lt;omega,λe=>by have:=aX.out.lt;omega⟩);clear U J I)
      |(refine B7 rfl _ _ rfl z8 bM.out rfl rfl C8 (D1 _) (D1 _) (R4 _) ?_;intro w7 J I;have aU:=C6x (bF.out.fresh bP.out I);have bR:=C6x (bH.out.far1 I aW.out.1);have bD:=C6x (bK.out.far1 I aW.out.2);clear J I)
      |(go_at_call 44;refine(bB.out _ aU.out).mono ?_;rintro e w9 ⟨c,m,rfl,hc,h1,h2,I⟩;have dJ:=C6x (show Cs _ E c m ⟨E.H,0⟩from hc);have cT:=C6x (And.intro (Nat.le_trans aU.out.size h1) (Nat.le_trans aU.out.size h2));have cF:=C6x (bR.out.over I);have cQ:=C6x (bD.out.over I);have bA:=C6x (show(¬EF E c m z0)/\¬EF E c m zr from⟨nef h1 h2 bR.out.lt (HG.out z0 bO.out),nef h1 h2 bD.out.lt (HG.out zr aE.out)⟩);have dC:=C6x (aU.out.trans I);clear hc h1 h2 I)
      |(go_at_call 91;refine(bG.out _ c m dJ.out).mono ?_;rintro e dW ⟨rfl,hc,I⟩;have cG:=C6x hc;have cC:=C6x ((dC.out.same (G:=CF c m) (λ_ y=>y.elim)).trans I);have cD:=C6x (cF.out.keep (I.block z0 cF.out.lt (λy=>bA.out.1 (.inr (.inr y)))));have cM:=C6x (cQ.out.keep (I.block zr cQ.out.lt (λy=>bA.out.2 (.inr (.inr y)))));clear hc I)
      |(refine B9 rfl rfl P1 ?_;intro aS dX U J I;have dN:=C6x J;have dE:=C6x (cG.out.step I);have bJ:=C6x (show¬EF E c m aS/\aS≠E.o from C5y cG.out U);have dQ:=C6x (Nat.le_trans cC.out.size U);have cL:=C6x (show z0≠aS/\zr≠aS from⟨λe=>by have:=cD.out.lt;omega,λe=>by have:=cM.out.lt;omega⟩);have cY:=C6x (cC.out.over I);have dD:=C6x (cD.out.over I);have dL:=C6x (cM.out.over I);clear U J I)
      |(refine B7 rfl _ _ rfl aS dN.out rfl rfl B1 rfl rfl (X7 _ _) ?_;intro dY J I;have bV:=C6x J;have dF:=C6x (Cg.aside dE.out bJ.out.1 bJ.out.2 I);have cZ:=C6x (cY.out.freshG dQ.out I);have bQ:=C6x (dD.out.far1 I cL.out.1);have cN:=C6x (dL.out.far1 I cL.out.2);clear J I)
      |(refine B6 (t:=35) rfl _ rfl z0 bQ.out rfl Tryz.underlying35 rfl B1 rfl ?_)
      |(refine B6 (t:=35) rfl _ rfl aS bV.out rfl Tryz.underlying35 rfl B1 rfl ?_)
      |(refine A0z rfl _ _ _ rfl s f1 f2 1 rfl rfl rfl ?_)
      |(refine A0z rfl _ _ _ rfl s f1 f2 2 rfl rfl rfl ?_)
      |(go_at_call 92;refine(bI.out _ c m dF.out).mono ?_;rintro e dZ ⟨rfl,hc,I⟩;have dG:=C6x hc;have dA:=C6x (cZ.out.trans I);have cE:=C6x (bQ.out.keep (I.block z0 bQ.out.lt (λy=>bA.out.1 (.inr (.inr y)))));have cO:=C6x (cN.out.keep (I.block zr cN.out.lt (λy=>bA.out.2 (.inr (.inr y)))));have cR:=C6x (bV.out.keep (I.block aS bV.out.lt (λy=>bJ.out.1 (.inr (.inr y)))));clear hc I bQ)
      |(refine B6 (t:=35) rfl _ rfl z0 cE.out rfl Tryz.underlying35 rfl B1 rfl ?_)
      |(go_at_call 84;refine(bS.out _ c m dG.out).mono ?_;rintro e eA ⟨rfl,hc,I⟩;have dH:=C6x hc;have dB:=C6x (dA.out.trans I);have cP:=C6x (cO.out.keep (I.block zr cO.out.lt (λy=>bA.out.2 (.inr (.inr y)))));have dO:=C6x (cR.out.keep (I.block aS cR.out.lt (λy=>bJ.out.1 (.inr (.inr y)))));clear hc I cE)
      |(go_at_call 46;refine(bU.out _ c m dH.out).mono ?_;rintro e eB he;obtain⟨rfl,_⟩:=id he;have HE:=C6x he;have dM:=C6x (he.blk cP.out bA.out.2);have dP:=C6x (he.blk dO.out bJ.out.1);clear he)
      |(refine B6 (t:=35) rfl _ rfl aS dP.out rfl Tryz.underlying35 rfl B1 rfl ?_)
      |(refine U4 rfl rfl ?_)
      |(refine B7 rfl _ _ rfl zr dM.out rfl rfl B1 rfl rfl (X7 _ _) ?_;intro eC J I;have aP:=C6x J;have HO:=C6x (HE.out.opz dB.out cT.out.1 cT.out.2 aE.out cP.out.lt bA.out.2 (dK.out zr aE.out) I);clear J I)
      |fail)
     exact bodyPost_ret (V4 rfl _ _ rfl rfl aP.out Tryz.underlying35 rfl (by rw[B1];rfl)) rfl (.inr ⟨aC.out,(by rw[cH.out]<;>rfl),HO.out⟩)
   ·rw[if_neg h1]at Z
    have dR:(fe !=11)=true:=by rw[bne_iff_ne];exact h1
    obtain⟨o,ho⟩:∃o,o=E.o:=⟨_,rfl⟩
    rw[<-ho]at HM HF⊢
    by_cases h2:fe=0
    ·subst h2
     rw[if_pos rfl]at Z
     have aC:=C6x Z.out
     clear h1 dR HL aZ Z HS bC bB ho
     rcases aR with rfl|rfl
     all_goals
      go_enter Tryz.func36,Tryz.ntmps36
      go_wp2_with (first
       |(refine C5 (t:=35) rfl _ rfl rfl ?_;intro z0 w0 U J I;have aI:=C6x J;have aA:=C6x I;have bO:=C6x U;clear U J I)
       |(refine B9 rfl rfl P1 ?_;intro zr w1 U J I;have aE:=C6x (Nat.le_trans aA.out.size U);have aM:=C6x J;have aB:=C6x (aA.out.trans I);have aJ:=C6x (aI.out.over I);clear U J I)
       |(go_at_call 73;refine(HM.out _ aB.out).mono ?_;rintro e w2 ⟨rfl,rfl⟩)
       |(refine U6 rfl _ rfl s rfl ?_;intro z3 w3 U J I;have aQ:=C6x J;have aH:=C6x (aB.out.trans I);have aK:=C6x (aJ.out.over I);have aN:=C6x (aM.out.over I);clear U J I)
       |(go_at_call 79;refine(HC.out _ _ aQ.out).mono ?_;rintro e w4 ⟨rfl,I⟩;have aD:=C6x (aH.out.trans I);have aF:=C6x (aK.out.over I);have aO:=C6x (aN.out.over I);clear I)
       |(refine B6 (t:=35) rfl _ rfl z0 aF.out rfl Tryz.underlying35 rfl B1 rfl ?_)
       |(go_at_call 80;refine(HF.out _ aD.out).mono ?_;rintro e w5 ⟨rfl,I⟩;have aT:=C6x (aD.out.trans I);have aV:=C6x (aF.out.over I);have aX:=C6x (aO.out.over I);clear I)
       |(refine B9 rfl rfl E7 ?_;intro z8 w6 U J I;have bP:=C6x (Nat.le_trans aT.out.size U);have bM:=C6x J;have bF:=C6x (aT.out.trans I);have bH:=C6x (aV.out.over I);have bK:=C6x (aX.out.over I);have aW:=C6x (show z0≠z8/\zr≠z8 from⟨λe=>by have:=aV.out.lt;omega,λe=>by have:=aX.out.lt;omega⟩);clear U J I)
       |(refine B7 rfl _ _ rfl z8 bM.out rfl rfl C8 (D1 _) (D1 _) (R4 _) ?_;intro w7 J I;have aU:=C6x (bF.out.fresh bP.out I);have bR:=C6x (bH.out.far1 I aW.out.1);have bD:=C6x (bK.out.far1 I aW.out.2);clear J I)
       |(refine U4 rfl rfl ?_)
       |(refine B7 rfl _ _ rfl zr bD.out rfl rfl B1 rfl rfl (X7 _ _) ?_;intro cB J I;have aP:=C6x J;have aY:=C6x (aU.out.fresh aE.out I);clear J I)
       |fail)
      exact bodyPost_ret (V4 rfl _ _ rfl rfl aP.out Tryz.underlying35 rfl (by rw[B1];rfl)) rfl (.inl ⟨(by rw[aC.out];decide),(by rw[aC.out]<;>rfl),aY.out⟩)
    ·rw[if_neg h2]at Z
     have aC:=C6x Z.out
     have dS:(fe==0)=false:=by rw[beq_eq_false_iff_ne];exact h2
     have HN:=C6x h2
     clear h1 h2 HL aZ Z HS bC bB ho
     rcases aR with rfl|rfl
     all_goals
      go_enter Tryz.func36,Tryz.ntmps36
      go_wp2_with (first
       |(refine C5 (t:=35) rfl _ rfl rfl ?_;intro z0 w0 U J I;have aI:=C6x J;have aA:=C6x I;have bO:=C6x U;clear U J I)
       |(refine B9 rfl rfl P1 ?_;intro zr w1 U J I;have aE:=C6x (Nat.le_trans aA.out.size U);have aM:=C6x J;have aB:=C6x (aA.out.trans I);have aJ:=C6x (aI.out.over I);clear U J I)
       |(go_at_call 73;refine(HM.out _ aB.out).mono ?_;rintro e w2 ⟨rfl,rfl⟩)
       |(refine U6 rfl _ rfl s rfl ?_;intro z3 w3 U J I;have aQ:=C6x J;have aH:=C6x (aB.out.trans I);have aK:=C6x (aJ.out.over I);have aN:=C6x (aM.out.over I);clear U J I)
       |(go_at_call 79;refine(HC.out _ _ aQ.out).mono ?_;rintro e w4 ⟨rfl,I⟩;have aD:=C6x (aH.out.trans I);have aF:=C6x (aK.out.over I);have aO:=C6x (aN.out.over I);clear I)
       |(refine B6 (t:=35) rfl _ rfl z0 aF.out rfl Tryz.underlying35 rfl B1 rfl ?_)
       |(go_at_call 80;refine(HF.out _ aD.out).mono ?_;rintro e w5 ⟨rfl,I⟩;have aT:=C6x (aD.out.trans I);have aV:=C6x (aF.out.over I);have aX:=C6x (aO.out.over I);clear I)
       |(refine B9 rfl rfl E7 ?_;intro z8 w6 U J I;have bP:=C6x (Nat.le_trans aT.out.size U);have bM:=C6x J;have bF:=C6x (aT.out.trans I);have bH:=C6x (aV.out.over I);have bK:=C6x (aX.out.over I);have aW:=C6x (show z0≠z8/\zr≠z8 from⟨λe=>by have:=aV.out.lt;omega,λe=>by have:=aX.out.lt;omega⟩);clear U J I)
       |(refine B7 rfl _ _ rfl z8 bM.out rfl rfl C8 (D1 _) (D1 _) (R4 _) ?_;intro w7 J I;have aU:=C6x (bF.out.fresh bP.out I);have bR:=C6x (bH.out.far1 I aW.out.1);have bD:=C6x (bK.out.far1 I aW.out.2);clear J I)
       |(refine U4 rfl rfl ?_)
       |(refine B7 rfl _ _ rfl zr bD.out rfl rfl B1 rfl rfl (X7 _ _) ?_;intro cB J I;have aP:=C6x J;have aY:=C6x (aU.out.fresh aE.out I);clear J I)
       |fail)
      exact bodyPost_ret (V4 rfl _ _ rfl rfl aP.out Tryz.underlying35 rfl (by rw[B1];rfl)) rfl (.inl ⟨(by rw[aC.out];exact HN.out),(by rw[aC.out]<;>rfl),aY.out⟩)
  ·rw[if_neg aR]at Z
   have aC:=C6x Z.out
   have dU:(Y !=1)=true:=by rw[bne_iff_ne];exactλy=>aR (.inl y)
   have dV:(Y !=2)=true:=by rw[bne_iff_ne];exactλy=>aR (.inr y)
   obtain⟨o,ho⟩:∃o,o=E.o:=⟨_,rfl⟩
   rw[<-ho]at HM⊢
   clear aR HL aZ Z HS bC bB HF ho
   go_enter Tryz.func36,Tryz.ntmps36
   go_wp2_with (first
    |(refine C5 (t:=35) rfl _ rfl rfl ?_;intro z0 w0 U J I;have aI:=C6x J;have aA:=C6x I;have bO:=C6x U;clear U J I)
    |(refine B9 rfl rfl P1 ?_;intro zr w1 U J I;have aE:=C6x (Nat.le_trans aA.out.size U);have aM:=C6x J;have aB:=C6x (aA.out.trans I);have aJ:=C6x (aI.out.over I);clear U J I)
    |(go_at_call 73;refine(HM.out _ aB.out).mono ?_;rintro e w2 ⟨rfl,rfl⟩)
    |(refine U6 rfl _ rfl s rfl ?_;intro z3 w3 U J I;have aQ:=C6x J;have aH:=C6x (aB.out.trans I);have aK:=C6x (aJ.out.over I);have aN:=C6x (aM.out.over I);clear U J I)
    |(go_at_call 79;refine(HC.out _ _ aQ.out).mono ?_;rintro e w4 ⟨rfl,I⟩;have aD:=C6x (aH.out.trans I);have aF:=C6x (aK.out.over I);have aO:=C6x (aN.out.over I);clear I)
    |(refine U4 rfl rfl ?_)
    |(refine B7 rfl _ _ rfl zr aO.out rfl rfl B1 rfl rfl (X7 _ _) ?_;intro cB J I;have aP:=C6x J;have aY:=C6x (aD.out.fresh aE.out I);clear J I)
    |fail)
   exact bodyPost_ret (V4 rfl _ _ rfl rfl aP.out Tryz.underlying35 rfl (by rw[B1];rfl)) rfl (.inl ⟨(by rw[aC.out];decide),(by rw[aC.out]<;>rfl),aY.out⟩)
 ·rw[if_neg h0]at Z
  have aC:=C6x Z.out
  have J:(ck !=0)=true:=by rw[bne_iff_ne];exact h0
  have HN:=C6x h0
  obtain⟨o,ho⟩:∃o,o=E.o:=⟨_,rfl⟩
  rw[<-ho]at HM⊢
  clear h0 HL aZ Z HS bC bB HF ho
  go_enter Tryz.func36,Tryz.ntmps36
  go_wp2_with (first
   |(refine C5 (t:=35) rfl _ rfl rfl ?_;intro z0 w0 U J I;have aI:=C6x J;have aA:=C6x I;have bO:=C6x U;clear U J I)
   |(refine B9 rfl rfl P1 ?_;intro zr w1 U J I;have aE:=C6x (Nat.le_trans aA.out.size U);have aM:=C6x J;have aB:=C6x (aA.out.trans I);have aJ:=C6x (aI.out.over I);clear U J I)
   |(go_at_call 73;refine(HM.out _ aB.out).mono ?_;rintro e w2 ⟨rfl,rfl⟩)
   |(refine U6 rfl _ rfl s rfl ?_;intro z3 w3 U J I;have aQ:=C6x J;have aH:=C6x (aB.out.trans I);have aK:=C6x (aJ.out.over I);have aN:=C6x (aM.out.over I);clear U J I)
   |(go_at_call 79;refine(HC.out _ _ aQ.out).mono ?_;rintro e w4 ⟨rfl,I⟩;have aD:=C6x (aH.out.trans I);have aF:=C6x (aK.out.over I);have aO:=C6x (aN.out.over I);clear I)
   |(refine U4 rfl rfl ?_)
   |(refine B7 rfl _ _ rfl zr aO.out rfl rfl B1 rfl rfl (X7 _ _) ?_;intro cB J I;have aP:=C6x J;have aY:=C6x (aD.out.fresh aE.out I);clear J I)
   |fail)
  exact bodyPost_ret (V4 rfl _ _ rfl rfl aP.out Tryz.underlying35 rfl (by rw[B1];rfl)) rfl (.inl ⟨(by rw[aC.out];exact HN.out),(by rw[aC.out]<;>rfl),aY.out⟩)
end
end
section
open Go.RowKit
theorem Z2:(Tryz.prog.info? 70).map (·.size)=some 3:=by kernel_rfl
theorem A23:(Tryz.prog.info? 70).map (λi=>(i.zero,i.size,i.bytes))=some (some (.agg #[.int .i64 0,.int .u64 0,.int .i64 0]),3,24):=by kernel_rfl
def atA(k:Int)(v:Nat)(n:Int):Array Value:= #[.int .i64 k,.int .u64 (v:Int),.int .i64 n]
theorem A76(k v n:Int):(#[Value.int .i64 k,.int .u64 v,.int .i64 n]).all (·.oneCell')=true:=by
 rw[Array.all_eq_true_iff_forall_mem]
 intro u I
 simp at I
 rcases I with rfl|rfl|rfl<;>rfl
theorem B2m:Tryz.prog.built 70 []=some #[.int .i64 0,.int .u64 0,.int .i64 0]:=by kernel_rfl
theorem B2n(k v n:Int):Tryz.prog.built 70 [(0,.int .i64 k),(1,.int .u64 v),(2,.int .i64 n)]=some #[.int .i64 k,.int .u64 v,.int .i64 n]:=by kernel_rfl
section
variable {ops:Array Oper} {rest:List Oper} {o:Oper} {a:Act} {w:World} {Q:Exit->Act->World->Prop}
theorem A41(I:o.guard=none)(J:o.op= .build 70 #[])
 (h:wpList Tryz.prog ops Q rest (a.put o.dst (.agg #[.int .i64 0,.int .u64 0,.int .i64 0])) w):wpList Tryz.prog ops Q (o::rest) a w:=by
 refine wpList_build I 70 #[] J (by simp[B2m]) ?_
 simpa[B2m]using h
theorem A42(I:o.guard=none)(x y z:Operand)(J:o.op= .build 70 #[(0,x),(1,y),(2,z)])(k:Int)(v:Nat)(n:Int)(U:a.eval x= .int .i64 k)(V:a.eval y= .int .u64 (v:Int))(W:a.eval z= .int .i64 n)
 (h:wpList Tryz.prog ops Q rest (a.put o.dst (.agg #[.int .i64 k,.int .u64 (v:Int),.int .i64 n])) w):wpList Tryz.prog ops Q (o::rest) a w:=by
 have e:((#[(0,x),(1,y),(2,z)]:Array (Nat×Operand)).map λ(i,x)=>(i,a.eval x)).toList=[(0,.int .i64 k),(1,.int .u64 (v:Int)),(2,.int .i64 n)]:=by simp[U,V,W]
 refine wpList_build I 70 _ J (by rw[e,B2n k v n];rfl) ?_
 rw[e,B2n k v n]
 exact h
end
noncomputable def B7d(H:Nat->List Nat)(i g:Int):Int:=if fileE H i g=0 then(if(fileX H i g).k=1 then J3 H i g else 0)else fileE H i g
noncomputable def C1C(H:Nat->List Nat)(i g:Int):Array Value:=
 if B7d H i g=0 then atA (fileX H i g).k (fileX H i g).v (if(fileX H i g).k=1 then((L4 H i g).length:Int)else((nzI (fileX H i g) 8).length:Int))else atA 0 0 0
section
variable {p M:Nat} {H:Nat->List Nat} {w:World}
theorem C30(h:Rdv w p M H)(hs:Sd H M)(i g:Int):Calls Tryz.prog 28 #[.pointer (some ⟨p,0,none⟩),.agg #[.int .i64 i,.int .i64 g]] w λe w'=>e= .returned (.tuple #[.agg (C1C H i g),.int .i64 (B7d H i g)])/\B0 B5 w B5 w':=by
 have HM:=C6x (λV (a:B0 B5 w B5 V)=>A0Y (h.step a))
 have HF:=C6x (λV (a:B0 B5 w B5 V)=>A7m (h.step a) hs i g)
 have HE:=C6x (λV (a:B0 B5 w B5 V)=>A0b (h.step a) hs i g)
 have HU:=C6x (λV=>B81 (fileX H i g) V)
 have hA:C1C H i g=if B7d H i g=0 then atA (fileX H i g).k (fileX H i g).v (if(fileX H i g).k=1 then((L4 H i g).length:Int)else((nzI (fileX H i g) 8).length:Int))else atA 0 0 0:=rfl
 have hE:B7d H i g=if fileE H i g=0 then(if(fileX H i g).k=1 then J3 H i g else 0)else fileE H i g:=rfl
 unfold A8f at HF
 unfold EsR at HE
 rw[hA,hE]
 obtain⟨X,hX⟩:∃X,X=fileX H i g:=⟨_,rfl⟩
 obtain⟨fe,bD⟩:∃fe,fe=fileE H i g:=⟨_,rfl⟩
 obtain⟨ee,bC⟩:∃ee,ee=J3 H i g:=⟨_,rfl⟩
 obtain⟨L,hL⟩:∃L,L=L4 H i g:=⟨_,rfl⟩
 rw[<-hX]at HF HU⊢
 rw[<-bD]at HF⊢
 rw[<-bC,<-hL]at HE⊢
 obtain⟨n,hn⟩:∃n,n=L.length:=⟨_,rfl⟩
 obtain⟨nz,bF⟩:∃nz,nz=(nzI X 8).length:=⟨_,rfl⟩
 rw[<-hn]at HE⊢
 rw[<-bF]at HU⊢
 clear hA hE hX bD bC hL hn bF h hs
 by_cases h0:fe=0
 ·subst h0
  rw[if_pos rfl]
  by_cases h1:X.k=1
  ·rw[if_pos h1,if_pos h1]
   have bG:(X.k==1)=true:=by rw[h1];rfl
   clear h1
   by_cases h2:ee=0
   ·subst h2
    rw[if_pos rfl]
    go_enter Tryz.func28,Tryz.ntmps28
    go_wp2_with (first
     |(refine C5 (t:=35) rfl _ rfl rfl ?_;intro Z w0 U J I;have aM:=C6x J;have aA:=C6x I;clear U J I)
     |(refine B9 rfl rfl A23 ?_;intro zr w1 U J I;have aU:=C6x (Nat.le_trans aA.out.size U);have aO:=C6x J;have Y:=C6x (aA.out.trans I);have aC:=C6x (aM.out.over I);clear U J I)
     |(go_at_call 73;refine(HM.out _ Y.out).mono ?_;rintro e w2 ⟨rfl,rfl⟩)
     |(refine B6 (t:=35) rfl _ rfl Z aC.out rfl Tryz.underlying35 rfl B1 rfl ?_)
     |(go_at_call 75;refine(HF.out _ Y.out).mono ?_;rintro e w3 ⟨rfl,I⟩;have aB:=C6x (Y.out.trans I);have aD:=C6x (aC.out.over I);have aF:=C6x (aO.out.over I);clear I)
     |(refine B9 rfl rfl C6 ?_;intro W w5 U J I;have aS:=C6x J;have aI:=C6x (aB.out.trans I);have aT:=C6x (Nat.le_trans aB.out.size U);have aN:=C6x (aD.out.over I);have aP:=C6x (aF.out.over I);have aE:=C6x (show Z≠W/\zr≠W from⟨λe=>by have:=aD.out.lt;omega,λe=>by have:=aF.out.lt;omega⟩);clear U J I)
     |(refine B7 rfl _ _ rfl W aS.out rfl rfl C0 (C2 _) (C2 _) (D5 _) ?_;intro w6 J I;have aH:=C6x J;have aJ:=C6x (aI.out.fresh aT.out I);have aV:=C6x (aN.out.far1 I aE.out.1);have aQ:=C6x (aP.out.far1 I aE.out.2);clear J I)
     |(refine B6 (t:=62) rfl _ rfl W aH.out rfl Tryz.underlying62 rfl C0 (C2 _) ?_)
     |(go_at_call 76;refine(HU.out _).mono ?_;rintro e w7 ⟨rfl,I⟩;have aG:=C6x (aH.out.over I);have aK:=C6x (aJ.out.trans I);have aY:=C6x (aV.out.over I);have aW:=C6x (aQ.out.over I);have d0:w7.cell? ⟨W,0,none⟩=some (.int .i64 X.k):=aG.out.cell 0;have d2:w7.cell? ⟨W,2,none⟩=some (.int .u64 (X.v:Int)):=aG.out.cell 2;clear I)
     |(refine B6 (t:=35) rfl _ rfl Z aY.out rfl Tryz.underlying35 rfl B1 rfl ?_)
     |(go_at_call 74;refine(HE.out _ aK.out).mono ?_;rintro e w8 ⟨A2,c2,rfl,_,I⟩;have aX:=C6x (aG.out.over I);have aZ:=C6x (aK.out.trans I);have bA:=C6x (aW.out.over I);have d0:w8.cell? ⟨W,0,none⟩=some (.int .i64 X.k):=aX.out.cell 0;have d2:w8.cell? ⟨W,2,none⟩=some (.int .u64 (X.v:Int)):=aX.out.cell 2;clear I)
     |(refine A42 rfl _ _ _ rfl X.k X.v (n:Int) rfl rfl rfl ?_)
     |(refine B7 rfl _ _ rfl zr bA.out rfl rfl Z2 rfl rfl (A76 _ _ _) ?_;intro bB J I;have aR:=C6x J;have aL:=C6x (aZ.out.fresh aU.out I);clear J I)
     |fail)
    exact bodyPost_ret (V4 rfl _ _ rfl rfl aR.out Tryz.underlying70 rfl (by rw[Z2];rfl)) rfl ⟨rfl,aL.out⟩
   ·rw[if_neg h2]
    have J:(ee !=0)=true:=by rw[bne_iff_ne];exact h2
    clear h2
    go_enter Tryz.func28,Tryz.ntmps28
    go_wp2_with (first
     |(refine C5 (t:=35) rfl _ rfl rfl ?_;intro Z w0 U J I;have aM:=C6x J;have aA:=C6x I;clear U J I)
     |(refine B9 rfl rfl A23 ?_;intro zr w1 U J I;have aU:=C6x (Nat.le_trans aA.out.size U);have aO:=C6x J;have Y:=C6x (aA.out.trans I);have aC:=C6x (aM.out.over I);clear U J I)
     |(go_at_call 73;refine(HM.out _ Y.out).mono ?_;rintro e w2 ⟨rfl,rfl⟩)
     |(refine B6 (t:=35) rfl _ rfl Z aC.out rfl Tryz.underlying35 rfl B1 rfl ?_)
     |(go_at_call 75;refine(HF.out _ Y.out).mono ?_;rintro e w3 ⟨rfl,I⟩;have aB:=C6x (Y.out.trans I);have aD:=C6x (aC.out.over I);have aF:=C6x (aO.out.over I);clear I)
     |(refine B9 rfl rfl C6 ?_;intro W w5 U J I;have aS:=C6x J;have aI:=C6x (aB.out.trans I);have aT:=C6x (Nat.le_trans aB.out.size U);have aN:=C6x (aD.out.over I);have aP:=C6x (aF.out.over I);have aE:=C6x (show Z≠W/\zr≠W from⟨λe=>by have:=aD.out.lt;omega,λe=>by have:=aF.out.lt;omega⟩);clear U J I)
     |(refine B7 rfl _ _ rfl W aS.out rfl rfl C0 (C2 _) (C2 _) (D5 _) ?_;intro w6 J I;have aH:=C6x J;have aJ:=C6x (aI.out.fresh aT.out I);have aV:=C6x (aN.out.far1 I aE.out.1);have aQ:=C6x (aP.out.far1 I aE.out.2);clear J I)
     |(refine B6 (t:=62) rfl _ rfl W aH.out rfl Tryz.underlying62 rfl C0 (C2 _) ?_)
     |(go_at_call 76;refine(HU.out _).mono ?_;rintro e w7 ⟨rfl,I⟩;have aG:=C6x (aH.out.over I);have aK:=C6x (aJ.out.trans I);have aY:=C6x (aV.out.over I);have aW:=C6x (aQ.out.over I);have d0:w7.cell? ⟨W,0,none⟩=some (.int .i64 X.k):=aG.out.cell 0;have d2:w7.cell? ⟨W,2,none⟩=some (.int .u64 (X.v:Int)):=aG.out.cell 2;clear I)
     |(refine B6 (t:=35) rfl _ rfl Z aY.out rfl Tryz.underlying35 rfl B1 rfl ?_)
     |(go_at_call 74;refine(HE.out _ aK.out).mono ?_;rintro e w8 ⟨A2,c2,rfl,_,I⟩;have aX:=C6x (aG.out.over I);have aZ:=C6x (aK.out.trans I);have bA:=C6x (aW.out.over I);have d0:w8.cell? ⟨W,0,none⟩=some (.int .i64 X.k):=aX.out.cell 0;have d2:w8.cell? ⟨W,2,none⟩=some (.int .u64 (X.v:Int)):=aX.out.cell 2;clear I)
     |(refine A41 rfl rfl ?_)
     |(refine B7 rfl _ _ rfl zr bA.out rfl rfl Z2 rfl rfl (A76 _ _ _) ?_;intro bB J I;have aR:=C6x J;have aL:=C6x (aZ.out.fresh aU.out I);clear J I)
     |fail)
    exact bodyPost_ret (V4 rfl _ _ rfl rfl aR.out Tryz.underlying70 rfl (by rw[Z2];rfl)) rfl ⟨rfl,aL.out⟩
  ·rw[if_neg h1,if_neg h1,if_pos rfl]
   have bG:(X.k==1)=false:=by rw[beq_eq_false_iff_ne];exact h1
   clear h1 HE
   go_enter Tryz.func28,Tryz.ntmps28
   go_wp2_with (first
    |(refine C5 (t:=35) rfl _ rfl rfl ?_;intro Z w0 U J I;have aM:=C6x J;have aA:=C6x I;clear U J I)
    |(refine B9 rfl rfl A23 ?_;intro zr w1 U J I;have aU:=C6x (Nat.le_trans aA.out.size U);have aO:=C6x J;have Y:=C6x (aA.out.trans I);have aC:=C6x (aM.out.over I);clear U J I)
    |(go_at_call 73;refine(HM.out _ Y.out).mono ?_;rintro e w2 ⟨rfl,rfl⟩)
    |(refine B6 (t:=35) rfl _ rfl Z aC.out rfl Tryz.underlying35 rfl B1 rfl ?_)
    |(go_at_call 75;refine(HF.out _ Y.out).mono ?_;rintro e w3 ⟨rfl,I⟩;have aB:=C6x (Y.out.trans I);have aD:=C6x (aC.out.over I);have aF:=C6x (aO.out.over I);clear I)
    |(refine B9 rfl rfl C6 ?_;intro W w5 U J I;have aS:=C6x J;have aI:=C6x (aB.out.trans I);have aT:=C6x (Nat.le_trans aB.out.size U);have aN:=C6x (aD.out.over I);have aP:=C6x (aF.out.over I);have aE:=C6x (show Z≠W/\zr≠W from⟨λe=>by have:=aD.out.lt;omega,λe=>by have:=aF.out.lt;omega⟩);clear U J I)
    |(refine B7 rfl _ _ rfl W aS.out rfl rfl C0 (C2 _) (C2 _) (D5 _) ?_;intro w6 J I;have aH:=C6x J;have aJ:=C6x (aI.out.fresh aT.out I);have aV:=C6x (aN.out.far1 I aE.out.1);have aQ:=C6x (aP.out.far1 I aE.out.2);clear J I)
    |(refine B6 (t:=62) rfl _ rfl W aH.out rfl Tryz.underlying62 rfl C0 (C2 _) ?_)
    |(go_at_call 76;refine(HU.out _).mono ?_;rintro e w7 ⟨rfl,I⟩;have aG:=C6x (aH.out.over I);have aK:=C6x (aJ.out.trans I);have aY:=C6x (aV.out.over I);have aW:=C6x (aQ.out.over I);have d0:w7.cell? ⟨W,0,none⟩=some (.int .i64 X.k):=aG.out.cell 0;have d2:w7.cell? ⟨W,2,none⟩=some (.int .u64 (X.v:Int)):=aG.out.cell 2;clear I)
    |(refine A42 rfl _ _ _ rfl X.k X.v (nz:Int) rfl rfl rfl ?_)
    |(refine B7 rfl _ _ rfl zr aW.out rfl rfl Z2 rfl rfl (A76 _ _ _) ?_;intro bB J I;have aR:=C6x J;have aL:=C6x (aK.out.fresh aU.out I);clear J I)
    |fail)
   exact bodyPost_ret (V4 rfl _ _ rfl rfl aR.out Tryz.underlying70 rfl (by rw[Z2];rfl)) rfl ⟨rfl,aL.out⟩
 ·rw[if_neg h0,if_neg h0]
  have J:(fe !=0)=true:=by rw[bne_iff_ne];exact h0
  clear h0 HE HU
  go_enter Tryz.func28,Tryz.ntmps28
  go_wp2_with (first
   |(refine C5 (t:=35) rfl _ rfl rfl ?_;intro Z w0 U J I;have aM:=C6x J;have aA:=C6x I;clear U J I)
   |(refine B9 rfl rfl A23 ?_;intro zr w1 U J I;have aU:=C6x (Nat.le_trans aA.out.size U);have aO:=C6x J;have Y:=C6x (aA.out.trans I);have aC:=C6x (aM.out.over I);clear U J I)
   |(go_at_call 73;refine(HM.out _ Y.out).mono ?_;rintro e w2 ⟨rfl,rfl⟩)
   |(refine B6 (t:=35) rfl _ rfl Z aC.out rfl Tryz.underlying35 rfl B1 rfl ?_)
   |(go_at_call 75;refine(HF.out _ Y.out).mono ?_;rintro e w3 ⟨rfl,I⟩;have aB:=C6x (Y.out.trans I);have aD:=C6x (aC.out.over I);have aF:=C6x (aO.out.over I);clear I)
   |(refine B9 rfl rfl C6 ?_;intro W w5 U J I;have aS:=C6x J;have aI:=C6x (aB.out.trans I);have aT:=C6x (Nat.le_trans aB.out.size U);have aN:=C6x (aD.out.over I);have aP:=C6x (aF.out.over I);have aE:=C6x (show Z≠W/\zr≠W from⟨λe=>by have:=aD.out.lt;omega,λe=>by have:=aF.out.lt;omega⟩);clear U J I)
   |(refine B7 rfl _ _ rfl W aS.out rfl rfl C0 (C2 _) (C2 _) (D5 _) ?_;intro w6 J I;have aH:=C6x J;have aJ:=C6x (aI.out.fresh aT.out I);have aV:=C6x (aN.out.far1 I aE.out.1);have aQ:=C6x (aP.out.far1 I aE.out.2);clear J I)
   |(refine A41 rfl rfl ?_)
   |(refine B7 rfl _ _ rfl zr aQ.out rfl rfl Z2 rfl rfl (A76 _ _ _) ?_;intro bB J I;have aR:=C6x J;have aL:=C6x (aJ.out.fresh aU.out I);clear J I)
   |fail)
  exact bodyPost_ret (V4 rfl _ _ rfl rfl aR.out Tryz.underlying70 rfl (by rw[Z2];rfl)) rfl ⟨rfl,aL.out⟩
end
end
section
open Go.RowKit
structure Sx (H:Nat->List Nat) (M:Nat):Prop where
 hM:46<=M/\M<=1024
 row:∀i,i<M->(H i).length=128/\∀x∈H i,x<256
open Classical in
noncomputable def A43(H:Nat->List Nat)(M:Nat):Int:=if A1d (H 1) (M:Int)then 0 else 4
def A77(H:Nat->List Nat):Int:=match (List.range 40).find? (λj=>decide (eI (H (2+j))≠0))with|some j=>eI (H (2+j))|none=>0
noncomputable def A3u(H:Nat->List Nat)(M:Nat):Int:=if A43 H M=0 then A77 H else A43 H M
theorem B3T{H:Nat->List Nat}{j:Nat}(I:j<40)(h:eI (H (2+j))≠0)(J:∀i,i<j->eI (H (2+i))=0):A77 H=eI (H (2+j)):=by
 have:(List.range 40).find? (λj=>decide (eI (H (2+j))≠0))=some j:=by
  rw[List.find?_range_eq_some]
  exact⟨by simpa using h,by simpa using I,λi hi=>by simpa using J i hi⟩
 unfold A77
 rw[this]
theorem A78{H:Nat->List Nat}(I:∀i,i<40->eI (H (2+i))=0):A77 H=0:=by
 have:(List.range 40).find? (λj=>decide (eI (H (2+j))≠0))=none:=by
  rw[List.find?_eq_none]
  intro i hi
  have:=I i (by simpa using hi)
  simpa using this
 unfold A77
 rw[this]
section
variable {p M:Nat} {H:Nat->List Nat} {w:World}
theorem C1D(h:Rdv w p M H)(I:Sx H M):Calls Tryz.prog 99 #[.pointer (some ⟨p,0,none⟩)] w λe w'=>∃v,e= .returned (.tuple #[v,.int .i64 (A43 H M)])/\B0 B5 w B5 w':=by
 have Z:=C6x (h.home _ _ (B0.refl B5 w) 1 (by have:=I.hM;omega))
 have HV:=C6x h
 have U:=C6x (λV (v:Value) (a:In V v (H 1))=>(B1q v (H 1) (M:Int) V a).mono (R':=λe w'=>∃v,e= .returned (.tuple #[v,.int .i64 (A43 H M)])/\B0 B5 V B5 w') (λe w' y=>by
  rcases y with⟨ok,d,J,_,y3⟩|⟨no,J,y2⟩
  ·exact⟨_,by unfold A43;rw[if_pos ok];exact J,y3.none_⟩
  ·refine⟨.pointer none,?_,y2⟩
   unfold A43
   rw[if_neg no]
   rw[if_neg (by have:=I.hM;omega)]at J
   exact J))
 have Y:=C6x (show∀x∈H 1,x<256 from(I.row 1 (by have:=I.hM;omega)).2)
 obtain⟨X,hX⟩:∃X,X=H 1:=⟨_,rfl⟩
 obtain⟨er,aA⟩:∃er,er=A43 H M:=⟨_,rfl⟩
 rw[<-hX]at Z U Y
 rw[<-aA]at U⊢
 clear hX h I aA
 go_enter Tryz.func99,Tryz.ntmps99
 go_wp2_with (first
  |(go_at_call 94;refine Z.out.mono ?_;rintro e w1 ⟨z,rfl,aD,aB,hr,hl,W⟩;have HI:=C6x (RdR.in_ aB hr hl Y.out);have HA:=C6x W;obtain⟨l1,c0,hh⟩:=HV.out.homes _ _ W;have aC:=C6x hh;clear aD aB hr hl W hh)
  |(go_at_call 65;refine aC.out.mono ?_;rintro e w2 ⟨rfl,k2,rfl⟩)
  |(go_at_call 24;refine(U.out _ _ (HI.out.far ((B0.refl B5 w1).drewN k2).toBelow)).mono ?_;rintro e w3 ⟨v,rfl,h2⟩;have HF:=C6x ((HA.out.drewN k2).trans h2);clear h2)
  |fail)
 go_ret2
 exact⟨v,rfl,HF.out⟩
theorem B0q(h:Rdv w p M H)(W:Sx H M)(i:Nat)(h2:i<=40):Calls Tryz.prog 43 #[.pointer (some ⟨p,0,none⟩),.int .i64 (i:Int)] w (A8f w (C9 H i) (eI (H (1+i)))):=by
 have aB:=C6x (λV (a:B0 B5 w B5 V)=>h.home _ V a (1+i) (by have:=W.hM;omega))
 obtain⟨j,hj⟩:∃j,j=1+i:=⟨_,rfl⟩
 have hw:IntKind.i64.wrap (1+(i:Int))=(j:Int):=by rw[IntKind.wrap_i64];omega
 obtain⟨Y,Z⟩:∃Y,Y=eI (H (1+i)):=⟨_,rfl⟩
 rw[<-Z]
 obtain⟨X,U⟩:∃X,X=H (1+i):=⟨_,rfl⟩
 rw[<-U,<-hj]at aB
 have HB:=C6x (show∀x∈X,x<256 by rw[U];exact(W.row _ (by have:=W.hM;omega)).2)
 have HD:=C6x (show dI X=C9 H i/\eI X=Y by rw[Z,U];exact⟨rfl,rfl⟩)
 clear U h W h2 hj Z
 go_enter Tryz.func43,Tryz.ntmps43
 go_wp2_with (first
  |(refine B9 rfl rfl C6 ?_;intro z w0 hz J I;have HZ:=C6x hz;have aI:=C6x J;have aA:=C6x I;clear hz J I)
  |(go_at_call 94;refine(aB.out _ aA.out).mono ?_;rintro e w1 ⟨y,rfl,aJ,aK,hr,hl,I⟩;have HR:=C6x hr;have HL:=C6x hl;have aC:=C6x (aA.out.trans I);have aF:=C6x (aI.out.over I);clear aJ aK hr hl I)
  |(go_at_call 25;refine(A3D _ X w1 (by rw[HL.out];exact HR.out) HB.out).mono ?_;rintro e w2 ⟨rfl,I⟩;rw[HD.out.1,HD.out.2];have aD:=C6x (aC.out.trans I);have aG:=C6x (aF.out.over I);clear I)
  |(refine B7 rfl _ _ rfl z aG.out rfl rfl C0 (C2 _) (C2 _) (D5 _) ?_;intro w3 J I;have aH:=C6x J;have aE:=C6x (aD.out.fresh HZ.out I);clear J I)
  |fail)
 exact bodyPost_ret (V4 rfl _ _ rfl rfl aH.out Tryz.underlying62 rfl (by rw[C0];rfl)) rfl ⟨rfl,aE.out⟩
def C5z(w:World)(H:Nat->List Nat)(t16:Value)(wr:World):Prop:=∃j:Nat,t16= .int .i64 (j:Int)/\j<=40/\(∀i,i<j->eI (H (2+i))=0)/\B0 B5 w B5 wr
theorem A9a(h:Rdv w p M H)(hs:Sx H M):Calls Tryz.prog 42 #[.pointer (some ⟨p,0,none⟩)] w λe w'=>e= .returned (.int .i64 (A3u H M))/\B0 B5 w B5 w':=by
 have HT:=C6x (C1D h hs)
 have HI:=C6x (λV (a:B0 B5 w B5 V) (i:Nat) (h2:i<=40)=>B0q (h.step a) hs i h2)
 have hR:A3u H M=if A43 H M=0 then A77 H else A43 H M:=rfl
 rw[hR]
 obtain⟨te,aL⟩:∃te,te=A43 H M:=⟨_,rfl⟩
 rw[<-aL]at HT⊢
 clear hR aL h hs
 by_cases h0:te=0
 ·subst h0
  rw[if_pos rfl]
  go_enter Tryz.func42,Tryz.ntmps42
  go_wp2_with (first
   |(go_at_call 99;refine HT.out.mono ?_;rintro e w1 ⟨v,rfl,J⟩;have aB:=C6x J;clear J)
   |fail)
  go_loopw [16] (C5z w H) (λt _=>40-(intOf t).toNat)
  case atStart=>exact⟨0,rfl,by omega,λi hi=>absurd hi (by omega),aB.out⟩
  case round=>
   obtain⟨j,rfl,hj,aA,J⟩:=hrel
   have aE:=C6x aA
   have Y:=C6x J
   by_cases aK:j<40
   ·have aG:=C6x aK
    have aM:(j:Int)<40:=by omega
    obtain⟨q,hq⟩:∃q,q=1+j:=⟨_,rfl⟩
    have hw:IntKind.i64.wrap (1+(j:Int))=(q:Int):=by rw[IntKind.wrap_i64];omega
    have U:=C6x (λV (a:B0 B5 w B5 V)=>HI.out V a q (by omega))
    rw[show eI (H (1+q))=eI (H (2+j))by rw[hq];congr 2;omega]at U
    obtain⟨X,hX⟩:∃X,X=C9 H q:=⟨_,rfl⟩
    rw[<-hX]at U
    obtain⟨ie,aJ⟩:∃ie,ie=eI (H (2+j)):=⟨_,rfl⟩
    rw[<-aJ]at U
    unfold A8f at U
    have aF:=C6x aJ
    clear aA J aK hq hX hj aJ
    by_cases h1:ie=0
    ·subst h1
     go_wp2_with (first
      |(go_at_call 43;refine(U.out _ Y.out).mono ?_;rintro e w2 ⟨rfl,Z⟩;have W:=C6x (Y.out.trans Z);clear Z)
      |(refine B9 rfl rfl C6 ?_;intro z6 w3 hz I a3;have aI:=C6x (Nat.le_trans W.out.size hz);have aH:=C6x I;have aC:=C6x (W.out.trans a3);clear hz I a3)
      |(refine B7 rfl _ _ rfl z6 aH.out rfl rfl C0 (C2 _) (C2 _) (D5 _) ?_;intro w4 I a4;have aD:=C6x (aC.out.fresh aI.out a4);clear I a4)
      |fail)
     refine⟨⟨j+1,by simp,aG.out,λi hi=>?_,aD.out⟩,by have:=aG.out;simp[intOf]<;>omega⟩
     rcases Nat.lt_or_ge i j with h2|h2
     ·exact aE.out i h2
     ·obtain rfl:i=j:=by omega
      exact aF.out.symm
    ·have I:(ie !=0)=true:=by rw[bne_iff_ne];exact h1
     have HR:=C6x (B3T aG.out (by rw[<-aF.out];exact h1) aE.out)
     rw[<-aF.out]at HR
     clear h1
     go_wp2_with (first
      |(go_at_call 43;refine(U.out _ Y.out).mono ?_;rintro e w2 ⟨rfl,Z⟩;have W:=C6x (Y.out.trans Z);clear Z)
      |(refine B9 rfl rfl C6 ?_;intro z6 w3 hz I a3;have aI:=C6x (Nat.le_trans W.out.size hz);have aH:=C6x I;have aC:=C6x (W.out.trans a3);clear hz I a3)
      |(refine B7 rfl _ _ rfl z6 aH.out rfl rfl C0 (C2 _) (C2 _) (D5 _) ?_;intro w4 I a4;have aD:=C6x (aC.out.fresh aI.out a4);clear I a4)
      |fail)
     go_ret
     exact⟨(by rw[HR.out]<;>rfl),aD.out⟩
   ·obtain rfl:j=40:=by omega
    have HR:=C6x (A78 aA)
    clear aA J aK hj aE
    go_wp2
    go_ret
    exact⟨(by rw[HR.out]<;>rfl),Y.out⟩
 ·rw[if_neg h0]
  have I:(te !=0)=true:=by rw[bne_iff_ne];exact h0
  clear h0 HI
  go_enter Tryz.func42,Tryz.ntmps42
  go_wp2_with (first
   |(go_at_call 99;refine HT.out.mono ?_;rintro e w1 ⟨v,rfl,J⟩;have aB:=C6x J;clear J)
   |fail)
  go_ret
  exact⟨rfl,aB.out⟩
end
end
end Go.Proofs.YtbefmjiclpobjaaGreat
