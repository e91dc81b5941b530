import Derived.Test.YtbefmjiclpobjaaGreatMj30
import Derived.Test.YtbefmjiclpobjaaGreatMj34
import Derived.Test.YtbefmjiclpobjaaGreatMj31
namespace Go.Proofs.YtbefmjiclpobjaaGreat
set_option maxHeartbeats 12800000
set_option maxRecDepth 3000
section
open Go.RowKit Go.Maps
theorem X9{ops:Array Oper}{rest:List Oper}{o:Oper}{a:Act}{w:World}{Q:Exit->Act->World->Prop}(U:o.guard=none)(x y:Operand)(W:o.op= .buildSlice 224 2 #[(0,x),(1,y)])(i g i2 g2:Int)(Y:a.eval x= .agg #[.int .i64 i,.int .i64 g])(Z:a.eval y= .agg #[.int .i64 i2,.int .i64 g2])
 (h:∀z w',w.heap.size<=z->C3 w' z 35 #[.int .i64 i,.int .i64 g,.int .i64 i2,.int .i64 g2]->B0 B5 w B5 w'->wpList Tryz.prog ops Q rest (a.put o.dst (.slice (some ⟨z,0,none⟩) 2 2)) w'):wpList Tryz.prog ops Q (o::rest) a w:=by
 obtain⟨ie,V,hz,I,_⟩:=info_parts P1
 refine wpList_buildSlice U 224 35 2 _ W #[.int .i64 i,.int .i64 g,.int .i64 i2,.int .i64 g2] ie _ Tryz.underlying224 V hz (by rw[I];decide) (by rw[I];decide) ?_ (h _ _ (Nat.le_refl _) (C3.new _ _ _) ((B0.refl _ _).alloc _))
 rw[I]
 have J:=Great.fill_whole (s:=2) (by decide) [Value.agg #[.int .i64 i,.int .i64 g],Value.agg #[.int .i64 i2,.int .i64 g2]] ((Array.range (2 * 2)).map ((Value.agg #[.int .i64 0,.int .i64 0]).cells[·%(Value.agg #[.int .i64 0,.int .i64 0]).cells.size]!)) (λv hv=>by
  rcases List.mem_cons.1 hv with e|e
  ·subst e;rfl
  ·rw[List.mem_singleton]at e
   subst e
   rfl) (by simp)
 simpa[Y,Z,Value.cells]using J
structure RnP (w:World) (z6 z8:Nat) (i g i2 g2:Int):Prop where
 a:C3 w z6 35 #[.int .i64 i,.int .i64 g]
 b:C3 w z8 35 #[.int .i64 i2,.int .i64 g2]
theorem RnP.over{w w':World}{z6 z8:Nat}{i g i2 g2:Int}{F':Nat->Prop}(h:RnP w z6 z8 i g i2 g2)(I:B0 B5 w F' w'):RnP w' z6 z8 i g i2 g2:=⟨h.a.over I,h.b.over I⟩
structure RnQ (w:World) (z6 z8 z13:Nat) (i g i2 g2:Int) (X:En):Prop where
 p:RnP w z6 z8 i g i2 g2
 x:C3 w z13 74 (ea X)
section
variable {w w':World} {z6 z8 z13 c m:Nat} {i g i2 g2:Int} {X:En} {F':Nat->Prop}
theorem RnQ.over(h:RnQ w z6 z8 z13 i g i2 g2 X)(I:B0 B5 w F' w'):RnQ w' z6 z8 z13 i g i2 g2 X:=⟨h.p.over I,h.x.over I⟩
def RnN(z6 z8 z13 c m:Nat):Prop:=¬CF c m z6/\¬CF c m z8/\¬CF c m z13
theorem RnQ.apart(h:RnQ w z6 z8 z13 i g i2 g2 X)(I:w.heap.size<=c)(J:w.heap.size<=m):RnN z6 z8 z13 c m:=
 ⟨λy=>by have:=h.p.a.lt;rcases y with y|y<;>omega,λy=>by have:=h.p.b.lt;rcases y with y|y<;>omega,λy=>by have:=h.x.lt;rcases y with y|y<;>omega⟩
theorem RnQ.keep(h:RnQ w z6 z8 z13 i g i2 g2 X)(I:B0 (CF c m) w F' w')(J:RnN z6 z8 z13 c m):RnQ w' z6 z8 z13 i g i2 g2 X:=
 ⟨⟨h.p.a.keep (I.block _ h.p.a.lt J.1),h.p.b.keep (I.block _ h.p.b.lt J.2.1)⟩,h.x.keep (I.block _ h.x.lt J.2.2)⟩
end
noncomputable def A8r(H:Nat->List Nat)(i g:Int)(s:ByteArray)(i2 g2:Int)(t:ByteArray):Int:=
 if A0y [s,t]=0 then(if Y2 H [(i,g),(i2,g2)]=0 then(if M4 H i g s=0 then(if i=i2/\s=t then 0 else B3W H (i2,g2) (L5 H i g s))else M4 H i g s)else Y2 H [(i,g),(i2,g2)])else A0y [s,t]
theorem C1T{H:Nat->List Nat}{i g i2 g2:Int}(h:Y2 H [(i,g),(i2,g2)]=0):Q3 H i g 1=0/\Q3 H i2 g2 1=0/\(0<=i/\i<=40)/\(0<=i2/\i2<=40)/\(i=i2->g=g2):=by
 unfold Y2 at h
 split at h
 ·rename_i I
  unfold Y2 at h
  split at h
  ·rename_i J
   have U:=R5 (A0W I).1
   have V:=R5 (A0W J).1
   dsimp only at U V
   exact⟨I,J,by omega,by omega,λe=>by rw[<-U.2.2.2.1,<-V.2.2.2.1,e]⟩
  ·rename_i J;exact absurd h J
 ·rename_i I;exact absurd h I
section
variable {w:World} {E:Ev}
theorem B9N(h:So w E)(hs:Sw E.H E.M)(i g:Int)(s:ByteArray)(i2 g2:Int)(t:ByteArray)(hm:s.size<=maxLen/\t.size<=maxLen)(hl:A8r E.H i g s i2 g2 t=0->¬(i=i2/\s=t)->LOk E (A27 E.H E.M i g s i2 g2 t (L5 E.H i g s))):
 Calls Tryz.prog 39 #[.pointer (some ⟨E.o,0,none⟩),.agg #[.int .i64 i,.int .i64 g],.string s,.agg #[.int .i64 i2,.int .i64 g2],.string t] w λr w'=>
  ((A8r E.H i g s i2 g2 t≠0\/(i=i2/\s=t))/\r= .returned (.int .i64 (A8r E.H i g s i2 g2 t))/\B0 B5 w B5 w')\/
  (A8r E.H i g s i2 g2 t=0/\¬(i=i2/\s=t)/\r= .returned (.int .i64 (P8 E (A27 E.H E.M i g s i2 g2 t (L5 E.H i g s))).2)/\OdR w E (P8 E (A27 E.H E.M i g s i2 g2 t (L5 E.H i g s))) w'):=by
 have hv:=h.vu.rdv
 have dP:=C6x (λV (a:B0 B5 w B5 V)=>A9W (hv.step a) hs.sd i g s)
 have HM:=C6x (λV (a:B0 B5 w B5 V)=>A0Y (hv.step a))
 have HC:=C6x (λV z (r:Rd V 1 (.slice (some ⟨z,0,none⟩) 2 2) 2 ([s,t].map Value.string))=>A9Y (.slice (some ⟨z,0,none⟩) 2 2) [s,t] V r (λu hu=>by rcases List.mem_cons.1 hu with e|e;rw[e];exact hm.1;rw[List.mem_singleton.1 e];exact hm.2) (by simp))
 have aT:=C6x (λV zf (a:B0 B5 w B5 V) (b:C3 V zf 35 #[.int .i64 i,.int .i64 g,.int .i64 i2,.int .i64 g2])=>show Calls Tryz.prog 95 #[.pointer (some ⟨E.o,0,none⟩),.slice (some ⟨zf,0,none⟩) 2 2] V λe w'=>e= .returned (.int .i64 (Y2 E.H [(i,g),(i2,g2)]))/\B0 B5 V B5 w' from B6C (hv.step a) hs.sd zf 2 [(i,g),(i2,g2)] rfl (by simp) (λk hk=>by
  match k,hk with
  |0,_=>exact⟨b.cell 0,b.cell 1⟩
  |1,_=>exact⟨b.cell 2,b.cell 3⟩) b.lt)
 have cW:=C6x (λV (a:B0 B5 w B5 V)=>B7k (hv.step a) hs.sd (i2,g2) (L5 E.H i g s))
 have bD:=C6x (λV (a:B0 B5 w B5 V)=>A11 (h.step a))
 have HL:=C6x hl
 have HR:=C6x (show A8r E.H i g s i2 g2 t=if A0y [s,t]=0 then(if Y2 E.H [(i,g),(i2,g2)]=0 then(if M4 E.H i g s=0 then(if i=i2/\s=t then 0 else B3W E.H (i2,g2) (L5 E.H i g s))else M4 E.H i g s)else Y2 E.H [(i,g),(i2,g2)])else A0y [s,t]from rfl)
 have bF:=C6x (λx:Y2 E.H [(i,g),(i2,g2)]=0=>C1T x)
 have HS:=C6x hs
 have bG:=C6x hm
 obtain⟨X,hX⟩:∃X,X=L5 E.H i g s:=⟨_,rfl⟩
 obtain⟨fe,dJ⟩:∃fe,fe=M4 E.H i g s:=⟨_,rfl⟩
 obtain⟨ck,dG⟩:∃ck,ck=A0y [s,t]:=⟨_,rfl⟩
 obtain⟨de,dH⟩:∃de,de=Y2 E.H [(i,g),(i2,g2)]:=⟨_,rfl⟩
 rw[<-hX]at HL HR cW⊢
 obtain⟨mf,dK⟩:∃mf,mf=B3W E.H (i2,g2) X:=⟨_,rfl⟩
 obtain⟨re,dL⟩:∃re,re=A8r E.H i g s i2 g2 t:=⟨_,rfl⟩
 rw[<-dJ,<-dG,<-dH,<-dK,<-dL]at HR
 rw[<-dL]at HL⊢
 rw[<-dH]at bF aT
 have HF:=C6x (λV (a:B0 B5 w B5 V)=>(dP.out V a).mono (R':=λe w'=>e= .returned (.tuple #[.agg (ea X),.int .i64 fe])/\B0 B5 V B5 w') (λe w' y=>by rw[hX,dJ];exact y))
 have bA:=C6x (λV (a:B0 B5 w B5 V)=>show Calls Tryz.prog 96 #[.pointer (some ⟨E.o,0,none⟩),.agg #[.int .i64 i2,.int .i64 g2],.agg (ea X)] V λe w'=>e= .returned (.int .i64 mf)/\B0 B5 V B5 w' by rw[dK];exact cW.out V a)
 rw[<-dG]at HC
 clear hX dJ dG dL dH dK h hs hv hm hl dP cW
 by_cases h0:ck=0
 ·subst h0
  rw[if_pos rfl]at HR
  by_cases hd0:de=0
  ·subst hd0
   rw[if_pos rfl]at HR
   obtain⟨_,_,bQ,bR,bO⟩:=bF.out rfl
   by_cases h1:fe=0
   ·subst h1
    rw[if_pos rfl]at HR
    by_cases bP:i=i2/\s=t
    ·obtain⟨aO,bU⟩:=bP
     subst bU
     have cF:=bO aO
     subst aO
     subst cF
     have aJ:=C6x (show re=0 by rw[HR.out,if_pos ⟨rfl,rfl⟩])
     obtain⟨o,ho⟩:∃o,o=E.o:=⟨_,rfl⟩
     rw[<-ho]at HM HF aT⊢
     clear bQ bR bO HL bF HR HS bG bD bA ho
     go_enter Tryz.func39,Tryz.ntmps39
     go_wp2_with (first
      |(refine C5 (t:=35) rfl _ rfl rfl ?_;intro z8 w1 U J I;have aE:=C6x (aD.out.trans I);have aU:=C6x (RnP.mk (aS.out.over I) J);have bT:=C6x (Nat.le_trans aD.out.size U);clear U J I)
      |(refine C5 (t:=35) rfl _ rfl rfl ?_;intro z6 w0 U J I;have aS:=C6x J;have aD:=C6x I;have bS:=C6x U;clear U J I)
      |(go_at_call 73;refine(HM.out _ aE.out).mono ?_;rintro e w2 ⟨rfl,rfl⟩)
      |(refine Y3 rfl _ _ rfl _ _ rfl rfl ?_;intro z3 w3 U J I;have aG:=C6x J;have aP:=C6x (aE.out.trans I);have aV:=C6x (aU.out.over I);clear U J I)
      |(go_at_call 79;refine(HC.out _ _ aG.out).mono ?_;rintro e w4 ⟨rfl,I⟩;have aQ:=C6x (aP.out.trans I);have Y:=C6x (aV.out.over I);clear I)
      |(refine B6 (t:=35) rfl _ rfl z6 Y.out.a rfl Tryz.underlying35 rfl B1 rfl ?_)
      |(refine B6 (t:=35) rfl _ rfl z8 Y.out.b rfl Tryz.underlying35 rfl B1 rfl ?_)
      |(refine X9 rfl _ _ rfl _ _ _ _ rfl rfl ?_;intro zf w5 U J I;have aX:=C6x J;have aH:=C6x (aQ.out.trans I);have aI:=C6x (Y.out.over I);clear U J I Y aG)
      |(go_at_call 95;refine(aT.out _ _ aH.out aX.out).mono ?_;rintro e w6 ⟨rfl,I⟩;have aK:=C6x (aH.out.trans I);have aA:=C6x (aI.out.over I);clear I aI)
      |(refine B6 (t:=35) rfl _ rfl z6 aA.out.a rfl Tryz.underlying35 rfl B1 rfl ?_)
      |(refine B6 (t:=35) rfl _ rfl z8 aA.out.b rfl Tryz.underlying35 rfl B1 rfl ?_)
      |(go_at_call 80;refine(HF.out _ aK.out).mono ?_;rintro e w7 ⟨rfl,I⟩;have aL:=C6x (aK.out.trans I);have aB:=C6x (aA.out.over I);clear I aA)
      |(refine B9 rfl rfl E7 ?_;intro z13 w8 U J I;have bC:=C6x (Nat.le_trans aL.out.size U);have aN:=C6x J;have aZ:=C6x (aL.out.trans I);have aF:=C6x (aB.out.over I);have aM:=C6x (show z6≠z13/\z8≠z13 from⟨λe=>by have:=aB.out.a.lt;omega,λe=>by have:=aB.out.b.lt;omega⟩);clear U J I aB)
      |(refine B7 rfl _ _ rfl z13 aN.out rfl rfl C8 (D1 _) (D1 _) (R4 _) ?_;intro w9 J I;have aR:=C6x (aZ.out.fresh bC.out I);have aC:=C6x (RnQ.mk (RnP.mk (aF.out.a.far1 I aM.out.1) (aF.out.b.far1 I aM.out.2)) J);clear J I aF aN)
      |(refine B6 (t:=35) rfl _ rfl z6 aC.out.p.a rfl Tryz.underlying35 rfl B1 rfl ?_)
      |(refine B6 (t:=35) rfl _ rfl z8 aC.out.p.b rfl Tryz.underlying35 rfl B1 rfl ?_)
      |fail)
     go_ret
     exact .inl ⟨.inr (by first|exact⟨rfl,rfl⟩|trivial),(by rw[aJ.out];rfl),aR.out⟩
    ·rw[if_neg bP]at HR
     have cK:=C6x bP
     by_cases h2:mf=0
     ·subst h2
      have aJ:=C6x HR.out
      have cL:Sw (⟨E.H,0⟩:CS).H E.M:=HS.out
      have cX:=C6x (λW c m (k:Cs W E c m ⟨E.H,0⟩)=>C3j k cL i2 g2 t X.k)
      have cG:=C14 cL i2 g2 t X.k
      have bM:=C6x (show A27 E.H E.M i g s i2 g2 t X=if i2=i/\g2=g then((((⟨E.H,0⟩:CS).repl E.M i2 g2 t X.k).leave E.M i g s).enter E.M i2 g2 ⟨t,X.i,X.g,X.k⟩).touch i g else(((((⟨E.H,0⟩:CS).repl E.M i2 g2 t X.k).leave E.M i g s).enter E.M i2 g2 ⟨t,X.i,X.g,X.k⟩).touch i g).touch i2 g2 from rfl)
      obtain⟨SS,dF⟩:∃SS,SS=A27 E.H E.M i g s i2 g2 t X:=⟨_,rfl⟩
      rw[<-dF]at bM HL⊢
      obtain⟨S1,dB⟩:∃S1,S1=(⟨E.H,0⟩:CS).repl E.M i2 g2 t X.k:=⟨_,rfl⟩
      rw[<-dB]at cX cG bM
      have cV:=C6x (λW c m (k:Cs W E c m S1)=>B4V k cG i g bQ s)
      have cH:=B1Y cG i g s
      obtain⟨S2,dC⟩:∃S2,S2=S1.leave E.M i g s:=⟨_,rfl⟩
      rw[<-dC]at cV cH bM
      have cU:=C6x (λW c m (k:Cs W E c m S2)=>B4U k cH i2 g2 bR ⟨t,X.i,X.g,X.k⟩ bG.out.2)
      have cJ:=B1X cH i2 g2 ⟨t,X.i,X.g,X.k⟩
      obtain⟨S3,dD⟩:∃S3,S3=S2.enter E.M i2 g2 ⟨t,X.i,X.g,X.k⟩:=⟨_,rfl⟩
      rw[<-dD]at cU cJ bM
      have cY:=C6x (λW c m (k:Cs W E c m S3)=>A4w k cJ i g bQ)
      have cM:=B9v cJ i g
      obtain⟨S4,dE⟩:∃S4,S4=S3.touch i g:=⟨_,rfl⟩
      rw[<-dE]at cY cM bM
      by_cases aO:i=i2
      ·have cF:=bO aO
       have bU:¬s=t:=λe=>bP ⟨aO,e⟩
       subst aO
       subst cF
       have dX:(s.toList==t.toList)=false:=by rw[B3p];exact decide_eq_false bU
       have bV:SS=S4:=by rw[bM.out,if_pos ⟨rfl,rfl⟩]
       rw[bV]at HL⊢
       have cB:=C6x (λW c m (k:Cs W E c m S4)=>A8Y k HS.out.sd.row (HL.out aJ.out cK.out))
       obtain⟨R,hR⟩:∃R,R=P8 E S4:=⟨_,rfl⟩
       rw[<-hR]at cB⊢
       obtain⟨o,ho⟩:∃o,o=E.o:=⟨_,rfl⟩
       rw[<-ho]at HM bD HF bA aT⊢
       clear dB dC dD dE dF bV cL cG cH cJ cM hR ho bQ bR bO bU bP HL bM bF HR HS bG
       go_enter Tryz.func39,Tryz.ntmps39
       go_wp2_with (first
        |(refine C5 (t:=35) rfl _ rfl rfl ?_;intro z8 w1 U J I;have aE:=C6x (aD.out.trans I);have aU:=C6x (RnP.mk (aS.out.over I) J);have bT:=C6x (Nat.le_trans aD.out.size U);clear U J I)
        |(refine C5 (t:=35) rfl _ rfl rfl ?_;intro z6 w0 U J I;have aS:=C6x J;have aD:=C6x I;have bS:=C6x U;clear U J I)
        |(go_at_call 73;refine(HM.out _ aE.out).mono ?_;rintro e w2 ⟨rfl,rfl⟩)
        |(refine Y3 rfl _ _ rfl _ _ rfl rfl ?_;intro z3 w3 U J I;have aG:=C6x J;have aP:=C6x (aE.out.trans I);have aV:=C6x (aU.out.over I);clear U J I)
        |(go_at_call 79;refine(HC.out _ _ aG.out).mono ?_;rintro e w4 ⟨rfl,I⟩;have aQ:=C6x (aP.out.trans I);have Y:=C6x (aV.out.over I);clear I)
        |(refine B6 (t:=35) rfl _ rfl z6 Y.out.a rfl Tryz.underlying35 rfl B1 rfl ?_)
        |(refine B6 (t:=35) rfl _ rfl z8 Y.out.b rfl Tryz.underlying35 rfl B1 rfl ?_)
        |(refine X9 rfl _ _ rfl _ _ _ _ rfl rfl ?_;intro zf w5 U J I;have aX:=C6x J;have aH:=C6x (aQ.out.trans I);have aI:=C6x (Y.out.over I);clear U J I Y aG)
        |(go_at_call 95;refine(aT.out _ _ aH.out aX.out).mono ?_;rintro e w6 ⟨rfl,I⟩;have aK:=C6x (aH.out.trans I);have aA:=C6x (aI.out.over I);clear I aI)
        |(refine B6 (t:=35) rfl _ rfl z6 aA.out.a rfl Tryz.underlying35 rfl B1 rfl ?_)
        |(refine B6 (t:=35) rfl _ rfl z8 aA.out.b rfl Tryz.underlying35 rfl B1 rfl ?_)
        |(go_at_call 80;refine(HF.out _ aK.out).mono ?_;rintro e w7 ⟨rfl,I⟩;have aL:=C6x (aK.out.trans I);have aB:=C6x (aA.out.over I);clear I aA)
        |(refine B9 rfl rfl E7 ?_;intro z13 w8 U J I;have bC:=C6x (Nat.le_trans aL.out.size U);have aN:=C6x J;have aZ:=C6x (aL.out.trans I);have aF:=C6x (aB.out.over I);have aM:=C6x (show z6≠z13/\z8≠z13 from⟨λe=>by have:=aB.out.a.lt;omega,λe=>by have:=aB.out.b.lt;omega⟩);clear U J I aB)
        |(refine B7 rfl _ _ rfl z13 aN.out rfl rfl C8 (D1 _) (D1 _) (R4 _) ?_;intro w9 J I;have aR:=C6x (aZ.out.fresh bC.out I);have aC:=C6x (RnQ.mk (RnP.mk (aF.out.a.far1 I aM.out.1) (aF.out.b.far1 I aM.out.2)) J);clear J I aF aN)
        |(refine B6 (t:=35) rfl _ rfl z6 aC.out.p.a rfl Tryz.underlying35 rfl B1 rfl ?_)
        |(refine B6 (t:=35) rfl _ rfl z8 aC.out.p.b rfl Tryz.underlying35 rfl B1 rfl ?_)
        |(refine B6 (t:=74) rfl _ rfl z13 aC.out.x rfl Tryz.underlying74 rfl C8 (D1 _) ?_)
        |(go_at_call 96;refine(bA.out _ aR.out).mono ?_;rintro e dM ⟨rfl,I⟩;have aW:=C6x (aR.out.trans I);have bI:=C6x (aC.out.over I);clear I aC)
        |(go_at_call 44;refine(bD.out _ aW.out).mono ?_;rintro e dN ⟨c,m,rfl,Z,h1,h2,I⟩;have bX:=C6x (show Cs _ E c m ⟨E.H,0⟩from Z);have cE:=C6x (And.intro (Nat.le_trans aW.out.size h1) (Nat.le_trans aW.out.size h2));have bB:=C6x (bI.out.over I);have bH:=C6x (bI.out.apart h1 h2);have cN:=C6x (aW.out.trans I);have cZ:dN.cell? ⟨z13,3,none⟩=some (.int .i64 X.k):=bB.out.x.cell 3;clear Z h1 h2 I bI)
        |(refine B6 (t:=35) rfl _ rfl z6 bB.out.p.a rfl Tryz.underlying35 rfl B1 rfl ?_)
        |(refine B6 (t:=35) rfl _ rfl z8 bB.out.p.b rfl Tryz.underlying35 rfl B1 rfl ?_)
        |(go_at_call 97;refine(cX.out _ _ _ bX.out).mono ?_;rintro e dY ⟨rfl,Z,I⟩;have bY:=C6x Z;have cO:=C6x I;have bJ:=C6x (bB.out.keep I bH.out);clear Z I cZ bB bX)
        |(refine B6 (t:=35) rfl _ rfl z6 bJ.out.p.a rfl Tryz.underlying35 rfl B1 rfl ?_)
        |(refine B6 (t:=35) rfl _ rfl z8 bJ.out.p.b rfl Tryz.underlying35 rfl B1 rfl ?_)
        |(go_at_call 83;refine(cV.out _ _ _ bY.out).mono ?_;rintro e dO ⟨rfl,Z,I⟩;have bZ:=C6x Z;have cP:=C6x (cO.out.trans I);have aY:=C6x (bJ.out.keep I bH.out);have cD:=C6x (A13 aY.out.x);have dA:dO.cell? ⟨z13,3,none⟩=some (.int .i64 X.k):=aY.out.x.cell 3;clear Z I bJ bY)
        |(refine B6 (t:=35) rfl _ rfl z6 aY.out.p.a rfl Tryz.underlying35 rfl B1 rfl ?_)
        |(refine B6 (t:=35) rfl _ rfl z8 aY.out.p.b rfl Tryz.underlying35 rfl B1 rfl ?_)
        |(refine wpList_load_mid rfl 35 (.tmp 75) rfl z13 1 rfl [.int .i64 X.i,.int .i64 X.g] _ cD.out Tryz.underlying35 rfl (by rw[B1];rfl) ?_)
        |(refine A0z rfl _ _ _ rfl t X.i X.g X.k rfl rfl rfl ?_)
        |(go_at_call 92;refine(cU.out _ _ _ bZ.out).mono ?_;rintro e dZ ⟨rfl,Z,I⟩;have cA:=C6x Z;have cQ:=C6x (cP.out.trans I);have bK:=C6x (aY.out.keep I bH.out);clear Z I dA cD aY bZ)
        |(refine B6 (t:=35) rfl _ rfl z6 bK.out.p.a rfl Tryz.underlying35 rfl B1 rfl ?_)
        |(refine B6 (t:=35) rfl _ rfl z8 bK.out.p.b rfl Tryz.underlying35 rfl B1 rfl ?_)
        |(go_at_call 84;refine(cY.out _ _ _ cA.out).mono ?_;rintro e eA ⟨rfl,Z,I⟩;have cT:=C6x Z;have cR:=C6x (cQ.out.trans I);have cC:=C6x (bK.out.keep I bH.out);clear Z I bK cA)
        |(refine B6 (t:=35) rfl _ rfl z6 cC.out.p.a rfl Tryz.underlying35 rfl B1 rfl ?_)
        |(refine B6 (t:=35) rfl _ rfl z8 cC.out.p.b rfl Tryz.underlying35 rfl B1 rfl ?_)
        |(go_at_call 46;refine(cB.out _ _ _ cT.out).mono ?_;rintro e eB he;obtain⟨rfl,ho⟩:=he.op cN.out cE.out.1 cE.out.2 cR.out;have HO:=C6x ho;clear he ho)
        |fail)
       go_ret
       exact .inr ⟨aJ.out,cK.out,rfl,HO.out⟩
      ·have dQ:=C6x (λW c m (k:Cs W E c m S4)=>A4w k cM i2 g2 bR)
       have bV:SS=S4.touch i2 g2:=by rw[bM.out,if_neg (λe=>aO e.1.symm)]
       obtain⟨S5,dR⟩:∃S5,S5=S4.touch i2 g2:=⟨_,rfl⟩
       rw[<-dR]at dQ bV
       rw[bV]at HL⊢
       have cB:=C6x (λW c m (k:Cs W E c m S5)=>A8Y k HS.out.sd.row (HL.out aJ.out cK.out))
       obtain⟨R,hR⟩:∃R,R=P8 E S5:=⟨_,rfl⟩
       rw[<-hR]at cB⊢
       obtain⟨o,ho⟩:∃o,o=E.o:=⟨_,rfl⟩
       rw[<-ho]at HM bD HF bA aT⊢
       have dS:(i==i2)=false:=by rw[beq_eq_false_iff_ne];exact aO
       have dW:=C6x (show i2≠i fromλe=>aO e.symm)
       clear dB dC dD dE dR dF bV cL cG cH cJ cM hR ho bQ bR bO bP aO HL bM bF HR HS bG
       go_enter Tryz.func39,Tryz.ntmps39
       go_wp2_with (first
        |(refine C5 (t:=35) rfl _ rfl rfl ?_;intro z8 w1 U J I;have aE:=C6x (aD.out.trans I);have aU:=C6x (RnP.mk (aS.out.over I) J);have bT:=C6x (Nat.le_trans aD.out.size U);clear U J I)
        |(refine C5 (t:=35) rfl _ rfl rfl ?_;intro z6 w0 U J I;have aS:=C6x J;have aD:=C6x I;have bS:=C6x U;clear U J I)
        |(go_at_call 73;refine(HM.out _ aE.out).mono ?_;rintro e w2 ⟨rfl,rfl⟩)
        |(refine Y3 rfl _ _ rfl _ _ rfl rfl ?_;intro z3 w3 U J I;have aG:=C6x J;have aP:=C6x (aE.out.trans I);have aV:=C6x (aU.out.over I);clear U J I)
        |(go_at_call 79;refine(HC.out _ _ aG.out).mono ?_;rintro e w4 ⟨rfl,I⟩;have aQ:=C6x (aP.out.trans I);have Y:=C6x (aV.out.over I);clear I)
        |(refine B6 (t:=35) rfl _ rfl z6 Y.out.a rfl Tryz.underlying35 rfl B1 rfl ?_)
        |(refine B6 (t:=35) rfl _ rfl z8 Y.out.b rfl Tryz.underlying35 rfl B1 rfl ?_)
        |(refine X9 rfl _ _ rfl _ _ _ _ rfl rfl ?_;intro zf w5 U J I;have aX:=C6x J;have aH:=C6x (aQ.out.trans I);have aI:=C6x (Y.out.over I);clear U J I Y aG)
        |(go_at_call 95;refine(aT.out _ _ aH.out aX.out).mono ?_;rintro e w6 ⟨rfl,I⟩;have aK:=C6x (aH.out.trans I);have aA:=C6x (aI.out.over I);clear I aI)
        |(refine B6 (t:=35) rfl _ rfl z6 aA.out.a rfl Tryz.underlying35 rfl B1 rfl ?_)
        |(refine B6 (t:=35) rfl _ rfl z8 aA.out.b rfl Tryz.underlying35 rfl B1 rfl ?_)
        |(go_at_call 80;refine(HF.out _ aK.out).mono ?_;rintro e w7 ⟨rfl,I⟩;have aL:=C6x (aK.out.trans I);have aB:=C6x (aA.out.over I);clear I aA)
        |(refine B9 rfl rfl E7 ?_;intro z13 w8 U J I;have bC:=C6x (Nat.le_trans aL.out.size U);have aN:=C6x J;have aZ:=C6x (aL.out.trans I);have aF:=C6x (aB.out.over I);have aM:=C6x (show z6≠z13/\z8≠z13 from⟨λe=>by have:=aB.out.a.lt;omega,λe=>by have:=aB.out.b.lt;omega⟩);clear U J I aB)
        |(refine B7 rfl _ _ rfl z13 aN.out rfl rfl C8 (D1 _) (D1 _) (R4 _) ?_;intro w9 J I;have aR:=C6x (aZ.out.fresh bC.out I);have aC:=C6x (RnQ.mk (RnP.mk (aF.out.a.far1 I aM.out.1) (aF.out.b.far1 I aM.out.2)) J);clear J I aF aN)
        |(refine B6 (t:=35) rfl _ rfl z6 aC.out.p.a rfl Tryz.underlying35 rfl B1 rfl ?_)
        |(refine B6 (t:=35) rfl _ rfl z8 aC.out.p.b rfl Tryz.underlying35 rfl B1 rfl ?_)
        |(refine B6 (t:=74) rfl _ rfl z13 aC.out.x rfl Tryz.underlying74 rfl C8 (D1 _) ?_)
        |(go_at_call 96;refine(bA.out _ aR.out).mono ?_;rintro e dM ⟨rfl,I⟩;have aW:=C6x (aR.out.trans I);have bI:=C6x (aC.out.over I);clear I aC)
        |(go_at_call 44;refine(bD.out _ aW.out).mono ?_;rintro e dN ⟨c,m,rfl,Z,h1,h2,I⟩;have bX:=C6x (show Cs _ E c m ⟨E.H,0⟩from Z);have cE:=C6x (And.intro (Nat.le_trans aW.out.size h1) (Nat.le_trans aW.out.size h2));have bB:=C6x (bI.out.over I);have bH:=C6x (bI.out.apart h1 h2);have cN:=C6x (aW.out.trans I);have cZ:dN.cell? ⟨z13,3,none⟩=some (.int .i64 X.k):=bB.out.x.cell 3;clear Z h1 h2 I bI dS)
        |(refine B6 (t:=35) rfl _ rfl z6 bB.out.p.a rfl Tryz.underlying35 rfl B1 rfl ?_)
        |(refine B6 (t:=35) rfl _ rfl z8 bB.out.p.b rfl Tryz.underlying35 rfl B1 rfl ?_)
        |(go_at_call 97;refine(cX.out _ _ _ bX.out).mono ?_;rintro e dY ⟨rfl,Z,I⟩;have bY:=C6x Z;have cO:=C6x I;have bJ:=C6x (bB.out.keep I bH.out);clear Z I cZ bB bX)
        |(refine B6 (t:=35) rfl _ rfl z6 bJ.out.p.a rfl Tryz.underlying35 rfl B1 rfl ?_)
        |(refine B6 (t:=35) rfl _ rfl z8 bJ.out.p.b rfl Tryz.underlying35 rfl B1 rfl ?_)
        |(go_at_call 83;refine(cV.out _ _ _ bY.out).mono ?_;rintro e dO ⟨rfl,Z,I⟩;have bZ:=C6x Z;have cP:=C6x (cO.out.trans I);have aY:=C6x (bJ.out.keep I bH.out);have cD:=C6x (A13 aY.out.x);have dA:dO.cell? ⟨z13,3,none⟩=some (.int .i64 X.k):=aY.out.x.cell 3;clear Z I bJ bY)
        |(refine B6 (t:=35) rfl _ rfl z6 aY.out.p.a rfl Tryz.underlying35 rfl B1 rfl ?_)
        |(refine B6 (t:=35) rfl _ rfl z8 aY.out.p.b rfl Tryz.underlying35 rfl B1 rfl ?_)
        |(refine wpList_load_mid rfl 35 (.tmp 75) rfl z13 1 rfl [.int .i64 X.i,.int .i64 X.g] _ cD.out Tryz.underlying35 rfl (by rw[B1];rfl) ?_)
        |(refine A0z rfl _ _ _ rfl t X.i X.g X.k rfl rfl rfl ?_)
        |(go_at_call 92;refine(cU.out _ _ _ bZ.out).mono ?_;rintro e dZ ⟨rfl,Z,I⟩;have cA:=C6x Z;have cQ:=C6x (cP.out.trans I);have bK:=C6x (aY.out.keep I bH.out);clear Z I dA cD aY bZ)
        |(refine B6 (t:=35) rfl _ rfl z6 bK.out.p.a rfl Tryz.underlying35 rfl B1 rfl ?_)
        |(refine B6 (t:=35) rfl _ rfl z8 bK.out.p.b rfl Tryz.underlying35 rfl B1 rfl ?_)
        |(go_at_call 84;refine(cY.out _ _ _ cA.out).mono ?_;rintro e eA ⟨rfl,Z,I⟩;have cT:=C6x Z;have cR:=C6x (cQ.out.trans I);have cC:=C6x (bK.out.keep I bH.out);have eC:(i2==i)=false:=(by rw[beq_eq_false_iff_ne];exact dW.out);clear Z I bK cA)
        |(refine B6 (t:=35) rfl _ rfl z6 cC.out.p.a rfl Tryz.underlying35 rfl B1 rfl ?_)
        |(refine B6 (t:=35) rfl _ rfl z8 cC.out.p.b rfl Tryz.underlying35 rfl B1 rfl ?_)
        |(go_at_call 84;refine(dQ.out _ _ _ cT.out).mono ?_;rintro e eD ⟨rfl,Z,I⟩;have dV:=C6x Z;have dU:=C6x (cR.out.trans I);clear Z I)
        |(go_at_call 46;refine(cB.out _ _ _ dV.out).mono ?_;rintro e eB he;obtain⟨rfl,ho⟩:=he.op cN.out cE.out.1 cE.out.2 dU.out;have HO:=C6x ho;clear he ho)
        |fail)
       go_ret
       exact .inr ⟨aJ.out,cK.out,rfl,HO.out⟩
     ·have J:(mf !=0)=true:=by rw[bne_iff_ne];exact h2
      have HN:=C6x h2
      have aJ:=C6x HR.out
      obtain⟨o,ho⟩:∃o,o=E.o:=⟨_,rfl⟩
      rw[<-ho]at HM HF aT bA⊢
      by_cases aO:i=i2
      ·have cF:=bO aO
       have bU:¬s=t:=λe=>bP ⟨aO,e⟩
       subst aO
       subst cF
       have dX:(s.toList==t.toList)=false:=by rw[B3p];exact decide_eq_false bU
       clear bQ bR bO h2 bU bP HL bF HR HS bG bD ho
       go_enter Tryz.func39,Tryz.ntmps39
       go_wp2_with (first
        |(refine C5 (t:=35) rfl _ rfl rfl ?_;intro z8 w1 U J I;have aE:=C6x (aD.out.trans I);have aU:=C6x (RnP.mk (aS.out.over I) J);have bT:=C6x (Nat.le_trans aD.out.size U);clear U J I)
        |(refine C5 (t:=35) rfl _ rfl rfl ?_;intro z6 w0 U J I;have aS:=C6x J;have aD:=C6x I;have bS:=C6x U;clear U J I)
        |(go_at_call 73;refine(HM.out _ aE.out).mono ?_;rintro e w2 ⟨rfl,rfl⟩)
        |(refine Y3 rfl _ _ rfl _ _ rfl rfl ?_;intro z3 w3 U J I;have aG:=C6x J;have aP:=C6x (aE.out.trans I);have aV:=C6x (aU.out.over I);clear U J I)
        |(go_at_call 79;refine(HC.out _ _ aG.out).mono ?_;rintro e w4 ⟨rfl,I⟩;have aQ:=C6x (aP.out.trans I);have Y:=C6x (aV.out.over I);clear I)
        |(refine B6 (t:=35) rfl _ rfl z6 Y.out.a rfl Tryz.underlying35 rfl B1 rfl ?_)
        |(refine B6 (t:=35) rfl _ rfl z8 Y.out.b rfl Tryz.underlying35 rfl B1 rfl ?_)
        |(refine X9 rfl _ _ rfl _ _ _ _ rfl rfl ?_;intro zf w5 U J I;have aX:=C6x J;have aH:=C6x (aQ.out.trans I);have aI:=C6x (Y.out.over I);clear U J I Y aG)
        |(go_at_call 95;refine(aT.out _ _ aH.out aX.out).mono ?_;rintro e w6 ⟨rfl,I⟩;have aK:=C6x (aH.out.trans I);have aA:=C6x (aI.out.over I);clear I aI)
        |(refine B6 (t:=35) rfl _ rfl z6 aA.out.a rfl Tryz.underlying35 rfl B1 rfl ?_)
        |(refine B6 (t:=35) rfl _ rfl z8 aA.out.b rfl Tryz.underlying35 rfl B1 rfl ?_)
        |(go_at_call 80;refine(HF.out _ aK.out).mono ?_;rintro e w7 ⟨rfl,I⟩;have aL:=C6x (aK.out.trans I);have aB:=C6x (aA.out.over I);clear I aA)
        |(refine B9 rfl rfl E7 ?_;intro z13 w8 U J I;have bC:=C6x (Nat.le_trans aL.out.size U);have aN:=C6x J;have aZ:=C6x (aL.out.trans I);have aF:=C6x (aB.out.over I);have aM:=C6x (show z6≠z13/\z8≠z13 from⟨λe=>by have:=aB.out.a.lt;omega,λe=>by have:=aB.out.b.lt;omega⟩);clear U J I aB)
        |(refine B7 rfl _ _ rfl z13 aN.out rfl rfl C8 (D1 _) (D1 _) (R4 _) ?_;intro w9 J I;have aR:=C6x (aZ.out.fresh bC.out I);have aC:=C6x (RnQ.mk (RnP.mk (aF.out.a.far1 I aM.out.1) (aF.out.b.far1 I aM.out.2)) J);clear J I aF aN)
        |(refine B6 (t:=35) rfl _ rfl z6 aC.out.p.a rfl Tryz.underlying35 rfl B1 rfl ?_)
        |(refine B6 (t:=35) rfl _ rfl z8 aC.out.p.b rfl Tryz.underlying35 rfl B1 rfl ?_)
        |(refine B6 (t:=74) rfl _ rfl z13 aC.out.x rfl Tryz.underlying74 rfl C8 (D1 _) ?_)
        |(go_at_call 96;refine(bA.out _ aR.out).mono ?_;rintro e dM ⟨rfl,I⟩;have aW:=C6x (aR.out.trans I);have bI:=C6x (aC.out.over I);clear I aC)
        |fail)
       go_ret
       exact .inl ⟨.inl (by rw[aJ.out];exact HN.out),(by rw[aJ.out];rfl),aW.out⟩
      ·have dS:(i==i2)=false:=by rw[beq_eq_false_iff_ne];exact aO
       clear bQ bR bO h2 aO bP HL bF HR HS bG bD ho
       go_enter Tryz.func39,Tryz.ntmps39
       go_wp2_with (first
        |(refine C5 (t:=35) rfl _ rfl rfl ?_;intro z8 w1 U J I;have aE:=C6x (aD.out.trans I);have aU:=C6x (RnP.mk (aS.out.over I) J);have bT:=C6x (Nat.le_trans aD.out.size U);clear U J I)
        |(refine C5 (t:=35) rfl _ rfl rfl ?_;intro z6 w0 U J I;have aS:=C6x J;have aD:=C6x I;have bS:=C6x U;clear U J I)
        |(go_at_call 73;refine(HM.out _ aE.out).mono ?_;rintro e w2 ⟨rfl,rfl⟩)
        |(refine Y3 rfl _ _ rfl _ _ rfl rfl ?_;intro z3 w3 U J I;have aG:=C6x J;have aP:=C6x (aE.out.trans I);have aV:=C6x (aU.out.over I);clear U J I)
        |(go_at_call 79;refine(HC.out _ _ aG.out).mono ?_;rintro e w4 ⟨rfl,I⟩;have aQ:=C6x (aP.out.trans I);have Y:=C6x (aV.out.over I);clear I)
        |(refine B6 (t:=35) rfl _ rfl z6 Y.out.a rfl Tryz.underlying35 rfl B1 rfl ?_)
        |(refine B6 (t:=35) rfl _ rfl z8 Y.out.b rfl Tryz.underlying35 rfl B1 rfl ?_)
        |(refine X9 rfl _ _ rfl _ _ _ _ rfl rfl ?_;intro zf w5 U J I;have aX:=C6x J;have aH:=C6x (aQ.out.trans I);have aI:=C6x (Y.out.over I);clear U J I Y aG)
        |(go_at_call 95;refine(aT.out _ _ aH.out aX.out).mono ?_;rintro e w6 ⟨rfl,I⟩;have aK:=C6x (aH.out.trans I);have aA:=C6x (aI.out.over I);clear I aI)
        |(refine B6 (t:=35) rfl _ rfl z6 aA.out.a rfl Tryz.underlying35 rfl B1 rfl ?_)
        |(refine B6 (t:=35) rfl _ rfl z8 aA.out.b rfl Tryz.underlying35 rfl B1 rfl ?_)
        |(go_at_call 80;refine(HF.out _ aK.out).mono ?_;rintro e w7 ⟨rfl,I⟩;have aL:=C6x (aK.out.trans I);have aB:=C6x (aA.out.over I);clear I aA)
        |(refine B9 rfl rfl E7 ?_;intro z13 w8 U J I;have bC:=C6x (Nat.le_trans aL.out.size U);have aN:=C6x J;have aZ:=C6x (aL.out.trans I);have aF:=C6x (aB.out.over I);have aM:=C6x (show z6≠z13/\z8≠z13 from⟨λe=>by have:=aB.out.a.lt;omega,λe=>by have:=aB.out.b.lt;omega⟩);clear U J I aB)
        |(refine B7 rfl _ _ rfl z13 aN.out rfl rfl C8 (D1 _) (D1 _) (R4 _) ?_;intro w9 J I;have aR:=C6x (aZ.out.fresh bC.out I);have aC:=C6x (RnQ.mk (RnP.mk (aF.out.a.far1 I aM.out.1) (aF.out.b.far1 I aM.out.2)) J);clear J I aF aN)
        |(refine B6 (t:=35) rfl _ rfl z6 aC.out.p.a rfl Tryz.underlying35 rfl B1 rfl ?_)
        |(refine B6 (t:=35) rfl _ rfl z8 aC.out.p.b rfl Tryz.underlying35 rfl B1 rfl ?_)
        |(refine B6 (t:=74) rfl _ rfl z13 aC.out.x rfl Tryz.underlying74 rfl C8 (D1 _) ?_)
        |(go_at_call 96;refine(bA.out _ aR.out).mono ?_;rintro e dM ⟨rfl,I⟩;have aW:=C6x (aR.out.trans I);have bI:=C6x (aC.out.over I);clear I aC)
        |fail)
       go_ret
       exact .inl ⟨.inl (by rw[aJ.out];exact HN.out),(by rw[aJ.out];rfl),aW.out⟩
   ·rw[if_neg h1]at HR
    have J:(fe !=0)=true:=by rw[bne_iff_ne];exact h1
    have HN:=C6x h1
    have aJ:=C6x HR.out
    obtain⟨o,ho⟩:∃o,o=E.o:=⟨_,rfl⟩
    rw[<-ho]at HM HF aT⊢
    clear bQ bR bO h1 HL bF HR HS bG bD bA ho
    go_enter Tryz.func39,Tryz.ntmps39
    go_wp2_with (first
     |(refine C5 (t:=35) rfl _ rfl rfl ?_;intro z8 w1 U J I;have aE:=C6x (aD.out.trans I);have aU:=C6x (RnP.mk (aS.out.over I) J);have bT:=C6x (Nat.le_trans aD.out.size U);clear U J I)
     |(refine C5 (t:=35) rfl _ rfl rfl ?_;intro z6 w0 U J I;have aS:=C6x J;have aD:=C6x I;have bS:=C6x U;clear U J I)
     |(go_at_call 73;refine(HM.out _ aE.out).mono ?_;rintro e w2 ⟨rfl,rfl⟩)
     |(refine Y3 rfl _ _ rfl _ _ rfl rfl ?_;intro z3 w3 U J I;have aG:=C6x J;have aP:=C6x (aE.out.trans I);have aV:=C6x (aU.out.over I);clear U J I)
     |(go_at_call 79;refine(HC.out _ _ aG.out).mono ?_;rintro e w4 ⟨rfl,I⟩;have aQ:=C6x (aP.out.trans I);have Y:=C6x (aV.out.over I);clear I)
     |(refine B6 (t:=35) rfl _ rfl z6 Y.out.a rfl Tryz.underlying35 rfl B1 rfl ?_)
     |(refine B6 (t:=35) rfl _ rfl z8 Y.out.b rfl Tryz.underlying35 rfl B1 rfl ?_)
     |(refine X9 rfl _ _ rfl _ _ _ _ rfl rfl ?_;intro zf w5 U J I;have aX:=C6x J;have aH:=C6x (aQ.out.trans I);have aI:=C6x (Y.out.over I);clear U J I Y aG)
     |(go_at_call 95;refine(aT.out _ _ aH.out aX.out).mono ?_;rintro e w6 ⟨rfl,I⟩;have aK:=C6x (aH.out.trans I);have aA:=C6x (aI.out.over I);clear I aI)
     |(refine B6 (t:=35) rfl _ rfl z6 aA.out.a rfl Tryz.underlying35 rfl B1 rfl ?_)
     |(refine B6 (t:=35) rfl _ rfl z8 aA.out.b rfl Tryz.underlying35 rfl B1 rfl ?_)
     |(go_at_call 80;refine(HF.out _ aK.out).mono ?_;rintro e w7 ⟨rfl,I⟩;have aL:=C6x (aK.out.trans I);have aB:=C6x (aA.out.over I);clear I aA)
     |(refine B9 rfl rfl E7 ?_;intro z13 w8 U J I;have bC:=C6x (Nat.le_trans aL.out.size U);have aN:=C6x J;have aZ:=C6x (aL.out.trans I);have aF:=C6x (aB.out.over I);have aM:=C6x (show z6≠z13/\z8≠z13 from⟨λe=>by have:=aB.out.a.lt;omega,λe=>by have:=aB.out.b.lt;omega⟩);clear U J I aB)
     |(refine B7 rfl _ _ rfl z13 aN.out rfl rfl C8 (D1 _) (D1 _) (R4 _) ?_;intro w9 J I;have aR:=C6x (aZ.out.fresh bC.out I);have aC:=C6x (RnQ.mk (RnP.mk (aF.out.a.far1 I aM.out.1) (aF.out.b.far1 I aM.out.2)) J);clear J I aF aN)
     |fail)
    go_ret
    exact .inl ⟨.inl (by rw[aJ.out];exact HN.out),(by rw[aJ.out];rfl),aR.out⟩
  ·rw[if_neg hd0]at HR
   have J:(de !=0)=true:=by rw[bne_iff_ne];exact hd0
   have HN:=C6x hd0
   have aJ:=C6x HR.out
   obtain⟨o,ho⟩:∃o,o=E.o:=⟨_,rfl⟩
   rw[<-ho]at HM aT⊢
   clear hd0 HL bF HR HS bG bD bA HF ho
   go_enter Tryz.func39,Tryz.ntmps39
   go_wp2_with (first
    |(refine C5 (t:=35) rfl _ rfl rfl ?_;intro z8 w1 U J I;have aE:=C6x (aD.out.trans I);have aU:=C6x (RnP.mk (aS.out.over I) J);have bT:=C6x (Nat.le_trans aD.out.size U);clear U J I)
    |(refine C5 (t:=35) rfl _ rfl rfl ?_;intro z6 w0 U J I;have aS:=C6x J;have aD:=C6x I;have bS:=C6x U;clear U J I)
    |(go_at_call 73;refine(HM.out _ aE.out).mono ?_;rintro e w2 ⟨rfl,rfl⟩)
    |(refine Y3 rfl _ _ rfl _ _ rfl rfl ?_;intro z3 w3 U J I;have aG:=C6x J;have aP:=C6x (aE.out.trans I);have aV:=C6x (aU.out.over I);clear U J I)
    |(go_at_call 79;refine(HC.out _ _ aG.out).mono ?_;rintro e w4 ⟨rfl,I⟩;have aQ:=C6x (aP.out.trans I);have Y:=C6x (aV.out.over I);clear I)
    |(refine B6 (t:=35) rfl _ rfl z6 Y.out.a rfl Tryz.underlying35 rfl B1 rfl ?_)
    |(refine B6 (t:=35) rfl _ rfl z8 Y.out.b rfl Tryz.underlying35 rfl B1 rfl ?_)
    |(refine X9 rfl _ _ rfl _ _ _ _ rfl rfl ?_;intro zf w5 U J I;have aX:=C6x J;have aH:=C6x (aQ.out.trans I);have aI:=C6x (Y.out.over I);clear U J I Y aG)
    |(go_at_call 95;refine(aT.out _ _ aH.out aX.out).mono ?_;rintro e w6 ⟨rfl,I⟩;have aK:=C6x (aH.out.trans I);have aA:=C6x (aI.out.over I);clear I aI)
    |fail)
   go_ret
   exact .inl ⟨.inl (by rw[aJ.out];exact HN.out),(by rw[aJ.out];rfl),aK.out⟩
 ·rw[if_neg h0]at HR
  have J:(ck !=0)=true:=by rw[bne_iff_ne];exact h0
  have HN:=C6x h0
  have aJ:=C6x HR.out
  obtain⟨o,ho⟩:∃o,o=E.o:=⟨_,rfl⟩
  rw[<-ho]at HM⊢
  clear h0 HL bF HR HS bG bD bA HF aT ho
  go_enter Tryz.func39,Tryz.ntmps39
  go_wp2_with (first
   |(refine C5 (t:=35) rfl _ rfl rfl ?_;intro z8 w1 U J I;have aE:=C6x (aD.out.trans I);have aU:=C6x (RnP.mk (aS.out.over I) J);have bT:=C6x (Nat.le_trans aD.out.size U);clear U J I)
   |(refine C5 (t:=35) rfl _ rfl rfl ?_;intro z6 w0 U J I;have aS:=C6x J;have aD:=C6x I;have bS:=C6x U;clear U J I)
   |(go_at_call 73;refine(HM.out _ aE.out).mono ?_;rintro e w2 ⟨rfl,rfl⟩)
   |(refine Y3 rfl _ _ rfl _ _ rfl rfl ?_;intro z3 w3 U J I;have aG:=C6x J;have aP:=C6x (aE.out.trans I);have aV:=C6x (aU.out.over I);clear U J I)
   |(go_at_call 79;refine(HC.out _ _ aG.out).mono ?_;rintro e w4 ⟨rfl,I⟩;have aQ:=C6x (aP.out.trans I);have Y:=C6x (aV.out.over I);clear I)
   |fail)
  go_ret
  exact .inl ⟨.inl (by rw[aJ.out];exact HN.out),(by rw[aJ.out];rfl),aQ.out⟩
end
end
section
open Go.RowKit Go.Maps
def B54(A:As)(d:Int×Int):Nat->Nat->List (Int×Int)->Int
 |0,_,_=>0
 |f+1,i,b=>
  match b[i]? with
  |none=>0
  |some y=>if y=d then 2 else if U7 A y.1 y.2 1=0 then B54 A d f (i+1) (b++A0l (lsA A y.1 y.2))else U7 A y.1 y.2 1
def B7l(A:As)(d:Int×Int)(x:En):Int:=if x.k=1 then B54 A d 40 0 [(x.i,x.g)]else 0
section
variable {w w':World} {E:Ev} {k:Nat} {A A':As}
theorem Rq.hold{H:Nat->List Nat}{M:Nat}(h:Rq H M A)(d:Int×Int):∀(f i:Nat) (b:List (Int×Int)),A14 H d f i b=B54 A d f i b
 |0,_,_=>rfl
 |f+1,i,b=>by
  unfold A14 B54
  cases hb:b[i]? with
  |none=>rfl
  |some y=>
   simp only
   rw[(h.ents y.1 y.2).1,(h.ents y.1 y.2).2,h.hold d f (i+1)]
theorem Rq.may{H:Nat->List Nat}{M:Nat}(h:Rq H M A)(d:Int×Int)(x:En):B3W H d x=B7l A d x:=by
 unfold B3W B7l
 rw[h.hold]
def A5J(A:As)(i2:Nat)(t:ByteArray)(x:En):Bool:=match Y5 (A.n i2).l t with|some y=>decide (y.k≠x.k)|none=>false
def A9m(A:As)(i2:Nat)(t:ByteArray):Bool:=match Y5 (A.n i2).l t with|some y=>decide ((A.n y.i.toNat).l.length≠0)|none=>false
open Classical in
noncomputable def A7J(A:As)(M:Nat)(i g:Int)(s:ByteArray)(i2 g2:Int)(t:ByteArray):As×Int:=
 if Nam s/\Nam t then
  if U7 A i g 1=0 then
   if U7 A i2 g2 1=0 then
    if fdE A i g s=0 then
     if i=i2/\s=t then(A,0)
     else if B7l A (i2,g2) (fdX A i g s)=0 then
      if A5J A i2.toNat t (fdX A i g s)=true then(A,12)
      else if A9m A i2.toNat t=true then(A,13)
      else if 24<(A8o A i.toNat i2.toNat s t (fdX A i g s)).length\/M<(Z3 A i.toNat i2.toNat s t (fdX A i g s) (Y5 (A.n i2.toNat).l t)).use+42\/(A.n i.toNat).v=1099511627775\/(A.n i2.toNat).v=1099511627775 then(A,8)
      else(Z3 A i.toNat i2.toNat s t (fdX A i g s) (Y5 (A.n i2.toNat).l t),0)
     else(A,B7l A (i2,g2) (fdX A i g s))
    else(A,fdE A i g s)
   else(A,U7 A i2 g2 1)
  else(A,U7 A i g 1)
 else(A,9)
theorem C1U{H:Nat->List Nat}{M:Nat}(h:Rq H M A)(i g i2 g2:Int):Y2 H [(i,g),(i2,g2)]=if U7 A i g 1=0 then(if U7 A i2 g2 1=0 then 0 else U7 A i2 g2 1)else U7 A i g 1:=by
 unfold Y2
 rw[h.ofk]
 by_cases I:U7 A i g 1=0
 ·rw[if_pos I,if_pos I]
  unfold Y2
  rw[h.ofk]
  by_cases J:U7 A i2 g2 1=0
  ·rw[if_pos J,if_pos J];rfl
  ·rw[if_neg J,if_neg J]
 ·rw[if_neg I,if_neg I]
theorem B55{i2:Nat}{t:ByteArray}{x:En}(h:∀y,Y5 (A.n i2).l t=some y->y.k=x.k/\(A.n y.i.toNat).l=[]):A5J A i2 t x=false/\A9m A i2 t=false:=by
 unfold A5J A9m
 cases hf:Y5 (A.n i2).l t with
 |none=>exact⟨rfl,rfl⟩
 |some y=>
  obtain⟨I,J⟩:=h y hf
  simp only
  exact⟨decide_eq_false (λe=>e I),decide_eq_false (λe=>e (by rw[J];rfl))⟩
theorem C3B{H:Nat->List Nat}{M:Nat}{i g i2 g2:Int}{s t:ByteArray}{x:En}(W:T4 A i g)(Y:T4 A i2 g2)(U:∀y,Y5 (A.n i2.toNat).l t=some y->y.i.toNat≠i.toNat/\y.i.toNat≠i2.toNat)
 (J:ChD H M (A27 H M i g s i2 g2 t x) (Z3 A i.toNat i2.toNat s t x (Y5 (A.n i2.toNat).l t))) (hl:(A8o A i.toNat i2.toNat s t x).length<=24):
 ¬(24<(A8o A i.toNat i2.toNat s t x).length\/M<(Z3 A i.toNat i2.toNat s t x (Y5 (A.n i2.toNat).l t)).use+42\/(A.n i.toNat).v=1099511627775\/(A.n i2.toNat).v=1099511627775):=by
 obtain⟨r1,r2⟩:=N8 W
 obtain⟨q1,q2⟩:=N8 Y
 obtain⟨I,Z⟩:∃I,I=Y5 (A.n i2.toNat).l t:=⟨_,rfl⟩
 rw[<-Z]at U J⊢
 have n1:(A.opt I).n i.toNat=A.n i.toNat:=A1i λy e=>(U y e).1
 have n2:(A.opt I).n i2.toNat=A.n i2.toNat:=A1i λy e=>(U y e).2
 have aA:=J.rp.ow.cnt
 have aB:=(J.rp.ok i.toNat r1 r2).v
 have aC:=(J.rp.ok i2.toNat q1 q2).v
 have h4:(Z3 A i.toNat i2.toNat s t x I).use=A0e (Z3 A i.toNat i2.toNat s t x I).R 40:=rfl
 have e1:((Z3 A i.toNat i2.toNat s t x I).n i.toNat).v=(A.n i.toNat).v+1/\((Z3 A i.toNat i2.toNat s t x I).n i2.toNat).v=(A.n i2.toNat).v+1:=by
  unfold Z3
  simp only
  rw[n1]
  by_cases e:i2.toNat=i.toNat
  ·rw[if_pos e,e,As.up_at,As.up_at,As.up_at]
   exact⟨rfl,rfl⟩
  ·rw[if_neg e]
   have V:i.toNat≠i2.toNat:=λq=>e q.symm
   refine⟨?_,?_⟩
   ·rw[As.up_ne _ _ V,As.up_at,As.up_ne _ _ V,As.up_at]
    rfl
   ·rw[As.up_at,As.up_ne _ _ e,As.up_at,As.up_ne _ _ e,n2]
    rfl
 rintro(y|y|y|y)<;>omega
theorem Sto.doneE{s:CS}{e:Int}(h:Sto w E k A)(hd:OdR w E (P8 E s) w')(U:s.e=e)(Y:e≠0)(Z:e≠7):Aft w E k A w'/\(P8 E s).2=e:=by
 obtain⟨F',V,I,J,h3⟩:=hd
 have aA:=h.lv.err
 have W:P8 E s=((E.s,E.g),e):=by
  unfold P8 B1U
  rw[if_neg (by rw[U];exact Y),U]
 rw[W]at I J h3⊢
 have hO:V=E.O:=J.none (.inr ⟨aA,Z⟩)
 rw[hO]at I h3
 exact⟨⟨_,⟨I,h.lv.put F',h.on,h.rq,h.tr⟩,⟨rfl,rfl,rfl,rfl,rfl⟩,h3⟩,rfl⟩
theorem Sto.rename(h:Sto w E k A)(hk:k<=127)(i g:Int)(s:ByteArray)(i2 g2:Int)(t:ByteArray)(hm:s.size<=maxLen/\t.size<=maxLen):
 Calls Tryz.prog 39 #[.pointer (some ⟨E.o,0,none⟩),.agg #[.int .i64 i,.int .i64 g],.string s,.agg #[.int .i64 i2,.int .i64 g2],.string t] w λr w'=>
  r= .returned (.int .i64 (A7J A E.M i g s i2 g2 t).2)/\Aft w E k (A7J A E.M i g s i2 g2 t).1 w':=by
 obtain⟨f1,f2⟩:=h.rq.find i g s
 have hE:A8r E.H i g s i2 g2 t=if Nam s/\Nam t then(if U7 A i g 1=0 then(if U7 A i2 g2 1=0 then(if fdE A i g s=0 then(if i=i2/\s=t then 0 else B7l A (i2,g2) (fdX A i g s))else fdE A i g s)else U7 A i2 g2 1)else U7 A i g 1)else 9:=by
  unfold A8r
  rw[C51,C1U h.rq,f1,f2,h.rq.may]
  by_cases hn:Nam s/\Nam t
  ·rw[if_pos hn,if_pos rfl,if_pos hn]
   by_cases U:U7 A i g 1=0
   ·rw[if_pos U,if_pos U]
    by_cases Z:U7 A i2 g2 1=0
    ·rw[if_pos Z,if_pos rfl,if_pos Z]
    ·simp only[if_neg Z]
   ·simp only[if_neg U]
  ·rw[if_neg hn,if_neg (by decide),if_neg hn]
 have aF:A8r E.H i g s i2 g2 t=0->¬(i=i2/\s=t)->(Nam s/\Nam t)/\U7 A i g 1=0/\U7 A i2 g2 1=0/\fdE A i g s=0/\B7l A (i2,g2) (fdX A i g s)=0:=λe aA=>by
  rw[hE]at e
  split at e
  ·rename_i a1
   split at e
   ·rename_i V
    split at e
    ·rename_i J
     split at e
     ·rename_i W
      exact⟨a1,V,J,W,e⟩
     ·rename_i W;exact absurd e W
    ·rename_i J;exact absurd e J
   ·rename_i V;exact absurd e V
  ·cases e
 have aB:fdE A i g s=0->okE (fdX A i g s)/\(A.n i.toNat).l≠[]:=λe=>by
  obtain⟨a1,V,J⟩:=B2z e
  obtain⟨r1,r2⟩:=N8 a1
  have hx:=(A00 J).1
  exact⟨(h.ok.okE r1 r2 hx).1,λq=>by rw[q]at hx;simp at hx⟩
 have aL:U7 A i2 g2 1=0->∀y,Y5 (A.n i2.toNat).l t=some y->T4 A y.i y.g/\(A.n y.i.toNat).k=y.k:=λe y hy=>by
  obtain⟨U,Z⟩:=Z7 e
  obtain⟨r1,r2⟩:=N8 U
  have hm:=(A00 hy).1
  exact⟨(h.ok.okE r1 r2 hm).2.2.2,(h.tr.ent _ _ r1 r2 hm).1⟩
 have aG:(Nam s/\Nam t)->U7 A i g 1=0->U7 A i2 g2 1=0->fdE A i g s=0->_:=λa1 V J W=>
  h.rq.ren (Z7 V).1 (Z7 V).2 (Z7 J).1 (Z7 J).2 s a1.2 (aB W).1 (aB W).2 (aL J)
 refine(B9N h.so h.rq.sw i g s i2 g2 t hm (λe aA=>?_)).mono λr w' hr=>?_
 ·obtain⟨a1,V,J,W,a5⟩:=aF e aA
  rw[f2]
  rcases aG a1 V J W with⟨I,_⟩|⟨I,_⟩|⟨I,_⟩|⟨I,_⟩
  ·exact h.lok (A':=Z3 A i.toNat i2.toNat s t (fdX A i g s) (Y5 (A.n i2.toNat).l t)) hk (.inl I)
  ·intro e0;rw[I]at e0;cases e0
  ·intro e0;rw[I]at e0;cases e0
  ·intro e0;rw[I]at e0;cases e0
 ·rw[f2]at hr
  rcases hr with⟨Y,e2,e3⟩|⟨Y,aA,e2,e3⟩
  ·have hv:A7J A E.M i g s i2 g2 t=(A,A8r E.H i g s i2 g2 t):=by
    rw[hE]at Y⊢
    unfold A7J
    by_cases hn:Nam s/\Nam t
    ·rw[if_pos hn]at Y⊢
     rw[if_pos hn]
     by_cases U:U7 A i g 1=0
     ·rw[if_pos U]at Y⊢
      rw[if_pos U]
      by_cases Z:U7 A i2 g2 1=0
      ·rw[if_pos Z]at Y⊢
       rw[if_pos Z]
       by_cases o3:fdE A i g s=0
       ·rw[if_pos o3]at Y⊢
        rw[if_pos o3]
        by_cases o4:i=i2/\s=t
        ·rw[if_pos o4,if_pos o4]
        ·rw[if_neg o4]at Y⊢
         rw[if_neg o4]
         rcases Y with Y|Y
         ·rw[if_neg Y]
         ·exact absurd Y o4
       ·rw[if_neg o3,if_neg o3]
      ·rw[if_neg Z,if_neg Z]
     ·rw[if_neg U,if_neg U]
    ·rw[if_neg hn,if_neg hn]
   rw[hv]
   exact⟨e2,h.aft e3⟩
  ·obtain⟨a1,V,J,W,a5⟩:=aF Y aA
   have hv:A7J A E.M i g s i2 g2 t=if A5J A i2.toNat t (fdX A i g s)=true then(A,12)
    else if A9m A i2.toNat t=true then(A,13)
    else if 24<(A8o A i.toNat i2.toNat s t (fdX A i g s)).length\/E.M<(Z3 A i.toNat i2.toNat s t (fdX A i g s) (Y5 (A.n i2.toNat).l t)).use+42\/(A.n i.toNat).v=1099511627775\/(A.n i2.toNat).v=1099511627775 then(A,8)
    else(Z3 A i.toNat i2.toNat s t (fdX A i g s) (Y5 (A.n i2.toNat).l t),0):=by
    unfold A7J
    rw[if_pos a1,if_pos V,if_pos J,if_pos W,if_neg aA,if_pos a5]
   obtain⟨U,aO⟩:=Z7 V
   obtain⟨Z,aP⟩:=Z7 J
   obtain⟨_,_,aI⟩:=B2z W
   rcases aG a1 V J W with⟨I,hy,hl⟩|⟨I,y,hy,aC⟩|⟨I,y,hy,aC,aM⟩|⟨I,hy,aJ⟩
   ·have aK:¬(i.toNat=i2.toNat/\s=t):=λq=>aA ⟨by have:=U.1;have:=Z.1;omega,q.2⟩
    obtain⟨b1,b2⟩:=h.done (A':=Z3 A i.toNat i2.toNat s t (fdX A i g s) (Y5 (A.n i2.toNat).l t)) hk e3 (.inl ⟨I,Tr.ren h.ok U Z aI aK (λy e=>(hy y e).2)⟩)
    obtain⟨aD,aE⟩:=B55 hy
    have aN:∀y,Y5 (A.n i2.toNat).l t=some y->y.i.toNat≠i.toNat/\y.i.toNat≠i2.toNat:=λy e=>by
     have h1:=(hy y e).2
     refine⟨λq=>?_,λq=>?_⟩
     ·rw[q]at h1;exact(aB W).2 h1
     ·rw[q]at h1
      have h2:=(A00 e).1
      rw[h1]at h2
      simp at h2
    rw[hv,aD,aE,if_neg (by decide),if_neg (by decide),if_neg (C3B U Z aN I hl)]
    exact⟨by rw[e2,b2,I.e],b1⟩
   ·obtain⟨b1,b2⟩:=h.doneE e3 I (by decide) (by decide)
    have hb:A5J A i2.toNat t (fdX A i g s)=true:=by unfold A5J;rw[hy];exact decide_eq_true aC
    rw[hv,if_pos hb]
    exact⟨by rw[e2,b2],b1⟩
   ·obtain⟨b1,b2⟩:=h.doneE e3 I (by decide) (by decide)
    have hb:A5J A i2.toNat t (fdX A i g s)=false:=by unfold A5J;rw[hy];exact decide_eq_false (λq=>q aC)
    have aH:A9m A i2.toNat t=true:=by unfold A9m;rw[hy];exact decide_eq_true (λq=>aM (List.eq_nil_of_length_eq_zero q))
    rw[hv,hb,if_neg (by decide),if_pos aH]
    exact⟨by rw[e2,b2],b1⟩
   ·obtain⟨b1,b2⟩:=h.doneE e3 I (by decide) (by decide)
    obtain⟨aD,aE⟩:=B55 hy
    rw[hv,aD,aE,if_neg (by decide),if_neg (by decide),if_pos aJ]
    exact⟨by rw[e2,b2],b1⟩
theorem Hs.rename{W:World}{Z:Nat->Prop}{d o n N:Nat}(h:Hs W w Z d o n N k A)(hk:k<=127)(i g:Int)(s:ByteArray)(i2 g2:Int)(t:ByteArray)(hm:s.size<=maxLen/\t.size<=maxLen):
 Calls Tryz.prog 39 #[.pointer (some ⟨o,0,none⟩),.agg #[.int .i64 i,.int .i64 g],.string s,.agg #[.int .i64 i2,.int .i64 g2],.string t] w λr w'=>r= .returned (.int .i64 (A7J A (N-2-n) i g s i2 g2 t).2)/\Hs W w' Z d o n N (k+3) (A7J A (N-2-n) i g s i2 g2 t).1/\R7 Z w w':=by
 obtain⟨E,Y,I,h3,J,U,h6⟩:=h.ex
 have:=Y.rename hk i g s i2 g2 t hm
 rw[Hs.M J U,I]at this
 exact this.mono λr w' V=>⟨V.1,h.of_aft ⟨I,h3,J,U⟩ h6 V.2⟩
end
end
end Go.Proofs.YtbefmjiclpobjaaGreat
