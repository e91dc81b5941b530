import Derived.Test.YtbefmjiclpobjaaGreatMj21
import Derived.Shelf.SlMaps.Clone
import Derived.Maps.RangeWalk
namespace Go.Proofs.YtbefmjiclpobjaaGreat
set_option maxHeartbeats 6400000
set_option maxRecDepth 3000
section
open Go.RowKit
def A3f(H:Nat->List Nat)(j:Nat):Prop:=(C9 H (1+j)).k=0/\(C9 H (1+j)).g<2147483647
instance (H:Nat->List Nat) (j:Nat):Decidable (A3f H j):=by unfold A3f;exact inferInstance
def addO(H:Nat->List Nat):Option Nat:=(List.range 40).find? (λj=>decide (A3f H j))
def mkI(I g:Int):L6:=⟨I,g+1,1,λ_=>0⟩
def CS.add(s:CS)(I:Int):CS:=match addO s.H with|some j=>s.set (1+j) (mkI I (C9 s.H (1+j)).g)|none=>s.note 8
def addF(H:Nat->List Nat):Int×Int:=match addO H with|some j=>(((1+j:Nat):Int),(C9 H (1+j)).g+1)|none=>(0,0)
theorem A8R{H:Nat->List Nat}{j:Nat}(J:j<40)(I:A3f H j)(U:∀i,i<j->¬A3f H i):addO H=some j:=by
 unfold addO
 rw[List.find?_range_eq_some]
 exact⟨by simpa using I,by simpa using J,λi hi=>by simpa using U i hi⟩
theorem B6N{H:Nat->List Nat}(I:∀i,i<40->¬A3f H i):addO H=none:=by
 unfold addO
 rw[List.find?_eq_none]
 intro i hi
 simpa using I i (List.mem_range.1 hi)
theorem A8S(I g:Int):Tryz.prog.built 62 [(0,.int .i64 I),(1,.int .i64 g),(2,.int .u64 1)]=some (ic ⟨I,g,1,λ_=>0⟩):=by kernel_rfl
theorem A3s{ops:Array Oper}{rest:List Oper}{o:Oper}{a:Act}{w:World}{Q:Exit->Act->World->Prop}(J:o.guard=none)(x y z:Operand)(U:o.op= .build 62 #[(0,x),(1,y),(2,z)])(I g:Int)(V:a.eval x= .int .i64 I)(W:a.eval y= .int .i64 g)(X:a.eval z= .int .u64 1)
 (h:wpList Tryz.prog ops Q rest (a.put o.dst (.agg (ic ⟨I,g,1,λ_=>0⟩))) w):wpList Tryz.prog ops Q (o::rest) a w:=by
 have e:((#[(0,x),(1,y),(2,z)]:Array (Nat×Operand)).map λ(i,x)=>(i,a.eval x)).toList=[(0,.int .i64 I),(1,.int .i64 g),(2,.int .u64 1)]:=by simp[V,W,X]
 refine wpList_build J 62 _ U (by rw[e,A8S I g];rfl) ?_
 rw[e,A8S I g]
 exact h
theorem B4X(i:Int):Tryz.prog.built 35 [(0,.int .i64 i)]=some #[.int .i64 i,.int .i64 0]:=by kernel_rfl
theorem B1E:Tryz.prog.built 35 []=some #[.int .i64 0,.int .i64 0]:=by kernel_rfl
theorem B1F{ops:Array Oper}{rest:List Oper}{o:Oper}{a:Act}{w:World}{Q:Exit->Act->World->Prop}(I:o.guard=none)(x:Operand)(J:o.op= .build 35 #[(0,x)])(i:Int)(U:a.eval x= .int .i64 i)
 (h:wpList Tryz.prog ops Q rest (a.put o.dst (.agg #[.int .i64 i,.int .i64 0])) w):wpList Tryz.prog ops Q (o::rest) a w:=by
 have e:((#[(0,x)]:Array (Nat×Operand)).map λ(i,x)=>(i,a.eval x)).toList=[(0,.int .i64 i)]:=by simp[U]
 refine wpList_build I 35 _ J (by rw[e,B4X i];rfl) ?_
 rw[e,B4X i]
 exact h
theorem U4{ops:Array Oper}{rest:List Oper}{o:Oper}{a:Act}{w:World}{Q:Exit->Act->World->Prop}(I:o.guard=none)(J:o.op= .build 35 #[])
 (h:wpList Tryz.prog ops Q rest (a.put o.dst (.agg #[.int .i64 0,.int .i64 0])) w):wpList Tryz.prog ops Q (o::rest) a w:=by
 refine wpList_build I 35 #[] J (by simp[B1E]) ?_
 simpa[B1E]using h
def C5u(w:World)(E:Ev)(c m:Nat)(s:CS)(I:Nat)(t9:Value)(wr:World):Prop:=∃j:Nat,t9= .int .i64 (j:Int)/\j<=40/\(∀i,i<j->¬A3f s.H i)/\Cs wr E c m s/\C3 wr I 35 #[.int .i64 0,.int .i64 0]/\B0 (CF c m) w (CF c m) wr
theorem B9d(l:List Nat):WfI (dI l):=by
 unfold dI
 cases hq:A1e l with
 |none=>exact⟨by decide,by decide,by decide,λj _=>by show -9223372036854775808<=(0:Int)/\(0:Int)<9223372036854775808;decide⟩
 |some y=>
  have:y=prt (byN l):=by
   unfold A1e at hq
   split at hq
   ·exact(Option.some.inj hq).symm
   ·cases hq
  show WfI y
  rw[this]
  exact B3l _
section
variable {w w':World} {E:Ev} {c m:Nat} {s:CS}
theorem C4H(h:Cs w E c m s)(hs:Sw s.H E.M)(kd:Int)(dD:kd=1\/kd=2):
 Calls Tryz.prog 91 #[.pointer (some ⟨c,0,none⟩),.int .i64 kd] w λr w'=>r= .returned (.agg #[.int .i64 (addF s.H).1,.int .i64 (addF s.H).2])/\Cs w' E c m (s.add kd)/\B0 (CF c m) w (CF c m) w':=by
 have HC:=C6x h
 have dL:=C6x (λV (k:Cs V E c m s) (i:Nat) (h1:1<=i) (h2:i<=40)=>B4N k.rdv hs.sd i h1 h2)
 have HM:=C6x hs.sd.hM
 have cZ:=C6x dD
 have aB:=C6x (λ(d:Nat) (hd:w.heap.size<=d)=>h.apart (G:=J0 d) (λk J=>by unfold J0 at J;omega))
 have dC:M8 s.e 0=s.e:=by unfold M8;split<;>simp_all
 have dA:=C6x (λ(W:World) (a:Cs W E c m s)=>show Calls Tryz.prog 101 #[.pointer (some ⟨c,0,none⟩),.int .i64 0] W λr w'=>r= .returned (.tuple #[])/\Cs w' E c m s/\B0 (CF c m) W (CF c m) w' by have:=T6 a 0;rwa[dC]at this)
 obtain⟨bV,cU⟩:∃bV,bV=s.add kd:=⟨_,rfl⟩
 obtain⟨f1,cQ⟩:∃f1,f1=(addF s.H).1:=⟨_,rfl⟩
 obtain⟨f2,cR⟩:∃f2,f2=(addF s.H).2:=⟨_,rfl⟩
 rw[<-cU,<-cQ,<-cR]
 have aU:=C6x (And.intro cU (And.intro cQ cR))
 clear h hs dD dC cU cQ cR
 go_enter Tryz.func91,Tryz.ntmps91
 go_wp2_with (first
  |(refine B9 rfl rfl P1 ?_;intro Z w2 hz hb I;have aG:=C6x hz;have dG:=C6x hb;have cX:=C6x I;clear hz hb I)
  |fail)
 go_loopw [9] (C5u w E c m s Z) (λt _=>40-(intOf t).toNat)
 case atStart=>exact⟨0,rfl,by omega,λi hi=>absurd hi (by omega),HC.out.step cX.out,dG.out,cX.out.same (λ_ x=>x.elim)⟩
 case round=>
  obtain⟨j,rfl,hj,bZ,hc,cA,I⟩:=hrel
  have bA:=C6x bZ
  by_cases cT:j<40
  ·have aN:=C6x cT
   have dP:(j:Int)<40:=by omega
   obtain⟨q,hq⟩:∃q,q=1+j:=⟨_,rfl⟩
   have hw:IntKind.i64.wrap (1+(j:Int))=(q:Int):=by rw[IntKind.wrap_i64];omega
   have cM:=C6x (λV (k:Cs V E c m s)=>dL.out V k q (by omega) (by omega))
   obtain⟨X,hX⟩:∃X,X=C9 s.H q:=⟨_,rfl⟩
   rw[<-hX]at cM
   unfold A8f at cM
   have HQ:=C6x hq
   have HX:=C6x hX
   have bY:=C6x (show WfI X by rw[hX];exact B9d _)
   have dK:=C6x hc
   have bP:=C6x cA
   have bX:=C6x I
   have aO:=C6x dA.out
   clear bZ hc cA I cT hq hX hj
   go_upto_region 5 with(first
    |(refine B1F rfl _ rfl (q:Int) rfl ?_)
    |(refine B9 rfl rfl P1 ?_;intro U w4 hz hb I;have cP:=C6x hz;have dJ:=C6x hb;have dF:=C6x I;clear hz hb I)
    |(refine B7 rfl _ _ rfl U dJ.out rfl rfl B1 rfl rfl (X7 _ _) ?_;intro W hb I;have cF:=C6x hb;have cE:=C6x (dF.out.fresh cP.out I);clear hb I)
    |fail)
   have cK:=C6x (dK.out.step cE.out)
   have cW:=C6x (bP.out.over cE.out)
   have aV:=C6x (bX.out.over cE.out)
   have aP:=C6x (Nat.le_trans bX.out.size cP.out)
   have dB:=C6x (show Z≠U fromλe=>by have:=bP.out.lt;have:=cP.out;omega)
   have cY:=C6x (λV (a:B0 B5 W B5 V)=>cM.out V (cK.out.step a))
   have bJ:=C6x (show B0 B5 W B5 W.drew from(B0.refl _ _).drew)
   have aS:=C6x (show∀V,B0 B5 W B5 V->V.cell? ⟨U,0,none⟩=some (.int .i64 (q:Int))fromλV a=>(cF.out.over a).cell 0)
   have aT:=C6x (aS.out _ bJ.out)
   refine D6 (S:=(λw'=>w'.cell? ⟨U,0,none⟩=some (.int .i64 (q:Int)))) (by with_reducible first|exact aY.out|exact aX.out|exact aW.out|exact aT.out) (λhH=>?_)
   refine C6y 0 rfl ?_
   refine C6y 1 rfl ?_
   refine C6y 2 rfl ?_
   refine C6y 3 rfl ?_
   refine C6y 4 rfl ?_
   refine C63 5 9 rfl rfl (λK hK=>?_) (λK hK=>?_)
   ·go_simp
    refine(cY.out _ bJ.out).mono ?_
    rintro r w5 ⟨rfl,a5⟩
    have bG:=C6x (bJ.out.trans a5)
    have aW:=C6x (aS.out _ bG.out)
    clear a5
    go_wp2_with fail
    refine C60 hK (by with_reducible first|exact aY.out|exact aX.out|exact aW.out|exact aT.out) ?_
    clear hK K hH
    intro hH
    try simp only[Act.put,sA,sB,sC]
    refine C6y 6 rfl ?_
    refine C6y 7 rfl ?_
    refine C6y 8 rfl ?_
    refine C6z 9 rfl (λK hK=>?_)
    refine T2 rfl rfl C6 (λY w8 hz hb I=>?_)
    have bR:=C6x (Nat.le_trans bG.out.size hz)
    have cG:=C6x (hb)
    have bH:=C6x (bG.out.trans I)
    have aX:=C6x (aS.out _ bH.out)
    clear hz hb I
    refine C60 hK (by with_reducible first|exact aY.out|exact aX.out|exact aW.out|exact aT.out) ?_
    clear hK K hH
    intro hH
    try simp only[Act.put,sA,sB,sC]
    refine C6z 10 rfl (λK hK=>?_)
    refine T3 rfl _ _ rfl Y cG.out rfl rfl C0 (C2 _) (C2 _) (D5 _) (λw9 hb I=>?_)
    have aK:=C6x (hb)
    have aE:=C6x (bH.out.fresh bR.out I)
    have aY:=C6x (aS.out _ aE.out)
    clear hb I
    refine C60 hK (by with_reducible first|exact aY.out|exact aX.out|exact aW.out|exact aT.out) ?_
    clear hK K hH
    intro hH
    try simp only[Act.put]
    refine C6y 11 rfl ?_
    refine wpAnyH_done (by kernel_rfl) ?_ _
    have aM:=C6x (cF.out.over aE.out)
    have bB:=C6x (cK.out.step aE.out)
    have aI:=C6x (cW.out.over aE.out)
    have bD:=C6x (Nat.le_trans aV.out.size bR.out)
    clear aT aS
    by_cases hP:X.k=0/\X.g<2147483647
    ·obtain⟨aC,hg⟩:=hP
     have aZ:=A8R aN.out (by unfold A3f;rw[<-HQ.out,<-HX.out];exact⟨aC,hg⟩) bA.out
     have aF:=C6x (show bV=s.set q (mkI kd X.g)/\f1=(q:Int)/\f2=X.g+1 by
      rw[aU.out.1,aU.out.2.1,aU.out.2.2]
      unfold CS.add addF
      rw[aZ]
      simp only
      rw[<-HQ.out,<-HX.out]
      exact⟨rfl,rfl,rfl⟩)
     have cV:IntKind.i64.wrap (X.g+1)=X.g+1:=by have:=bY.out.g;rw[IntKind.wrap_i64];omega
     have bU:WfI (mkI kd X.g):=⟨by show -9223372036854775808<=kd/\kd<_;have:=cZ.out;omega,by show -9223372036854775808<=X.g+1/\X.g+1<_;have:=bY.out.g;omega,by show 1<18446744073709551616;decide,λj _=>by show -9223372036854775808<=(0:Int)/\(0:Int)<9223372036854775808;decide⟩
     have bC:=C6x (λV (k:Cs V E c m s)=>show Calls Tryz.prog 104 #[.pointer (some ⟨c,0,none⟩),.int .i64 (q:Int),.agg (ic (mkI kd X.g))] V λr w'=>r= .returned (.tuple #[])/\Cs w' E c m (s.set q (mkI kd X.g))/\B0 (CF c m) V (CF c m) w' from A7s k q (by have:=HQ.out;have:=aN.out;omega) (mkI kd X.g) bU (by have:=HM.out;omega))
     obtain⟨s3,bT⟩:∃s3,s3=s.set q (mkI kd X.g):=⟨_,rfl⟩
     rw[<-bT]at bC aF
     obtain⟨xg,bF⟩:∃xg,xg=X.g:=⟨_,rfl⟩
     rw[<-bF]at cV hg bC aF
     have cO:=C6x bF
     have bS:(X.k==0)=true:=by rw[aC];rfl
     clear aZ bU bT aC bA bF
     go_wp2_with (first
     |(go_at_call 101;refine(aO.out _ bB.out).mono ?_;rintro r aA ⟨rfl,hc,I⟩;have aL:=C6x hc;have aJ:=C6x ((aE.out.same (G:=CF c m) (λ_ x=>x.elim)).trans I);have aD:=C6x (aK.out.keep (I.block Y aK.out.lt (λJ=>aB.out Y bD.out Y J rfl)));have aQ:=C6x (aM.out.keep (I.block U aM.out.lt (λJ=>aB.out U aP.out U J rfl)));have aH:=C6x (aI.out.keep (I.block Z aI.out.lt (λJ=>aB.out Z aG.out Z J rfl)));have d0:aA.cell? ⟨Y,0,none⟩=some (.int .i64 X.k):=aD.out.cell 0;have d1:aA.cell? ⟨Y,1,none⟩=some (.int .i64 X.g):=aD.out.cell 1;rw[<-cO.out]at d1;have f1:=aQ.out.frozen 1;have d2:aA.cell? ⟨U,1,none⟩=some (.int .i64 0):=aQ.out.cell 1;have sc:=B0.setCell (F:=J0 U) (F':=J0 U) (p:=⟨U,1,none⟩) (B0.refl _ aA) (.inl rfl) (.int .i64 (xg+1));have aR:=C6x (show C3 (aA.setCell ⟨U,1,none⟩ (.int .i64 (xg+1))) U 35 #[.int .i64 (q:Int),.int .i64 (xg+1)]from aQ.out.set_ 1 _);have cH:=C6x (HC.out.fresh aL.out aP.out sc);have cC:=C6x ((aV.out.trans aJ.out).freshG aP.out sc);have bI:=C6x (aH.out.far1 sc dB.out);have d3:=aR.out.cell 0;have d4:=aR.out.cell 1;simp only[List.getElem?_toArray,List.getElem?_cons_zero,List.getElem?_cons_succ]at d3 d4;clear sc;clear hc I aO)
     |(refine A3s rfl _ _ _ rfl kd (xg+1) rfl rfl rfl ?_)
     |(go_at_call 104;refine(bC.out _ cH.out).mono ?_;rintro r dO ⟨rfl,hc,I⟩;have cJ:=C6x hc;have cD:=C6x (cC.out.trans I);have cL:=C6x (aR.out.keep (I.block U aR.out.lt (λJ=>aB.out U aP.out U J rfl)));have cB:=C6x (bI.out.keep (I.block Z bI.out.lt (λJ=>aB.out Z aG.out Z J rfl)));clear hc I)
     |(refine B6 (t:=35) rfl _ rfl U cL.out rfl Tryz.underlying35 rfl B1 rfl ?_)
     |(refine B7 rfl _ _ rfl Z cB.out rfl rfl B1 rfl rfl (X7 _ _) ?_;intro dE hb I;have bM:=C6x hb;have bO:=C6x (HC.out.fresh cJ.out aG.out I);have bK:=C6x (cD.out.freshG aG.out I);clear hb I)
     |fail)
     exact bodyPost_ret (A3r rfl _ _ rfl bM.out Tryz.underlying35 rfl (by rw[B1];rfl)) rfl ⟨by rw[aF.out.2.1,aF.out.2.2],by rw[aF.out.1];exact bO.out,bK.out⟩
    ·have cN:=C6x hP
     have bQ:=C6x (show∀i,i<j+1->¬A3f s.H i fromλi hi=>by
      rcases Nat.lt_or_ge i j with h1|h1
      ·exact bA.out i h1
      ·obtain rfl:i=j:=by omega
       unfold A3f
       rw[<-HQ.out,<-HX.out]
       exact cN.out)
     by_cases aC:X.k=0
     ·have hg:¬X.g<2147483647:=λx=>hP ⟨aC,x⟩
      have bS:(X.k==0)=true:=by rw[aC];rfl
      have dM:=C6x aC
      clear hP aC
      go_wp2_with (first
      |(go_at_call 101;refine(aO.out _ bB.out).mono ?_;rintro r aA ⟨rfl,hc,I⟩;have aL:=C6x hc;have aJ:=C6x ((aE.out.same (G:=CF c m) (λ_ x=>x.elim)).trans I);have aD:=C6x (aK.out.keep (I.block Y aK.out.lt (λJ=>aB.out Y bD.out Y J rfl)));have aQ:=C6x (aM.out.keep (I.block U aM.out.lt (λJ=>aB.out U aP.out U J rfl)));have aH:=C6x (aI.out.keep (I.block Z aI.out.lt (λJ=>aB.out Z aG.out Z J rfl)));have d0:aA.cell? ⟨Y,0,none⟩=some (.int .i64 X.k):=aD.out.cell 0;have d1:aA.cell? ⟨Y,1,none⟩=some (.int .i64 X.g):=aD.out.cell 1;clear hc I aO)
       |fail)
      exact⟨⟨j+1,by simp,aN.out,bQ.out,aL.out,aH.out,aV.out.trans aJ.out⟩,by have:=aN.out;simp[intOf]<;>omega⟩
     ·have bS:(X.k==0)=false:=by rw[beq_eq_false_iff_ne];exact aC
      clear hP aC
      go_wp2_with (first
      |(go_at_call 101;refine(aO.out _ bB.out).mono ?_;rintro r aA ⟨rfl,hc,I⟩;have aL:=C6x hc;have aJ:=C6x ((aE.out.same (G:=CF c m) (λ_ x=>x.elim)).trans I);have aD:=C6x (aK.out.keep (I.block Y aK.out.lt (λJ=>aB.out Y bD.out Y J rfl)));have aQ:=C6x (aM.out.keep (I.block U aM.out.lt (λJ=>aB.out U aP.out U J rfl)));have aH:=C6x (aI.out.keep (I.block Z aI.out.lt (λJ=>aB.out Z aG.out Z J rfl)));have d0:aA.cell? ⟨Y,0,none⟩=some (.int .i64 X.k):=aD.out.cell 0;have d1:aA.cell? ⟨Y,1,none⟩=some (.int .i64 X.g):=aD.out.cell 1;clear hc I aO)
       |fail)
      exact⟨⟨j+1,by simp,aN.out,bQ.out,aL.out,aH.out,aV.out.trans aJ.out⟩,by have:=aN.out;simp[intOf]<;>omega⟩
   ·refine T2 rfl rfl C6 (λY w8 hz hb I=>?_)
    have bR:=C6x (Nat.le_trans bJ.out.size hz)
    have cG:=C6x (hb)
    have bH:=C6x (bJ.out.trans I)
    have aX:=C6x (aS.out _ bH.out)
    clear hz hb I
    refine C60 hK (by with_reducible first|exact aY.out|exact aX.out|exact aW.out|exact aT.out) ?_
    clear hK K hH
    intro hH
    try simp only[Act.put,sA,sB,sC]
    refine C6z 5 rfl (λK hK=>?_)
    go_simp
    refine(cY.out _ bH.out).mono ?_
    rintro r w5 ⟨rfl,a5⟩
    have bG:=C6x (bH.out.trans a5)
    have dH:=C6x (cG.out.over a5)
    have aW:=C6x (aS.out _ bG.out)
    clear a5
    go_wp2_with fail
    refine C60 hK (by with_reducible first|exact aY.out|exact aX.out|exact aW.out|exact aT.out) ?_
    clear hK K hH
    intro hH
    try simp only[Act.put,sA,sB,sC]
    refine C6y 6 rfl ?_
    refine C6y 7 rfl ?_
    refine C6y 8 rfl ?_
    refine C6z 10 rfl (λK hK=>?_)
    refine T3 rfl _ _ rfl Y dH.out rfl rfl C0 (C2 _) (C2 _) (D5 _) (λw9 hb I=>?_)
    have aK:=C6x (hb)
    have aE:=C6x (bG.out.fresh bR.out I)
    have aY:=C6x (aS.out _ aE.out)
    clear hb I
    refine C60 hK (by with_reducible first|exact aY.out|exact aX.out|exact aW.out|exact aT.out) ?_
    clear hK K hH
    intro hH
    try simp only[Act.put]
    refine C6y 11 rfl ?_
    refine wpAnyH_done (by kernel_rfl) ?_ _
    have aM:=C6x (cF.out.over aE.out)
    have bB:=C6x (cK.out.step aE.out)
    have aI:=C6x (cW.out.over aE.out)
    have bD:=C6x (Nat.le_trans aV.out.size bR.out)
    clear aT aS
    by_cases hP:X.k=0/\X.g<2147483647
    ·obtain⟨aC,hg⟩:=hP
     have aZ:=A8R aN.out (by unfold A3f;rw[<-HQ.out,<-HX.out];exact⟨aC,hg⟩) bA.out
     have aF:=C6x (show bV=s.set q (mkI kd X.g)/\f1=(q:Int)/\f2=X.g+1 by
      rw[aU.out.1,aU.out.2.1,aU.out.2.2]
      unfold CS.add addF
      rw[aZ]
      simp only
      rw[<-HQ.out,<-HX.out]
      exact⟨rfl,rfl,rfl⟩)
     have cV:IntKind.i64.wrap (X.g+1)=X.g+1:=by have:=bY.out.g;rw[IntKind.wrap_i64];omega
     have bU:WfI (mkI kd X.g):=⟨by show -9223372036854775808<=kd/\kd<_;have:=cZ.out;omega,by show -9223372036854775808<=X.g+1/\X.g+1<_;have:=bY.out.g;omega,by show 1<18446744073709551616;decide,λj _=>by show -9223372036854775808<=(0:Int)/\(0:Int)<9223372036854775808;decide⟩
     have bC:=C6x (λV (k:Cs V E c m s)=>show Calls Tryz.prog 104 #[.pointer (some ⟨c,0,none⟩),.int .i64 (q:Int),.agg (ic (mkI kd X.g))] V λr w'=>r= .returned (.tuple #[])/\Cs w' E c m (s.set q (mkI kd X.g))/\B0 (CF c m) V (CF c m) w' from A7s k q (by have:=HQ.out;have:=aN.out;omega) (mkI kd X.g) bU (by have:=HM.out;omega))
     obtain⟨s3,bT⟩:∃s3,s3=s.set q (mkI kd X.g):=⟨_,rfl⟩
     rw[<-bT]at bC aF
     obtain⟨xg,bF⟩:∃xg,xg=X.g:=⟨_,rfl⟩
     rw[<-bF]at cV hg bC aF
     have cO:=C6x bF
     have bS:(X.k==0)=true:=by rw[aC];rfl
     clear aZ bU bT aC bA bF
     go_wp2_with (first
     |(go_at_call 101;refine(aO.out _ bB.out).mono ?_;rintro r aA ⟨rfl,hc,I⟩;have aL:=C6x hc;have aJ:=C6x ((aE.out.same (G:=CF c m) (λ_ x=>x.elim)).trans I);have aD:=C6x (aK.out.keep (I.block Y aK.out.lt (λJ=>aB.out Y bD.out Y J rfl)));have aQ:=C6x (aM.out.keep (I.block U aM.out.lt (λJ=>aB.out U aP.out U J rfl)));have aH:=C6x (aI.out.keep (I.block Z aI.out.lt (λJ=>aB.out Z aG.out Z J rfl)));have d0:aA.cell? ⟨Y,0,none⟩=some (.int .i64 X.k):=aD.out.cell 0;have d1:aA.cell? ⟨Y,1,none⟩=some (.int .i64 X.g):=aD.out.cell 1;rw[<-cO.out]at d1;have f1:=aQ.out.frozen 1;have d2:aA.cell? ⟨U,1,none⟩=some (.int .i64 0):=aQ.out.cell 1;have sc:=B0.setCell (F:=J0 U) (F':=J0 U) (p:=⟨U,1,none⟩) (B0.refl _ aA) (.inl rfl) (.int .i64 (xg+1));have aR:=C6x (show C3 (aA.setCell ⟨U,1,none⟩ (.int .i64 (xg+1))) U 35 #[.int .i64 (q:Int),.int .i64 (xg+1)]from aQ.out.set_ 1 _);have cH:=C6x (HC.out.fresh aL.out aP.out sc);have cC:=C6x ((aV.out.trans aJ.out).freshG aP.out sc);have bI:=C6x (aH.out.far1 sc dB.out);have d3:=aR.out.cell 0;have d4:=aR.out.cell 1;simp only[List.getElem?_toArray,List.getElem?_cons_zero,List.getElem?_cons_succ]at d3 d4;clear sc;clear hc I aO)
     |(refine A3s rfl _ _ _ rfl kd (xg+1) rfl rfl rfl ?_)
     |(go_at_call 104;refine(bC.out _ cH.out).mono ?_;rintro r dO ⟨rfl,hc,I⟩;have cJ:=C6x hc;have cD:=C6x (cC.out.trans I);have cL:=C6x (aR.out.keep (I.block U aR.out.lt (λJ=>aB.out U aP.out U J rfl)));have cB:=C6x (bI.out.keep (I.block Z bI.out.lt (λJ=>aB.out Z aG.out Z J rfl)));clear hc I)
     |(refine B6 (t:=35) rfl _ rfl U cL.out rfl Tryz.underlying35 rfl B1 rfl ?_)
     |(refine B7 rfl _ _ rfl Z cB.out rfl rfl B1 rfl rfl (X7 _ _) ?_;intro dE hb I;have bM:=C6x hb;have bO:=C6x (HC.out.fresh cJ.out aG.out I);have bK:=C6x (cD.out.freshG aG.out I);clear hb I)
     |fail)
     exact bodyPost_ret (A3r rfl _ _ rfl bM.out Tryz.underlying35 rfl (by rw[B1];rfl)) rfl ⟨by rw[aF.out.2.1,aF.out.2.2],by rw[aF.out.1];exact bO.out,bK.out⟩
    ·have cN:=C6x hP
     have bQ:=C6x (show∀i,i<j+1->¬A3f s.H i fromλi hi=>by
      rcases Nat.lt_or_ge i j with h1|h1
      ·exact bA.out i h1
      ·obtain rfl:i=j:=by omega
       unfold A3f
       rw[<-HQ.out,<-HX.out]
       exact cN.out)
     by_cases aC:X.k=0
     ·have hg:¬X.g<2147483647:=λx=>hP ⟨aC,x⟩
      have bS:(X.k==0)=true:=by rw[aC];rfl
      have dM:=C6x aC
      clear hP aC
      go_wp2_with (first
      |(go_at_call 101;refine(aO.out _ bB.out).mono ?_;rintro r aA ⟨rfl,hc,I⟩;have aL:=C6x hc;have aJ:=C6x ((aE.out.same (G:=CF c m) (λ_ x=>x.elim)).trans I);have aD:=C6x (aK.out.keep (I.block Y aK.out.lt (λJ=>aB.out Y bD.out Y J rfl)));have aQ:=C6x (aM.out.keep (I.block U aM.out.lt (λJ=>aB.out U aP.out U J rfl)));have aH:=C6x (aI.out.keep (I.block Z aI.out.lt (λJ=>aB.out Z aG.out Z J rfl)));have d0:aA.cell? ⟨Y,0,none⟩=some (.int .i64 X.k):=aD.out.cell 0;have d1:aA.cell? ⟨Y,1,none⟩=some (.int .i64 X.g):=aD.out.cell 1;clear hc I aO)
       |fail)
      exact⟨⟨j+1,by simp,aN.out,bQ.out,aL.out,aH.out,aV.out.trans aJ.out⟩,by have:=aN.out;simp[intOf]<;>omega⟩
     ·have bS:(X.k==0)=false:=by rw[beq_eq_false_iff_ne];exact aC
      clear hP aC
      go_wp2_with (first
      |(go_at_call 101;refine(aO.out _ bB.out).mono ?_;rintro r aA ⟨rfl,hc,I⟩;have aL:=C6x hc;have aJ:=C6x ((aE.out.same (G:=CF c m) (λ_ x=>x.elim)).trans I);have aD:=C6x (aK.out.keep (I.block Y aK.out.lt (λJ=>aB.out Y bD.out Y J rfl)));have aQ:=C6x (aM.out.keep (I.block U aM.out.lt (λJ=>aB.out U aP.out U J rfl)));have aH:=C6x (aI.out.keep (I.block Z aI.out.lt (λJ=>aB.out Z aG.out Z J rfl)));have d0:aA.cell? ⟨Y,0,none⟩=some (.int .i64 X.k):=aD.out.cell 0;have d1:aA.cell? ⟨Y,1,none⟩=some (.int .i64 X.g):=aD.out.cell 1;clear hc I aO)
       |fail)
      exact⟨⟨j+1,by simp,aN.out,bQ.out,aL.out,aH.out,aV.out.trans aJ.out⟩,by have:=aN.out;simp[intOf]<;>omega⟩
  ·obtain rfl:j=40:=by omega
   have aZ:=B6N bZ
   have aF:=C6x (show bV=s.note 8/\f1=0/\f2=0 by rw[aU.out.1,aU.out.2.1,aU.out.2.2];unfold CS.add addF;rw[aZ];exact⟨rfl,rfl,rfl⟩)
   have dN:=C6x (T6 hc 8)
   have bP:=C6x cA
   have bX:=C6x I
   clear bZ hc cA I cT hj aZ bA dA
   go_wp2_with (first
    |(go_at_call 101;refine dN.out.mono ?_;rintro r aA ⟨rfl,hc,I⟩;have aL:=C6x hc;have aJ:=C6x (bX.out.trans I);have aH:=C6x (bP.out.keep (I.block Z bP.out.lt (λJ=>aB.out Z aG.out Z J rfl)));clear hc I)
    |(refine U4 rfl rfl ?_)
    |(refine B7 rfl _ _ rfl Z aH.out rfl rfl B1 rfl rfl (X7 _ _) ?_;intro dE hb I;have bM:=C6x hb;have bO:=C6x (HC.out.fresh aL.out aG.out I);have bK:=C6x (aJ.out.freshG aG.out I);clear hb I)
    |fail)
   exact bodyPost_ret (A3r rfl _ _ rfl bM.out Tryz.underlying35 rfl (by rw[B1];rfl)) rfl ⟨by rw[aF.out.2.1,aF.out.2.2],by rw[aF.out.1];exact bO.out,bK.out⟩
end
end
section
open Go.RowKit Go.Maps
theorem C1s(b:Nat)(J:Array MapEntry)(I:Nat)(w:World)(U:w.heap[b]? =some (.map J I)):Calls Tryz.prog 100 #[.map (some b)] w λe w'=>e= .returned (.map (some w.heap.size))/\w'=w.alloc (.map J I):=by
 have V:=λw=>run_eql_map_nil_sl (P:=Tryz.prog) w 86 _ _ (some b) Tryz.underlying86
 go_enter Tryz.func100,Tryz.ntmps100
 go_wp2
 rw[run_callFunc_extern Tryz.func146 (by kernel_rfl) (by kernel_rfl) (by kernel_rfl) (e:=Extern.MapsClone.clone) (by kernel_rfl),run_maps_clone_sl w 86 U]
 simp only[Result.andThen]
 rw[Oper.upon_value]
 go_wp2
 rw[run_typeAssert_map_sl _ 86 _ _ _ _ Tryz.underlying86]
 simp only[Result.andThen]
 rw[Oper.upon_value]
 go_wp2
 go_ret
 exact⟨rfl,rfl⟩
theorem B9e{w:World}{b N:Nat}{A:Nat->Option (List Nat)}(h:Mp w b N A):Calls Tryz.prog 100 #[.map (some b)] w λe w'=>∃m,e= .returned (.map (some m))/\Mp w' m N A/\w.heap.size<=m/\B0 B5 w B5 w':=by
 obtain⟨D,⟨J,I,V,hF⟩,U⟩:=h
 refine(C1s b J I w V).mono ?_
 rintro e w' ⟨rfl,rfl⟩
 exact⟨_,rfl,⟨D,⟨J,I,heap_alloc_new w _,hF⟩,U⟩,Nat.le_refl _,(B0.refl _ _).alloc _⟩
theorem A11{w:World}{E:Ev}(h:So w E):Calls Tryz.prog 44 #[.pointer (some ⟨E.o,0,none⟩)] w λr w'=>∃c m,r= .returned (.pointer (some ⟨c,0,none⟩))/\Cg w' E c m E.H 0/\w.heap.size<=c/\w.heap.size<=m/\B0 B5 w B5 w':=by
 have HO:=C6x h
 obtain⟨l,hl⟩:∃l,l=E.l:=⟨_,rfl⟩
 obtain⟨o,Y⟩:∃o,o=E.o:=⟨_,rfl⟩
 obtain⟨X,aF⟩:∃X,X=E.mo:=⟨_,rfl⟩
 rw[<-Y]
 have HK:=C6x (show∀V,B0 B5 w B5 V->V.cell? ⟨o,0,none⟩=some (.pointer (some ⟨l,0,none⟩))/\V.cell? ⟨o,1,none⟩=some (.map (some X))fromλV a=>by rw[Y,hl,aF];exact⟨(h.blk.over a).cell 0,(h.blk.over a).cell 1⟩)
 have aC:=C6x (HK.out _ ((B0.refl B5 w).drew))
 have aH:=C6x (B9e (w:=w.drew) (b:=X) (by rw[aF];exact h.vu.mp))
 have aI:=C6x (show∀m I z J,Mp I m (E.N-2-E.n) E.O->w.heap.size<=m->B0 B5 w B5 I->I.heap.size<=z->C3 J z 175 #[.pointer (some ⟨l,0,none⟩),.map (some m),.pointer (some ⟨o,0,none⟩),.int .i64 0]->B0 B5 I B5 J->Cg J E z m E.H 0/\w.heap.size<=z/\B0 B5 w B5 J fromλm I z J hm aL U Z W a9=>by
  rw[hl,Y]at W
  obtain⟨b1,b2,b3⟩:=h.bd
  have aK:=Nat.le_trans U.size Z
  refine⟨⟨h.step (U.trans a9),⟨E.O,hm.keep (a9.block m hm.lt (λx=>x)),h.vu.ok,rfl,λ_ x=>x⟩,W,⟨λhu=>?_,by omega,by omega⟩,⟨λhu=>?_,by omega,by omega⟩⟩,aK,U.trans a9⟩
  ·have:=b1 _ hu;omega
  ·have:=b1 _ hu;omega)
 clear h hl Y aF
 go_enter Tryz.func44,Tryz.ntmps44
 go_upto_region 1 with(fail)
 refine D6 (S:=(λw'=>w'.cell? ⟨o,0,none⟩=some (.pointer (some ⟨l,0,none⟩))/\w'.cell? ⟨o,1,none⟩=some (.map (some X)))) (by with_reducible first|exact aE.out|exact aD.out|exact aC.out) (λhH=>?_)
 refine C62 0 rfl ?_
 refine C62 1 rfl ?_
 refine C62 2 rfl ?_
 refine C62 3 rfl ?_
 refine C62 4 rfl ?_
 refine C62 5 rfl ?_
 refine C62 6 rfl ?_
 refine C62 7 rfl ?_
 refine C62 10 rfl ?_
 refine C6z 8 rfl (λK hK=>?_)
 go_simp
 refine aH.out.mono ?_
 rintro r I ⟨m,rfl,m5,h5,U⟩
 have aJ:=C6x m5
 have aG:=C6x (show w.heap.size<=m from h5)
 have aA:=C6x (B0.of_drew (F:=B5) U)
 have aD:=C6x (HK.out _ aA.out)
 clear m5 h5 U
 go_wp2_with fail
 refine C60 hK (by with_reducible first|exact aE.out|exact aD.out|exact aC.out) ?_
 clear hK K hH
 intro hH
 try simp only[Act.put,sA,sB,sC]
 refine C62 9 rfl ?_
 refine C62 11 rfl ?_
 refine C6z 12 rfl (λK hK=>?_)
 refine C0K rfl _ rfl rfl (λz9 J Z W ha=>?_)
 have aB:=C6x (aI.out m I z9 J aJ.out aG.out aA.out Z W ha)
 have aE:=C6x (HK.out _ (aA.out.trans ha))
 clear Z W ha
 refine C60 hK (by with_reducible first|exact aE.out|exact aD.out|exact aC.out) ?_
 clear hK K hH
 intro hH
 try simp only[Act.put,sA,sB,sC]
 refine C62 13 rfl ?_
 refine wpAnyH_done (by kernel_rfl) ?_ _
 go_wp2_with fail
 go_ret
 exact⟨z9,m,rfl,aB.out.1,aB.out.2.1,aG.out,aB.out.2.2⟩
end
section
open Go.ChangeShapes Go.WideShapes Go.ChangeAt Go.RowKit Go.Maps
theorem A8T:Tryz.prog.cellsOf 173=128:=by kernel_rfl
theorem B1G(l:List Nat)(I:l.length=128)(h:∀x∈l,x<256):Tryz.prog.keyLits 5 173 ((l.map u8).toArray).toList=some (l.map A5R):=by
 unfold Program.keyLits
 rw[Tryz.underlying173]
 simp only[B4C,A8T,Nat.mul_one]
 rw[if_pos (by simpa using I),A5b _ (λi=>[A5R (l.getD i 0)]) _ (λi hi=>?_),Option.map_some,A6Z,<-I,A8B]
 have hi:i<l.length:=by rw[I];simpa using hi
 have e:(((l.map u8).toArray).toList.drop i).take 1=[u8 (l.getD i 0)]:=by
  rw[List.toList_toArray,<-List.map_drop,<-List.getElem_cons_drop hi,List.map_cons,List.take_succ_cons,List.take_zero,List.getD_eq_getElem?_getD,List.getElem?_eq_getElem hi]
  rfl
 rw[e]
 exact B82 3 _ (A1J h i)
theorem A5B(l:List Nat)(I:l.length=128):(Value.agg (l.map u8).toArray).formed Tryz.prog 173=true:=by
 unfold Value.formed
 simp only[Tryz.underlying173,A8T]
 simp[I]
theorem C1t(l I:List Nat)(U:l.length=128)(V:I.length=128)(h:∀x∈l,x<256)(W:∀x∈I,x<256):∀w,(Op.equalIn 10000 173 (.agg (l.map u8).toArray) (.agg (I.map u8).toArray)).run Tryz.prog w= .ok (decide (l=I)) w:=by
 intro w
 have X:=run_equalIn_deep (P:=Tryz.prog) 9998 2 173 (by kernel_rfl)
 obtain⟨c,Y,J⟩:=X w 5 5 (.agg (l.map u8).toArray) (.agg (I.map u8).toArray) _ _ (A5B l U) (A5B I V) (B1G l U h) (B1G I V W)
 rw[Y]
 congr 1
 by_cases e:l=I
 ·rw[decide_eq_true e,J.2 (by rw[e])]
 ·rw[decide_eq_false e]
  cases c
  ·rfl
  ·exact absurd (B1p _ _ (J.1 rfl)) e
def A3K(A:Nat->Option (List Nat))(i:Nat):Nat->Option (List Nat):=λj=>if j=i then none else A j
theorem B4Y{A:Nat->Option (List Nat)}{i:Nat}(h:(A i).isSome=true):∀{N:Nat},i<N->cnt (A3K A i) N+1=cnt A N
 |0,h=>by omega
 |N+1,hi=>by
  rw[A1t,A1t]
  by_cases e:i=N
  ·subst e
   rw[A96 (A:=A3K A i) (B:=A) (λj I=>by unfold A3K;rw[if_neg (by omega)])]
   have:(A3K A i i).isSome=false:=by unfold A3K;rw[if_pos rfl];rfl
   rw[this,h]
   rfl
  ·have J:=B4Y h (N:=N) (by omega)
   have:A3K A i N=A N:=by unfold A3K;rw[if_neg (by omega)]
   rw[this]
   omega
theorem MpD.del{N i:Nat}{A:Nat->Option (List Nat)}{D:DU}(h:MpD N A D)(hi:i<N)(J:(A i).isSome=true):MpD N (A3K A i) (D.del (ik i)) where
 tidy:=h.tidy.del _
 size:=by
  have I:=size_del h.tidy (k:=ik i)
  rw[h.has i hi,J]at I
  have U:=B4Y J hi
  have h3:=h.size
  simp at I
  omega
 has j hj:=by
  by_cases e:j=i
  ·subst e;rw[has_del_same];unfold A3K;rw[if_pos rfl];rfl
  ·rw[has_del_other (B40 e),h.has j hj];unfold A3K;rw[if_neg e]
 at_ j hj z:=by
  by_cases e:j=i
  ·subst e;rw[atKey_del_same];unfold A3K;rw[if_pos rfl];rfl
  ·rw[atKey_del_other (B40 e),h.at_ j hj];unfold A3K;rw[if_neg e]
 keys k hk hh:=by
  by_cases e:k=ik i
  ·subst e;rw[has_del_same]at hh;cases hh
  ·rw[has_del_other e]at hh
   exact h.keys k hk hh
theorem Mp.of_owns{w:World}{b n N:Nat}{A:Nat->Option (List Nat)}{D:DU}(h:w.ownsMap Tryz.prog 3 A0w b n D)(d:MpD N A D):Mp w b N A:=by
 obtain⟨U,c,V,W,h3,J⟩:=h
 refine⟨D,⟨U,c,V,W,?_,J⟩,d⟩
 have I:=d.size
 rw[J]at I
 rw[<-I]
 simp[Maps.size,length_sorted]
def A3g(A:Nat->Option (List Nat))(H0:Nat->List Nat)(left:Lit->Bool):Nat->Option (List Nat):=λj=>if A j=some (H0 j)/\left (ik j)=false then none else A j
def A5S(A:Nat->Option (List Nat))(H0:Nat->List Nat)(left:Lit->Bool):Nat->Option (List Nat):=λj=>if(A j).isSome=true/\left (ik j)=false then some (H0 j)else none
def A5C(A:Nat->Option (List Nat))(H0:Nat->List Nat):Nat->Option (List Nat):=λj=>if A j=some (H0 j)then none else A j
def B3E(A:Nat->Option (List Nat))(H0:Nat->List Nat):Nat->Option (List Nat):=λj=>if(A j).isSome=true then some (H0 j)else none
theorem B9f{A:Nat->Option (List Nat)}{H0:Nat->List Nat}{left:Lit->Bool}(h:∀k,left k=false):A3g A H0 left=A5C A H0/\A5S A H0 left=B3E A H0:=by
 constructor<;>(funext j;simp[A3g,A5S,A5C,B3E,h])
theorem B3F{A:Nat->Option (List Nat)}{H0:Nat->List Nat}{left:Lit->Bool}(h:∀j,(A j).isSome=true->left (ik j)=true):A3g A H0 left=A/\A5S A H0 left=λ_=>none:=by
 constructor
 ·funext j
  unfold A3g
  split
  ·rename_i I
   have:=h j (by rw[I.1];rfl)
   rw[I.2]at this;cases this
  ·rfl
 ·funext j
  unfold A5S
  split
  ·rename_i I
   have:=h j I.1
   rw[I.2]at this;cases this
  ·rfl
theorem A6j(i j:Nat):(ik j).sameKey (ik i)=decide (j=i):=by
 unfold ik
 by_cases e:j=i
 ·subst e;simp[Lit.sameKey]
 ·rw[decide_eq_false e]
  simp[Lit.sameKey]
  omega
theorem A8U{A:Nat->Option (List Nat)}{H0:Nat->List Nat}{left:Lit->Bool}{i:Nat}(U:left (ik i)=true)(V:(A i).isSome=true):
 A3g A H0 left i=A i/\A5S A H0 (λz=>left z&& !z.sameKey (ik i))=Q9 (A5S A H0 left) i (H0 i)/\A3g A H0 (λz=>left z&& !z.sameKey (ik i))=(if A i=some (H0 i)then A3K (A3g A H0 left) i else A3g A H0 left):=by
 refine⟨by unfold A3g;rw[if_neg (by rw[U];simp)],?_,?_⟩
 ·funext j
  unfold A5S Q9
  simp only[A6j]
  by_cases e:j=i
  ·subst e;rw[if_pos rfl,if_pos (by simp[V])]
  ·rw[if_neg e];simp[e]
 ·funext j
  by_cases e:j=i
  ·subst e
   by_cases I:A j=some (H0 j)
   ·rw[if_pos I];unfold A3g A3K;rw[if_pos rfl,if_pos (by simp[I,A6j])]
   ·rw[if_neg I];unfold A3g;rw[if_neg (by simp[I]),if_neg (by simp[I])]
  ·have J:A3g A H0 (λz=>left z&& !z.sameKey (ik i)) j=A3g A H0 left j:=by unfold A3g;simp[A6j,e]
   rw[J]
   split
   ·unfold A3K;rw[if_neg e]
   ·rfl
theorem B0.grow{w w':World}{F':Nat->Prop}(h:B0 B5 w F' w'):w.grownBy w' none:=⟨h.os,h.tape,h.output,h.size,λk I _=>h.block k I (λx=>x)⟩
theorem A0G{w w':World}{z:Nat}(h:w.grownBy w' (some z)):B0 (J0 z) w (J0 z) w':=⟨h.os,h.tape,h.output,h.size,λk I J=>h.block k I (λx=>J (Option.some.inj x)),λ_ x=>.inl x⟩
end
end Go.Proofs.YtbefmjiclpobjaaGreat
