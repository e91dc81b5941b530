import Derived.Test.YtbefmjiclpobjaaGreatMi31
import Derived.Test.YtbefmjiclpobjaaGreatMi29
namespace Go.Proofs.YtbefmjiclpobjaaGreat
set_option maxHeartbeats 3200000
set_option maxRecDepth 3000
section
open Go.RowKit
theorem R0:(Tryz.prog.info? 70).map (·.size)=some 3:=by kernel_rfl
theorem A0S:(Tryz.prog.info? 70).map (λi=>(i.zero,i.size,i.bytes))=some (some (.agg #[.int .i64 0,.int .u64 0,.int .i64 0]),3,24):=by kernel_rfl
def atA(k:Int)(v:Nat)(n:Int):Array Value:= #[.int .i64 k,.int .u64 (v:Int),.int .i64 n]
theorem A3T(k v n:Int):(#[Value.int .i64 k,.int .u64 v,.int .i64 n]).all (·.oneCell')=true:=by
 rw[Array.all_eq_true_iff_forall_mem]
 intro u I
 simp at I
 rcases I with rfl|rfl|rfl<;>rfl
theorem B2f:Tryz.prog.built 70 []=some #[.int .i64 0,.int .u64 0,.int .i64 0]:=by kernel_rfl
theorem B2g(k v n:Int):Tryz.prog.built 70 [(0,.int .i64 k),(1,.int .u64 v),(2,.int .i64 n)]=some #[.int .i64 k,.int .u64 v,.int .i64 n]:=by kernel_rfl
section
variable {ops:Array Oper} {rest:List Oper} {o:Oper} {a:Act} {w:World} {Q:Exit->Act->World->Prop}
theorem Z8(I:o.guard=none)(J:o.op= .build 70 #[])
 (h:wpList Tryz.prog ops Q rest (a.put o.dst (.agg #[.int .i64 0,.int .u64 0,.int .i64 0])) w):wpList Tryz.prog ops Q (o::rest) a w:=by
 refine wpList_build I 70 #[] J (by simp[B2f]) ?_
 simpa[B2f]using h
theorem A45(I:o.guard=none)(x y z:Operand)(J:o.op= .build 70 #[(0,x),(1,y),(2,z)])(k:Int)(v:Nat)(n:Int)(U:a.eval x= .int .i64 k)(V:a.eval y= .int .u64 (v:Int))(X:a.eval z= .int .i64 n)
 (h:wpList Tryz.prog ops Q rest (a.put o.dst (.agg #[.int .i64 k,.int .u64 (v:Int),.int .i64 n])) w):wpList Tryz.prog ops Q (o::rest) a w:=by
 have e:((#[(0,x),(1,y),(2,z)]:Array (Nat×Operand)).map λ(i,x)=>(i,a.eval x)).toList=[(0,.int .i64 k),(1,.int .u64 (v:Int)),(2,.int .i64 n)]:=by simp[U,V,X]
 refine wpList_build I 70 _ J (by rw[e,B2g k v n];rfl) ?_
 rw[e,B2g k v n]
 exact h
end
noncomputable def B6Q(H:Nat->List Nat)(i g:Int):Int:=if fileE H i g=0 then(if(fileX H i g).k=1 then J5 H i g else 0)else fileE H i g
noncomputable def C1w(H:Nat->List Nat)(i g:Int):Array Value:=
 if B6Q H i g=0 then atA (fileX H i g).k (fileX H i g).v (if(fileX H i g).k=1 then((M8 H i g).length:Int)else((nzI (fileX H i g) 8).length:Int))else atA 0 0 0
section
variable {p M:Nat} {H:Nat->List Nat} {w:World}
theorem C3l(h:Rdv w p M H)(hs:Sd H M)(i g:Int):Calls Tryz.prog 28 #[.pointer (some ⟨p,0,none⟩),.agg #[.int .i64 i,.int .i64 g]] w λe w'=>e= .returned (.tuple #[.agg (C1w H i g),.int .i64 (B6Q H i g)])/\B1 B5 w B5 w':=by
 have HM:=C5Z (λV (a:B1 B5 w B5 V)=>A1k (h.step a))
 have HF:=C5Z (λV (a:B1 B5 w B5 V)=>A7i (h.step a) hs i g)
 have HE:=C5Z (λV (a:B1 B5 w B5 V)=>A0B (h.step a) hs i g)
 have HU:=C5Z (λV=>B8o (fileX H i g) V)
 have hA:C1w H i g=if B6Q H i g=0 then atA (fileX H i g).k (fileX H i g).v (if(fileX H i g).k=1 then((M8 H i g).length:Int)else((nzI (fileX H i g) 8).length:Int))else atA 0 0 0:=rfl
 have hE:B6Q H i g=if fileE H i g=0 then(if(fileX H i g).k=1 then J5 H i g else 0)else fileE H i g:=rfl
 unfold A7Z at HF
 unfold EsR at HE
 rw[hA,hE]
 obtain⟨X,hX⟩:∃X,X=fileX H i g:=⟨_,rfl⟩
 obtain⟨fe,bD⟩:∃fe,fe=fileE H i g:=⟨_,rfl⟩
 obtain⟨ee,bC⟩:∃ee,ee=J5 H i g:=⟨_,rfl⟩
 obtain⟨L,hL⟩:∃L,L=M8 H i g:=⟨_,rfl⟩
 rw[<-hX]at HF HU⊢
 rw[<-bD]at HF⊢
 rw[<-bC,<-hL]at HE⊢
 obtain⟨n,hn⟩:∃n,n=L.length:=⟨_,rfl⟩
 obtain⟨nz,bF⟩:∃nz,nz=(nzI X 8).length:=⟨_,rfl⟩
 rw[<-hn]at HE⊢
 rw[<-bF]at HU⊢
 clear hA hE hX bD bC hL hn bF h hs
 by_cases h0:fe=0
 ·subst h0
  rw[if_pos rfl]
  by_cases h1:X.k=1
  ·rw[if_pos h1,if_pos h1]
   have bG:(X.k==1)=true:=by rw[h1];rfl
   clear h1
   by_cases h2:ee=0
   ·subst h2
    rw[if_pos rfl]
    go_enter Tryz.func28,Tryz.ntmps28
    go_wp2_with (first
     |(refine C4 (t:=35) rfl _ rfl rfl ?_;intro z0 w0 U J I;have aM:=C5Z J;have aA:=C5Z I;clear U J I)
     |(refine B9 rfl rfl A0S ?_;intro zr w1 U J I;have aU:=C5Z (Nat.le_trans aA.out.size U);have aO:=C5Z J;have Z:=C5Z (aA.out.trans I);have aC:=C5Z (aM.out.over I);clear U J I)
     |(go_at_call 73;refine(HM.out _ Z.out).mono ?_;rintro e w2 ⟨rfl,rfl⟩)
     |(refine B6 (t:=35) rfl _ rfl z0 aC.out rfl Tryz.underlying35 rfl B0 rfl ?_)
     |(go_at_call 75;refine(HF.out _ Z.out).mono ?_;rintro e w3 ⟨rfl,I⟩;have aB:=C5Z (Z.out.trans I);have aD:=C5Z (aC.out.over I);have aF:=C5Z (aO.out.over I);clear I)
     |(refine B9 rfl rfl C8 ?_;intro Y w5 U J I;have aS:=C5Z J;have aI:=C5Z (aB.out.trans I);have aT:=C5Z (Nat.le_trans aB.out.size U);have aN:=C5Z (aD.out.over I);have aP:=C5Z (aF.out.over I);have aE:=C5Z (show z0≠Y/\zr≠Y from⟨λe=>by have:=aD.out.lt;omega,λe=>by have:=aF.out.lt;omega⟩);clear U J I)
     |(refine B7 rfl _ _ rfl Y aS.out rfl rfl C0 (C2 _) (C2 _) (D6 _) ?_;intro w6 J I;have aH:=C5Z J;have aJ:=C5Z (aI.out.fresh aT.out I);have aV:=C5Z (aN.out.far1 I aE.out.1);have aQ:=C5Z (aP.out.far1 I aE.out.2);clear J I)
     |(refine B6 (t:=62) rfl _ rfl Y aH.out rfl Tryz.underlying62 rfl C0 (C2 _) ?_)
     |(go_at_call 76;refine(HU.out _).mono ?_;rintro e w7 ⟨rfl,I⟩;have aG:=C5Z (aH.out.over I);have aK:=C5Z (aJ.out.trans I);have aY:=C5Z (aV.out.over I);have aW:=C5Z (aQ.out.over I);have d0:w7.cell? ⟨Y,0,none⟩=some (.int .i64 X.k):=aG.out.cell 0;have d2:w7.cell? ⟨Y,2,none⟩=some (.int .u64 (X.v:Int)):=aG.out.cell 2;clear I)
     |(refine B6 (t:=35) rfl _ rfl z0 aY.out rfl Tryz.underlying35 rfl B0 rfl ?_)
     |(go_at_call 74;refine(HE.out _ aK.out).mono ?_;rintro e w8 ⟨A2,c2,rfl,_,I⟩;have aX:=C5Z (aG.out.over I);have aZ:=C5Z (aK.out.trans I);have bA:=C5Z (aW.out.over I);have d0:w8.cell? ⟨Y,0,none⟩=some (.int .i64 X.k):=aX.out.cell 0;have d2:w8.cell? ⟨Y,2,none⟩=some (.int .u64 (X.v:Int)):=aX.out.cell 2;clear I)
     |(refine A45 rfl _ _ _ rfl X.k X.v (n:Int) rfl rfl rfl ?_)
     |(refine B7 rfl _ _ rfl zr bA.out rfl rfl R0 rfl rfl (A3T _ _ _) ?_;intro bB J I;have aR:=C5Z J;have aL:=C5Z (aZ.out.fresh aU.out I);clear J I)
     |fail)
    exact bodyPost_ret (R5 rfl _ _ rfl rfl aR.out Tryz.underlying70 rfl (by rw[R0];rfl)) rfl ⟨rfl,aL.out⟩
   ·rw[if_neg h2]
    have J:(ee !=0)=true:=by rw[bne_iff_ne];exact h2
    clear h2
    go_enter Tryz.func28,Tryz.ntmps28
    go_wp2_with (first
     |(refine C4 (t:=35) rfl _ rfl rfl ?_;intro z0 w0 U J I;have aM:=C5Z J;have aA:=C5Z I;clear U J I)
     |(refine B9 rfl rfl A0S ?_;intro zr w1 U J I;have aU:=C5Z (Nat.le_trans aA.out.size U);have aO:=C5Z J;have Z:=C5Z (aA.out.trans I);have aC:=C5Z (aM.out.over I);clear U J I)
     |(go_at_call 73;refine(HM.out _ Z.out).mono ?_;rintro e w2 ⟨rfl,rfl⟩)
     |(refine B6 (t:=35) rfl _ rfl z0 aC.out rfl Tryz.underlying35 rfl B0 rfl ?_)
     |(go_at_call 75;refine(HF.out _ Z.out).mono ?_;rintro e w3 ⟨rfl,I⟩;have aB:=C5Z (Z.out.trans I);have aD:=C5Z (aC.out.over I);have aF:=C5Z (aO.out.over I);clear I)
     |(refine B9 rfl rfl C8 ?_;intro Y w5 U J I;have aS:=C5Z J;have aI:=C5Z (aB.out.trans I);have aT:=C5Z (Nat.le_trans aB.out.size U);have aN:=C5Z (aD.out.over I);have aP:=C5Z (aF.out.over I);have aE:=C5Z (show z0≠Y/\zr≠Y from⟨λe=>by have:=aD.out.lt;omega,λe=>by have:=aF.out.lt;omega⟩);clear U J I)
     |(refine B7 rfl _ _ rfl Y aS.out rfl rfl C0 (C2 _) (C2 _) (D6 _) ?_;intro w6 J I;have aH:=C5Z J;have aJ:=C5Z (aI.out.fresh aT.out I);have aV:=C5Z (aN.out.far1 I aE.out.1);have aQ:=C5Z (aP.out.far1 I aE.out.2);clear J I)
     |(refine B6 (t:=62) rfl _ rfl Y aH.out rfl Tryz.underlying62 rfl C0 (C2 _) ?_)
     |(go_at_call 76;refine(HU.out _).mono ?_;rintro e w7 ⟨rfl,I⟩;have aG:=C5Z (aH.out.over I);have aK:=C5Z (aJ.out.trans I);have aY:=C5Z (aV.out.over I);have aW:=C5Z (aQ.out.over I);have d0:w7.cell? ⟨Y,0,none⟩=some (.int .i64 X.k):=aG.out.cell 0;have d2:w7.cell? ⟨Y,2,none⟩=some (.int .u64 (X.v:Int)):=aG.out.cell 2;clear I)
     |(refine B6 (t:=35) rfl _ rfl z0 aY.out rfl Tryz.underlying35 rfl B0 rfl ?_)
     |(go_at_call 74;refine(HE.out _ aK.out).mono ?_;rintro e w8 ⟨A2,c2,rfl,_,I⟩;have aX:=C5Z (aG.out.over I);have aZ:=C5Z (aK.out.trans I);have bA:=C5Z (aW.out.over I);have d0:w8.cell? ⟨Y,0,none⟩=some (.int .i64 X.k):=aX.out.cell 0;have d2:w8.cell? ⟨Y,2,none⟩=some (.int .u64 (X.v:Int)):=aX.out.cell 2;clear I)
     |(refine Z8 rfl rfl ?_)
     |(refine B7 rfl _ _ rfl zr bA.out rfl rfl R0 rfl rfl (A3T _ _ _) ?_;intro bB J I;have aR:=C5Z J;have aL:=C5Z (aZ.out.fresh aU.out I);clear J I)
     |fail)
    exact bodyPost_ret (R5 rfl _ _ rfl rfl aR.out Tryz.underlying70 rfl (by rw[R0];rfl)) rfl ⟨rfl,aL.out⟩
  ·rw[if_neg h1,if_neg h1,if_pos rfl]
   have bG:(X.k==1)=false:=by rw[beq_eq_false_iff_ne];exact h1
   clear h1 HE
   go_enter Tryz.func28,Tryz.ntmps28
   go_wp2_with (first
    |(refine C4 (t:=35) rfl _ rfl rfl ?_;intro z0 w0 U J I;have aM:=C5Z J;have aA:=C5Z I;clear U J I)
    |(refine B9 rfl rfl A0S ?_;intro zr w1 U J I;have aU:=C5Z (Nat.le_trans aA.out.size U);have aO:=C5Z J;have Z:=C5Z (aA.out.trans I);have aC:=C5Z (aM.out.over I);clear U J I)
    |(go_at_call 73;refine(HM.out _ Z.out).mono ?_;rintro e w2 ⟨rfl,rfl⟩)
    |(refine B6 (t:=35) rfl _ rfl z0 aC.out rfl Tryz.underlying35 rfl B0 rfl ?_)
    |(go_at_call 75;refine(HF.out _ Z.out).mono ?_;rintro e w3 ⟨rfl,I⟩;have aB:=C5Z (Z.out.trans I);have aD:=C5Z (aC.out.over I);have aF:=C5Z (aO.out.over I);clear I)
    |(refine B9 rfl rfl C8 ?_;intro Y w5 U J I;have aS:=C5Z J;have aI:=C5Z (aB.out.trans I);have aT:=C5Z (Nat.le_trans aB.out.size U);have aN:=C5Z (aD.out.over I);have aP:=C5Z (aF.out.over I);have aE:=C5Z (show z0≠Y/\zr≠Y from⟨λe=>by have:=aD.out.lt;omega,λe=>by have:=aF.out.lt;omega⟩);clear U J I)
    |(refine B7 rfl _ _ rfl Y aS.out rfl rfl C0 (C2 _) (C2 _) (D6 _) ?_;intro w6 J I;have aH:=C5Z J;have aJ:=C5Z (aI.out.fresh aT.out I);have aV:=C5Z (aN.out.far1 I aE.out.1);have aQ:=C5Z (aP.out.far1 I aE.out.2);clear J I)
    |(refine B6 (t:=62) rfl _ rfl Y aH.out rfl Tryz.underlying62 rfl C0 (C2 _) ?_)
    |(go_at_call 76;refine(HU.out _).mono ?_;rintro e w7 ⟨rfl,I⟩;have aG:=C5Z (aH.out.over I);have aK:=C5Z (aJ.out.trans I);have aY:=C5Z (aV.out.over I);have aW:=C5Z (aQ.out.over I);have d0:w7.cell? ⟨Y,0,none⟩=some (.int .i64 X.k):=aG.out.cell 0;have d2:w7.cell? ⟨Y,2,none⟩=some (.int .u64 (X.v:Int)):=aG.out.cell 2;clear I)
    |(refine A45 rfl _ _ _ rfl X.k X.v (nz:Int) rfl rfl rfl ?_)
    |(refine B7 rfl _ _ rfl zr aW.out rfl rfl R0 rfl rfl (A3T _ _ _) ?_;intro bB J I;have aR:=C5Z J;have aL:=C5Z (aK.out.fresh aU.out I);clear J I)
    |fail)
   exact bodyPost_ret (R5 rfl _ _ rfl rfl aR.out Tryz.underlying70 rfl (by rw[R0];rfl)) rfl ⟨rfl,aL.out⟩
 ·rw[if_neg h0,if_neg h0]
  have J:(fe !=0)=true:=by rw[bne_iff_ne];exact h0
  clear h0 HE HU
  go_enter Tryz.func28,Tryz.ntmps28
  go_wp2_with (first
   |(refine C4 (t:=35) rfl _ rfl rfl ?_;intro z0 w0 U J I;have aM:=C5Z J;have aA:=C5Z I;clear U J I)
   |(refine B9 rfl rfl A0S ?_;intro zr w1 U J I;have aU:=C5Z (Nat.le_trans aA.out.size U);have aO:=C5Z J;have Z:=C5Z (aA.out.trans I);have aC:=C5Z (aM.out.over I);clear U J I)
   |(go_at_call 73;refine(HM.out _ Z.out).mono ?_;rintro e w2 ⟨rfl,rfl⟩)
   |(refine B6 (t:=35) rfl _ rfl z0 aC.out rfl Tryz.underlying35 rfl B0 rfl ?_)
   |(go_at_call 75;refine(HF.out _ Z.out).mono ?_;rintro e w3 ⟨rfl,I⟩;have aB:=C5Z (Z.out.trans I);have aD:=C5Z (aC.out.over I);have aF:=C5Z (aO.out.over I);clear I)
   |(refine B9 rfl rfl C8 ?_;intro Y w5 U J I;have aS:=C5Z J;have aI:=C5Z (aB.out.trans I);have aT:=C5Z (Nat.le_trans aB.out.size U);have aN:=C5Z (aD.out.over I);have aP:=C5Z (aF.out.over I);have aE:=C5Z (show z0≠Y/\zr≠Y from⟨λe=>by have:=aD.out.lt;omega,λe=>by have:=aF.out.lt;omega⟩);clear U J I)
   |(refine B7 rfl _ _ rfl Y aS.out rfl rfl C0 (C2 _) (C2 _) (D6 _) ?_;intro w6 J I;have aH:=C5Z J;have aJ:=C5Z (aI.out.fresh aT.out I);have aV:=C5Z (aN.out.far1 I aE.out.1);have aQ:=C5Z (aP.out.far1 I aE.out.2);clear J I)
   |(refine Z8 rfl rfl ?_)
   |(refine B7 rfl _ _ rfl zr aQ.out rfl rfl R0 rfl rfl (A3T _ _ _) ?_;intro bB J I;have aR:=C5Z J;have aL:=C5Z (aJ.out.fresh aU.out I);clear J I)
   |fail)
  exact bodyPost_ret (R5 rfl _ _ rfl rfl aR.out Tryz.underlying70 rfl (by rw[R0];rfl)) rfl ⟨rfl,aL.out⟩
end
end
section
open Go.RowKit
structure Sx (H:Nat->List Nat) (M:Nat):Prop where
 hM:46<=M/\M<=1024
 row:∀i,i<M->(H i).length=128/\∀x∈H i,x<256
open Classical in
noncomputable def A46(H:Nat->List Nat)(M:Nat):Int:=if A1q (H 1) (M:Int)then 0 else 4
def A72(H:Nat->List Nat):Int:=match (List.range 40).find? (λj=>decide (eI (H (2+j))≠0))with|some j=>eI (H (2+j))|none=>0
noncomputable def A30(H:Nat->List Nat)(M:Nat):Int:=if A46 H M=0 then A72 H else A46 H M
theorem B3D{H:Nat->List Nat}{j:Nat}(I:j<40)(h:eI (H (2+j))≠0)(J:∀i,i<j->eI (H (2+i))=0):A72 H=eI (H (2+j)):=by
 have:(List.range 40).find? (λj=>decide (eI (H (2+j))≠0))=some j:=by
  rw[List.find?_range_eq_some]
  exact⟨by simpa using h,by simpa using I,λi hi=>by simpa using J i hi⟩
 unfold A72
 rw[this]
theorem A73{H:Nat->List Nat}(I:∀i,i<40->eI (H (2+i))=0):A72 H=0:=by
 have:(List.range 40).find? (λj=>decide (eI (H (2+j))≠0))=none:=by
  rw[List.find?_eq_none]
  intro i hi
  have:=I i (by simpa using hi)
  simpa using this
 unfold A72
 rw[this]
section
variable {p M:Nat} {H:Nat->List Nat} {w:World}
theorem C1x(h:Rdv w p M H)(I:Sx H M):Calls Tryz.prog 99 #[.pointer (some ⟨p,0,none⟩)] w λe w'=>∃v,e= .returned (.tuple #[v,.int .i64 (A46 H M)])/\B1 B5 w B5 w':=by
 have HH:=C5Z (h.home _ _ (B1.refl B5 w) 1 (by have:=I.hM;omega))
 have HV:=C5Z h
 have U:=C5Z (λV (v:Value) (a:In V v (H 1))=>(B1j v (H 1) (M:Int) V a).mono (R':=λe w'=>∃v,e= .returned (.tuple #[v,.int .i64 (A46 H M)])/\B1 B5 V B5 w') (λe w' y=>by
  rcases y with⟨ok,d,J,_,y3⟩|⟨no,J,y2⟩
  ·exact⟨_,by unfold A46;rw[if_pos ok];exact J,y3.none_⟩
  ·refine⟨.pointer none,?_,y2⟩
   unfold A46
   rw[if_neg no]
   rw[if_neg (by have:=I.hM;omega)]at J
   exact J))
 have Z:=C5Z (show∀x∈H 1,x<256 from(I.row 1 (by have:=I.hM;omega)).2)
 obtain⟨X,hX⟩:∃X,X=H 1:=⟨_,rfl⟩
 obtain⟨er,aA⟩:∃er,er=A46 H M:=⟨_,rfl⟩
 rw[<-hX]at HH U Z
 rw[<-aA]at U⊢
 clear hX h I aA
 go_enter Tryz.func99,Tryz.ntmps99
 go_wp2_with (first
  |(go_at_call 94;refine HH.out.mono ?_;rintro e w1 ⟨z,rfl,aD,aB,hr,hl,Y⟩;have HI:=C5Z (RdR.in_ aB hr hl Z.out);have HA:=C5Z Y;obtain⟨l1,c0,hh⟩:=HV.out.homes _ _ Y;have aC:=C5Z hh;clear aD aB hr hl Y hh)
  |(go_at_call 65;refine aC.out.mono ?_;rintro e w2 ⟨rfl,k2,rfl⟩)
  |(go_at_call 24;refine(U.out _ _ (HI.out.far ((B1.refl B5 w1).drewN k2).toBelow)).mono ?_;rintro e w3 ⟨v,rfl,h2⟩;have HF:=C5Z ((HA.out.drewN k2).trans h2);clear h2)
  |fail)
 go_ret2
 exact⟨v,rfl,HF.out⟩
theorem B0m(h:Rdv w p M H)(Y:Sx H M)(i:Nat)(h2:i<=40):Calls Tryz.prog 43 #[.pointer (some ⟨p,0,none⟩),.int .i64 (i:Int)] w (A7Z w (D3 H i) (eI (H (1+i)))):=by
 have aC:=C5Z (λV (a:B1 B5 w B5 V)=>h.home _ V a (1+i) (by have:=Y.hM;omega))
 obtain⟨j,hj⟩:∃j,j=1+i:=⟨_,rfl⟩
 have hw:IntKind.i64.wrap (1+(i:Int))=(j:Int):=by rw[IntKind.wrap_i64];omega
 obtain⟨Z,aA⟩:∃Z,Z=eI (H (1+i)):=⟨_,rfl⟩
 rw[<-aA]
 obtain⟨X,U⟩:∃X,X=H (1+i):=⟨_,rfl⟩
 rw[<-U,<-hj]at aC
 have HB:=C5Z (show∀x∈X,x<256 by rw[U];exact(Y.row _ (by have:=Y.hM;omega)).2)
 have HD:=C5Z (show dI X=D3 H i/\eI X=Z by rw[aA,U];exact⟨rfl,rfl⟩)
 clear U h Y h2 hj aA
 go_enter Tryz.func43,Tryz.ntmps43
 go_wp2_with (first
  |(refine B9 rfl rfl C8 ?_;intro z w0 hz J I;have HZ:=C5Z hz;have aJ:=C5Z J;have aB:=C5Z I;clear hz J I)
  |(go_at_call 94;refine(aC.out _ aB.out).mono ?_;rintro e w1 ⟨y,rfl,aK,aL,hr,hl,I⟩;have HR:=C5Z hr;have HL:=C5Z hl;have aD:=C5Z (aB.out.trans I);have aG:=C5Z (aJ.out.over I);clear aK aL hr hl I)
  |(go_at_call 25;refine(A6X _ X w1 (by rw[HL.out];exact HR.out) HB.out).mono ?_;rintro e w2 ⟨rfl,I⟩;rw[HD.out.1,HD.out.2];have aE:=C5Z (aD.out.trans I);have aH:=C5Z (aG.out.over I);clear I)
  |(refine B7 rfl _ _ rfl z aH.out rfl rfl C0 (C2 _) (C2 _) (D6 _) ?_;intro w3 J I;have aI:=C5Z J;have aF:=C5Z (aE.out.fresh HZ.out I);clear J I)
  |fail)
 exact bodyPost_ret (R5 rfl _ _ rfl rfl aI.out Tryz.underlying62 rfl (by rw[C0];rfl)) rfl ⟨rfl,aF.out⟩
def C5f(w:World)(H:Nat->List Nat)(t16:Value)(wr:World):Prop:=∃j:Nat,t16= .int .i64 (j:Int)/\j<=40/\(∀i,i<j->eI (H (2+i))=0)/\B1 B5 w B5 wr
theorem A8T(h:Rdv w p M H)(hs:Sx H M):Calls Tryz.prog 42 #[.pointer (some ⟨p,0,none⟩)] w λe w'=>e= .returned (.int .i64 (A30 H M))/\B1 B5 w B5 w':=by
 have HT:=C5Z (C1x h hs)
 have HI:=C5Z (λV (a:B1 B5 w B5 V) (i:Nat) (h2:i<=40)=>B0m (h.step a) hs i h2)
 have hR:A30 H M=if A46 H M=0 then A72 H else A46 H M:=rfl
 rw[hR]
 obtain⟨te,aL⟩:∃te,te=A46 H M:=⟨_,rfl⟩
 rw[<-aL]at HT⊢
 clear hR aL h hs
 by_cases h0:te=0
 ·subst h0
  rw[if_pos rfl]
  go_enter Tryz.func42,Tryz.ntmps42
  go_wp2_with (first
   |(go_at_call 99;refine HT.out.mono ?_;rintro e w1 ⟨v,rfl,J⟩;have aB:=C5Z J;clear J)
   |fail)
  go_loopw [16] (C5f w H) (λt _=>40-(intOf t).toNat)
  case atStart=>exact⟨0,rfl,by omega,λi hi=>absurd hi (by omega),aB.out⟩
  case round=>
   obtain⟨j,rfl,hj,aA,J⟩:=hrel
   have aE:=C5Z aA
   have Z:=C5Z J
   by_cases aK:j<40
   ·have aG:=C5Z aK
    have aM:(j:Int)<40:=by omega
    obtain⟨q,hq⟩:∃q,q=1+j:=⟨_,rfl⟩
    have hw:IntKind.i64.wrap (1+(j:Int))=(q:Int):=by rw[IntKind.wrap_i64];omega
    have U:=C5Z (λV (a:B1 B5 w B5 V)=>HI.out V a q (by omega))
    rw[show eI (H (1+q))=eI (H (2+j))by rw[hq];congr 2;omega]at U
    obtain⟨X,hX⟩:∃X,X=D3 H q:=⟨_,rfl⟩
    rw[<-hX]at U
    obtain⟨ie,aJ⟩:∃ie,ie=eI (H (2+j)):=⟨_,rfl⟩
    rw[<-aJ]at U
    unfold A7Z at U
    have aF:=C5Z aJ
    clear aA J aK hq hX hj aJ
    by_cases h1:ie=0
    ·subst h1
     go_wp2_with (first
      |(go_at_call 43;refine(U.out _ Z.out).mono ?_;rintro e w2 ⟨rfl,a2⟩;have Y:=C5Z (Z.out.trans a2);clear a2)
      |(refine B9 rfl rfl C8 ?_;intro z6 w3 hz I a3;have aI:=C5Z (Nat.le_trans Y.out.size hz);have aH:=C5Z I;have aC:=C5Z (Y.out.trans a3);clear hz I a3)
      |(refine B7 rfl _ _ rfl z6 aH.out rfl rfl C0 (C2 _) (C2 _) (D6 _) ?_;intro w4 I a4;have aD:=C5Z (aC.out.fresh aI.out a4);clear I a4)
      |fail)
     refine⟨⟨j+1,by simp,aG.out,λi hi=>?_,aD.out⟩,by have:=aG.out;simp[intOf]<;>omega⟩
     rcases Nat.lt_or_ge i j with h2|h2
     ·exact aE.out i h2
     ·obtain rfl:i=j:=by omega
      exact aF.out.symm
    ·have I:(ie !=0)=true:=by rw[bne_iff_ne];exact h1
     have HR:=C5Z (B3D aG.out (by rw[<-aF.out];exact h1) aE.out)
     rw[<-aF.out]at HR
     clear h1
     go_wp2_with (first
      |(go_at_call 43;refine(U.out _ Z.out).mono ?_;rintro e w2 ⟨rfl,a2⟩;have Y:=C5Z (Z.out.trans a2);clear a2)
      |(refine B9 rfl rfl C8 ?_;intro z6 w3 hz I a3;have aI:=C5Z (Nat.le_trans Y.out.size hz);have aH:=C5Z I;have aC:=C5Z (Y.out.trans a3);clear hz I a3)
      |(refine B7 rfl _ _ rfl z6 aH.out rfl rfl C0 (C2 _) (C2 _) (D6 _) ?_;intro w4 I a4;have aD:=C5Z (aC.out.fresh aI.out a4);clear I a4)
      |fail)
     go_ret
     exact⟨(by rw[HR.out]<;>rfl),aD.out⟩
   ·obtain rfl:j=40:=by omega
    have HR:=C5Z (A73 aA)
    clear aA J aK hj aE
    go_wp2
    go_ret
    exact⟨(by rw[HR.out]<;>rfl),Z.out⟩
 ·rw[if_neg h0]
  have I:(te !=0)=true:=by rw[bne_iff_ne];exact h0
  clear h0 HI
  go_enter Tryz.func42,Tryz.ntmps42
  go_wp2_with (first
   |(go_at_call 99;refine HT.out.mono ?_;rintro e w1 ⟨v,rfl,J⟩;have aB:=C5Z J;clear J)
   |fail)
  go_ret
  exact⟨rfl,aB.out⟩
end
end
section
open Go.RowKit Go.Maps
def T0(M:Nat):Nat->List Bool
 |0=>List.replicate M false
 |j+1=>(T0 M j).set j true
theorem T6(M:Nat):∀j,(T0 M j).length=M
 |0=>List.length_replicate
 |j+1=>by rw[T0,List.length_set,T6 M j]
theorem A2C(M:Nat):∀j k,j<=M->(T0 M j).getD k false=decide (k<j)
 |0,k,_=>by
  rw[T0,List.getD_eq_getElem?_getD]
  by_cases h:k<M
  ·rw[List.getElem?_replicate,if_pos h];simp
  ·rw[List.getElem?_eq_none (by simpa using h)];simp
 |j+1,k,hj=>by
  have I:=A2C M j k (by omega)
  rw[List.getD_eq_getElem?_getD]at I⊢
  rw[T0,List.getElem?_set]
  by_cases h:j=k
  ·subst h
   rw[if_pos rfl,if_pos (by rw[T6];omega)]
   simp
  ·rw[if_neg h,I]
   simp only[decide_eq_decide]
   omega
theorem B3E{M j:Nat}(h:j<M):A6M (T0 M j) (j:Int)=0/\A6N (T0 M j) (j:Int)=T0 M (j+1):=by
 have J:V6 (T0 M j) (j:Int):=⟨by omega,by rw[T6];omega⟩
 have I:=A2C M j j (by omega)
 rw[decide_eq_false (by omega)]at I
 refine⟨?_,?_⟩
 ·unfold A6M
  rw[if_pos J,Int.toNat_natCast,I]
  rfl
 ·unfold A6N
  rw[if_pos J,Int.toNat_natCast]
  rfl
def B2h:M5:=⟨1,1,0,λ_=>0⟩
noncomputable def CS.begin(s:CS)(M:Nat):CS:=(s.put 1 (mapB (T0 M 42))).set 1 B2h
theorem A74:Tryz.prog.built 62 [(0,.int .i64 1),(1,.int .i64 1)]=some (ic B2h):=by kernel_rfl
theorem A75{ops:Array Oper}{rest:List Oper}{o:Oper}{a:Act}{w:World}{Q:Exit->Act->World->Prop}(I:o.guard=none)(x y:Operand)(J:o.op= .build 62 #[(0,x),(1,y)])(U:a.eval x= .int .i64 1)(V:a.eval y= .int .i64 1)
 (h:wpList Tryz.prog ops Q rest (a.put o.dst (.agg (ic B2h))) w):wpList Tryz.prog ops Q (o::rest) a w:=by
 have e:((#[(0,x),(1,y)]:Array (Nat×Operand)).map λ(i,x)=>(i,a.eval x)).toList=[(0,.int .i64 1),(1,.int .i64 1)]:=by simp[U,V]
 refine wpList_build I 62 _ J (by rw[e,A74];rfl) ?_
 rw[e,A74]
 exact h
theorem A8U:Tryz.prog.built 35 [(0,.int .i64 1),(1,.int .i64 1)]=some #[.int .i64 1,.int .i64 1]:=by kernel_rfl
theorem A8h{ops:Array Oper}{rest:List Oper}{o:Oper}{a:Act}{w:World}{Q:Exit->Act->World->Prop}(I:o.guard=none)(x y:Operand)(J:o.op= .build 35 #[(0,x),(1,y)])(U:a.eval x= .int .i64 1)(V:a.eval y= .int .i64 1)
 (h:wpList Tryz.prog ops Q rest (a.put o.dst (.agg #[.int .i64 1,.int .i64 1])) w):wpList Tryz.prog ops Q (o::rest) a w:=by
 have e:((#[(0,x),(1,y)]:Array (Nat×Operand)).map λ(i,x)=>(i,a.eval x)).toList=[(0,.int .i64 1),(1,.int .i64 1)]:=by simp[U,V]
 refine wpList_build I 35 _ J (by rw[e,A8U];rfl) ?_
 rw[e,A8U]
 exact h
theorem X6(w:World):Calls Tryz.prog 32 #[] w λe w'=>e= .returned (.agg #[.int .i64 1,.int .i64 1])/\B1 B5 w B5 w':=by
 go_enter Tryz.func32,Tryz.ntmps32
 go_wp2_with (first
  |(refine B9 rfl rfl J0 ?_;intro z w1 U J I;have HZ:=C5Z U;have Y:=C5Z J;have V:=C5Z I;clear U J I)
  |(refine A8h rfl _ _ rfl rfl rfl ?_)
  |(refine B7 rfl _ _ rfl z Y.out rfl rfl B0 rfl rfl (P9 _ _) ?_;intro w2 J I;have Z:=C5Z J;have X:=C5Z (V.out.fresh HZ.out I);clear J I)
  |fail)
 exact bodyPost_ret (A3w rfl _ _ rfl Z.out Tryz.underlying35 rfl (by rw[B0];rfl)) rfl ⟨rfl,X.out⟩
def C5g(w:World)(E:Ev)(c m:Nat)(H:Nat->List Nat)(e:Int)(d:Nat)(t18:Value)(wr:World):Prop:=
 ∃j:Nat,t18= .int .i64 (j:Int)/\j<=42/\Cg wr E c m H e/\Am wr d (T0 E.M j)/\B1 (CF c m) w (CF c m) wr
theorem A8V(M:Nat):T0 M 0=List.replicate M false:=rfl
section
variable {w:World} {E:Ev} {c m:Nat} {H:Nat->List Nat} {e:Int}
theorem C1y:WfI B2h:=⟨by decide,by decide,by decide,λj _=>by show -9223372036854775808<=(0:Int)/\(0:Int)<9223372036854775808;decide⟩
theorem C1z(h:Cg w E c m H e)(Y:46<=E.M/\E.M<=1024):
 Calls Tryz.prog 45 #[.pointer (some ⟨c,0,none⟩)] w λr w'=>r= .returned (.tuple #[])/\Cs w' E c m ((⟨H,e⟩:CS).begin E.M)/\B1 (CF c m) w (CF c m) w':=by
 have V:=C5Z h
 have HV:=C5Z h.rdv
 have aJ:=C5Z (λW=>B4w E.M (by omega) Y.2 W)
 have aL:N7 e 0=e:=by unfold N7;split<;>simp_all
 have aI:=C5Z (λ(W:World) (a:Cg W E c m H e)=>show Calls Tryz.prog 101 #[.pointer (some ⟨c,0,none⟩),.int .i64 0] W λr w'=>r= .returned (.tuple #[])/\Cg w' E c m H e/\B1 (CF c m) W (CF c m) w' by have:=U4 a 0;rwa[aL]at this)
 have aK:=C5Z (λ(W:World) (a:Cs W E c m ((⟨H,e⟩:CS).put 1 (mapB (T0 E.M 42))))=>show Calls Tryz.prog 104 #[.pointer (some ⟨c,0,none⟩),.int .i64 1,.agg (ic B2h)] W λr w'=>r= .returned (.tuple #[])/\Cs w' E c m ((⟨H,e⟩:CS).begin E.M)/\B1 (CF c m) W (CF c m) w' from A7p a 1 (by decide) B2h C1y Y.1)
 have bH:=C5Z (λ(j:Nat) (hj:j<42) (W:World) (d:Nat) (a:Am W d (T0 E.M j))=>show Calls Tryz.prog 102 #[.pointer (some ⟨d,0,none⟩),.int .i64 (j:Int)] W λe w'=>e= .returned (.int .i64 0)/\Am w' d (T0 E.M (j+1))/\B1 (L6 d) W (L6 d) w' by
  have:=C0z W d _ a (j:Int)
  obtain⟨s1,s2⟩:=B3E (M:=E.M) (j:=j) (by omega)
  rwa[s1,s2]at this)
 have HM:=C5Z Y
 obtain⟨Sb,aM⟩:∃Sb,Sb=(⟨H,e⟩:CS).begin E.M:=⟨_,rfl⟩
 rw[<-aM]at aK⊢
 have bJ:=C5Z (λ(W:World) (r:List Nat) (a:Cg W E c m (A1s e H 1 r) e) (hr:Rep r (T0 E.M 42))=>show Cs W E c m ((⟨H,e⟩:CS).put 1 (mapB (T0 E.M 42)))by
  rw[hr.mapB]
  exact a)
 obtain⟨Mn,aD⟩:∃Mn,Mn=E.M:=⟨_,rfl⟩
 have bI:=C5Z aD
 have aB:=C5Z (λF' W (a:B1 B5 w F' W)=>HV.out.homes F' W a)
 rw[<-aD]at aJ aB
 clear h aL Y aM aD
 obtain⟨l0,c0,aN⟩:=aB.out _ _ (B1.refl B5 w)
 have bG:=C5Z aN
 clear aN aB
 go_enter Tryz.func45,Tryz.ntmps45
 go_wp2_with (first
  |(go_at_call 65;refine bG.out.mono ?_;rintro r w1 ⟨rfl,k2,rfl⟩;have aO:=C5Z (show B1 B5 w B5 (w.drewN k2)from(B1.refl _ _).drewN k2))
  |(go_at_call 68;refine(aJ.out _).mono ?_;rintro r w2 ⟨d,rfl,I,J⟩;have aV:=C5Z (show Am w2 d (T0 E.M 0)by(rw[A8V,<-bI.out];exact I));have U:=aO.out.trans J;have X:=C5Z (U.newS d rfl);have aZ:=C5Z (V.out.step U);have aP:=C5Z (U.same (G:=CF c m) (λ_ x=>x.elim));clear I J U)
  |(go_at_call 101;refine(aI.out w2 aZ.out).mono ?_;rintro r w3 ⟨rfl,I,J⟩;have bA:=C5Z I;have aQ:=C5Z (aP.out.trans J);have aW:=C5Z (aV.out.past V.out X.out J);clear I J)
  |fail)
 go_loopw [18] (C5g w E c m H e d) (λt _=>42-(intOf t).toNat)
 case atStart=>exact⟨0,rfl,by omega,bA.out,aW.out,aQ.out⟩
 case round=>
  obtain⟨j,rfl,hj,hc,hm,U⟩:=hrel
  have aH:=C5Z hc
  have aG:=C5Z hm
  have aF:=C5Z U
  by_cases aE:j<42
  ·have aC:=C5Z aE
   have bO:(j:Int)<42:=by omega
   clear hc hm U aE hj c0
   go_wp2_with (first
    |(go_at_call 102;refine(bH.out j aC.out _ d aG.out).mono ?_;rintro r w4 ⟨rfl,I,J⟩;have aX:=C5Z I;have bB:=C5Z (V.out.fresh aH.out X.out J);have aR:=C5Z (aF.out.freshG X.out J);clear I J)
    |(go_at_call 101;refine(aI.out w4 bB.out).mono ?_;rintro r w5 ⟨rfl,I,J⟩;have aA:=C5Z I;have Z:=C5Z (aR.out.trans J);have aY:=C5Z (aX.out.past V.out X.out J);clear I J)
    |fail)
   exact⟨⟨j+1,by simp,aC.out,aA.out,aY.out,Z.out⟩,by have:=aC.out;simp[intOf]<;>omega⟩
  ·obtain rfl:j=42:=by omega
   have bK:∀w:World,(Instr.field 35 (.agg #[.int .i64 1,.int .i64 1]) 0).run Tryz.prog w= .ok (.int .i64 1) w:=λ_=>by kernel_rfl
   have bM:∀w:World,(Instr.field 35 (.agg #[.int .i64 1,.int .i64 1]) 1).run Tryz.prog w= .ok (.int .i64 1) w:=λ_=>by kernel_rfl
   clear hc hm U aE hj c0
   go_wp2_with (first
    |(go_at_call 103;refine(A6Q _ d _ aG.out).mono ?_;rintro r w5 ⟨z,rr,rfl,I,J,h3⟩;have HR:=C5Z I;have HS:=C5Z J;have aA:=C5Z (aH.out.step h3);have Z:=C5Z (aF.out.over h3);clear I J h3)
    |(go_at_call 98;refine(A8H aA.out 1 (some ⟨z,0,none⟩) 128 128 rr (λ_=>⟨1,rfl,by have:=HM.out;omega,rfl,HR.out.len,HR.out.lt,HS.out.rd⟩)).mono ?_;rintro r w6 ⟨rfl,I,J⟩;have bC:=C5Z (bJ.out _ rr I HR.out);have aS:=C5Z (Z.out.trans J);clear I J)
    |(go_at_call 32;refine(X6 w6).mono ?_;rintro r w7 ⟨rfl,I⟩;have bD:=C5Z (bC.out.step I);have aT:=C5Z (aS.out.over I);clear I)
    |(go_at_call 32;refine(X6 w7).mono ?_;rintro r w8 ⟨rfl,I⟩;have bF:=C5Z (bD.out.step I);have aU:=C5Z (aT.out.over I);clear I)
    |(refine A75 rfl _ _ rfl rfl rfl ?_)
    |(go_at_call 104;refine(aK.out _ bF.out).mono ?_;rintro r w9 ⟨rfl,I,J⟩;have HF:=C5Z (And.intro I (aU.out.trans J));clear I J)
    |fail)
   exact bodyPost_end (results_none rfl _ _ _) rfl ⟨rfl,HF.out.1,HF.out.2⟩
end
end
section
open Go.RowKit
def fic(f:Int×Int):List Value:=[.int .i64 f.1,.int .i64 f.2]
def A2h(l:List (Int×Int)):List Value:=l.flatMap fic
theorem B2i(l m:List (Int×Int)):A2h (l++m)=A2h l++A2h m:=by simp[A2h]
theorem B92(f:Int×Int):A2h [f]=fic f:=by simp[A2h]
theorem C10(l:List (Int×Int))(k j:Nat)(J:j<2)(I:k<l.length):(A2h l)[k * 2+j]? =(fic l[k])[j]? :=by
 induction l generalizing k with
 |nil=>simp at I
 |cons d l ih=>
  cases k with
  |zero=>
   simp only[A2h,List.flatMap_cons,Nat.zero_mul,Nat.zero_add,List.getElem_cons_zero]
   rw[List.getElem?_append_left (by simpa[fic]using J)]
  |succ k=>
   have h:=ih k (by simpa using I)
   simp only[A2h,List.flatMap_cons,List.getElem_cons_succ]at h⊢
   rw[List.getElem?_append_right (by simp[fic];omega),<-h]
   congr 1
   simp[fic]
   omega
theorem C12(f:Int×Int):∀u∈fic f,u.oneCell'=true:=λu I=>by
 simp[fic]at I
 rcases I with rfl|rfl<;>rfl
structure FiO (W:World) (l:List (Int×Int)) (v:Value) (w:World):Prop where
 ex:∃F,Sl w F 35 2 v l.length (A2h l)/\B1 B5 W F w
section
variable {W w w':World} {l:List (Int×Int)} {v:Value}
theorem FiO.adv(h:FiO W l v w):B1 B5 W B5 w:=by
 obtain⟨F,_,I⟩:=h.ex
 exact I.sub (λ_ h=>h.elim)
theorem FiO.step{F':Nat->Prop}(h:FiO W l v w)(I:B1 B5 w F' w'):FiO W l v w':=by
 obtain⟨F,J,U⟩:=h.ex
 exact⟨⟨F,J.far I (λ_ h _=>h),U.over I⟩⟩
theorem FiO.form(h:FiO W l v w):∃A c,v= .slice A l.length c:=by
 obtain⟨F,I,_⟩:=h.ex
 obtain⟨A,c,e,_⟩:=I.form0
 exact⟨A,c,e⟩
theorem FiO.rd(h:FiO W l v w):Rd w 2 v l.length (A2h l):=by
 obtain⟨F,I,_⟩:=h.ex
 exact I.rd
end
def A0p(l:List En):List (Int×Int):=(l.filter (λy=>decide (y.k=1))).map (λy=>(y.i,y.g))
noncomputable def A1C(H:Nat->List Nat)(d:Int×Int):Nat->Nat->List (Int×Int)->Int
 |0,_,_=>0
 |f+1,i,b=>
  match b[i]? with
  |none=>0
  |some y=>if y=d then 2 else if J5 H y.1 y.2=0 then A1C H d f (i+1) (b++A0p (M8 H y.1 y.2))else J5 H y.1 y.2
noncomputable def B3G(H:Nat->List Nat)(d:Int×Int)(x:En):Int:=if x.k=1 then A1C H d 40 0 [(x.i,x.g)]else 0
end
section
open Go.RowKit
theorem Y1{l:List En}{s:ByteArray}{x:En}(h:Z2 l s=some x):x∈l/\x.s=s:=by
 unfold Z2 at h
 exact⟨List.mem_of_find?_eq_some h,by simpa using List.find?_some h⟩
theorem B2j{l:List En}{s:ByteArray}(h:Z2 l s=none):∀x∈l,x.s≠s:=λx I e=>by
 unfold Z2 at h
 have:=List.find?_eq_none.1 h x I
 simp[e]at this
theorem A0C{l:List En}{s:ByteArray}{x:En}:x∈dropL l s↔x∈l/\x.s≠s:=by
 unfold dropL lo hi
 rw[List.mem_append,List.mem_filter,List.mem_filter]
 constructor
 ·rintro(⟨h,k⟩|⟨h,k⟩)
  ·exact⟨h,λe=>by rw[e]at k;exact A0k s (by simpa using k)⟩
  ·exact⟨h,λe=>by rw[e]at k;exact A0k s (by simpa using k)⟩
 ·rintro⟨h,k⟩
  rcases A9E x.s s with y|y|y
  ·exact .inl ⟨h,by simpa using y⟩
  ·exact absurd y k
  ·exact .inr ⟨h,by simpa using y⟩
theorem B2k{l:List En}{e x:En}:x∈T1 l e↔x=e\/(x∈l/\x.s≠e.s):=by
 have h:=@A0C l e.s x
 unfold dropL at h
 unfold T1
 rw[List.mem_append,List.mem_cons]
 rw[List.mem_append]at h
 constructor
 ·rintro(y|y|y)
  ·exact .inr (h.1 (.inl y))
  ·exact .inl y
  ·exact .inr (h.1 (.inr y))
 ·rintro(y|y)
  ·exact .inr (.inl y)
  ·rcases h.2 y with z|z
   ·exact .inl z
   ·exact .inr (.inr z)
structure Tr (A:As):Prop where
 root:(A.n 1).k=1/\(A.n 1).g=1
 ent:∀i x,1<=i->i<=40->x∈(A.n i).l->(A.n x.i.toNat).k=x.k/\(A.n x.i.toNat).g=x.g/\x.i.toNat≠1
 one:∀i x i' x',1<=i->i<=40->1<=i'->i'<=40->x∈(A.n i).l->x'∈(A.n i').l->x.i.toNat=x'.i.toNat->i=i'/\x=x'
 par:∀c,1<=c->c<=40->(A.n c).k≠0->c≠1->∃i x,1<=i/\i<=40/\x∈(A.n i).l/\x.i.toNat=c
structure OkA (A:As):Prop where
 ok:∀i,1<=i->i<=40->OkN (A.n i)
 tr:Tr A
theorem OkA.okE{A:As}(h:OkA A){i:Nat}{x:En}(J:1<=i)(U:i<=40)(V:x∈(A.n i).l):okE x/\1<=x.i.toNat/\x.i.toNat<=40/\U2 A x.i x.g:=by
 have I:=(h.ok i J U).rise.all x V
 have X:=h.tr.ent i x J U V
 have Z:0<x.i/\x.i<41:=⟨I.2.1,I.2.2.1⟩
 have Y:0<x.k:=I.2.2.2.2.2.1
 exact⟨I,by omega,by omega,by omega,by omega,by omega,X.2.1⟩
theorem B94{A B:As}(h:∀i j,1<=i->i<=40->j<8->Q2 (A.n i) j=Q2 (B.n i) j):A.use=B.use:=A0i h
theorem A3e(A:As)(i:Nat):(A.up i (A.n i).inc).use=A.use:=B94 λk j _ _ _=>by
 by_cases e:k=i
 ·subst e;rw[As.up_at];rfl
 ·rw[As.up_ne _ _ e]
theorem C2b(A:As)(i:Nat)(x y:Nd):(A.up i x).up i y=A.up i y:=by
 unfold As.up
 congr 1
 funext j
 show(if j=i then y else(if j=i then x else A.n j))=_
 split<;>rfl
theorem A2D{A:As}{i g:Int}{k:Nat}{y:Nd}(h:U2 A i g)(V:k=i.toNat->y.k≠0/\y.g=g):U2 (A.up k y) i g:=by
 obtain⟨I,J,h3,U⟩:=h
 refine⟨I,J,?_⟩
 by_cases e:i.toNat=k
 ·rw[e,As.up_at]
  exact V e.symm
 ·rw[As.up_ne _ _ e]
  exact⟨h3,U⟩
theorem A76{A:As}{i g k:Int}(J:U2 A i g)(I:(A.n i.toNat).k=k):V1 A i g k=0:=by
 unfold V1
 rw[if_pos J,if_pos I]
def V5(A:As)(i:Int)(s:ByteArray)(J:Int)(j:Nat):As:=
 let U:=A.up (1+j) (Nd.new J ((A.n (1+j)).g+1))
 let I:=U.up i.toNat ((A.n i.toNat).ls (T1 (A.n i.toNat).l ⟨s,((1+j:Nat):Int),(A.n (1+j)).g+1,J⟩))
 I.up i.toNat (I.n i.toNat).inc
noncomputable def B4Z(H:Nat->List Nat)(M:Nat)(i g:Int)(s:ByteArray)(I:Int):CS:=
 (((⟨H,0⟩:CS).add I).enter M i g ⟨s,(addF H).1,(addF H).2,I⟩).touch i g
section
variable {H:Nat->List Nat} {M:Nat} {A:As}
structure ChD (H:Nat->List Nat) (M:Nat) (s:CS) (A':As):Prop where
 e:s.e=0
 rp:Rq s.H M A'
 df:∃K:List Nat,K.length<=14/\Dif H s.H K
theorem Rq.cre(h:Rq H M A){i g:Int}(ht:U2 A i g)(hk:(A.n i.toNat).k=1){s:ByteArray}(hs:Nam s){I:Int}(aH:I=1\/I=2):
 (∃j,A2B A=some j/\ChD H M (B4Z H M i g s I) (V5 A i s I j))\/
 ((B4Z H M i g s I).e=8/\∀j,A2B A=some j->24<(T1 (A.n i.toNat).l ⟨s,((1+j:Nat):Int),(A.n (1+j)).g+1,I⟩).length\/M<(V5 A i s I j).use+42\/(A.n i.toNat).v=1099511627775):=by
 obtain⟨r1,r2⟩:=N6 ht
 unfold B4Z
 cases X:A2B A with
 |none=>
  refine .inr ⟨?_,λj X=>by cases X⟩
  have h8:((⟨H,0⟩:CS).add I).e=8:=Rq.add_none (s:=⟨H,0⟩) h rfl I X
  rw[B1W (by rw[h8];decide),A0o (by rw[h8];decide),h8]
 |some j=>
  obtain⟨j1,j2,j3⟩:=A1B X
  obtain⟨a1,a2,a3⟩:=Rq.add (s:=⟨H,0⟩) h rfl aH X
  have aD:i.toNat≠1+j:=λe=>by
   have:=ht.2.2.1
   rw[e]at this
   exact this j2
  rw[show Go.Proofs.YtbefmjiclpobjaaGreat.addF H=_ from Rq.addF (s:=⟨H,0⟩) h X]
  obtain⟨s1,aK⟩:∃s1,s1=(⟨H,0⟩:CS).add I:=⟨_,rfl⟩
  rw[<-aK]at a1 a2 a3⊢
  obtain⟨J,aA⟩:∃J,J=A.up (1+j) (Nd.new I ((A.n (1+j)).g+1)):=⟨_,rfl⟩
  rw[<-aA]at a2
  have Z:J.n i.toNat=A.n i.toNat:=by rw[aA,As.up_ne _ _ aD]
  have aE:U2 J i g:=by rw[aA];exact A2D ht (λe=>absurd e.symm aD)
  have aM:=(h.ok (1+j) (by omega) (by omega)).g
  obtain⟨x,hx⟩:∃x:En,x=⟨s,((1+j:Nat):Int),(A.n (1+j)).g+1,I⟩:=⟨_,rfl⟩
  have aJ:okE x:=by
   rw[hx]
   exact⟨hs,by show(0:Int)<((1+j:Nat):Int);omega,by show((1+j:Nat):Int)<41;omega,by show 0<=(A.n (1+j)).g+1;omega,by show(A.n (1+j)).g+1<2147483648;omega,by show 0<I;omega,by show I<3;omega⟩
  have aC:V5 A i s I j=(J.up i.toNat ((J.n i.toNat).ls (T1 (J.n i.toNat).l x))).up i.toNat ((J.up i.toNat ((J.n i.toNat).ls (T1 (J.n i.toNat).l x))).n i.toNat).inc:=by
   unfold V5
   rw[Z,aA,hx]
  simp only
  rw[<-hx]
  rcases a2.enter a1 aE (by rw[Z];exact hk) aJ with⟨V,_,U,K,hK,b3⟩|⟨V,U⟩
  ·obtain⟨s2,aL⟩:∃s2,s2=s1.enter M i g x:=⟨_,rfl⟩
   rw[<-aL]at V U b3⊢
   obtain⟨Y,aB⟩:∃Y,Y=J.up i.toNat ((J.n i.toNat).ls (T1 (J.n i.toNat).l x)):=⟨_,rfl⟩
   rw[<-aB]at U aC
   have aI:Y.n i.toNat=(A.n i.toNat).ls (T1 (A.n i.toNat).l x):=by rw[aB,As.up_at,Z]
   have aF:U2 Y i g:=by rw[aB];exact A2D aE (λ_=>by rw[Z];exact⟨by show(A.n i.toNat).k≠0;omega,ht.2.2.2⟩)
   have aG:(Y.n i.toNat).v=(A.n i.toNat).v:=by rw[aI];rfl
   by_cases hv:(A.n i.toNat).v=1099511627775
   ·exact .inr ⟨U.touch_full V aF (by rw[aG];exact hv),λj' e=>.inr (.inr hv)⟩
   ·obtain⟨c1,c2,c3⟩:=U.touch V aF (by rw[aG];exact hv)
    refine .inl ⟨j,rfl,c1,by rw[aC];exact c2,_,?_,(a3.trans b3).trans c3⟩
    simp only[List.length_append,List.length_cons,List.length_nil]
    omega
  ·refine .inr ⟨?_,λj' e=>?_⟩
   ·rw[A0o (by rw[V];decide),V]
   ·obtain rfl:j=j':=Option.some.inj e
    rw[<-hx]
    rcases U with U|U
    ·exact .inl (by rw[<-Z];exact U)
    ·refine .inr (.inl ?_)
     rw[aC,A3e]
     exact U
def A05(A:As)(i:Int)(s:ByteArray)(x:En):As:=
 let J:=A.up x.i.toNat (Nd.gone x.g)
 let I:=J.up i.toNat ((A.n i.toNat).ls (dropL (A.n i.toNat).l s))
 I.up i.toNat (I.n i.toNat).inc
noncomputable def A77(H:Nat->List Nat)(M:Nat)(i g:Int)(s:ByteArray)(x:En):CS:=
 (((⟨H,0⟩:CS).free M x.i x.g).leave M i g s).touch i g
theorem Rq.rem(h:Rq H M A){i g:Int}(ht:U2 A i g)(hk:(A.n i.toNat).k=1)(s:ByteArray){x:En}(hx:U2 A x.i x.g)(aA:i.toNat≠x.i.toNat):
 ChD H M (A77 H M i g s x) (A05 A i s x)\/((A77 H M i g s x).e=8/\(A.n i.toNat).v=1099511627775):=by
 unfold A77
 obtain⟨a1,Z,a3⟩:=Rq.free (s:=⟨H,0⟩) h rfl hx
 obtain⟨s1,aG⟩:∃s1,s1=(⟨H,0⟩:CS).free M x.i x.g:=⟨_,rfl⟩
 rw[<-aG]at a1 Z a3⊢
 obtain⟨I,V⟩:∃I,I=A.up x.i.toNat (Nd.gone x.g):=⟨_,rfl⟩
 rw[<-V]at Z
 have Y:I.n i.toNat=A.n i.toNat:=by rw[V,As.up_ne _ _ aA]
 have aB:U2 I i g:=by rw[V];exact A2D ht (λe=>absurd e.symm aA)
 obtain⟨b1,U,K,hK,b3⟩:=Z.leave a1 aB (by rw[Y];exact hk) s
 obtain⟨s2,aH⟩:∃s2,s2=s1.leave M i g s:=⟨_,rfl⟩
 rw[<-aH]at b1 U b3⊢
 obtain⟨J,X⟩:∃J,J=I.up i.toNat ((I.n i.toNat).ls (dropL (I.n i.toNat).l s)):=⟨_,rfl⟩
 rw[<-X]at U
 have aF:A05 A i s x=J.up i.toNat (J.n i.toNat).inc:=by
  unfold A05
  rw[X,Y,V]
 have aE:J.n i.toNat=(A.n i.toNat).ls (dropL (A.n i.toNat).l s):=by rw[X,As.up_at,Y]
 have aC:U2 J i g:=by rw[X];exact A2D aB (λ_=>by rw[Y];exact⟨by show(A.n i.toNat).k≠0;omega,ht.2.2.2⟩)
 have aD:(J.n i.toNat).v=(A.n i.toNat).v:=by rw[aE];rfl
 by_cases hv:(A.n i.toNat).v=1099511627775
 ·exact .inr ⟨U.touch_full b1 aC (by rw[aD];exact hv),hv⟩
 ·obtain⟨c1,c2,c3⟩:=U.touch b1 aC (by rw[aD];exact hv)
  refine .inl ⟨c1,by rw[aF];exact c2,_,?_,(a3.trans b3).trans c3⟩
  simp only[List.length_append,List.length_cons,List.length_nil]
  omega
noncomputable def B2l(H:Nat->List Nat)(M:Nat)(q:Nat)(g:Int)(X:M5)(j:Nat)(d:ByteArray):CS:=
 (((⟨H,0⟩:CS).place M (X.a j) (M9 d)).set q (atX X (λb=>if b=j then(⟨H,0⟩:CS).placeI M (X.a j) (M9 d)else X.a b))).touch (q:Int) g
def A0Z(A:As)(i:Nat)(j:Nat)(d:ByteArray):As:=A.up i ((A.n i).bk (λb=>if b=j then d else(A.n i).b b)).inc
theorem Rq.wri(h:Rq H M A){i g:Int}(U:U2 A i g)(hk:(A.n i.toNat).k=2){j:Nat}(hj:j<8){d:ByteArray}(hd:d.size<=64):
 ChD H M (B2l H M i.toNat g (D3 H i.toNat) j d) (A0Z A i.toNat j d)\/((B2l H M i.toNat g (D3 H i.toNat) j d).e=8/\(M<(A0Z A i.toNat j d).use+42\/(A.n i.toNat).v=1099511627775)):=by
 obtain⟨r1,r2⟩:=N6 U
 have hi:((i.toNat:Nat):Int)=i:=by have:=U.1;omega
 unfold B2l
 rw[hi]
 have Y:=Rq.write1 (s:=⟨H,0⟩) h rfl U hk hj hd rfl
 simp only at Y
 obtain⟨s1,aC⟩:∃s1,s1=((⟨H,0⟩:CS).place M ((D3 H i.toNat).a j) (M9 d)).set i.toNat (atX (D3 H i.toNat) (λb=>if b=j then(⟨H,0⟩:CS).placeI M ((D3 H i.toNat).a j) (M9 d)else(D3 H i.toNat).a b)):=⟨_,rfl⟩
 rw[<-aC]at Y⊢
 obtain⟨I,X⟩:∃I,I=A.up i.toNat ((A.n i.toNat).bk (λb=>if b=j then d else(A.n i.toNat).b b)):=⟨_,rfl⟩
 rw[<-X]at Y
 have Z:I.n i.toNat=(A.n i.toNat).bk (λb=>if b=j then d else(A.n i.toNat).b b):=by rw[X,As.up_at]
 have hw:A0Z A i.toNat j d=I.up i.toNat (I.n i.toNat).inc:=by
  rw[Z,X,C2b]
  rfl
 rw[hw,A3e]
 rcases Y with⟨J,V,K,hK,b3⟩|⟨J,V⟩
 ·have aA:U2 I i g:=by rw[X];exact A2D U (λ_=>⟨by show(A.n i.toNat).k≠0;omega,U.2.2.2⟩)
  have aB:(I.n i.toNat).v=(A.n i.toNat).v:=by rw[Z];rfl
  by_cases hv:(A.n i.toNat).v=1099511627775
  ·exact .inr ⟨V.touch_full J aA (by rw[aB];exact hv),.inr hv⟩
  ·obtain⟨c1,c2,c3⟩:=V.touch J aA (by rw[aB];exact hv)
   refine .inl ⟨c1,c2,_,?_,b3.trans c3⟩
   simp only[List.length_append,List.length_cons,List.length_nil]
   omega
 ·exact .inr ⟨by rw[A0o (by rw[J];decide),J],.inl V⟩
noncomputable def B2m(H:Nat->List Nat)(M:Nat)(q:Nat)(g:Int)(X:M5):CS:=
 (((⟨H,0⟩:CS).fill M X []).set q ((⟨H,0⟩:CS).fillX M X [])).touch (q:Int) g
def A5q(A:As)(i:Nat):As:=A.up i ((A.n i).bk noB).inc
theorem Rq.tru(h:Rq H M A){i g:Int}(X:U2 A i g)(hk:(A.n i.toNat).k=2):
 ChD H M (B2m H M i.toNat g (D3 H i.toNat)) (A5q A i.toNat)\/((B2m H M i.toNat g (D3 H i.toNat)).e=8/\(A.n i.toNat).v=1099511627775):=by
 have hi:((i.toNat:Nat):Int)=i:=by have:=X.1;omega
 unfold B2m
 rw[hi]
 obtain⟨U,J,Y⟩:=Rq.trunc1 (s:=⟨H,0⟩) h rfl X hk
 simp only at U J Y
 obtain⟨s1,aC⟩:∃s1,s1=((⟨H,0⟩:CS).fill M (D3 H i.toNat) []).set i.toNat ((⟨H,0⟩:CS).fillX M (D3 H i.toNat) []):=⟨_,rfl⟩
 rw[<-aC]at U J Y⊢
 obtain⟨I,V⟩:∃I,I=A.up i.toNat ((A.n i.toNat).bk noB):=⟨_,rfl⟩
 rw[<-V]at J
 have Z:I.n i.toNat=(A.n i.toNat).bk noB:=by rw[V,As.up_at]
 have hw:A5q A i.toNat=I.up i.toNat (I.n i.toNat).inc:=by
  rw[Z,V,C2b]
  rfl
 have aA:U2 I i g:=by rw[V];exact A2D X (λ_=>⟨by show(A.n i.toNat).k≠0;omega,X.2.2.2⟩)
 have aB:(I.n i.toNat).v=(A.n i.toNat).v:=by rw[Z];rfl
 by_cases hv:(A.n i.toNat).v=1099511627775
 ·exact .inr ⟨J.touch_full U aA (by rw[aB];exact hv),hv⟩
 ·obtain⟨c1,c2,c3⟩:=J.touch U aA (by rw[aB];exact hv)
  refine .inl ⟨c1,by rw[hw];exact c2,_,?_,Y.trans c3⟩
  simp only[List.length_append,List.length_cons,List.length_nil]
  omega
end
end
end Go.Proofs.YtbefmjiclpobjaaGreat
