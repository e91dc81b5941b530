import Derived.Test.YtbefmjiclpobjaaGreatMj28
namespace Go.Proofs.YtbefmjiclpobjaaGreat
set_option maxHeartbeats 6400000
set_option maxRecDepth 3000
section
open Go.RowKit Go.Maps
theorem A5T.from_{w I J:World}{E:Ev}{c m:Nat}{R:(DS×LS)×Int}{x:Ending}(h:A5T I E c m R x J)(a:B0 (CF c m) w (CF c m) I):A5T w E c m R x J:=by
 obtain⟨W,F',U,X,h3,V⟩:=h
 exact⟨W,F',U,X,h3,(a.same (G:=EF E c m) (λ_ y=>.inr (.inr y))).trans V⟩
theorem A5T.blk{J U:World}{E:Ev}{c m z:Nat}{R:(DS×LS)×Int}{x:Ending}{t:TypeId}{C:Array Value}(h:A5T J E c m R x U)(I:C3 J z t C)(W:¬EF E c m z):C3 U z t C:=by
 obtain⟨_,F',X,_,_,V⟩:=h
 exact I.keep (V.block z I.lt W)
noncomputable def ewS(s:CS)(q:Nat)(g:Int)(x:L6):CS:=(s.set q x).touch (q:Int) g
def ewV(x:L6)(I:Int):Nat:=if I=0 then P9 ((x.v:Int)+1)else 0
section
variable {w:World} {E:Ev} {c m:Nat} {s:CS}
theorem A8Z(h:Cs w E c m s)(aT:∀i,i<E.M->(E.H i).length=128/\∀x∈E.H i,x<256)(q:Nat)(hq:q<=40)(g:Int)(x:L6)(hx:WfI x)(hs:Sw (s.set q x).H E.M)(hl:LOk E (ewS s q g x)):
 Calls Tryz.prog 90 #[.pointer (some ⟨c,0,none⟩),.agg #[.int .i64 (q:Int),.int .i64 g],.agg (ic x)] w λr w'=>
  r= .returned (.tuple #[.int .u64 (ewV x (P8 E (ewS s q g x)).2:Int),.int .i64 (P8 E (ewS s q g x)).2])/\A5T w E c m (P8 E (ewS s q g x)) (.returned (.int .i64 (P8 E (ewS s q g x)).2)) w':=by
 have aO:=C6x (λW (k:Cs W E c m s)=>show Calls Tryz.prog 104 #[.pointer (some ⟨c,0,none⟩),.int .i64 (q:Int),.agg (ic x)] W λr w'=>r= .returned (.tuple #[])/\Cs w' E c m (s.set q x)/\B0 (CF c m) W (CF c m) w' from A7s k q hq x hx hs.sd.hM.1)
 have aH:=C6x (λW (k:Cs W E c m (s.set q x))=>show Calls Tryz.prog 84 #[.pointer (some ⟨c,0,none⟩),.agg #[.int .i64 (q:Int),.int .i64 g]] W λr w'=>r= .returned (.tuple #[])/\Cs w' E c m (ewS s q g x)/\B0 (CF c m) W (CF c m) w' from A4w k hs (q:Int) g ⟨by omega,by omega⟩)
 have aG:=C6x (λW (k:Cs W E c m (ewS s q g x))=>A8Y k aT hl)
 have aE:=C6x (show∀z,w.heap.size<=z->¬EF E c m z fromλz U y=>by
  obtain⟨b1,b2,b3⟩:=h.so.bd
  obtain⟨l1,l2⟩:=h.lt
  rcases y with y|y|y|y
  ·have:=b1 _ y;omega
  ·omega
  ·omega
  ·omega)
 obtain⟨s1,aU⟩:∃s1,s1=s.set q x:=⟨_,rfl⟩
 obtain⟨s2,aV⟩:∃s2,s2=ewS s q g x:=⟨_,rfl⟩
 rw[<-aU]at aO aH
 rw[<-aV]at aH aG⊢
 obtain⟨R,hR⟩:∃R,R=P8 E s2:=⟨_,rfl⟩
 rw[<-hR]at aG⊢
 have HC:=C6x h
 obtain⟨⟨rs,rg⟩,er⟩:=R
 simp only
 have HV:=C6x (show ewV x 0=P9 ((x.v:Int)+1)from if_pos rfl)
 have aQ:=C6x (show er≠0->ewV x er=0 fromλy=>if_neg y)
 have aR:=C6x (show(ic x)[2]? =some (.int .u64 (x.v:Int))from rfl)
 have aX:IntKind.u64.wrap ((x.v:Int)+1)=((P9 ((x.v:Int)+1):Nat):Int):=A2T _
 obtain⟨v,hv⟩:∃v,v=x.v:=⟨_,rfl⟩
 rw[<-hv]at aR aX HV
 obtain⟨v1,aW⟩:∃v1,v1=P9 ((v:Int)+1):=⟨_,rfl⟩
 rw[<-aW]at aX HV
 clear aU aV hR h aT hx hs hl hq hv aW
 by_cases h0:er=0
 ·subst h0
  go_enter Tryz.func90,Tryz.ntmps90
  go_wp2_with (first
   |(refine C5 (t:=35) rfl _ rfl rfl ?_;intro X w0 U J I;have aD:=C6x J;have aB:=C6x I;have aP:=C6x U;clear U J I)
   |(refine C5 (t:=62) rfl _ rfl rfl ?_;intro Y w1 U J I;have aF:=C6x J;have aC:=C6x (aB.out.trans I);have aI:=C6x (Nat.le_trans aB.out.size U);have aA:=C6x (aD.out.over I);have c1:w1.cell? ⟨X,0,none⟩=some (.int .i64 (q:Int)):=aA.out.cell 0;clear U J I)
   |(refine B6 (t:=62) rfl _ rfl Y aF.out rfl Tryz.underlying62 rfl C0 (C2 _) ?_)
   |(go_at_call 104;refine(aO.out _ (HC.out.step aC.out)).mono ?_;rintro r w2 ⟨rfl,V,I⟩;have aM:=C6x V;have aJ:=C6x ((aC.out.same (G:=CF c m) (λ_ y=>y.elim)).trans I);have aL:=C6x (aA.out.keep (I.block X aA.out.lt (λy=>aE.out X aP.out (.inr (.inr y)))));have aS:=C6x (aF.out.keep (I.block Y aF.out.lt (λy=>aE.out Y aI.out (.inr (.inr y)))));clear V I c1 aD)
   |(refine B6 (t:=35) rfl _ rfl X aL.out rfl Tryz.underlying35 rfl B1 rfl ?_)
   |(go_at_call 84;refine(aH.out _ aM.out).mono ?_;rintro r w3 ⟨rfl,V,I⟩;have aN:=C6x V;have aK:=C6x (aJ.out.trans I);have aY:=C6x (aS.out.keep (I.block Y aS.out.lt (λy=>aE.out Y aI.out (.inr (.inr y)))));clear V I)
   |(go_at_call 46;refine(aG.out _ aN.out).mono ?_;rintro r w4 Z;obtain⟨rfl,_⟩:=id Z;have HE:=C6x Z;have c4:w4.cell? ⟨Y,2,none⟩=some (.int .u64 (v:Int)):=(by rw[(Z.blk aY.out (aE.out Y aI.out)).cell];exact aR.out);clear Z)
   |fail)
  go_ret2
  exact⟨by rw[HV.out];rfl,HE.out.from_ aK.out⟩
 ·have J:(er !=0)=true:=by rw[bne_iff_ne];exact h0
  have HN:=C6x (aQ.out h0)
  clear h0 aQ HV
  go_enter Tryz.func90,Tryz.ntmps90
  go_wp2_with (first
   |(refine C5 (t:=35) rfl _ rfl rfl ?_;intro X w0 U J I;have aD:=C6x J;have aB:=C6x I;have aP:=C6x U;clear U J I)
   |(refine C5 (t:=62) rfl _ rfl rfl ?_;intro Y w1 U J I;have aF:=C6x J;have aC:=C6x (aB.out.trans I);have aI:=C6x (Nat.le_trans aB.out.size U);have aA:=C6x (aD.out.over I);have c1:w1.cell? ⟨X,0,none⟩=some (.int .i64 (q:Int)):=aA.out.cell 0;clear U J I)
   |(refine B6 (t:=62) rfl _ rfl Y aF.out rfl Tryz.underlying62 rfl C0 (C2 _) ?_)
   |(go_at_call 104;refine(aO.out _ (HC.out.step aC.out)).mono ?_;rintro r w2 ⟨rfl,V,I⟩;have aM:=C6x V;have aJ:=C6x ((aC.out.same (G:=CF c m) (λ_ y=>y.elim)).trans I);have aL:=C6x (aA.out.keep (I.block X aA.out.lt (λy=>aE.out X aP.out (.inr (.inr y)))));clear V I c1 aD)
   |(refine B6 (t:=35) rfl _ rfl X aL.out rfl Tryz.underlying35 rfl B1 rfl ?_)
   |(go_at_call 84;refine(aH.out _ aM.out).mono ?_;rintro r w3 ⟨rfl,V,I⟩;have aN:=C6x V;have aK:=C6x (aJ.out.trans I);clear V I)
   |(go_at_call 46;refine(aG.out _ aN.out).mono ?_;rintro r w4 Z;obtain⟨rfl,_⟩:=id Z;have HE:=C6x Z;clear Z)
   |fail)
  go_ret2
  exact⟨by rw[HN.out];rfl,HE.out.from_ aK.out⟩
end
end
section
open Go.RowKit Go.Maps
theorem nef{I:World}{E:Ev}{c m z:Nat}(U:I.heap.size<=c)(V:I.heap.size<=m)(W:z<I.heap.size)(J:¬EO E z):¬EF E c m z:=λy=>by
 rcases y with y|y|y|y
 ·exact J (.inl y)
 ·exact J (.inr y)
 ·omega
 ·omega
theorem So.new{w:World}{E:Ev}(h:So w E)(z:Nat)(V:w.heap.size<=z):¬EO E z:=λy=>by
 obtain⟨I,J,U⟩:=h.bd
 rcases y with y|y
 ·have:=I _ y;omega
 ·omega
noncomputable def B2h(E:Ev)(X:L6):CS:=(⟨E.H,0⟩:CS).fill E.M X []
noncomputable def B0p(E:Ev)(X:L6):L6:=(⟨E.H,0⟩:CS).fillX E.M X []
noncomputable def B2i(E:Ev)(i g:Int):CS:=ewS (B2h E (fileX E.H i g)) i.toNat g (B0p E (fileX E.H i g))
section
variable {w:World} {E:Ev}
theorem C3y{c m:Nat}(h:Cs w E c m ⟨E.H,0⟩)(I:Sw E.H E.M)(i g:Int):Calls Tryz.prog 93 #[.pointer (some ⟨c,0,none⟩),.agg (ic (fileX E.H i g)),.slice none 0 0] w λr w'=>r= .returned (.agg (ic (B0p E (fileX E.H i g))))/\Cs w' E c m (B2h E (fileX E.H i g))/\B0 (CF c m) w (CF c m) w':=
 B3D h I (fileX E.H i g) (V8 I.sd i g).2.1 none 0 0 [] rfl (λr J=>by simp at J) (by simp) (A1X.nil _ _ _)
theorem C18(h:So w E)(hs:Sw E.H E.M)(i g:Int)(hl:Q3 E.H i g 2=0->LOk E (B2i E i g)):
 Calls Tryz.prog 37 #[.pointer (some ⟨E.o,0,none⟩),.agg #[.int .i64 i,.int .i64 g]] w λr w'=>
  (Q3 E.H i g 2≠0/\r= .returned (.tuple #[.int .u64 0,.int .i64 (Q3 E.H i g 2)])/\B0 B5 w B5 w')\/
  (Q3 E.H i g 2=0/\r= .returned (.tuple #[.int .u64 (ewV (B0p E (fileX E.H i g)) (P8 E (B2i E i g)).2:Int),.int .i64 (P8 E (B2i E i g)).2])/\OdR w E (P8 E (B2i E i g)) w'):=by
 have hv:=h.vu.rdv
 have HM:=C6x (λV (a:B0 B5 w B5 V)=>A0Y (hv.step a))
 have aH:=C6x (λV (a:B0 B5 w B5 V)=>A2u (hv.step a) hs.sd i g 2)
 have aQ:=C6x (λV (a:B0 B5 w B5 V)=>A11 (h.step a))
 have HG:=C6x (h.new)
 by_cases W:Q3 E.H i g 2=0
 ·obtain⟨f1,f2,f3⟩:=A0W W
  have f4:=R5 f1
  obtain⟨q,rfl⟩:∃q:Nat,i=(q:Int):=⟨i.toNat,by omega⟩
  have HK:=C6x W
  obtain⟨wf,pt,_⟩:=V8 hs.sd (q:Int) g
  have aL:Sw (⟨E.H,0⟩:CS).H E.M:=hs
  have aK:A0c []:=λr hr=>by simp at hr
  have bB:Sw (B2h E (fileX E.H (q:Int) g)).H E.M:=A4v aL aK pt 8 (Nat.le_refl _)
  have aW:WfI (B0p E (fileX E.H (q:Int) g)):=A7w aL aK pt wf
  have bC:Sw ((B2h E (fileX E.H (q:Int) g)).set q (B0p E (fileX E.H (q:Int) g))).H E.M:=A3M bB aW (λ_=>by omega) (λe=>B3N aL aK pt 8 (Nat.le_refl _) e)
  have aR:=C6x (λV c m (k:Cs V E c m ⟨E.H,0⟩)=>C3y k hs (q:Int) g)
  have aA:=C6x (λV c m (k:Cs V E c m (B2h E (fileX E.H (q:Int) g)))=>A8Z k hs.sd.row q (by omega) g _ aW bC (hl W))
  rw[show ewS (B2h E (fileX E.H (q:Int) g)) q g (B0p E (fileX E.H (q:Int) g))=B2i E (q:Int) g from rfl]at aA
  obtain⟨X,hX⟩:∃X,X=fileX E.H (q:Int) g:=⟨_,rfl⟩
  have HF:=C6x (λV (a:B0 B5 w B5 V)=>(aH.out V a).mono (R':=λe w'=>e= .returned (.tuple #[.agg (ic X),.int .i64 0])/\B0 B5 V B5 w') (λe w' y=>by
   obtain⟨y1,y2⟩:=y
   refine⟨y1.trans ?_,y2⟩
   show Ending.returned (.tuple #[.agg (ic (A7l E.H (q:Int) g 2)),.int .i64 (Q3 E.H (q:Int) g 2)])=_
   rw[f3,W,hX]))
  rw[<-hX]at aR aA⊢
  obtain⟨Y,hY⟩:∃Y,Y=B0p E X:=⟨_,rfl⟩
  obtain⟨S1,aZ⟩:∃S1,S1=B2h E X:=⟨_,rfl⟩
  obtain⟨S2,bA⟩:∃S2,S2=B2i E (q:Int) g:=⟨_,rfl⟩
  rw[<-hY,<-aZ]at aR aA
  rw[<-bA]at aA⊢
  rw[<-hY]
  obtain⟨R,hR⟩:∃R,R=P8 E S2:=⟨_,rfl⟩
  rw[<-hR]at aA⊢
  obtain⟨o,ho⟩:∃o,o=E.o:=⟨_,rfl⟩
  rw[<-ho]at HM HF aQ⊢
  obtain⟨v,bD⟩:∃v,v=ewV Y R.2:=⟨_,rfl⟩
  rw[<-bD]at aA⊢
  clear hv h hs hl W f1 f2 f3 f4 wf pt aL aK bB aW bC hX hY aZ bA hR ho bD aH
  go_enter Tryz.func37,Tryz.ntmps37
  go_upto_region 7 with(first
   |(refine C5 (t:=35) rfl _ rfl rfl ?_;intro z0 w0 U J I;have aE:=C6x J;have Z:=C6x I;have aX:=C6x U;clear U J I)
   |(go_at_call 73;refine(HM.out _ Z.out).mono ?_;rintro e w2 ⟨rfl,rfl⟩)
   |(refine B6 (t:=35) rfl _ rfl z0 aE.out rfl Tryz.underlying35 rfl B1 rfl ?_)
   |(go_at_call 86;refine(HF.out _ Z.out).mono ?_;rintro e w2 ⟨rfl,I⟩;have aD:=C6x (Z.out.trans I);have aF:=C6x (aE.out.over I);clear I)
   |(refine B9 rfl rfl C6 ?_;intro z6 w5 U J I;have aP:=C6x J;have aM:=C6x (aD.out.trans I);have aJ:=C6x (Nat.le_trans aD.out.size U);have aN:=C6x (aF.out.over I);have aS:=C6x (show z0≠z6 fromλe=>by have:=aF.out.lt;omega);clear U J I)
   |(refine B7 rfl _ _ rfl z6 aP.out rfl rfl C0 (C2 _) (C2 _) (D5 _) ?_;intro w6 J I;have aU:=C6x J;have aC:=C6x (aM.out.fresh aJ.out I);have aO:=C6x (aN.out.far1 I aS.out);clear J I)
   |(go_at_call 44;refine(aQ.out _ aC.out).mono ?_;rintro e w9 ⟨c,m,rfl,hc,h1,h2,I⟩;have bP:=C6x (show Cs _ E c m ⟨E.H,0⟩from hc);have aY:=C6x (And.intro (Nat.le_trans aC.out.size h1) (Nat.le_trans aC.out.size h2));have bK:=C6x (aO.out.over I);have bQ:=C6x (aU.out.over I);have aI:=C6x (show(¬EF E c m z0)/\¬EF E c m z6 from⟨nef h1 h2 aO.out.lt (HG.out z0 aX.out),nef h1 h2 aU.out.lt (HG.out z6 aJ.out)⟩);have bI:=C6x (aC.out.trans I);clear hc h1 h2 I)
   |fail)
  have bJ:=C6x (show B0 (CF c m) w9 (CF c m) w9.drew from(B0.refl _ _).drew)
  have bM:=C6x (bP.out.step ((B0.refl B5 w9).drew))
  have aB:=C6x (show C3 w9.drew z0 35 #[.int .i64 (q:Int),.int .i64 g]/\C3 w9.drew z6 62 (ic X)from⟨bK.out,bQ.out⟩)
  refine D6 (S:=(λw'=>C3 w' z0 35 #[.int .i64 (q:Int),.int .i64 g]/\C3 w' z6 62 (ic X))) (by with_reducible first|exact aT.out|exact aG.out|exact aB.out) (λhH=>?_)
  refine C62 0 rfl ?_
  refine C65 1 (.agg #[.int .i64 (q:Int),.int .i64 g]) rfl (Q2 rfl (.tmp 3) rfl z0 rfl (λ_ h=>h.1) Tryz.underlying35 rfl B1 rfl) ?_
  refine C62 2 rfl ?_
  refine C65 3 (.agg (ic X)) rfl (Q2 rfl (.tmp 6) rfl z6 rfl (λ_ h=>h.2) Tryz.underlying62 rfl C0 (C2 _)) ?_
  refine C6z 4 rfl (λK hK=>?_)
  go_simp
  refine(aR.out _ c m bM.out).mono ?_
  rintro r bF ⟨rfl,hc,I⟩
  have bO:=C6x hc
  have bH:=C6x (bJ.out.trans I)
  have aG:=C6x (show C3 bF z0 35 #[.int .i64 (q:Int),.int .i64 g]/\C3 bF z6 62 (ic X)from⟨aB.out.1.keep (I.block z0 aB.out.1.lt (λy=>aI.out.1 (.inr (.inr y)))),aB.out.2.keep (I.block z6 aB.out.2.lt (λy=>aI.out.2 (.inr (.inr y))))⟩)
  clear hc I
  go_wp2_with fail
  refine C60 hK (by with_reducible first|exact aT.out|exact aG.out|exact aB.out) ?_
  clear hK K hH
  intro hH
  try simp only[Act.put,sA,sB,sC]
  refine C6z 5 rfl (λK hK=>?_)
  go_simp
  refine(aA.out _ c m bO.out).mono ?_
  rintro r bG ⟨rfl,he⟩
  have aT:=C6x (show C3 bG z0 35 #[.int .i64 (q:Int),.int .i64 g]/\C3 bG z6 62 (ic X)from⟨he.blk aG.out.1 aI.out.1,he.blk aG.out.2 aI.out.2⟩)
  have HO:=C6x (he.op bI.out aY.out.1 aY.out.2 bH.out).2
  clear he
  go_wp2_with fail
  refine C60 hK (by with_reducible first|exact aT.out|exact aG.out|exact aB.out) ?_
  clear hK K hH
  intro hH
  try simp only[Act.put,sA,sB,sC]
  refine C62 6 rfl ?_
  refine C62 7 rfl ?_
  refine C62 8 rfl ?_
  refine C62 9 rfl ?_
  refine wpAnyH_done (by kernel_rfl) ?_ _
  go_wp2_with fail
  go_ret2
  exact .inr ⟨HK.out,rfl,HO.out⟩
 ·obtain⟨er,aV⟩:∃er,er=Q3 E.H i g 2:=⟨_,rfl⟩
  obtain⟨X,hX⟩:∃X,X=A7l E.H i g 2:=⟨_,rfl⟩
  have HF:=C6x (λV (a:B0 B5 w B5 V)=>(aH.out V a).mono (R':=λe w'=>e= .returned (.tuple #[.agg (ic X),.int .i64 er])/\B0 B5 V B5 w') (λe w' y=>by rw[hX,aV];exact y))
  rw[<-aV]at W⊢
  have J:(er !=0)=true:=by rw[bne_iff_ne];exact W
  have HK:=C6x W
  obtain⟨o,ho⟩:∃o,o=E.o:=⟨_,rfl⟩
  rw[<-ho]at HM HF⊢
  clear hv h hs hl W aV hX aH aQ ho
  go_enter Tryz.func37,Tryz.ntmps37
  go_wp2_with (first
   |(refine C5 (t:=35) rfl _ rfl rfl ?_;intro z0 w0 U J I;have aE:=C6x J;have Z:=C6x I;have aX:=C6x U;clear U J I)
   |(go_at_call 73;refine(HM.out _ Z.out).mono ?_;rintro e w2 ⟨rfl,rfl⟩)
   |(refine B6 (t:=35) rfl _ rfl z0 aE.out rfl Tryz.underlying35 rfl B1 rfl ?_)
   |(go_at_call 86;refine(HF.out _ Z.out).mono ?_;rintro e w2 ⟨rfl,I⟩;have aD:=C6x (Z.out.trans I);have aF:=C6x (aE.out.over I);clear I)
   |(refine B9 rfl rfl C6 ?_;intro z6 w5 U J I;have aP:=C6x J;have aM:=C6x (aD.out.trans I);have aJ:=C6x (Nat.le_trans aD.out.size U);have aN:=C6x (aF.out.over I);have aS:=C6x (show z0≠z6 fromλe=>by have:=aF.out.lt;omega);clear U J I)
   |(refine B7 rfl _ _ rfl z6 aP.out rfl rfl C0 (C2 _) (C2 _) (D5 _) ?_;intro w6 J I;have aU:=C6x J;have aC:=C6x (aM.out.fresh aJ.out I);have aO:=C6x (aN.out.far1 I aS.out);clear J I)
   |fail)
  go_ret2
  exact .inl ⟨HK.out,rfl,aC.out⟩
end
end
section
open Go.RowKit Go.Maps
theorem B2j{I w:World}{c m n:Nat}{v:Value}{l:List Nat}(h:Rd w 1 v n (l.map u8))(U:∀k,v.ownBlock=some k->I.heap.size<=k)(V:c<I.heap.size/\m<I.heap.size):C1o w c m v n l:=λW a=>
 h.adv a (λk J _ y=>by
  have:=U k J
  rcases y with y|y<;>omega)
theorem So.new_o{w:World}{E:Ev}(h:So w E)(z:Nat)(V:w.heap.size<=z):z≠E.o:=λy=>by
 obtain⟨I,J,U⟩:=h.bd
 omega
theorem Cg.aside{W w2:World}{E:Ev}{c m z:Nat}{H:Nat->List Nat}{e:Int}(h:Cg W E c m H e)(hz:¬EF E c m z)(Z:z≠E.o)(J:B0 (J0 z) W (J0 z) w2):Cg w2 E c m H e:=by
 obtain⟨A,V,X,h3,Y⟩:=h.ex
 have I:∀k,EF E c m k->¬J0 z k:=λk U y=>by
  unfold J0 at y
  subst y
  exact hz U
 exact⟨h.so.far J (λk U hu=>I k (.inl hu) U) (λy=>Z y.symm) (I _ (.inr (.inl rfl))),⟨A,V.keep (J.block m V.lt (I _ (.inr (.inr (.inr rfl))))),X,h3,Y⟩,h.blk.keep (J.block c h.blk.lt (I _ (.inr (.inr (.inl rfl))))),h.sc,h.sm⟩
noncomputable def A40(H:Nat->List Nat)(i g a:Int)(s:ByteArray):Int:=
 if 0<=a/\a<8 then(if s.size<=64 then Q3 H i g 2 else 5)else 2
noncomputable def B3R(E:Ev)(X:L6)(j:Nat)(s:ByteArray):CS:=(⟨E.H,0⟩:CS).place E.M (X.a j) (M5 s)
noncomputable def A75(E:Ev)(X:L6)(j:Nat)(s:ByteArray):L6:=atX X (λi=>if i=j then(⟨E.H,0⟩:CS).placeI E.M (X.a j) (M5 s)else X.a i)
noncomputable def B2k(E:Ev)(i g:Int)(j:Nat)(s:ByteArray):CS:=ewS (B3R E (fileX E.H i g) j s) i.toNat g (A75 E (fileX E.H i g) j s)
section
variable {w:World} {E:Ev}
theorem C19{s:ByteArray}(h:s.size<=64):M5 s=[]\/((M5 s).length=128/\∀y∈M5 s,y<256):=by
 by_cases I:s.size=0
 ·exact .inl (by unfold M5;rw[if_pos I])
 ·exact .inr ⟨A0X (by omega) (by omega),B0c (by omega)⟩
theorem C1A{X:L6}{j:Nat}{s:ByteArray}(U:Sw E.H E.M)(I:WfI X)(V:∀i,i<8->X.a i=0\/(42<=X.a i/\X.a i<E.M))(W:j<8):WfI (A75 E X j s)/\((B3R E X j s).e=0->∀i,i<8->(A75 E X j s).a i=0\/(42<=(A75 E X j s).a i/\(A75 E X j s).a i<E.M)):=by
 have Y:Sw (⟨E.H,0⟩:CS).H E.M:=U
 have Z:=U.sd.hM
 have J:=A5j (s:=(⟨E.H,0⟩:CS)) (l:=M5 s) Y (V j W)
 refine⟨⟨I.k,I.g,I.v,λi hi=>?_⟩,λe i hi=>?_⟩
 ·show -9223372036854775808<=(if i=j then _ else _)/\(if i=j then _ else _)<(9223372036854775808:Int)
  split
  ·rcases J with y|y|⟨_,y⟩<;>omega
  ·exact I.a i hi
 ·show(if i=j then _ else _)=(0:Int)\/(42<=(if i=j then _ else _)/\(if i=j then _ else _)<(E.M:Int))
  split
  ·rcases J with y|y|⟨y,_⟩
   ·exact .inl y
   ·exact .inr y
   ·exact absurd e y
  ·exact V i hi
theorem C1B(h:So w E)(hs:Sw E.H E.M)(i g a:Int)(s:ByteArray)(hl:A40 E.H i g a s=0->LOk E (B2k E i g a.toNat s)):
 Calls Tryz.prog 35 #[.pointer (some ⟨E.o,0,none⟩),.agg #[.int .i64 i,.int .i64 g],.int .i64 a,.string s] w λr w'=>
  (A40 E.H i g a s≠0/\r= .returned (.tuple #[.int .u64 0,.int .i64 (A40 E.H i g a s)])/\B0 B5 w B5 w')\/
  (A40 E.H i g a s=0/\r= .returned (.tuple #[.int .u64 (ewV (A75 E (fileX E.H i g) a.toNat s) (P8 E (B2k E i g a.toNat s)).2:Int),.int .i64 (P8 E (B2k E i g a.toNat s)).2])/\OdR w E (P8 E (B2k E i g a.toNat s)) w'):=by
 have hv:=h.vu.rdv
 have HM:=C6x (λV (a:B0 B5 w B5 V)=>A0Y (hv.step a))
 have aK:=C6x (λV=>A59 a V)
 have aJ:=C6x (λV (a:B0 B5 w B5 V)=>A2u (hv.step a) hs.sd i g 2)
 have aO:=C6x (λV (a:B0 B5 w B5 V)=>A11 (h.step a))
 have HG:=C6x (h.new)
 by_cases aB:0<=a/\a<8
 ·obtain⟨j,rfl⟩:∃j:Nat,a=(j:Int):=⟨a.toNat,by omega⟩
  have hj:j<8:=by omega
  have aH:(decide (0<=(j:Int))&&decide ((j:Int)<8))=true:=by rw[decide_eq_true aB.1,decide_eq_true aB.2];rfl
  rw[aH]at aK
  by_cases W:s.size<=64
  ·have eE:A40 E.H i g (j:Int) s=Q3 E.H i g 2:=by unfold A40;rw[if_pos aB,if_pos W]
   rw[eE]at hl⊢
   rw[Int.toNat_natCast]at hl⊢
   have cM:decide ((64:Int)<((s.size:Nat):Int))=false:=decide_eq_false (by omega)
   by_cases hk:Q3 E.H i g 2=0
   ·obtain⟨f1,f2,f3⟩:=A0W hk
    have f4:=R5 f1
    obtain⟨q,rfl⟩:∃q:Nat,i=(q:Int):=⟨i.toNat,by omega⟩
    have HK:=C6x hk
    obtain⟨wf,pt,_⟩:=V8 hs.sd (q:Int) g
    obtain⟨yw,yp⟩:=C1A (s:=s) hs wf pt hj
    have bT:=C19 W
    have cG:Sw (B3R E (fileX E.H (q:Int) g) j s).H E.M:=A7v (s:=(⟨E.H,0⟩:CS)) hs (pt j hj) bT
    have cH:=A3M (i:=q) cG yw (λ_=>by omega) yp
    have bD:=C6x (λV=>A8P s V (by omega))
    have bJ:=C6x (λV c m A k (cc:Cs V E c m ⟨E.H,0⟩) (st:C1o V c m (.slice A (M5 s).length k) (M5 s).length (M5 s))=>B0f cc hs.sd ((fileX E.H (q:Int) g).a j) A (M5 s).length k (M5 s) rfl bT st (by rcases pt j hj with y|y;exact .inl y;exact .inr ⟨by omega,y.2⟩))
    have aE:=C6x (λV c m (k:Cs V E c m (B3R E (fileX E.H (q:Int) g) j s))=>A8Z k hs.sd.row q (by omega) g _ yw cH (hl hk))
    rw[show ewS (B3R E (fileX E.H (q:Int) g) j s) q g (A75 E (fileX E.H (q:Int) g) j s)=B2k E (q:Int) g j s from rfl]at aE
    obtain⟨X,hX⟩:∃X,X=fileX E.H (q:Int) g:=⟨_,rfl⟩
    have HF:=C6x (λV (a:B0 B5 w B5 V)=>(aJ.out V a).mono (R':=λe w'=>e= .returned (.tuple #[.agg (ic X),.int .i64 0])/\B0 B5 V B5 w') (λe w' y=>by
     obtain⟨y1,y2⟩:=y
     refine⟨y1.trans ?_,y2⟩
     show Ending.returned (.tuple #[.agg (ic (A7l E.H (q:Int) g 2)),.int .i64 (Q3 E.H (q:Int) g 2)])=_
     rw[f3,hk,hX]))
    rw[<-hX]at bJ aE⊢
    obtain⟨A,hA⟩:∃A,A=X.a j:=⟨_,rfl⟩
    have HP:=C6x (show(ic X)[3+j]? =some (.int .i64 A)by rw[hA];exact B9t X j hj)
    obtain⟨pi,bV⟩:∃pi,pi=(⟨E.H,0⟩:CS).placeI E.M (X.a j) (M5 s):=⟨_,rfl⟩
    have bH:=C6x (show ic (A75 E X j s)=(ic X).setIfInBounds (3+j) (.int .i64 pi)by rw[bV];exact(B8Z X X.a j hj _).symm)
    obtain⟨Y,hY⟩:∃Y,Y=A75 E X j s:=⟨_,rfl⟩
    obtain⟨S1,bR⟩:∃S1,S1=B3R E X j s:=⟨_,rfl⟩
    obtain⟨S2,cF⟩:∃S2,S2=B2k E (q:Int) g j s:=⟨_,rfl⟩
    obtain⟨bl,bS⟩:∃bl,bl=M5 s:=⟨_,rfl⟩
    have bI:=C6x (λV c m B k (cc:Cs V E c m ⟨E.H,0⟩) (st:C1o V c m (.slice B bl.length k) bl.length bl)=>show Calls Tryz.prog 88 #[.pointer (some ⟨c,0,none⟩),.int .i64 A,.slice B bl.length k] V λr w'=>r= .returned (.int .i64 pi)/\Cs w' E c m S1/\B0 (CF c m) V (CF c m) w' by
     rw[hA,bV,bR]
     rw[bS]at st⊢
     exact bJ.out V c m B k cc st)
    rw[<-bS]at bD
    obtain⟨n,hn⟩:∃n,n=bl.length:=⟨_,rfl⟩
    rw[<-hn]at bD bI
    have cB:=bD
    rw[<-hY,<-bR]at aE
    rw[<-hY]at bH
    rw[<-cF]at aE⊢
    rw[<-hY]
    obtain⟨R,hR⟩:∃R,R=P8 E S2:=⟨_,rfl⟩
    rw[<-hR]at aE⊢
    have cE:=C6x (h.new_o)
    obtain⟨o,Z⟩:∃o,o=E.o:=⟨_,rfl⟩
    rw[<-Z]at HM HF aO⊢
    obtain⟨v,cJ⟩:∃v,v=ewV Y R.2:=⟨_,rfl⟩
    rw[<-cJ]at aE⊢
    have cP:(0:Int)<=(j:Int):=by omega
    have cO:(j:Int)<8:=by omega
    obtain⟨ns,cQ⟩:∃ns:Int,ns=((s.size:Nat):Int):=⟨_,rfl⟩
    clear hv h hs hl hk f1 f2 f3 f4 wf pt yw yp cG cH bT hX hY bR cF hR Z cJ aJ bJ hA bV bS hn eE aB aH hj W
    go_enter Tryz.func35,Tryz.ntmps35
    go_upto_region 11 with(first
     |(refine C5 (t:=35) rfl _ rfl rfl ?_;intro z0 w0 W U I;have aF:=C6x U;have aA:=C6x I;have aT:=C6x W;clear W U I)
     |(go_at_call 73;refine(HM.out _ aA.out).mono ?_;rintro e w2 ⟨rfl,rfl⟩)
     |(go_at_call 85;refine(aK.out _).mono ?_;rintro e w2 ⟨rfl,rfl⟩)
     |(refine B6 (t:=35) rfl _ rfl z0 aF.out rfl Tryz.underlying35 rfl B1 rfl ?_)
     |(go_at_call 86;refine(HF.out _ aA.out).mono ?_;rintro e w2 ⟨rfl,I⟩;have aM:=C6x (aA.out.trans I);have aN:=C6x (aF.out.over I);clear I)
     |(refine B9 rfl rfl C6 ?_;intro J w5 W U I;have bC:=C6x U;have aX:=C6x (aM.out.trans I);have aS:=C6x (Nat.le_trans aM.out.size W);have aC:=C6x (aN.out.over I);have aP:=C6x (show z0≠J fromλe=>by have:=aN.out.lt;omega);clear W U I)
     |(refine B7 rfl _ _ rfl J bC.out rfl rfl C0 (C2 _) (C2 _) (D5 _) ?_;intro w6 U I;have bP:=C6x U;have aI:=C6x (aX.out.fresh aS.out I);have bA:=C6x (aC.out.far1 I aP.out);clear U I)
     |(go_at_call 44;refine(aO.out _ aI.out).mono ?_;rintro e w9 ⟨c,m,rfl,hc,h1,h2,I⟩;have cK:=C6x (show Cs _ E c m ⟨E.H,0⟩from hc);have aV:=C6x (And.intro (Nat.le_trans aI.out.size h1) (Nat.le_trans aI.out.size h2));have cD:=C6x (show c<w9.heap.size/\m<w9.heap.size from hc.lt);have cA:=C6x (bA.out.over I);have aR:=C6x (bP.out.over I);have aL:=C6x (show(¬EF E c m z0)/\¬EF E c m J from⟨nef h1 h2 bA.out.lt (HG.out z0 aT.out),nef h1 h2 bP.out.lt (HG.out J aS.out)⟩);have bY:=C6x (aI.out.trans I);clear hc h1 h2 I)
     |fail)
    have aU:=aS
    have bZ:=C6x (show B0 (CF c m) w9 (CF c m) w9.drew from(B0.refl _ _).drew)
    have cC:=C6x (cK.out.step ((B0.refl B5 w9).drew))
    have d9:=(show w9.drew.cell? ⟨J,3+j,none⟩=some (.int .i64 A)from by rw[aR.out.drew.cell];exact HP.out)
    refine D6 (S:=(λ_=>True)) (by first|exact True.intro) (λhH=>?_)
    refine C6y 0 rfl ?_
    refine C6y 1 rfl ?_
    refine C6y 2 rfl ?_
    refine C6y 3 rfl ?_
    refine C6y 4 rfl ?_
    refine C6y 6 rfl ?_
    refine C6y 9 rfl ?_
    refine C63 5 7 rfl rfl (λK hK=>?_) (λK hK=>?_)
    ·go_simp
     refine C60 hK (by first|exact True.intro) ?_
     clear hK K hH
     intro hH
     try simp only[Act.put,sA,sB,sC]
     refine C6z 7 rfl (λK hK=>?_)
     go_simp
     refine(cB.out w9.drew).mono ?_
     rintro r bX ⟨Ab,kb,rfl,hr,Z,I⟩
     have bG:=C6x (cC.out.step I)
     have bM:=C6x (B2j hr Z cD.out)
     have aY:=C6x (bZ.out.over I)
     have bQ:=(show bX.cell? ⟨J,3+j,none⟩=some (.int .i64 A)from by rw[(aR.out.over (((B0.refl B5 w9).drew).trans I)).cell];exact HP.out)
     have aC:=C6x (cA.out.over (((B0.refl B5 w9).drew).trans I))
     have aQ:=C6x (aR.out.over (((B0.refl B5 w9).drew).trans I))
     clear hr Z I
     go_wp2_with fail
     refine C60 hK (by first|exact True.intro) ?_
     clear hK K hH
     intro hH
     try simp only[Act.put,sA,sB,sC]
     refine C6z 8 rfl (λK hK=>?_)
     go_simp
     refine(bI.out _ c m _ _ bG.out bM.out).mono ?_
     rintro r aD ⟨rfl,hc,I⟩
     have aZ:=C6x (aC.out.keep (I.block z0 aC.out.lt (λy=>aL.out.1 (.inr (.inr y)))))
     have aG:=C6x (aQ.out.keep (I.block J aQ.out.lt (λy=>aL.out.2 (.inr (.inr y)))))
     have bK:=C6x (show aD.cell? ⟨J,3+j,none⟩=some (.int .i64 A)from by rw[aG.out.cell];exact HP.out)
     have cL:aD.frozen? ⟨J,3+j,none⟩=false:=aG.out.frozen _
     have d11:=bK.out
     have sc:=B0.setCell (F:=J0 J) (F':=J0 J) (p:=⟨J,3+j,none⟩) (B0.refl _ aD) (.inl rfl) (.int .i64 pi)
     have bO:=C6x (show C3 (aD.setCell ⟨J,3+j,none⟩ (.int .i64 pi)) J 62 (ic Y)from by rw[bH.out];exact aG.out.set_ (3+j) _)
     have bF:=C6x (Cg.aside hc aL.out.2 (cE.out J aU.out) sc)
     have bB:=C6x (aZ.out.far1 sc aP.out)
     have aW:=C6x (((bY.out.same (G:=CF c m) (λ_ y=>y.elim)).trans (aY.out.trans I)).freshG aU.out sc)
     clear hc I sc d9 bQ
     go_wp2_with fail
     refine C60 hK (by first|exact True.intro) ?_
     clear hK K hH
     intro hH
     try simp only[Act.put,sA,sB,sC]
     refine C6y 10 rfl ?_
     refine C6z 11 rfl (λK hK=>?_)
     go_simp
     refine C60 hK (by first|exact True.intro) ?_
     clear hK K hH
     intro hH
     try simp only[Act.put]
     refine wpAnyH_done (by kernel_rfl) ?_ _
     go_wp2_with (first
      |(refine B6 (t:=35) rfl _ rfl z0 bB.out rfl Tryz.underlying35 rfl B1 rfl ?_)
      |(refine B6 (t:=62) rfl _ rfl J bO.out rfl Tryz.underlying62 rfl C0 (C2 _) ?_)
      |(go_at_call 90;refine(aE.out _ c m bF.out).mono ?_;rintro r cN ⟨rfl,he⟩;have HO:=C6x (he.op (B0.refl B5 w) aV.out.1 aV.out.2 aW.out).2;clear he)
      |fail)
     go_ret2
     exact .inr ⟨HK.out,rfl,HO.out⟩
    ·go_simp
     refine(cB.out w9.drew).mono ?_
     rintro r bX ⟨Ab,kb,rfl,hr,Z,I⟩
     have bG:=C6x (cC.out.step I)
     have bM:=C6x (B2j hr Z cD.out)
     have aY:=C6x (bZ.out.over I)
     have bQ:=(show bX.cell? ⟨J,3+j,none⟩=some (.int .i64 A)from by rw[(aR.out.over (((B0.refl B5 w9).drew).trans I)).cell];exact HP.out)
     have aC:=C6x (cA.out.over (((B0.refl B5 w9).drew).trans I))
     have aQ:=C6x (aR.out.over (((B0.refl B5 w9).drew).trans I))
     clear hr Z I
     go_wp2_with fail
     refine C60 hK (by first|exact True.intro) ?_
     clear hK K hH
     intro hH
     try simp only[Act.put,sA,sB,sC]
     refine C6z 5 rfl (λK hK=>?_)
     go_simp
     refine C60 hK (by first|exact True.intro) ?_
     clear hK K hH
     intro hH
     try simp only[Act.put,sA,sB,sC]
     refine C6z 8 rfl (λK hK=>?_)
     go_simp
     refine(bI.out _ c m _ _ bG.out bM.out).mono ?_
     rintro r aD ⟨rfl,hc,I⟩
     have aZ:=C6x (aC.out.keep (I.block z0 aC.out.lt (λy=>aL.out.1 (.inr (.inr y)))))
     have aG:=C6x (aQ.out.keep (I.block J aQ.out.lt (λy=>aL.out.2 (.inr (.inr y)))))
     have bK:=C6x (show aD.cell? ⟨J,3+j,none⟩=some (.int .i64 A)from by rw[aG.out.cell];exact HP.out)
     have cL:aD.frozen? ⟨J,3+j,none⟩=false:=aG.out.frozen _
     have d11:=bK.out
     have sc:=B0.setCell (F:=J0 J) (F':=J0 J) (p:=⟨J,3+j,none⟩) (B0.refl _ aD) (.inl rfl) (.int .i64 pi)
     have bO:=C6x (show C3 (aD.setCell ⟨J,3+j,none⟩ (.int .i64 pi)) J 62 (ic Y)from by rw[bH.out];exact aG.out.set_ (3+j) _)
     have bF:=C6x (Cg.aside hc aL.out.2 (cE.out J aU.out) sc)
     have bB:=C6x (aZ.out.far1 sc aP.out)
     have aW:=C6x (((bY.out.same (G:=CF c m) (λ_ y=>y.elim)).trans (aY.out.trans I)).freshG aU.out sc)
     clear hc I sc d9 bQ
     go_wp2_with fail
     refine C60 hK (by first|exact True.intro) ?_
     clear hK K hH
     intro hH
     try simp only[Act.put,sA,sB,sC]
     refine C6y 10 rfl ?_
     refine C6z 11 rfl (λK hK=>?_)
     go_simp
     refine C60 hK (by first|exact True.intro) ?_
     clear hK K hH
     intro hH
     try simp only[Act.put]
     refine wpAnyH_done (by kernel_rfl) ?_ _
     go_wp2_with (first
      |(refine B6 (t:=35) rfl _ rfl z0 bB.out rfl Tryz.underlying35 rfl B1 rfl ?_)
      |(refine B6 (t:=62) rfl _ rfl J bO.out rfl Tryz.underlying62 rfl C0 (C2 _) ?_)
      |(go_at_call 90;refine(aE.out _ c m bF.out).mono ?_;rintro r cN ⟨rfl,he⟩;have HO:=C6x (he.op (B0.refl B5 w) aV.out.1 aV.out.2 aW.out).2;clear he)
      |fail)
     go_ret2
     exact .inr ⟨HK.out,rfl,HO.out⟩
   ·obtain⟨er,bU⟩:∃er,er=Q3 E.H i g 2:=⟨_,rfl⟩
    obtain⟨X,hX⟩:∃X,X=A7l E.H i g 2:=⟨_,rfl⟩
    have HF:=C6x (λV (a:B0 B5 w B5 V)=>(aJ.out V a).mono (R':=λe w'=>e= .returned (.tuple #[.agg (ic X),.int .i64 er])/\B0 B5 V B5 w') (λe w' y=>by rw[hX,bU];exact y))
    rw[<-bU]at hk⊢
    have U:(er !=0)=true:=by rw[bne_iff_ne];exact hk
    have HK:=C6x hk
    obtain⟨o,Z⟩:∃o,o=E.o:=⟨_,rfl⟩
    rw[<-Z]at HM HF⊢
    clear hv h hs hl hk bU hX aJ aO Z eE aB aH hj W
    go_enter Tryz.func35,Tryz.ntmps35
    go_wp2_with (first
     |(refine C5 (t:=35) rfl _ rfl rfl ?_;intro z0 w0 W U I;have aF:=C6x U;have aA:=C6x I;have aT:=C6x W;clear W U I)
     |(go_at_call 73;refine(HM.out _ aA.out).mono ?_;rintro e w2 ⟨rfl,rfl⟩)
     |(go_at_call 85;refine(aK.out _).mono ?_;rintro e w2 ⟨rfl,rfl⟩)
     |(refine B6 (t:=35) rfl _ rfl z0 aF.out rfl Tryz.underlying35 rfl B1 rfl ?_)
     |(go_at_call 86;refine(HF.out _ aA.out).mono ?_;rintro e w2 ⟨rfl,I⟩;have aM:=C6x (aA.out.trans I);have aN:=C6x (aF.out.over I);clear I)
     |(refine B9 rfl rfl C6 ?_;intro J w5 W U I;have bC:=C6x U;have aX:=C6x (aM.out.trans I);have aS:=C6x (Nat.le_trans aM.out.size W);have aC:=C6x (aN.out.over I);have aP:=C6x (show z0≠J fromλe=>by have:=aN.out.lt;omega);clear W U I)
     |(refine B7 rfl _ _ rfl J bC.out rfl rfl C0 (C2 _) (C2 _) (D5 _) ?_;intro w6 U I;have bP:=C6x U;have aI:=C6x (aX.out.fresh aS.out I);have bA:=C6x (aC.out.far1 I aP.out);clear U I)
     |fail)
    go_ret2
    exact .inl ⟨HK.out,rfl,aI.out⟩
  ·have eE:A40 E.H i g (j:Int) s=5:=by unfold A40;rw[if_pos aB,if_neg W]
   rw[eE]
   have cM:decide ((64:Int)<((s.size:Nat):Int))=true:=decide_eq_true (by omega)
   obtain⟨o,Z⟩:∃o,o=E.o:=⟨_,rfl⟩
   rw[<-Z]at HM⊢
   clear hv h hs hl aJ aO Z eE aB aH hj W
   go_enter Tryz.func35,Tryz.ntmps35
   go_wp2_with (first
    |(refine C5 (t:=35) rfl _ rfl rfl ?_;intro z0 w0 W U I;have aF:=C6x U;have aA:=C6x I;have aT:=C6x W;clear W U I)
    |(go_at_call 73;refine(HM.out _ aA.out).mono ?_;rintro e w2 ⟨rfl,rfl⟩)
    |(go_at_call 85;refine(aK.out _).mono ?_;rintro e w2 ⟨rfl,rfl⟩)
    |fail)
   go_ret2
   exact .inl ⟨by decide,rfl,aA.out⟩
 ·have eE:A40 E.H i g a s=2:=by unfold A40;rw[if_neg aB]
  rw[eE]
  have aH:(decide (0<=a)&&decide (a<8))=false:=by
   rw[Bool.and_eq_false_iff]
   by_cases h1:0<=a
   ·right;exact decide_eq_false (λx=>aB ⟨h1,x⟩)
   ·left;exact decide_eq_false h1
  rw[aH]at aK
  obtain⟨o,Z⟩:∃o,o=E.o:=⟨_,rfl⟩
  rw[<-Z]at HM⊢
  clear hv h hs hl aJ aO Z eE aB aH
  go_enter Tryz.func35,Tryz.ntmps35
  go_wp2_with (first
   |(refine C5 (t:=35) rfl _ rfl rfl ?_;intro z0 w0 W U I;have aF:=C6x U;have aA:=C6x I;have aT:=C6x W;clear W U I)
   |(go_at_call 73;refine(HM.out _ aA.out).mono ?_;rintro e w2 ⟨rfl,rfl⟩)
   |(go_at_call 85;refine(aK.out _).mono ?_;rintro e w2 ⟨rfl,rfl⟩)
   |fail)
  go_ret2
  exact .inl ⟨by decide,rfl,aA.out⟩
end
end
end Go.Proofs.YtbefmjiclpobjaaGreat
