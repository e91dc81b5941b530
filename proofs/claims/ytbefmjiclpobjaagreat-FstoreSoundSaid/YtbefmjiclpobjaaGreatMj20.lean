import Derived.Test.YtbefmjiclpobjaaGreatMj19
namespace Go.Proofs.YtbefmjiclpobjaaGreat
set_option maxHeartbeats 3200000
set_option maxRecDepth 3000
section
open Go.RowKit
noncomputable def CS.setEn(s:CS)(M:Nat)(i g:Int)(l:List En):CS:=
 (((s.note (bE l)).note (fileE s.H i g)).fill M (fileX s.H i g) (bL l)).set i.toNat (((s.note (bE l)).note (fileE s.H i g)).fillX M (fileX s.H i g) (bL l))
theorem V8{H:Nat->List Nat}{M:Nat}(h:Sd H M)(i g:Int):WfI (fileX H i g)/\(∀j,j<8->(fileX H i g).a j=0\/(42<=(fileX H i g).a j/\(fileX H i g).a j<M))/\(fileX H i g).v<=1099511627775:=by
 by_cases I:fileE H i g=0
 ·obtain⟨W,X,_,_,U⟩:=R5 I
  obtain⟨d1,_,J⟩:=h.dec (i:=i.toNat) (by omega) (by omega)
  rw[U]
  refine⟨?_,J,?_⟩
  ·unfold C9 dI
   cases hq:A1e (H (1+i.toNat))with
   |none=>rw[hq]at d1;cases d1
   |some y=>
    have:y=prt (byN (H (1+i.toNat))):=by
     unfold A1e at hq
     split at hq
     ·exact(Option.some.inj hq).symm
     ·cases hq
    rw[this]
    exact B3l _
  ·have:=(B6v d1).1.2
   have V:=(A9D 8).1 this
   have:=V.1.2
   omega
 ·rw[(A2t I).1]
  exact⟨⟨by decide,by decide,by decide,λj _=>by show -9223372036854775808<=(0:Int)/\(0:Int)<9223372036854775808;decide⟩,λj _=>.inl rfl,by decide⟩
theorem A6i(l:List En):A0c (bL l):=B3x l
theorem C3h(l:List En):(bL l).length<=100:=by
 unfold bL
 split
 ·rename_i h
  have:=(B4F h).2
  rw[M9]
  unfold nCh
  omega
 ·exact Nat.zero_le _
theorem B9b{M:Nat}{x:L6}{bs:List (List Nat)}{s:CS}(h:Sw s.H M)(J:A0c bs)(I:∀j,j<8->x.a j=0\/(42<=x.a j/\x.a j<M)):∀j,j<=8->∀i,i<8-> -1<=(fl M x bs s j).2 i/\(fl M x bs s j).2 i<2000
 |0,_,i,hi=>by
  have:=I i hi
  have U:=h.sd.hM
  show -1<=x.a i/\x.a i<2000
  omega
 |j+1,hj,i,hi=>by
  have V:=B9b h J I j (by omega) i hi
  have U:=h.sd.hM
  show -1<=(if i=j then _ else _)/\(if i=j then _ else _)<(2000:Int)
  split
  ·have:=A5j (s:=(fl M x bs s j).1) (l:=bs.getD j []) (A4v h J I j (by omega)) (I j (by omega))
   omega
  ·exact V
theorem A7w{M:Nat}{x:L6}{bs:List (List Nat)}{s:CS}(h:Sw s.H M)(U:A0c bs)(J:∀j,j<8->x.a j=0\/(42<=x.a j/\x.a j<M))(I:WfI x):WfI (s.fillX M x bs):=
 ⟨I.k,I.g,I.v,λj V=>by have:=B9b h U J 8 (Nat.le_refl _) j V;show -9223372036854775808<=(fl M x bs s 8).2 j/\(fl M x bs s 8).2 j<9223372036854775808;omega⟩
theorem RwO.stay{w:World}{E:Ev}{c m:Nat}{H:Nat->List Nat}{e:Int}{v:Value}{rs:List (List Nat)}(h:RwO w v rs)(Z:Cg w E c m H e)(h8:A0c rs):A1X w c m v rs:=by
 obtain⟨cs,h1,h2,h3⟩:=h.ex
 obtain⟨A,⟨D,⟨es,cl,hm,_⟩,_⟩,_⟩:=Z.ex
 have aA:∀{t:TypeId} {X n:Nat} {u:Value} {Y:List Value} {W:World},t≠175->B0 (CF c m) w (CF c m) W->w.ownsRow 0 t X u n Y->W.ownsRow 0 t X u n Y:=λ{t X n u Y W} aD ha V=>J2 V λk U=>by
  rcases V.2 with⟨rfl,_⟩|⟨I,aE,aF,rfl,_,J,_⟩
  ·simp[Value.ownBlock]at U
  ·obtain rfl:I=k:=by simpa[Value.ownBlock]using U
   have aC:I<w.heap.size:=by
    rcases Nat.lt_or_ge I w.heap.size with x|x
    ·exact x
    ·rw[Array.getElem?_eq_none x]at J;cases J
   refine ha.block I aC (λU=>?_)
   rcases U with rfl|rfl
   ·exact P5 V Z.blk aD rfl
   ·rw[hm]at J;cases J
 refine⟨cs,h2,λW a=>⟨A7h (aA (by decide) a h1),λi b r hb hr=>?_⟩⟩
 have aB:=(h8 r (List.mem_of_getElem? hr)).1
 rw[aB]
 exact A7h (aA (by decide) a (h3 i b r hb hr))
def C3i(W:World)(X:L6)(U:Int)(t7 t8:Value)(J:World):Prop:=∃I,t7= .int .i64 U/\t8= .pointer (some ⟨I,0,none⟩)/\C3 J I 62 (ic X)/\W.heap.size<=I/\B0 B5 W B5 J
section
variable {w w':World} {E:Ev} {c m:Nat} {s:CS}
theorem B4T(h:Cs w E c m s)(hs:Sw s.H E.M)(i g:Int)(hi:0<=i/\i<=40)(v:Value)(l:List En)(hl:M0 w v l):
 Calls Tryz.prog 141 #[.pointer (some ⟨c,0,none⟩),.agg #[.int .i64 i,.int .i64 g],v] w λr w'=>r= .returned (.tuple #[])/\Cs w' E c m (s.setEn E.M i g l)/\B0 (CF c m) w (CF c m) w':=by
 have HC:=C6x h
 have dB:=C6x hs
 have aU:=C6x (λW (a:B0 B5 w B5 W)=>A57 v l W (hl.step a))
 have bZ:=C6x (λ(e:Int) W (k:Cg W E c m s.H e)=>A7m k.rdv hs.sd i g)
 have aP:=C6x (V8 hs.sd i g)
 have HM:=C6x hs.sd.hM
 have aK:=C6x (And.intro (A6i l) (C3h l))
 obtain⟨X,hX⟩:∃X,X=fileX s.H i g:=⟨_,rfl⟩
 obtain⟨fe,bJ⟩:∃fe,fe=fileE s.H i g:=⟨_,rfl⟩
 obtain⟨be,bI⟩:∃be,be=bE l:=⟨_,rfl⟩
 obtain⟨B,hB⟩:∃B,B=bL l:=⟨_,rfl⟩
 have hR:s.setEn E.M i g l=(((s.note be).note fe).fill E.M X B).set i.toNat (((s.note be).note fe).fillX E.M X B):=by rw[hX,bJ,bI,hB];rfl
 rw[hR]
 unfold C4C at aU
 rw[<-bI,<-hB]at aU
 rw[<-hX,<-bJ]at bZ
 rw[<-hX]at aP
 rw[<-hB]at aK
 obtain⟨n,rfl⟩:∃n:Nat,i=(n:Int):=⟨i.toNat,by omega⟩
 rw[Int.toNat_natCast]
 obtain⟨s2,aR⟩:∃s2,s2=(s.note be).note fe:=⟨_,rfl⟩
 have bK:s2.H=s.H:=by rw[aR];rfl
 have bM:s2.e=M8 (M8 s.e be) fe:=by rw[aR];rfl
 have bO:Sw s2.H E.M:=by rw[bK];exact hs
 rw[<-aR]
 have aZ:=C6x (λW (k:Cg W E c m s.H s.e)=>T6 k be)
 obtain⟨e1,cE⟩:∃e1,e1=M8 s.e be:=⟨_,rfl⟩
 rw[<-cE]at aZ bM
 have cU:=C6x (λW (k:Cg W E c m s.H e1)=>show Calls Tryz.prog 101 #[.pointer (some ⟨c,0,none⟩),.int .i64 fe] W λr w'=>r= .returned (.tuple #[])/\Cs w' E c m s2/\B0 (CF c m) W (CF c m) w' by
  have:=T6 k fe
  rw[<-bM,<-bK]at this
  exact this)
 have bV:=C6x (λW (k:Cs W E c m s2) (A:Option Addr) (n q:Nat) (hn:n=B.length) (hr:A1X W c m (.slice A n q) B)=>B3D k bO X aP.out.2.1 A n q B hn aK.out.1 aK.out.2 hr)
 obtain⟨X3,bH⟩:∃X3,X3=s2.fillX E.M X B:=⟨_,rfl⟩
 obtain⟨s3,cG⟩:∃s3,s3=s2.fill E.M X B:=⟨_,rfl⟩
 have cY:=C6x (show WfI X3 by rw[bH];exact A7w bO aK.out.1 aP.out.2.1 aP.out.1)
 rw[<-bH,<-cG]at bV⊢
 have cB:=C6x (λW (k:Cs W E c m s3)=>show Calls Tryz.prog 104 #[.pointer (some ⟨c,0,none⟩),.int .i64 (n:Int),.agg (ic X3)] W λr w'=>r= .returned (.tuple #[])/\Cs w' E c m (s3.set n X3)/\B0 (CF c m) W (CF c m) w' from A7s k n (by omega) X3 cY.out (by have:=HM.out;omega))
 have aF:=C6x (λ(d:Nat) (hd:w.heap.size<=d)=>h.apart (G:=J0 d) (λk U=>by unfold J0 at U;omega))
 obtain⟨s4,cH⟩:∃s4,s4=s3.set n X3:=⟨_,rfl⟩
 rw[<-cH]at cB⊢
 clear hR hX bJ bI hB h hs hl aR bK bM bO cE bH cG cH hi
 go_enter Tryz.func141,Tryz.ntmps141
 go_upto_region 3 with(first
  |(refine C5 rfl _ rfl rfl ?_;intro J w1 hz Y I;have aQ:=C6x hz;have cO:=C6x Y;have bQ:=C6x I;clear hz Y I)
  |(go_at_call 174;refine(aU.out _ bQ.out).mono ?_;rintro r w2 ⟨A2,n2,c2,rfl,cF,I⟩;have cA:=C6x cF;have bT:=C6x (cO.out.over I);have bR:=C6x (bQ.out.trans I);have bU:=C6x (HC.out.step bR.out);clear cF I)
  |(go_at_call 101;refine(aZ.out w2 bU.out).mono ?_;rintro r w3 ⟨rfl,Z,I⟩;have aV:=C6x Z;have aS:=C6x ((bR.out.same (G:=CF c m) (λ_ x=>x.elim)).trans I);have aO:=C6x (bT.out.keep (I.block J bT.out.lt (λU=>aF.out J aQ.out J U rfl)));have cC:=C6x ((cA.out.stay bU.out aK.out.1).later I);have cV:=C6x (show n2=B.length from by obtain⟨A',c',e,_⟩:=(cA.out.rd (λr hr=>(aK.out.1 r hr).1)).form;injection e);clear Z I aZ)
  |fail)
 obtain⟨W,hW⟩:∃W,W=w3:=⟨_,rfl⟩
 rw[<-hW]at aV aS aO cC⊢
 clear hW
 have bY:=C6x (λV (a:B0 B5 W B5 V)=>bZ.out e1 V (aV.out.step a))
 have aM:=C6x (show B0 B5 W B5 W.drew from(B0.refl _ _).drew)
 have aA:=C6x (show∀V,B0 B5 W B5 V->V.cell? ⟨J,0,none⟩=some (.int .i64 (n:Int))/\V.cell? ⟨J,1,none⟩=some (.int .i64 g)fromλV a=>⟨(aO.out.over a).cell 0,(aO.out.over a).cell 1⟩)
 have aB:=C6x (aA.out _ aM.out)
 go_cut [7,8] (λt7 t8 W9=>C3i W X fe t7 t8 W9)
 case first=>
  refine D6 (S:=(λw'=>w'.cell? ⟨J,0,none⟩=some (.int .i64 (n:Int))/\w'.cell? ⟨J,1,none⟩=some (.int .i64 g))) (by with_reducible first|exact aE.out|exact aD.out|exact aC.out|exact aB.out) (λhH=>?_)
  refine C62 0 rfl ?_
  refine C62 1 rfl ?_
  refine C62 2 rfl ?_
  refine C62 3 rfl ?_
  refine C63 4 8 rfl rfl (λK hK=>?_) (λK hK=>?_)
  ·go_simp
   refine(bY.out _ aM.out).mono ?_
   rintro r w5 ⟨rfl,a5⟩
   have aG:=C6x (aM.out.trans a5)
   have aC:=C6x (aA.out _ aG.out)
   clear a5
   go_wp2_with fail
   refine C60 hK (by with_reducible first|exact aE.out|exact aD.out|exact aC.out|exact aB.out) ?_
   clear hK K hH
   intro hH
   try simp only[Act.put,sA,sB,sC]
   refine C62 5 rfl ?_
   refine C62 6 rfl ?_
   refine C62 7 rfl ?_
   refine C6z 8 rfl (λK hK=>?_)
   refine T2 rfl rfl C6 (λz8 w8 hz Y I=>?_)
   have aN:=C6x (Nat.le_trans aG.out.size hz)
   have aT:=C6x (Y)
   have aH:=C6x (aG.out.trans I)
   have aD:=C6x (aA.out _ aH.out)
   clear hz Y I
   refine C60 hK (by with_reducible first|exact aE.out|exact aD.out|exact aC.out|exact aB.out) ?_
   clear hK K hH
   intro hH
   try simp only[Act.put,sA,sB,sC]
   refine C6z 9 rfl (λK hK=>?_)
   refine T3 rfl _ _ rfl z8 aT.out rfl rfl C0 (C2 _) (C2 _) (D5 _) (λw9 Y I=>?_)
   have aJ:=C6x (Y)
   have aI:=C6x (aH.out.fresh aN.out I)
   have aE:=C6x (aA.out _ aI.out)
   clear Y I
   refine C60 hK (by with_reducible first|exact aE.out|exact aD.out|exact aC.out|exact aB.out) ?_
   clear hK K hH
   intro hH
   try simp only[Act.put]
   refine C62 10 rfl ?_
   refine wpAnyH_done (by kernel_rfl) ?_ _
   go_wp2_with fail
   go_meet
   exact⟨z8,rfl,rfl,aJ.out,aN.out,aI.out⟩
  ·refine T2 rfl rfl C6 (λz8 w8 hz Y I=>?_)
   have aN:=C6x (Nat.le_trans aM.out.size hz)
   have aT:=C6x (Y)
   have aH:=C6x (aM.out.trans I)
   have aD:=C6x (aA.out _ aH.out)
   clear hz Y I
   refine C60 hK (by with_reducible first|exact aE.out|exact aD.out|exact aC.out|exact aB.out) ?_
   clear hK K hH
   intro hH
   try simp only[Act.put,sA,sB,sC]
   refine C6z 4 rfl (λK hK=>?_)
   go_simp
   refine(bY.out _ aH.out).mono ?_
   rintro r w5 ⟨rfl,a5⟩
   have aG:=C6x (aH.out.trans a5)
   have cN:=C6x (aT.out.over a5)
   have aC:=C6x (aA.out _ aG.out)
   clear a5
   go_wp2_with fail
   refine C60 hK (by with_reducible first|exact aE.out|exact aD.out|exact aC.out|exact aB.out) ?_
   clear hK K hH
   intro hH
   try simp only[Act.put,sA,sB,sC]
   refine C62 5 rfl ?_
   refine C62 6 rfl ?_
   refine C62 7 rfl ?_
   refine C6z 9 rfl (λK hK=>?_)
   refine T3 rfl _ _ rfl z8 cN.out rfl rfl C0 (C2 _) (C2 _) (D5 _) (λw9 Y I=>?_)
   have aJ:=C6x (Y)
   have aI:=C6x (aG.out.fresh aN.out I)
   have aE:=C6x (aA.out _ aI.out)
   clear Y I
   refine C60 hK (by with_reducible first|exact aE.out|exact aD.out|exact aC.out|exact aB.out) ?_
   clear hK K hH
   intro hH
   try simp only[Act.put]
   refine C62 10 rfl ?_
   refine wpAnyH_done (by kernel_rfl) ?_ _
   go_wp2_with fail
   go_meet
   exact⟨z8,rfl,rfl,aJ.out,aN.out,aI.out⟩
 case rest=>
 obtain⟨z8,rfl,rfl,cD,cJ,aL⟩:=hcut
 have aJ:=C6x cD
 have aI:=C6x aL
 have bS:=C6x (aO.out.over aL)
 have cR:=C6x (aV.out.step aL)
 have cM:=C6x (aS.out.over aL)
 have cX:=C6x (cC.out.later (aL.same (G:=CF c m) (λ_ x=>x.elim)))
 have bG:=C6x (Nat.le_trans aS.out.size cJ)
 clear cD cJ aL aB aA
 go_upto_region 5 with(first
  |(go_at_call 101;refine(cU.out _ cR.out).mono ?_;rintro r bP ⟨rfl,Z,I⟩;have cP:=C6x Z;have cK:=C6x (cM.out.trans I);have aW:=C6x (bS.out.keep (I.block J bS.out.lt (λU=>aF.out J aQ.out J U rfl)));have bD:=C6x (aJ.out.keep (I.block z8 aJ.out.lt (λU=>aF.out z8 bG.out z8 U rfl)));have cW:=C6x (cX.out.later I);clear Z I)
  |fail)
 have aY:=C6x (show∀V,C3 V J 35 #[.int .i64 (n:Int),.int .i64 g]->C3 V z8 62 (ic X)->V.cell? ⟨J,0,none⟩=some (.int .i64 (n:Int))/\C3 V z8 62 (ic X)fromλV a b=>⟨a.cell 0,b⟩)
 have bA:=C6x (aY.out bP.drew aW.out bD.out)
 have cT:=C6x (cP.out.step ((B0.refl B5 bP).drew))
 refine D6 (S:=(λw'=>w'.cell? ⟨J,0,none⟩=some (.int .i64 (n:Int))/\C3 w' z8 62 (ic X))) (by with_reducible first|exact bC.out|exact bB.out|exact bA.out) (λhH=>?_)
 refine C62 0 rfl ?_
 refine C62 1 rfl ?_
 refine C62 2 rfl ?_
 refine C62 3 rfl ?_
 refine C65 4 (.agg (ic X)) rfl (Q2 rfl (.tmp 8) rfl z8 rfl (λ_ h=>h.2) Tryz.underlying62 rfl C0 (C2 _)) ?_
 refine C62 5 rfl ?_
 refine C6z 6 rfl (λK hK=>?_)
 go_simp
 refine(bV.out _ cT.out A2 n2 c2 cV.out (cW.out.later ((B0.refl (CF c m) bP).drew))).mono ?_
 rintro r cZ ⟨rfl,Z,I⟩
 have cQ:=C6x (Z)
 have cL:=C6x (cK.out.trans (B0.of_drew I))
 have aX:=C6x (aW.out.keep (I.block J aW.out.lt (λU=>aF.out J aQ.out J U rfl)))
 have bF:=C6x (bD.out.keep (I.block z8 bD.out.lt (λU=>aF.out z8 bG.out z8 U rfl)))
 have bB:=C6x (aY.out cZ aX.out bF.out)
 clear Z I
 go_wp2_with fail
 refine C60 hK (by with_reducible first|exact bC.out|exact bB.out|exact bA.out) ?_
 clear hK K hH
 intro hH
 try simp only[Act.put,sA,sB,sC]
 refine C6z 7 rfl (λK hK=>?_)
 go_simp
 refine(cB.out _ cQ.out).mono ?_
 rintro r dA ⟨rfl,Z,I⟩
 have bX:=C6x (And.intro Z (cL.out.trans I))
 have bC:=C6x (aY.out dA (aX.out.keep (I.block J aX.out.lt (λU=>aF.out J aQ.out J U rfl))) (bF.out.keep (I.block z8 bF.out.lt (λU=>aF.out z8 bG.out z8 U rfl))))
 clear Z I
 go_wp2_with fail
 refine C60 hK (by with_reducible first|exact bC.out|exact bB.out|exact bA.out) ?_
 clear hK K hH
 intro hH
 try simp only[Act.put,sA,sB,sC]
 refine wpAnyH_done (by kernel_rfl) ?_ _
 go_wp2_with fail
 exact bodyPost_end (results_none rfl _ _ _) rfl ⟨rfl,bX.out.1,bX.out.2⟩
end
end
section
open Go.RowKit
theorem EnO.past{W I J w2:World}{E:Ev}{c m:Nat}{H0:Nat->List Nat}{U:Int}{F':Nat->Prop}{l:List En}{v:Value}(h:EnO W l v J)(V:Cg I E c m H0 U)(X:B0 B5 I B5 W)(Y:B0 (CF c m) J F' w2):M0 w2 v l:=by
 obtain⟨F,s,a⟩:=h.ex
 exact⟨(s.past V (λk Z=>Nat.le_trans X.size (a.newS k Z)) Y).rd,h.sz⟩
section
variable {w w':World} {E:Ev} {c m:Nat} {s:CS}
noncomputable def CS.enter(s:CS)(M:Nat)(i g:Int)(x:En):CS:=(s.note (J3 s.H i g)).setEn M i g (S9 (L4 s.H i g) x)
theorem B4U(h:Cs w E c m s)(hs:Sw s.H E.M)(i g:Int)(hi:0<=i/\i<=40)(x:En)(hx:x.s.size<=maxLen):
 Calls Tryz.prog 92 #[.pointer (some ⟨c,0,none⟩),.agg #[.int .i64 i,.int .i64 g],.agg (ea x)] w λr w'=>r= .returned (.tuple #[])/\Cs w' E c m (s.enter E.M i g x)/\B0 (CF c m) w (CF c m) w':=by
 have HC:=C6x h
 have aC:=C6x (λW (k:Cs W E c m s)=>A0b k.rdv hs.sd i g)
 have aG:=C6x (A2V s.H i g)
 have aO:=C6x (λW (v:Value) (k:M0 W v (L4 s.H i g))=>B8T v _ x W k aG.out.1 (by have:=aG.out.2;omega) hx)
 have aD:=C6x (λW (k:Cs W E c m (s.note (J3 s.H i g))) (v:Value) (r:M0 W v (S9 (L4 s.H i g) x))=>B4T k hs i g hi v _ r)
 have HN:=C6x (λW (k:Cs W E c m s)=>show Calls Tryz.prog 101 #[.pointer (some ⟨c,0,none⟩),.int .i64 (J3 s.H i g)] W λr w'=>r= .returned (.tuple #[])/\Cs w' E c m (s.note (J3 s.H i g))/\B0 (CF c m) W (CF c m) w' from T6 k _)
 have aK:=C6x (λ(d:Nat) (hd:w.heap.size<=d)=>h.apart (G:=J0 d) (λk hk=>by unfold J0 at hk;omega))
 have hR:s.enter E.M i g x=(s.note (J3 s.H i g)).setEn E.M i g (S9 (L4 s.H i g) x):=rfl
 rw[hR]
 obtain⟨ee,aH⟩:∃ee,ee=J3 s.H i g:=⟨_,rfl⟩
 obtain⟨L,hL⟩:∃L,L=L4 s.H i g:=⟨_,rfl⟩
 rw[<-aH,<-hL]at aC aD⊢
 rw[<-hL]at aO
 rw[<-aH]at HN
 unfold EsR at aC
 obtain⟨n,hn⟩:∃n,n=L.length:=⟨_,rfl⟩
 rw[<-hn]at aC
 obtain⟨s1,aQ⟩:∃s1,s1=s.note ee:=⟨_,rfl⟩
 rw[<-aQ]at HN aD⊢
 obtain⟨s2,aR⟩:∃s2,s2=s1.setEn E.M i g (S9 L x):=⟨_,rfl⟩
 rw[<-aR]at aD⊢
 clear hR aH hL hn aQ aR h hs aG
 go_enter Tryz.func92,Tryz.ntmps92
 go_upto_region 1 with(first
  |(refine C5 (t:=35) rfl _ rfl rfl ?_;intro zb w1 hz hb I;have bD:=C6x hz;have aV:=C6x hb;have aI:=C6x I;clear hz hb I)
  |(refine C5 (t:=74) rfl _ rfl rfl ?_;intro z5 w2 hz hb I;have bC:=C6x (Nat.le_trans aI.out.size hz);have aT:=C6x hb;have aU:=C6x (aV.out.over I);have aB:=C6x (aI.out.trans I);clear hz hb I)
  |fail)
 have aA:=C6x (show B0 B5 w2 B5 w2.drew from(B0.refl _ _).drew)
 have aY:=C6x (λV (a:B0 B5 w2 B5 V)=>aC.out V (HC.out.step (aB.out.trans a)))
 have aL:=C6x (show∀V,B0 B5 w2 B5 V->C3 V zb 35 #[.int .i64 i,.int .i64 g]/\C3 V z5 74 (ea x)fromλV a=>⟨aU.out.over a,aT.out.over a⟩)
 have U:=C6x (aL.out _ aA.out)
 refine D6 (S:=(λw'=>C3 w' zb 35 #[.int .i64 i,.int .i64 g]/\C3 w' z5 74 (ea x))) (by with_reducible first|exact Z.out|exact X.out|exact Y.out|exact J.out|exact U.out) (λhH=>?_)
 refine C62 0 rfl ?_
 refine C62 1 rfl ?_
 refine C62 2 rfl ?_
 refine C65 3 (.agg #[.int .i64 i,.int .i64 g]) rfl (Q2 rfl (.tmp 4) rfl zb rfl (λ_ h=>h.1) Tryz.underlying35 rfl B1 rfl) ?_
 refine C6z 4 rfl (λK hK=>?_)
 go_simp
 refine(aY.out _ aA.out).mono ?_
 rintro r w5 ⟨A5,q5,rfl,o5,a5⟩
 have aZ:=C6x (o5)
 have aE:=C6x (aA.out.trans a5)
 have J:=C6x (aL.out _ aE.out)
 clear o5 a5
 go_wp2_with fail
 refine C60 hK (by with_reducible first|exact Z.out|exact X.out|exact Y.out|exact J.out|exact U.out) ?_
 clear hK K hH
 intro hH
 try simp only[Act.put,sA,sB,sC]
 refine C62 5 rfl ?_
 refine C62 6 rfl ?_
 refine C62 7 rfl ?_
 refine C62 8 rfl ?_
 refine C62 9 rfl ?_
 refine wpAnyH_done (by kernel_rfl) ?_ _
 have aW:=C6x (HC.out.step (aB.out.trans aE.out))
 go_upto_region 3 with(first
  |(go_at_call 101;refine(HN.out w5 aW.out).mono ?_;rintro r w7 ⟨rfl,hc,I⟩;have aX:=C6x hc;have bB:=C6x (show M0 w7.drew (.slice A5 n q5) L from(aZ.out.past HC.out (aB.out.trans (aA.out)) I).drew);have aS:=C6x (((aB.out.trans aE.out).same (G:=CF c m) (λ_ x=>x.elim)).trans I);have aN:=C6x (show∀V V',(C3 V zb 35 #[.int .i64 i,.int .i64 g]/\C3 V z5 74 (ea x))->B0 (CF c m) V (CF c m) V'->C3 V' zb 35 #[.int .i64 i,.int .i64 g]/\C3 V' z5 74 (ea x)fromλV V' h a=>⟨h.1.keep (a.block zb h.1.lt (λhk=>aK.out zb bD.out zb hk rfl)),h.2.keep (a.block z5 h.2.lt (λhk=>aK.out z5 bC.out z5 hk rfl))⟩);have aP:=C6x (aN.out _ _ J.out I);clear hc I)
  |fail)
 have aM:=C6x (show∀V,B0 B5 w7 B5 V->C3 V zb 35 #[.int .i64 i,.int .i64 g]/\C3 V z5 74 (ea x)fromλV a=>⟨aP.out.1.over a,aP.out.2.over a⟩)
 have Y:=C6x (aM.out _ ((B0.refl B5 w7).drew))
 clear U J
 refine D6 (S:=(λw'=>C3 w' zb 35 #[.int .i64 i,.int .i64 g]/\C3 w' z5 74 (ea x))) (by with_reducible first|exact Z.out|exact X.out|exact Y.out|exact J.out|exact U.out) (λhH=>?_)
 refine C62 0 rfl ?_
 refine C65 1 (.agg #[.int .i64 i,.int .i64 g]) rfl (Q2 rfl (.tmp 4) rfl zb rfl (λ_ h=>h.1) Tryz.underlying35 rfl B1 rfl) ?_
 refine C62 2 rfl ?_
 refine C65 3 (.agg (ea x)) rfl (Q2 rfl (.tmp 5) rfl z5 rfl (λ_ h=>h.2) Tryz.underlying74 rfl C8 (D1 _)) ?_
 refine C6z 4 rfl (λK hK=>?_)
 go_simp
 refine(aO.out _ _ bB.out).mono ?_
 rintro r w8 ⟨v8,rfl,o8⟩
 have bA:=C6x (o8)
 have aF:=C6x (B0.of_drew (F:=B5) o8.adv)
 have X:=C6x (aM.out _ aF.out)
 clear o8
 go_wp2_with fail
 refine C60 hK (by with_reducible first|exact Z.out|exact X.out|exact Y.out|exact J.out|exact U.out) ?_
 clear hK K hH
 intro hH
 try simp only[Act.put,sA,sB,sC]
 refine C6z 5 rfl (λK hK=>?_)
 go_simp
 refine(aD.out _ (aX.out.step aF.out) v8 bA.out.rd).mono ?_
 rintro r w9 ⟨rfl,c9,a9⟩
 have aJ:=C6x (And.intro c9 ((aS.out.over aF.out).trans a9))
 have Z:=C6x (aN.out _ _ X.out a9)
 clear c9 a9
 go_wp2_with fail
 refine C60 hK (by with_reducible first|exact Z.out|exact X.out|exact Y.out|exact J.out|exact U.out) ?_
 clear hK K hH
 intro hH
 try simp only[Act.put,sA,sB,sC]
 refine wpAnyH_done (by kernel_rfl) ?_ _
 go_wp2_with fail
 exact bodyPost_end (results_none rfl _ _ _) rfl ⟨rfl,aJ.out.1,aJ.out.2⟩
noncomputable def CS.leave(s:CS)(M:Nat)(i g:Int)(x:ByteArray):CS:=(s.note (J3 s.H i g)).setEn M i g (dropL (L4 s.H i g) x)
theorem B4V(h:Cs w E c m s)(hs:Sw s.H E.M)(i g:Int)(hi:0<=i/\i<=40)(x:ByteArray):
 Calls Tryz.prog 83 #[.pointer (some ⟨c,0,none⟩),.agg #[.int .i64 i,.int .i64 g],.string x] w λr w'=>r= .returned (.tuple #[])/\Cs w' E c m (s.leave E.M i g x)/\B0 (CF c m) w (CF c m) w':=by
 have HC:=C6x h
 have aC:=C6x (λW (k:Cs W E c m s)=>A0b k.rdv hs.sd i g)
 have aG:=C6x (A2V s.H i g)
 have aM:=C6x (λW (v:Value) (k:M0 W v (L4 s.H i g))=>B6B v _ x W k aG.out.1 (by have:=aG.out.2;omega))
 have aD:=C6x (λW (k:Cs W E c m (s.note (J3 s.H i g))) (v:Value) (r:M0 W v (dropL (L4 s.H i g) x))=>B4T k hs i g hi v _ r)
 have HN:=C6x (λW (k:Cs W E c m s)=>show Calls Tryz.prog 101 #[.pointer (some ⟨c,0,none⟩),.int .i64 (J3 s.H i g)] W λr w'=>r= .returned (.tuple #[])/\Cs w' E c m (s.note (J3 s.H i g))/\B0 (CF c m) W (CF c m) w' from T6 k _)
 have aU:=C6x (λ(d:Nat) (hd:w.heap.size<=d)=>h.apart (G:=J0 d) (λk hk=>by unfold J0 at hk;omega))
 have hR:s.leave E.M i g x=(s.note (J3 s.H i g)).setEn E.M i g (dropL (L4 s.H i g) x):=rfl
 rw[hR]
 obtain⟨ee,aH⟩:∃ee,ee=J3 s.H i g:=⟨_,rfl⟩
 obtain⟨L,hL⟩:∃L,L=L4 s.H i g:=⟨_,rfl⟩
 rw[<-aH,<-hL]at aC aD⊢
 rw[<-hL]at aM
 rw[<-aH]at HN
 unfold EsR at aC
 obtain⟨n,hn⟩:∃n,n=L.length:=⟨_,rfl⟩
 rw[<-hn]at aC
 obtain⟨s1,aN⟩:∃s1,s1=s.note ee:=⟨_,rfl⟩
 rw[<-aN]at HN aD⊢
 obtain⟨s2,aO⟩:∃s2,s2=s1.setEn E.M i g (dropL L x):=⟨_,rfl⟩
 rw[<-aO]at aD⊢
 clear hR aH hL hn aN aO h hs aG
 go_enter Tryz.func83,Tryz.ntmps83
 go_upto_region 1 with(first
  |(refine C5 (t:=35) rfl _ rfl rfl ?_;intro zb w2 hz hb J;have aZ:=C6x hz;have aQ:=C6x hb;have aB:=C6x J;clear hz hb J)
  |fail)
 have aA:=C6x (show B0 B5 w2 B5 w2.drew from(B0.refl _ _).drew)
 have aT:=C6x (λV (a:B0 B5 w2 B5 V)=>aC.out V (HC.out.step (aB.out.trans a)))
 have aJ:=C6x (show∀V,B0 B5 w2 B5 V->C3 V zb 35 #[.int .i64 i,.int .i64 g]/\True fromλV a=>⟨aQ.out.over a,trivial⟩)
 have U:=C6x (aJ.out _ aA.out)
 refine D6 (S:=(λw'=>C3 w' zb 35 #[.int .i64 i,.int .i64 g]/\True)) (by with_reducible first|exact Z.out|exact X.out|exact Y.out|exact I.out|exact U.out) (λhH=>?_)
 refine C62 0 rfl ?_
 refine C62 1 rfl ?_
 refine C62 2 rfl ?_
 refine C65 3 (.agg #[.int .i64 i,.int .i64 g]) rfl (Q2 rfl (.tmp 4) rfl zb rfl (λ_ h=>h.1) Tryz.underlying35 rfl B1 rfl) ?_
 refine C6z 4 rfl (λK hK=>?_)
 go_simp
 refine(aT.out _ aA.out).mono ?_
 rintro r w5 ⟨A5,q5,rfl,o5,a5⟩
 have aV:=C6x (o5)
 have aE:=C6x (aA.out.trans a5)
 have I:=C6x (aJ.out _ aE.out)
 clear o5 a5
 go_wp2_with fail
 refine C60 hK (by with_reducible first|exact Z.out|exact X.out|exact Y.out|exact I.out|exact U.out) ?_
 clear hK K hH
 intro hH
 try simp only[Act.put,sA,sB,sC]
 refine C62 5 rfl ?_
 refine C62 6 rfl ?_
 refine C62 7 rfl ?_
 refine C62 8 rfl ?_
 refine C62 9 rfl ?_
 refine wpAnyH_done (by kernel_rfl) ?_ _
 have aR:=C6x (HC.out.step (aB.out.trans aE.out))
 go_upto_region 3 with(first
  |(go_at_call 101;refine(HN.out w5 aR.out).mono ?_;rintro r w7 ⟨rfl,hc,J⟩;have aS:=C6x hc;have aX:=C6x (show M0 w7.drew (.slice A5 n q5) L from(aV.out.past HC.out (aB.out.trans (aA.out)) J).drew);have aP:=C6x (((aB.out.trans aE.out).same (G:=CF c m) (λ_ x=>x.elim)).trans J);have aL:=C6x (show∀V V',(C3 V zb 35 #[.int .i64 i,.int .i64 g]/\True)->B0 (CF c m) V (CF c m) V'->C3 V' zb 35 #[.int .i64 i,.int .i64 g]/\True fromλV V' h a=>⟨h.1.keep (a.block zb h.1.lt (λhk=>aU.out zb aZ.out zb hk rfl)),trivial⟩);have aY:=C6x (aL.out _ _ I.out J);clear hc J)
  |fail)
 have aK:=C6x (show∀V,B0 B5 w7 B5 V->C3 V zb 35 #[.int .i64 i,.int .i64 g]/\True fromλV a=>⟨aY.out.1.over a,trivial⟩)
 have Y:=C6x (aK.out _ ((B0.refl B5 w7).drew))
 clear U I
 refine D6 (S:=(λw'=>C3 w' zb 35 #[.int .i64 i,.int .i64 g]/\True)) (by with_reducible first|exact Z.out|exact X.out|exact Y.out|exact I.out|exact U.out) (λhH=>?_)
 refine C62 0 rfl ?_
 refine C65 1 (.agg #[.int .i64 i,.int .i64 g]) rfl (Q2 rfl (.tmp 4) rfl zb rfl (λ_ h=>h.1) Tryz.underlying35 rfl B1 rfl) ?_
 refine C62 2 rfl ?_
 refine C62 3 rfl ?_
 refine C6z 4 rfl (λK hK=>?_)
 go_simp
 refine(aM.out _ _ aX.out).mono ?_
 rintro r w8 ⟨v8,rfl,o8⟩
 have aW:=C6x (o8)
 have aF:=C6x (B0.of_drew (F:=B5) o8.adv)
 have X:=C6x (aK.out _ aF.out)
 clear o8
 go_wp2_with fail
 refine C60 hK (by with_reducible first|exact Z.out|exact X.out|exact Y.out|exact I.out|exact U.out) ?_
 clear hK K hH
 intro hH
 try simp only[Act.put,sA,sB,sC]
 refine C6z 5 rfl (λK hK=>?_)
 go_simp
 refine(aD.out _ (aS.out.step aF.out) v8 aW.out.rd).mono ?_
 rintro r w9 ⟨rfl,c9,a9⟩
 have aI:=C6x (And.intro c9 ((aP.out.over aF.out).trans a9))
 have Z:=C6x (aL.out _ _ X.out a9)
 clear c9 a9
 go_wp2_with fail
 refine C60 hK (by with_reducible first|exact Z.out|exact X.out|exact Y.out|exact I.out|exact U.out) ?_
 clear hK K hH
 intro hH
 try simp only[Act.put,sA,sB,sC]
 refine wpAnyH_done (by kernel_rfl) ?_ _
 go_wp2_with fail
 exact bodyPost_end (results_none rfl _ _ _) rfl ⟨rfl,aI.out.1,aI.out.2⟩
end
end
end Go.Proofs.YtbefmjiclpobjaaGreat
