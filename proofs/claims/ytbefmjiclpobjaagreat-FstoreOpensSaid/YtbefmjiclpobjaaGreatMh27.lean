import Derived.Test.YtbefmjiclpobjaaGreatMh26
namespace Go.Proofs.YtbefmjiclpobjaaGreat
set_option maxHeartbeats 6400000
set_option maxRecDepth 3000
open Go.RowKit Go.Maps
theorem A9X{I w:World}{c m n:Nat}{v:Value}{l:List Nat}(h:Rd w 1 v n (l.map u8))(U:∀k,v.ownBlock=some k->I.heap.size<=k)(V:c<I.heap.size/\m<I.heap.size):B8A w c m v n l:=λW a=>
 h.adv a (λk J _ y=>by
  have:=U k J
  rcases y with y|y<;>omega)
theorem So.new_o{w:World}{E:Ev}(h:So w E)(z:Nat)(V:w.heap.size<=z):z≠E.o:=λy=>by
 obtain⟨I,J,U⟩:=h.bd
 omega
theorem Cg.aside{W w2:World}{E:Ev}{c m z:Nat}{H:Nat->List Nat}{e:Int}(h:Cg W E c m H e)(hz:¬EF E c m z)(Z:z≠E.o)(J:A8 (M0 z) W (M0 z) w2):Cg w2 E c m H e:=by
 obtain⟨A,V,X,h3,Y⟩:=h.ex
 have I:∀k,EF E c m k->¬M0 z k:=λk U y=>by
  unfold M0 at y
  subst y
  exact hz U
 exact⟨h.so.far J (λk U hu=>I k (.inl hu) U) (λy=>Z y.symm) (I _ (.inr (.inl rfl))),⟨A,V.keep (J.block m V.lt (I _ (.inr (.inr (.inr rfl))))),X,h3,Y⟩,h.blk.keep (J.block c h.blk.lt (I _ (.inr (.inr (.inl rfl))))),h.sc,h.sm⟩
noncomputable def A3l(H:Nat->List Nat)(i g a:Int)(s:ByteArray):Int:=
 if 0<=a/\a<8 then(if s.size<=64 then U2 H i g 2 else 5)else 2
noncomputable def B13(E:Ev)(X:L6)(j:Nat)(s:ByteArray):CS:=(⟨E.H,0⟩:CS).place E.M (X.a j) (K9 s)
noncomputable def A5R(E:Ev)(X:L6)(j:Nat)(s:ByteArray):L6:=atX X (λi=>if i=j then(⟨E.H,0⟩:CS).placeI E.M (X.a j) (K9 s)else X.a i)
noncomputable def A9Y(E:Ev)(i g:Int)(j:Nat)(s:ByteArray):CS:=ewS (B13 E (fileX E.H i g) j s) i.toNat g (A5R E (fileX E.H i g) j s)
section
variable {w:World} {E:Ev}
theorem B8S{s:ByteArray}(h:s.size<=64):K9 s=[]\/((K9 s).length=128/\∀y∈K9 s,y<256):=by
 by_cases I:s.size=0
 ·exact .inl (by unfold K9;rw[if_pos I])
 ·exact .inr ⟨A0n (by omega) (by omega),A8e (by omega)⟩
theorem B8T{X:L6}{j:Nat}{s:ByteArray}(U:Sw E.H E.M)(I:WfI X)(V:∀i,i<8->X.a i=0\/(42<=X.a i/\X.a i<E.M))(W:j<8):WfI (A5R E X j s)/\((B13 E X j s).e=0->∀i,i<8->(A5R E X j s).a i=0\/(42<=(A5R E X j s).a i/\(A5R E X j s).a i<E.M)):=by
 have Y:Sw (⟨E.H,0⟩:CS).H E.M:=U
 have Z:=U.sd.hM
 have J:=A3N (s:=(⟨E.H,0⟩:CS)) (l:=K9 s) Y (V j W)
 refine⟨⟨I.k,I.g,I.v,λi hi=>?_⟩,λe i hi=>?_⟩
 ·show -9223372036854775808<=(if i=j then _ else _)/\(if i=j then _ else _)<(9223372036854775808:Int)
  split
  ·rcases J with y|y|⟨_,y⟩<;>omega
  ·exact I.a i hi
 ·show(if i=j then _ else _)=(0:Int)\/(42<=(if i=j then _ else _)/\(if i=j then _ else _)<(E.M:Int))
  split
  ·rcases J with y|y|⟨y,_⟩
   ·exact .inl y
   ·exact .inr y
   ·exact absurd e y
  ·exact V i hi
theorem B8U(h:So w E)(hs:Sw E.H E.M)(i g a:Int)(s:ByteArray)(hl:A3l E.H i g a s=0->LOk E (A9Y E i g a.toNat s)):
 Calls Tryz.prog 35 #[.pointer (some ⟨E.o,0,none⟩),.agg #[.int .i64 i,.int .i64 g],.int .i64 a,.string s] w λr w'=>
  (A3l E.H i g a s≠0/\r= .returned (.tuple #[.int .u64 0,.int .i64 (A3l E.H i g a s)])/\A8 B0 w B0 w')\/
  (A3l E.H i g a s=0/\r= .returned (.tuple #[.int .u64 (ewV (A5R E (fileX E.H i g) a.toNat s) (T1 E (A9Y E i g a.toNat s)).2:Int),.int .i64 (T1 E (A9Y E i g a.toNat s)).2])/\OdR w E (T1 E (A9Y E i g a.toNat s)) w'):=by
 have hv:=h.vu.rdv
 have HM:=C3t (λV (a:A8 B0 w B0 V)=>A8n (hv.step a))
 have aK:=C3t (λV=>A4k a V)
 have aJ:=C3t (λV (a:A8 B0 w B0 V)=>A5D (hv.step a) hs.sd i g 2)
 have aO:=C3t (λV (a:A8 B0 w B0 V)=>A5N (h.step a))
 have HG:=C3t (h.new)
 by_cases aB:0<=a/\a<8
 ·obtain⟨j,rfl⟩:∃j:Nat,a=(j:Int):=⟨a.toNat,by omega⟩
  have hj:j<8:=by omega
  have aH:(decide (0<=(j:Int))&&decide ((j:Int)<8))=true:=by rw[decide_eq_true aB.1,decide_eq_true aB.2];rfl
  rw[aH]at aK
  by_cases W:s.size<=64
  ·have eE:A3l E.H i g (j:Int) s=U2 E.H i g 2:=by unfold A3l;rw[if_pos aB,if_pos W]
   rw[eE]at hl⊢
   rw[Int.toNat_natCast]at hl⊢
   have cN:decide ((64:Int)<((s.size:Nat):Int))=false:=decide_eq_false (by omega)
   by_cases hk:U2 E.H i g 2=0
   ·obtain⟨f1,f2,f3⟩:=A4G hk
    have f4:=A09 f1
    obtain⟨q,rfl⟩:∃q:Nat,i=(q:Int):=⟨i.toNat,by omega⟩
    have HK:=C3t hk
    obtain⟨wf,pt,_⟩:=A3h hs.sd (q:Int) g
    obtain⟨yw,yp⟩:=B8T (s:=s) hs wf pt hj
    have bT:=B8S W
    have cG:Sw (B13 E (fileX E.H (q:Int) g) j s).H E.M:=A5L (s:=(⟨E.H,0⟩:CS)) hs (pt j hj) bT
    have cH:=B12 (i:=q) cG yw (λ_=>by omega) yp
    have bD:=C3t (λV=>A7c s V (by omega))
    have bJ:=C3t (λV c m A k (cc:Cs V E c m ⟨E.H,0⟩) (st:B8A V c m (.slice A (K9 s).length k) (K9 s).length (K9 s))=>A8h cc hs.sd ((fileX E.H (q:Int) g).a j) A (K9 s).length k (K9 s) rfl bT st (by rcases pt j hj with y|y;exact .inl y;exact .inr ⟨by omega,y.2⟩))
    have aE:=C3t (λV c m (k:Cs V E c m (B13 E (fileX E.H (q:Int) g) j s))=>B45 k hs.sd.row q (by omega) g _ yw cH (hl hk))
    rw[show ewS (B13 E (fileX E.H (q:Int) g) j s) q g (A5R E (fileX E.H (q:Int) g) j s)=A9Y E (q:Int) g j s from rfl]at aE
    obtain⟨X,hX⟩:∃X,X=fileX E.H (q:Int) g:=⟨_,rfl⟩
    have HF:=C3t (λV (a:A8 B0 w B0 V)=>(aJ.out V a).mono (R':=λe w'=>e= .returned (.tuple #[.agg (ic X),.int .i64 0])/\A8 B0 V B0 w') (λe w' y=>by
     obtain⟨y1,y2⟩:=y
     refine⟨y1.trans ?_,y2⟩
     show Ending.returned (.tuple #[.agg (ic (A99 E.H (q:Int) g 2)),.int .i64 (U2 E.H (q:Int) g 2)])=_
     rw[f3,hk,hX]))
    rw[<-hX]at bJ aE⊢
    obtain⟨A,hA⟩:∃A,A=X.a j:=⟨_,rfl⟩
    have HP:=C3t (show(ic X)[3+j]? =some (.int .i64 A)by rw[hA];exact B6N X j hj)
    obtain⟨pi,bV⟩:∃pi,pi=(⟨E.H,0⟩:CS).placeI E.M (X.a j) (K9 s):=⟨_,rfl⟩
    have bH:=C3t (show ic (A5R E X j s)=(ic X).setIfInBounds (3+j) (.int .i64 pi)by rw[bV];exact(B62 X X.a j hj _).symm)
    obtain⟨Y,hY⟩:∃Y,Y=A5R E X j s:=⟨_,rfl⟩
    obtain⟨S1,bR⟩:∃S1,S1=B13 E X j s:=⟨_,rfl⟩
    obtain⟨S2,cF⟩:∃S2,S2=A9Y E (q:Int) g j s:=⟨_,rfl⟩
    obtain⟨bl,bS⟩:∃bl,bl=K9 s:=⟨_,rfl⟩
    have bI:=C3t (λV c m B k (cc:Cs V E c m ⟨E.H,0⟩) (st:B8A V c m (.slice B bl.length k) bl.length bl)=>show Calls Tryz.prog 88 #[.pointer (some ⟨c,0,none⟩),.int .i64 A,.slice B bl.length k] V λr w'=>r= .returned (.int .i64 pi)/\Cs w' E c m S1/\A8 (CF c m) V (CF c m) w' by
     rw[hA,bV,bR]
     rw[bS]at st⊢
     exact bJ.out V c m B k cc st)
    rw[<-bS]at bD
    obtain⟨n,hn⟩:∃n,n=bl.length:=⟨_,rfl⟩
    rw[<-hn]at bD bI
    have cB:=bD
    rw[<-hY,<-bR]at aE
    rw[<-hY]at bH
    rw[<-cF]at aE⊢
    rw[<-hY]
    obtain⟨R,hR⟩:∃R,R=T1 E S2:=⟨_,rfl⟩
    rw[<-hR]at aE⊢
    have cE:=C3t (h.new_o)
    obtain⟨o,Z⟩:∃o,o=E.o:=⟨_,rfl⟩
    rw[<-Z]at HM HF aO⊢
    obtain⟨v,cJ⟩:∃v,v=ewV Y R.2:=⟨_,rfl⟩
    rw[<-cJ]at aE⊢
    have cQ:(0:Int)<=(j:Int):=by omega
    have cP:(j:Int)<8:=by omega
    obtain⟨ns,cR⟩:∃ns:Int,ns=((s.size:Nat):Int):=⟨_,rfl⟩
    clear hv h hs hl hk f1 f2 f3 f4 wf pt yw yp cG cH bT hX hY bR cF hR Z cJ aJ bJ hA bV bS hn eE aB aH hj W
    go_enter Tryz.func35,Tryz.ntmps35
    go_upto_region 11 with(first
     |(refine C4 (t:=35) rfl _ rfl rfl ?_;intro z0 w0 W U I;have aF:=C3t U;have aA:=C3t I;have aT:=C3t W;clear W U I)
     |(go_at_call 73;refine(HM.out _ aA.out).mono ?_;rintro e w2 ⟨rfl,rfl⟩)
     |(go_at_call 85;refine(aK.out _).mono ?_;rintro e w2 ⟨rfl,rfl⟩)
     |(refine C3 (t:=35) rfl _ rfl z0 aF.out rfl Tryz.underlying35 rfl B1 rfl ?_)
     |(go_at_call 86;refine(HF.out _ aA.out).mono ?_;rintro e w2 ⟨rfl,I⟩;have aM:=C3t (aA.out.trans I);have aN:=C3t (aF.out.over I);clear I)
     |(refine B6 rfl rfl C6 ?_;intro J w5 W U I;have bC:=C3t U;have aX:=C3t (aM.out.trans I);have aS:=C3t (Nat.le_trans aM.out.size W);have aC:=C3t (aN.out.over I);have aP:=C3t (show z0≠J fromλe=>by have:=aN.out.lt;omega);clear W U I)
     |(refine B5 rfl _ _ rfl J bC.out rfl rfl B7 (C2 _) (C2 _) (D7 _) ?_;intro w6 U I;have bP:=C3t U;have aI:=C3t (aX.out.fresh aS.out I);have bA:=C3t (aC.out.far1 I aP.out);clear U I)
     |(go_at_call 44;refine(aO.out _ aI.out).mono ?_;rintro e w9 ⟨c,m,rfl,hc,h1,h2,I⟩;have cK:=C3t (show Cs _ E c m ⟨E.H,0⟩from hc);have aV:=C3t (And.intro (Nat.le_trans aI.out.size h1) (Nat.le_trans aI.out.size h2));have cD:=C3t (show c<w9.heap.size/\m<w9.heap.size from hc.lt);have cA:=C3t (bA.out.over I);have aR:=C3t (bP.out.over I);have aL:=C3t (show(¬EF E c m z0)/\¬EF E c m J from⟨nef h1 h2 bA.out.lt (HG.out z0 aT.out),nef h1 h2 bP.out.lt (HG.out J aS.out)⟩);have bY:=C3t (aI.out.trans I);clear hc h1 h2 I)
     |fail)
    have aU:=aS
    have bZ:=C3t (show A8 (CF c m) w9 (CF c m) w9.drew from(A8.refl _ _).drew)
    have cC:=C3t (cK.out.step ((A8.refl B0 w9).drew))
    have d9:=(show w9.drew.cell? ⟨J,3+j,none⟩=some (.int .i64 A)from by rw[aR.out.drew.cell];exact HP.out)
    refine E6 (S:=(λ_=>True)) (by first|exact True.intro) (λhH=>?_)
    refine C3u 0 rfl ?_
    refine C3u 1 rfl ?_
    refine C3u 2 rfl ?_
    refine C3u 3 rfl ?_
    refine C3u 4 rfl ?_
    refine C3u 6 rfl ?_
    refine C3u 9 rfl ?_
    refine C3z 5 7 rfl rfl (λK hK=>?_) (λK hK=>?_)
    ·go_simp
     refine C3w hK (by first|exact True.intro) ?_
     clear hK K hH
     intro hH
     try simp only[Act.put,sA,sB,sC]
     refine C3v 7 rfl (λK hK=>?_)
     go_simp
     refine(cB.out w9.drew).mono ?_
     rintro r bX ⟨Ab,kb,rfl,hr,Z,I⟩
     have bG:=C3t (cC.out.step I)
     have bM:=C3t (A9X hr Z cD.out)
     have aY:=C3t (bZ.out.over I)
     have bQ:=(show bX.cell? ⟨J,3+j,none⟩=some (.int .i64 A)from by rw[(aR.out.over (((A8.refl B0 w9).drew).trans I)).cell];exact HP.out)
     have aC:=C3t (cA.out.over (((A8.refl B0 w9).drew).trans I))
     have aQ:=C3t (aR.out.over (((A8.refl B0 w9).drew).trans I))
     clear hr Z I
     go_wp2_with fail
     refine C3w hK (by first|exact True.intro) ?_
     clear hK K hH
     intro hH
     try simp only[Act.put,sA,sB,sC]
     refine C3v 8 rfl (λK hK=>?_)
     go_simp
     refine(bI.out _ c m _ _ bG.out bM.out).mono ?_
     rintro r aD ⟨rfl,hc,I⟩
     have aZ:=C3t (aC.out.keep (I.block z0 aC.out.lt (λy=>aL.out.1 (.inr (.inr y)))))
     have aG:=C3t (aQ.out.keep (I.block J aQ.out.lt (λy=>aL.out.2 (.inr (.inr y)))))
     have bK:=C3t (show aD.cell? ⟨J,3+j,none⟩=some (.int .i64 A)from by rw[aG.out.cell];exact HP.out)
     have cM:aD.frozen? ⟨J,3+j,none⟩=false:=aG.out.frozen _
     have cL:=bK.out
     have sc:=A8.setCell (F:=M0 J) (F':=M0 J) (p:=⟨J,3+j,none⟩) (A8.refl _ aD) (.inl rfl) (.int .i64 pi)
     have bO:=C3t (show C0 (aD.setCell ⟨J,3+j,none⟩ (.int .i64 pi)) J 62 (ic Y)from by rw[bH.out];exact aG.out.set_ (3+j) _)
     have bF:=C3t (Cg.aside hc aL.out.2 (cE.out J aU.out) sc)
     have bB:=C3t (aZ.out.far1 sc aP.out)
     have aW:=C3t (((bY.out.same (G:=CF c m) (λ_ y=>y.elim)).trans (aY.out.trans I)).freshG aU.out sc)
     clear hc I sc d9 bQ
     go_wp2_with fail
     refine C3w hK (by first|exact True.intro) ?_
     clear hK K hH
     intro hH
     try simp only[Act.put,sA,sB,sC]
     refine C3u 10 rfl ?_
     refine C3v 11 rfl (λK hK=>?_)
     go_simp
     refine C3w hK (by first|exact True.intro) ?_
     clear hK K hH
     intro hH
     try simp only[Act.put]
     refine wpAnyH_done (by kernel_rfl) ?_ _
     go_wp2_with (first
      |(refine C3 (t:=35) rfl _ rfl z0 bB.out rfl Tryz.underlying35 rfl B1 rfl ?_)
      |(refine C3 (t:=62) rfl _ rfl J bO.out rfl Tryz.underlying62 rfl B7 (C2 _) ?_)
      |(go_at_call 90;refine(aE.out _ c m bF.out).mono ?_;rintro r cO ⟨rfl,he⟩;have HO:=C3t (he.op (A8.refl B0 w) aV.out.1 aV.out.2 aW.out).2;clear he)
      |fail)
     go_ret2
     exact .inr ⟨HK.out,rfl,HO.out⟩
    ·go_simp
     refine(cB.out w9.drew).mono ?_
     rintro r bX ⟨Ab,kb,rfl,hr,Z,I⟩
     have bG:=C3t (cC.out.step I)
     have bM:=C3t (A9X hr Z cD.out)
     have aY:=C3t (bZ.out.over I)
     have bQ:=(show bX.cell? ⟨J,3+j,none⟩=some (.int .i64 A)from by rw[(aR.out.over (((A8.refl B0 w9).drew).trans I)).cell];exact HP.out)
     have aC:=C3t (cA.out.over (((A8.refl B0 w9).drew).trans I))
     have aQ:=C3t (aR.out.over (((A8.refl B0 w9).drew).trans I))
     clear hr Z I
     go_wp2_with fail
     refine C3w hK (by first|exact True.intro) ?_
     clear hK K hH
     intro hH
     try simp only[Act.put,sA,sB,sC]
     refine C3v 5 rfl (λK hK=>?_)
     go_simp
     refine C3w hK (by first|exact True.intro) ?_
     clear hK K hH
     intro hH
     try simp only[Act.put,sA,sB,sC]
     refine C3v 8 rfl (λK hK=>?_)
     go_simp
     refine(bI.out _ c m _ _ bG.out bM.out).mono ?_
     rintro r aD ⟨rfl,hc,I⟩
     have aZ:=C3t (aC.out.keep (I.block z0 aC.out.lt (λy=>aL.out.1 (.inr (.inr y)))))
     have aG:=C3t (aQ.out.keep (I.block J aQ.out.lt (λy=>aL.out.2 (.inr (.inr y)))))
     have bK:=C3t (show aD.cell? ⟨J,3+j,none⟩=some (.int .i64 A)from by rw[aG.out.cell];exact HP.out)
     have cM:aD.frozen? ⟨J,3+j,none⟩=false:=aG.out.frozen _
     have cL:=bK.out
     have sc:=A8.setCell (F:=M0 J) (F':=M0 J) (p:=⟨J,3+j,none⟩) (A8.refl _ aD) (.inl rfl) (.int .i64 pi)
     have bO:=C3t (show C0 (aD.setCell ⟨J,3+j,none⟩ (.int .i64 pi)) J 62 (ic Y)from by rw[bH.out];exact aG.out.set_ (3+j) _)
     have bF:=C3t (Cg.aside hc aL.out.2 (cE.out J aU.out) sc)
     have bB:=C3t (aZ.out.far1 sc aP.out)
     have aW:=C3t (((bY.out.same (G:=CF c m) (λ_ y=>y.elim)).trans (aY.out.trans I)).freshG aU.out sc)
     clear hc I sc d9 bQ
     go_wp2_with fail
     refine C3w hK (by first|exact True.intro) ?_
     clear hK K hH
     intro hH
     try simp only[Act.put,sA,sB,sC]
     refine C3u 10 rfl ?_
     refine C3v 11 rfl (λK hK=>?_)
     go_simp
     refine C3w hK (by first|exact True.intro) ?_
     clear hK K hH
     intro hH
     try simp only[Act.put]
     refine wpAnyH_done (by kernel_rfl) ?_ _
     go_wp2_with (first
      |(refine C3 (t:=35) rfl _ rfl z0 bB.out rfl Tryz.underlying35 rfl B1 rfl ?_)
      |(refine C3 (t:=62) rfl _ rfl J bO.out rfl Tryz.underlying62 rfl B7 (C2 _) ?_)
      |(go_at_call 90;refine(aE.out _ c m bF.out).mono ?_;rintro r cO ⟨rfl,he⟩;have HO:=C3t (he.op (A8.refl B0 w) aV.out.1 aV.out.2 aW.out).2;clear he)
      |fail)
     go_ret2
     exact .inr ⟨HK.out,rfl,HO.out⟩
   ·obtain⟨er,bU⟩:∃er,er=U2 E.H i g 2:=⟨_,rfl⟩
    obtain⟨X,hX⟩:∃X,X=A99 E.H i g 2:=⟨_,rfl⟩
    have HF:=C3t (λV (a:A8 B0 w B0 V)=>(aJ.out V a).mono (R':=λe w'=>e= .returned (.tuple #[.agg (ic X),.int .i64 er])/\A8 B0 V B0 w') (λe w' y=>by rw[hX,bU];exact y))
    rw[<-bU]at hk⊢
    have U:(er !=0)=true:=by rw[bne_iff_ne];exact hk
    have HK:=C3t hk
    obtain⟨o,Z⟩:∃o,o=E.o:=⟨_,rfl⟩
    rw[<-Z]at HM HF⊢
    clear hv h hs hl hk bU hX aJ aO Z eE aB aH hj W
    go_enter Tryz.func35,Tryz.ntmps35
    go_wp2_with (first
     |(refine C4 (t:=35) rfl _ rfl rfl ?_;intro z0 w0 W U I;have aF:=C3t U;have aA:=C3t I;have aT:=C3t W;clear W U I)
     |(go_at_call 73;refine(HM.out _ aA.out).mono ?_;rintro e w2 ⟨rfl,rfl⟩)
     |(go_at_call 85;refine(aK.out _).mono ?_;rintro e w2 ⟨rfl,rfl⟩)
     |(refine C3 (t:=35) rfl _ rfl z0 aF.out rfl Tryz.underlying35 rfl B1 rfl ?_)
     |(go_at_call 86;refine(HF.out _ aA.out).mono ?_;rintro e w2 ⟨rfl,I⟩;have aM:=C3t (aA.out.trans I);have aN:=C3t (aF.out.over I);clear I)
     |(refine B6 rfl rfl C6 ?_;intro J w5 W U I;have bC:=C3t U;have aX:=C3t (aM.out.trans I);have aS:=C3t (Nat.le_trans aM.out.size W);have aC:=C3t (aN.out.over I);have aP:=C3t (show z0≠J fromλe=>by have:=aN.out.lt;omega);clear W U I)
     |(refine B5 rfl _ _ rfl J bC.out rfl rfl B7 (C2 _) (C2 _) (D7 _) ?_;intro w6 U I;have bP:=C3t U;have aI:=C3t (aX.out.fresh aS.out I);have bA:=C3t (aC.out.far1 I aP.out);clear U I)
     |fail)
    go_ret2
    exact .inl ⟨HK.out,rfl,aI.out⟩
  ·have eE:A3l E.H i g (j:Int) s=5:=by unfold A3l;rw[if_pos aB,if_neg W]
   rw[eE]
   have cN:decide ((64:Int)<((s.size:Nat):Int))=true:=decide_eq_true (by omega)
   obtain⟨o,Z⟩:∃o,o=E.o:=⟨_,rfl⟩
   rw[<-Z]at HM⊢
   clear hv h hs hl aJ aO Z eE aB aH hj W
   go_enter Tryz.func35,Tryz.ntmps35
   go_wp2_with (first
    |(refine C4 (t:=35) rfl _ rfl rfl ?_;intro z0 w0 W U I;have aF:=C3t U;have aA:=C3t I;have aT:=C3t W;clear W U I)
    |(go_at_call 73;refine(HM.out _ aA.out).mono ?_;rintro e w2 ⟨rfl,rfl⟩)
    |(go_at_call 85;refine(aK.out _).mono ?_;rintro e w2 ⟨rfl,rfl⟩)
    |fail)
   go_ret2
   exact .inl ⟨by decide,rfl,aA.out⟩
 ·have eE:A3l E.H i g a s=2:=by unfold A3l;rw[if_neg aB]
  rw[eE]
  have aH:(decide (0<=a)&&decide (a<8))=false:=by
   rw[Bool.and_eq_false_iff]
   by_cases h1:0<=a
   ·right;exact decide_eq_false (λx=>aB ⟨h1,x⟩)
   ·left;exact decide_eq_false h1
  rw[aH]at aK
  obtain⟨o,Z⟩:∃o,o=E.o:=⟨_,rfl⟩
  rw[<-Z]at HM⊢
  clear hv h hs hl aJ aO Z eE aB aH
  go_enter Tryz.func35,Tryz.ntmps35
  go_wp2_with (first
   |(refine C4 (t:=35) rfl _ rfl rfl ?_;intro z0 w0 W U I;have aF:=C3t U;have aA:=C3t I;have aT:=C3t W;clear W U I)
   |(go_at_call 73;refine(HM.out _ aA.out).mono ?_;rintro e w2 ⟨rfl,rfl⟩)
   |(go_at_call 85;refine(aK.out _).mono ?_;rintro e w2 ⟨rfl,rfl⟩)
   |fail)
  go_ret2
  exact .inl ⟨by decide,rfl,aA.out⟩
end
end Go.Proofs.YtbefmjiclpobjaaGreat
