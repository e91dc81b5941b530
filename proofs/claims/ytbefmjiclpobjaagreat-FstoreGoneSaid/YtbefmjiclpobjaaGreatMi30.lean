import Derived.Test.YtbefmjiclpobjaaGreatMi29
namespace Go.Proofs.YtbefmjiclpobjaaGreat
set_option maxHeartbeats 6400000
set_option maxRecDepth 3000
open Go.RowKit Go.Maps
theorem B2c{I w:World}{c m n:Nat}{v:Value}{l:List Nat}(h:Rd w 1 v n (l.map u8))(U:∀k,v.ownBlock=some k->I.heap.size<=k)(V:c<I.heap.size/\m<I.heap.size):C1a w c m v n l:=λW a=>
 h.adv a (λk J _ y=>by
  have:=U k J
  rcases y with y|y<;>omega)
theorem So.new_o{w:World}{E:Ev}(h:So w E)(z:Nat)(V:w.heap.size<=z):z≠E.o:=λy=>by
 obtain⟨I,J,U⟩:=h.bd
 omega
theorem Cg.aside{W w2:World}{E:Ev}{c m z:Nat}{H:Nat->List Nat}{e:Int}(h:Cg W E c m H e)(hz:¬EF E c m z)(Z:z≠E.o)(J:B1 (L6 z) W (L6 z) w2):Cg w2 E c m H e:=by
 obtain⟨A,V,X,h3,Y⟩:=h.ex
 have I:∀k,EF E c m k->¬L6 z k:=λk U y=>by
  unfold L6 at y
  subst y
  exact hz U
 exact⟨h.so.far J (λk U hu=>I k (.inl hu) U) (λy=>Z y.symm) (I _ (.inr (.inl rfl))),⟨A,V.keep (J.block m V.lt (I _ (.inr (.inr (.inr rfl))))),X,h3,Y⟩,h.blk.keep (J.block c h.blk.lt (I _ (.inr (.inr (.inl rfl))))),h.sc,h.sm⟩
noncomputable def A3m(H:Nat->List Nat)(i g a:Int)(s:ByteArray):Int:=
 if 0<=a/\a<8 then(if s.size<=64 then Q9 H i g 2 else 5)else 2
noncomputable def B3B(E:Ev)(X:M5)(j:Nat)(s:ByteArray):CS:=(⟨E.H,0⟩:CS).place E.M (X.a j) (M9 s)
noncomputable def A71(E:Ev)(X:M5)(j:Nat)(s:ByteArray):M5:=atX X (λi=>if i=j then(⟨E.H,0⟩:CS).placeI E.M (X.a j) (M9 s)else X.a i)
noncomputable def B2d(E:Ev)(i g:Int)(j:Nat)(s:ByteArray):CS:=ewS (B3B E (fileX E.H i g) j s) i.toNat g (A71 E (fileX E.H i g) j s)
section
variable {w:World} {E:Ev}
theorem C1t{s:ByteArray}(h:s.size<=64):M9 s=[]\/((M9 s).length=128/\∀y∈M9 s,y<256):=by
 by_cases I:s.size=0
 ·exact .inl (by unfold M9;rw[if_pos I])
 ·exact .inr ⟨A1j (by omega) (by omega),A9Y (by omega)⟩
theorem C1u{X:M5}{j:Nat}{s:ByteArray}(U:Sw E.H E.M)(I:WfI X)(V:∀i,i<8->X.a i=0\/(42<=X.a i/\X.a i<E.M))(W:j<8):WfI (A71 E X j s)/\((B3B E X j s).e=0->∀i,i<8->(A71 E X j s).a i=0\/(42<=(A71 E X j s).a i/\(A71 E X j s).a i<E.M)):=by
 have Y:Sw (⟨E.H,0⟩:CS).H E.M:=U
 have Z:=U.sd.hM
 have J:=A5k (s:=(⟨E.H,0⟩:CS)) (l:=M9 s) Y (V j W)
 refine⟨⟨I.k,I.g,I.v,λi hi=>?_⟩,λe i hi=>?_⟩
 ·show -9223372036854775808<=(if i=j then _ else _)/\(if i=j then _ else _)<(9223372036854775808:Int)
  split
  ·rcases J with y|y|⟨_,y⟩<;>omega
  ·exact I.a i hi
 ·show(if i=j then _ else _)=(0:Int)\/(42<=(if i=j then _ else _)/\(if i=j then _ else _)<(E.M:Int))
  split
  ·rcases J with y|y|⟨y,_⟩
   ·exact .inl y
   ·exact .inr y
   ·exact absurd e y
  ·exact V i hi
theorem B4Y(h:So w E)(hs:Sw E.H E.M)(i g a:Int)(s:ByteArray)(hl:A3m E.H i g a s=0->LOk E (B2d E i g a.toNat s)):
 Calls Tryz.prog 35 #[.pointer (some ⟨E.o,0,none⟩),.agg #[.int .i64 i,.int .i64 g],.int .i64 a,.string s] w λr w'=>
  (A3m E.H i g a s≠0/\r= .returned (.tuple #[.int .u64 0,.int .i64 (A3m E.H i g a s)])/\B1 B5 w B5 w')\/
  (A3m E.H i g a s=0/\r= .returned (.tuple #[.int .u64 (ewV (A71 E (fileX E.H i g) a.toNat s) (Q3 E (B2d E i g a.toNat s)).2:Int),.int .i64 (Q3 E (B2d E i g a.toNat s)).2])/\OdR w E (Q3 E (B2d E i g a.toNat s)) w'):=by
 have hv:=h.vu.rdv
 have HM:=C5Z (λV (a:B1 B5 w B5 V)=>A1k (hv.step a))
 have aK:=C5Z (λV=>A5A a V)
 have aJ:=C5Z (λV (a:B1 B5 w B5 V)=>A23 (hv.step a) hs.sd i g 2)
 have aO:=C5Z (λV (a:B1 B5 w B5 V)=>A19 (h.step a))
 have HG:=C5Z (h.new)
 by_cases aB:0<=a/\a<8
 ·obtain⟨j,rfl⟩:∃j:Nat,a=(j:Int):=⟨a.toNat,by omega⟩
  have hj:j<8:=by omega
  have aH:(decide (0<=(j:Int))&&decide ((j:Int)<8))=true:=by rw[decide_eq_true aB.1,decide_eq_true aB.2];rfl
  rw[aH]at aK
  by_cases W:s.size<=64
  ·have eE:A3m E.H i g (j:Int) s=Q9 E.H i g 2:=by unfold A3m;rw[if_pos aB,if_pos W]
   rw[eE]at hl⊢
   rw[Int.toNat_natCast]at hl⊢
   have cM:decide ((64:Int)<((s.size:Nat):Int))=false:=decide_eq_false (by omega)
   by_cases hk:Q9 E.H i g 2=0
   ·obtain⟨f1,f2,f3⟩:=A1h hk
    have f4:=S9 f1
    obtain⟨q,rfl⟩:∃q:Nat,i=(q:Int):=⟨i.toNat,by omega⟩
    have HK:=C5Z hk
    obtain⟨wf,pt,_⟩:=X9 hs.sd (q:Int) g
    obtain⟨yw,yp⟩:=C1u (s:=s) hs wf pt hj
    have bT:=C1t W
    have cG:Sw (B3B E (fileX E.H (q:Int) g) j s).H E.M:=A7s (s:=(⟨E.H,0⟩:CS)) hs (pt j hj) bT
    have cH:=A3R (i:=q) cG yw (λ_=>by omega) yp
    have bD:=C5Z (λV=>A8G s V (by omega))
    have bJ:=C5Z (λV c m A k (cc:Cs V E c m ⟨E.H,0⟩) (st:C1a V c m (.slice A (M9 s).length k) (M9 s).length (M9 s))=>B0b cc hs.sd ((fileX E.H (q:Int) g).a j) A (M9 s).length k (M9 s) rfl bT st (by rcases pt j hj with y|y;exact .inl y;exact .inr ⟨by omega,y.2⟩))
    have aE:=C5Z (λV c m (k:Cs V E c m (B3B E (fileX E.H (q:Int) g) j s))=>A8S k hs.sd.row q (by omega) g _ yw cH (hl hk))
    rw[show ewS (B3B E (fileX E.H (q:Int) g) j s) q g (A71 E (fileX E.H (q:Int) g) j s)=B2d E (q:Int) g j s from rfl]at aE
    obtain⟨X,hX⟩:∃X,X=fileX E.H (q:Int) g:=⟨_,rfl⟩
    have HF:=C5Z (λV (a:B1 B5 w B5 V)=>(aJ.out V a).mono (R':=λe w'=>e= .returned (.tuple #[.agg (ic X),.int .i64 0])/\B1 B5 V B5 w') (λe w' y=>by
     obtain⟨y1,y2⟩:=y
     refine⟨y1.trans ?_,y2⟩
     show Ending.returned (.tuple #[.agg (ic (A7h E.H (q:Int) g 2)),.int .i64 (Q9 E.H (q:Int) g 2)])=_
     rw[f3,hk,hX]))
    rw[<-hX]at bJ aE⊢
    obtain⟨A,hA⟩:∃A,A=X.a j:=⟨_,rfl⟩
    have HP:=C5Z (show(ic X)[3+j]? =some (.int .i64 A)by rw[hA];exact B9k X j hj)
    obtain⟨pi,bV⟩:∃pi,pi=(⟨E.H,0⟩:CS).placeI E.M (X.a j) (M9 s):=⟨_,rfl⟩
    have bH:=C5Z (show ic (A71 E X j s)=(ic X).setIfInBounds (3+j) (.int .i64 pi)by rw[bV];exact(B8M X X.a j hj _).symm)
    obtain⟨Y,hY⟩:∃Y,Y=A71 E X j s:=⟨_,rfl⟩
    obtain⟨S1,bR⟩:∃S1,S1=B3B E X j s:=⟨_,rfl⟩
    obtain⟨S2,cF⟩:∃S2,S2=B2d E (q:Int) g j s:=⟨_,rfl⟩
    obtain⟨bl,bS⟩:∃bl,bl=M9 s:=⟨_,rfl⟩
    have bI:=C5Z (λV c m B k (cc:Cs V E c m ⟨E.H,0⟩) (st:C1a V c m (.slice B bl.length k) bl.length bl)=>show Calls Tryz.prog 88 #[.pointer (some ⟨c,0,none⟩),.int .i64 A,.slice B bl.length k] V λr w'=>r= .returned (.int .i64 pi)/\Cs w' E c m S1/\B1 (CF c m) V (CF c m) w' by
     rw[hA,bV,bR]
     rw[bS]at st⊢
     exact bJ.out V c m B k cc st)
    rw[<-bS]at bD
    obtain⟨n,hn⟩:∃n,n=bl.length:=⟨_,rfl⟩
    rw[<-hn]at bD bI
    have cB:=bD
    rw[<-hY,<-bR]at aE
    rw[<-hY]at bH
    rw[<-cF]at aE⊢
    rw[<-hY]
    obtain⟨R,hR⟩:∃R,R=Q3 E S2:=⟨_,rfl⟩
    rw[<-hR]at aE⊢
    have cE:=C5Z (h.new_o)
    obtain⟨o,Z⟩:∃o,o=E.o:=⟨_,rfl⟩
    rw[<-Z]at HM HF aO⊢
    obtain⟨v,cJ⟩:∃v,v=ewV Y R.2:=⟨_,rfl⟩
    rw[<-cJ]at aE⊢
    have cP:(0:Int)<=(j:Int):=by omega
    have cO:(j:Int)<8:=by omega
    obtain⟨ns,cQ⟩:∃ns:Int,ns=((s.size:Nat):Int):=⟨_,rfl⟩
    clear hv h hs hl hk f1 f2 f3 f4 wf pt yw yp cG cH bT hX hY bR cF hR Z cJ aJ bJ hA bV bS hn eE aB aH hj W
    go_enter Tryz.func35,Tryz.ntmps35
    go_upto_region 11 with(first
     |(refine C4 (t:=35) rfl _ rfl rfl ?_;intro z0 w0 W U I;have aF:=C5Z U;have aA:=C5Z I;have aT:=C5Z W;clear W U I)
     |(go_at_call 73;refine(HM.out _ aA.out).mono ?_;rintro e w2 ⟨rfl,rfl⟩)
     |(go_at_call 85;refine(aK.out _).mono ?_;rintro e w2 ⟨rfl,rfl⟩)
     |(refine B6 (t:=35) rfl _ rfl z0 aF.out rfl Tryz.underlying35 rfl B0 rfl ?_)
     |(go_at_call 86;refine(HF.out _ aA.out).mono ?_;rintro e w2 ⟨rfl,I⟩;have aM:=C5Z (aA.out.trans I);have aN:=C5Z (aF.out.over I);clear I)
     |(refine B9 rfl rfl C8 ?_;intro J w5 W U I;have bC:=C5Z U;have aX:=C5Z (aM.out.trans I);have aS:=C5Z (Nat.le_trans aM.out.size W);have aC:=C5Z (aN.out.over I);have aP:=C5Z (show z0≠J fromλe=>by have:=aN.out.lt;omega);clear W U I)
     |(refine B7 rfl _ _ rfl J bC.out rfl rfl C0 (C2 _) (C2 _) (D6 _) ?_;intro w6 U I;have bP:=C5Z U;have aI:=C5Z (aX.out.fresh aS.out I);have bA:=C5Z (aC.out.far1 I aP.out);clear U I)
     |(go_at_call 44;refine(aO.out _ aI.out).mono ?_;rintro e w9 ⟨c,m,rfl,hc,h1,h2,I⟩;have cK:=C5Z (show Cs _ E c m ⟨E.H,0⟩from hc);have aV:=C5Z (And.intro (Nat.le_trans aI.out.size h1) (Nat.le_trans aI.out.size h2));have cD:=C5Z (show c<w9.heap.size/\m<w9.heap.size from hc.lt);have cA:=C5Z (bA.out.over I);have aR:=C5Z (bP.out.over I);have aL:=C5Z (show(¬EF E c m z0)/\¬EF E c m J from⟨nef h1 h2 bA.out.lt (HG.out z0 aT.out),nef h1 h2 bP.out.lt (HG.out J aS.out)⟩);have bY:=C5Z (aI.out.trans I);clear hc h1 h2 I)
     |fail)
    have aU:=aS
    have bZ:=C5Z (show B1 (CF c m) w9 (CF c m) w9.drew from(B1.refl _ _).drew)
    have cC:=C5Z (cK.out.step ((B1.refl B5 w9).drew))
    have d9:=(show w9.drew.cell? ⟨J,3+j,none⟩=some (.int .i64 A)from by rw[aR.out.drew.cell];exact HP.out)
    refine D8 (S:=(λ_=>True)) (by first|exact True.intro) (λhH=>?_)
    refine C6a 0 rfl ?_
    refine C6a 1 rfl ?_
    refine C6a 2 rfl ?_
    refine C6a 3 rfl ?_
    refine C6a 4 rfl ?_
    refine C6a 6 rfl ?_
    refine C6a 9 rfl ?_
    refine C6f 5 7 rfl rfl (λK hK=>?_) (λK hK=>?_)
    ·go_simp
     refine C6c hK (by first|exact True.intro) ?_
     clear hK K hH
     intro hH
     try simp only[Act.put,sA,sB,sC]
     refine C6b 7 rfl (λK hK=>?_)
     go_simp
     refine(cB.out w9.drew).mono ?_
     rintro r bX ⟨Ab,kb,rfl,hr,Z,I⟩
     have bG:=C5Z (cC.out.step I)
     have bM:=C5Z (B2c hr Z cD.out)
     have aY:=C5Z (bZ.out.over I)
     have bQ:=(show bX.cell? ⟨J,3+j,none⟩=some (.int .i64 A)from by rw[(aR.out.over (((B1.refl B5 w9).drew).trans I)).cell];exact HP.out)
     have aC:=C5Z (cA.out.over (((B1.refl B5 w9).drew).trans I))
     have aQ:=C5Z (aR.out.over (((B1.refl B5 w9).drew).trans I))
     clear hr Z I
     go_wp2_with fail
     refine C6c hK (by first|exact True.intro) ?_
     clear hK K hH
     intro hH
     try simp only[Act.put,sA,sB,sC]
     refine C6b 8 rfl (λK hK=>?_)
     go_simp
     refine(bI.out _ c m _ _ bG.out bM.out).mono ?_
     rintro r aD ⟨rfl,hc,I⟩
     have aZ:=C5Z (aC.out.keep (I.block z0 aC.out.lt (λy=>aL.out.1 (.inr (.inr y)))))
     have aG:=C5Z (aQ.out.keep (I.block J aQ.out.lt (λy=>aL.out.2 (.inr (.inr y)))))
     have bK:=C5Z (show aD.cell? ⟨J,3+j,none⟩=some (.int .i64 A)from by rw[aG.out.cell];exact HP.out)
     have cL:aD.frozen? ⟨J,3+j,none⟩=false:=aG.out.frozen _
     have d11:=bK.out
     have sc:=B1.setCell (F:=L6 J) (F':=L6 J) (p:=⟨J,3+j,none⟩) (B1.refl _ aD) (.inl rfl) (.int .i64 pi)
     have bO:=C5Z (show C3 (aD.setCell ⟨J,3+j,none⟩ (.int .i64 pi)) J 62 (ic Y)from by rw[bH.out];exact aG.out.set_ (3+j) _)
     have bF:=C5Z (Cg.aside hc aL.out.2 (cE.out J aU.out) sc)
     have bB:=C5Z (aZ.out.far1 sc aP.out)
     have aW:=C5Z (((bY.out.same (G:=CF c m) (λ_ y=>y.elim)).trans (aY.out.trans I)).freshG aU.out sc)
     clear hc I sc d9 bQ
     go_wp2_with fail
     refine C6c hK (by first|exact True.intro) ?_
     clear hK K hH
     intro hH
     try simp only[Act.put,sA,sB,sC]
     refine C6a 10 rfl ?_
     refine C6b 11 rfl (λK hK=>?_)
     go_simp
     refine C6c hK (by first|exact True.intro) ?_
     clear hK K hH
     intro hH
     try simp only[Act.put]
     refine wpAnyH_done (by kernel_rfl) ?_ _
     go_wp2_with (first
      |(refine B6 (t:=35) rfl _ rfl z0 bB.out rfl Tryz.underlying35 rfl B0 rfl ?_)
      |(refine B6 (t:=62) rfl _ rfl J bO.out rfl Tryz.underlying62 rfl C0 (C2 _) ?_)
      |(go_at_call 90;refine(aE.out _ c m bF.out).mono ?_;rintro r cN ⟨rfl,he⟩;have HO:=C5Z (he.op (B1.refl B5 w) aV.out.1 aV.out.2 aW.out).2;clear he)
      |fail)
     go_ret2
     exact .inr ⟨HK.out,rfl,HO.out⟩
    ·go_simp
     refine(cB.out w9.drew).mono ?_
     rintro r bX ⟨Ab,kb,rfl,hr,Z,I⟩
     have bG:=C5Z (cC.out.step I)
     have bM:=C5Z (B2c hr Z cD.out)
     have aY:=C5Z (bZ.out.over I)
     have bQ:=(show bX.cell? ⟨J,3+j,none⟩=some (.int .i64 A)from by rw[(aR.out.over (((B1.refl B5 w9).drew).trans I)).cell];exact HP.out)
     have aC:=C5Z (cA.out.over (((B1.refl B5 w9).drew).trans I))
     have aQ:=C5Z (aR.out.over (((B1.refl B5 w9).drew).trans I))
     clear hr Z I
     go_wp2_with fail
     refine C6c hK (by first|exact True.intro) ?_
     clear hK K hH
     intro hH
     try simp only[Act.put,sA,sB,sC]
     refine C6b 5 rfl (λK hK=>?_)
     go_simp
     refine C6c hK (by first|exact True.intro) ?_
     clear hK K hH
     intro hH
     try simp only[Act.put,sA,sB,sC]
     refine C6b 8 rfl (λK hK=>?_)
     go_simp
     refine(bI.out _ c m _ _ bG.out bM.out).mono ?_
     rintro r aD ⟨rfl,hc,I⟩
     have aZ:=C5Z (aC.out.keep (I.block z0 aC.out.lt (λy=>aL.out.1 (.inr (.inr y)))))
     have aG:=C5Z (aQ.out.keep (I.block J aQ.out.lt (λy=>aL.out.2 (.inr (.inr y)))))
     have bK:=C5Z (show aD.cell? ⟨J,3+j,none⟩=some (.int .i64 A)from by rw[aG.out.cell];exact HP.out)
     have cL:aD.frozen? ⟨J,3+j,none⟩=false:=aG.out.frozen _
     have d11:=bK.out
     have sc:=B1.setCell (F:=L6 J) (F':=L6 J) (p:=⟨J,3+j,none⟩) (B1.refl _ aD) (.inl rfl) (.int .i64 pi)
     have bO:=C5Z (show C3 (aD.setCell ⟨J,3+j,none⟩ (.int .i64 pi)) J 62 (ic Y)from by rw[bH.out];exact aG.out.set_ (3+j) _)
     have bF:=C5Z (Cg.aside hc aL.out.2 (cE.out J aU.out) sc)
     have bB:=C5Z (aZ.out.far1 sc aP.out)
     have aW:=C5Z (((bY.out.same (G:=CF c m) (λ_ y=>y.elim)).trans (aY.out.trans I)).freshG aU.out sc)
     clear hc I sc d9 bQ
     go_wp2_with fail
     refine C6c hK (by first|exact True.intro) ?_
     clear hK K hH
     intro hH
     try simp only[Act.put,sA,sB,sC]
     refine C6a 10 rfl ?_
     refine C6b 11 rfl (λK hK=>?_)
     go_simp
     refine C6c hK (by first|exact True.intro) ?_
     clear hK K hH
     intro hH
     try simp only[Act.put]
     refine wpAnyH_done (by kernel_rfl) ?_ _
     go_wp2_with (first
      |(refine B6 (t:=35) rfl _ rfl z0 bB.out rfl Tryz.underlying35 rfl B0 rfl ?_)
      |(refine B6 (t:=62) rfl _ rfl J bO.out rfl Tryz.underlying62 rfl C0 (C2 _) ?_)
      |(go_at_call 90;refine(aE.out _ c m bF.out).mono ?_;rintro r cN ⟨rfl,he⟩;have HO:=C5Z (he.op (B1.refl B5 w) aV.out.1 aV.out.2 aW.out).2;clear he)
      |fail)
     go_ret2
     exact .inr ⟨HK.out,rfl,HO.out⟩
   ·obtain⟨er,bU⟩:∃er,er=Q9 E.H i g 2:=⟨_,rfl⟩
    obtain⟨X,hX⟩:∃X,X=A7h E.H i g 2:=⟨_,rfl⟩
    have HF:=C5Z (λV (a:B1 B5 w B5 V)=>(aJ.out V a).mono (R':=λe w'=>e= .returned (.tuple #[.agg (ic X),.int .i64 er])/\B1 B5 V B5 w') (λe w' y=>by rw[hX,bU];exact y))
    rw[<-bU]at hk⊢
    have U:(er !=0)=true:=by rw[bne_iff_ne];exact hk
    have HK:=C5Z hk
    obtain⟨o,Z⟩:∃o,o=E.o:=⟨_,rfl⟩
    rw[<-Z]at HM HF⊢
    clear hv h hs hl hk bU hX aJ aO Z eE aB aH hj W
    go_enter Tryz.func35,Tryz.ntmps35
    go_wp2_with (first
     |(refine C4 (t:=35) rfl _ rfl rfl ?_;intro z0 w0 W U I;have aF:=C5Z U;have aA:=C5Z I;have aT:=C5Z W;clear W U I)
     |(go_at_call 73;refine(HM.out _ aA.out).mono ?_;rintro e w2 ⟨rfl,rfl⟩)
     |(go_at_call 85;refine(aK.out _).mono ?_;rintro e w2 ⟨rfl,rfl⟩)
     |(refine B6 (t:=35) rfl _ rfl z0 aF.out rfl Tryz.underlying35 rfl B0 rfl ?_)
     |(go_at_call 86;refine(HF.out _ aA.out).mono ?_;rintro e w2 ⟨rfl,I⟩;have aM:=C5Z (aA.out.trans I);have aN:=C5Z (aF.out.over I);clear I)
     |(refine B9 rfl rfl C8 ?_;intro J w5 W U I;have bC:=C5Z U;have aX:=C5Z (aM.out.trans I);have aS:=C5Z (Nat.le_trans aM.out.size W);have aC:=C5Z (aN.out.over I);have aP:=C5Z (show z0≠J fromλe=>by have:=aN.out.lt;omega);clear W U I)
     |(refine B7 rfl _ _ rfl J bC.out rfl rfl C0 (C2 _) (C2 _) (D6 _) ?_;intro w6 U I;have bP:=C5Z U;have aI:=C5Z (aX.out.fresh aS.out I);have bA:=C5Z (aC.out.far1 I aP.out);clear U I)
     |fail)
    go_ret2
    exact .inl ⟨HK.out,rfl,aI.out⟩
  ·have eE:A3m E.H i g (j:Int) s=5:=by unfold A3m;rw[if_pos aB,if_neg W]
   rw[eE]
   have cM:decide ((64:Int)<((s.size:Nat):Int))=true:=decide_eq_true (by omega)
   obtain⟨o,Z⟩:∃o,o=E.o:=⟨_,rfl⟩
   rw[<-Z]at HM⊢
   clear hv h hs hl aJ aO Z eE aB aH hj W
   go_enter Tryz.func35,Tryz.ntmps35
   go_wp2_with (first
    |(refine C4 (t:=35) rfl _ rfl rfl ?_;intro z0 w0 W U I;have aF:=C5Z U;have aA:=C5Z I;have aT:=C5Z W;clear W U I)
    |(go_at_call 73;refine(HM.out _ aA.out).mono ?_;rintro e w2 ⟨rfl,rfl⟩)
    |(go_at_call 85;refine(aK.out _).mono ?_;rintro e w2 ⟨rfl,rfl⟩)
    |fail)
   go_ret2
   exact .inl ⟨by decide,rfl,aA.out⟩
 ·have eE:A3m E.H i g a s=2:=by unfold A3m;rw[if_neg aB]
  rw[eE]
  have aH:(decide (0<=a)&&decide (a<8))=false:=by
   rw[Bool.and_eq_false_iff]
   by_cases h1:0<=a
   ·right;exact decide_eq_false (λx=>aB ⟨h1,x⟩)
   ·left;exact decide_eq_false h1
  rw[aH]at aK
  obtain⟨o,Z⟩:∃o,o=E.o:=⟨_,rfl⟩
  rw[<-Z]at HM⊢
  clear hv h hs hl aJ aO Z eE aB aH
  go_enter Tryz.func35,Tryz.ntmps35
  go_wp2_with (first
   |(refine C4 (t:=35) rfl _ rfl rfl ?_;intro z0 w0 W U I;have aF:=C5Z U;have aA:=C5Z I;have aT:=C5Z W;clear W U I)
   |(go_at_call 73;refine(HM.out _ aA.out).mono ?_;rintro e w2 ⟨rfl,rfl⟩)
   |(go_at_call 85;refine(aK.out _).mono ?_;rintro e w2 ⟨rfl,rfl⟩)
   |fail)
  go_ret2
  exact .inl ⟨by decide,rfl,aA.out⟩
end
end Go.Proofs.YtbefmjiclpobjaaGreat
