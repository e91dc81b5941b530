import Derived.Test.YtbefmjiclpobjaaGreatMh19
namespace Go.Proofs.YtbefmjiclpobjaaGreat
set_option maxHeartbeats 3200000
set_option maxRecDepth 3000
section
open Go.RowKit
theorem EnO.past{W I J w2:World}{E:Ev}{c m:Nat}{H0:Nat->List Nat}{U:Int}{F':Nat->Prop}{l:List En}{v:Value}(h:EnO W l v J)(V:Cg I E c m H0 U)(X:A8 B0 I B0 W)(Y:A8 (CF c m) J F' w2):M8 w2 v l:=by
 obtain⟨F,s,a⟩:=h.ex
 exact⟨(s.past V (λk Z=>Nat.le_trans X.size (a.newS k Z)) Y).rd,h.sz⟩
section
variable {w w':World} {E:Ev} {c m:Nat} {s:CS}
noncomputable def CS.enter(s:CS)(M:Nat)(i g:Int)(x:En):CS:=(s.note (R6 s.H i g)).setEn M i g (R3 (T4 s.H i g) x)
theorem B8E(h:Cs w E c m s)(hs:Sw s.H E.M)(i g:Int)(hi:0<=i/\i<=40)(x:En)(hx:x.s.size<=maxLen):
 Calls Tryz.prog 92 #[.pointer (some ⟨c,0,none⟩),.agg #[.int .i64 i,.int .i64 g],.agg (ea x)] w λr w'=>r= .returned (.tuple #[])/\Cs w' E c m (s.enter E.M i g x)/\A8 (CF c m) w (CF c m) w':=by
 have HC:=C3t h
 have aC:=C3t (λW (k:Cs W E c m s)=>A6W k.rdv hs.sd i g)
 have aG:=C3t (A6X s.H i g)
 have aO:=C3t (λW (v:Value) (k:M8 W v (T4 s.H i g))=>B6v v _ x W k aG.out.1 (by have:=aG.out.2;omega) hx)
 have aD:=C3t (λW (k:Cs W E c m (s.note (R6 s.H i g))) (v:Value) (r:M8 W v (R3 (T4 s.H i g) x))=>B8D k hs i g hi v _ r)
 have HN:=C3t (λW (k:Cs W E c m s)=>show Calls Tryz.prog 101 #[.pointer (some ⟨c,0,none⟩),.int .i64 (R6 s.H i g)] W λr w'=>r= .returned (.tuple #[])/\Cs w' E c m (s.note (R6 s.H i g))/\A8 (CF c m) W (CF c m) w' from U8 k _)
 have aK:=C3t (λ(d:Nat) (hd:w.heap.size<=d)=>h.apart (G:=M0 d) (λk hk=>by unfold M0 at hk;omega))
 have hR:s.enter E.M i g x=(s.note (R6 s.H i g)).setEn E.M i g (R3 (T4 s.H i g) x):=rfl
 rw[hR]
 obtain⟨ee,aH⟩:∃ee,ee=R6 s.H i g:=⟨_,rfl⟩
 obtain⟨L,hL⟩:∃L,L=T4 s.H i g:=⟨_,rfl⟩
 rw[<-aH,<-hL]at aC aD⊢
 rw[<-hL]at aO
 rw[<-aH]at HN
 unfold EsR at aC
 obtain⟨n,hn⟩:∃n,n=L.length:=⟨_,rfl⟩
 rw[<-hn]at aC
 obtain⟨s1,aQ⟩:∃s1,s1=s.note ee:=⟨_,rfl⟩
 rw[<-aQ]at HN aD⊢
 obtain⟨s2,aR⟩:∃s2,s2=s1.setEn E.M i g (R3 L x):=⟨_,rfl⟩
 rw[<-aR]at aD⊢
 clear hR aH hL hn aQ aR h hs aG
 go_enter Tryz.func92,Tryz.ntmps92
 go_upto_region 1 with(first
  |(refine C4 (t:=35) rfl _ rfl rfl ?_;intro zb w1 hz hb I;have bD:=C3t hz;have aV:=C3t hb;have aI:=C3t I;clear hz hb I)
  |(refine C4 (t:=74) rfl _ rfl rfl ?_;intro z5 w2 hz hb I;have bC:=C3t (Nat.le_trans aI.out.size hz);have aT:=C3t hb;have aU:=C3t (aV.out.over I);have aB:=C3t (aI.out.trans I);clear hz hb I)
  |fail)
 have aA:=C3t (show A8 B0 w2 B0 w2.drew from(A8.refl _ _).drew)
 have aY:=C3t (λV (a:A8 B0 w2 B0 V)=>aC.out V (HC.out.step (aB.out.trans a)))
 have aL:=C3t (show∀V,A8 B0 w2 B0 V->C0 V zb 35 #[.int .i64 i,.int .i64 g]/\C0 V z5 74 (ea x)fromλV a=>⟨aU.out.over a,aT.out.over a⟩)
 have U:=C3t (aL.out _ aA.out)
 refine E6 (S:=(λw'=>C0 w' zb 35 #[.int .i64 i,.int .i64 g]/\C0 w' z5 74 (ea x))) (by with_reducible first|exact Z.out|exact X.out|exact Y.out|exact J.out|exact U.out) (λhH=>?_)
 refine C3y 0 rfl ?_
 refine C3y 1 rfl ?_
 refine C3y 2 rfl ?_
 refine C31 3 (.agg #[.int .i64 i,.int .i64 g]) rfl (A1o rfl (.tmp 4) rfl zb rfl (λ_ h=>h.1) Tryz.underlying35 rfl B1 rfl) ?_
 refine C3v 4 rfl (λK hK=>?_)
 go_simp
 refine(aY.out _ aA.out).mono ?_
 rintro r w5 ⟨A5,q5,rfl,o5,a5⟩
 have aZ:=C3t (o5)
 have aE:=C3t (aA.out.trans a5)
 have J:=C3t (aL.out _ aE.out)
 clear o5 a5
 go_wp2_with fail
 refine C3w hK (by with_reducible first|exact Z.out|exact X.out|exact Y.out|exact J.out|exact U.out) ?_
 clear hK K hH
 intro hH
 try simp only[Act.put,sA,sB,sC]
 refine C3y 5 rfl ?_
 refine C3y 6 rfl ?_
 refine C3y 7 rfl ?_
 refine C3y 8 rfl ?_
 refine C3y 9 rfl ?_
 refine wpAnyH_done (by kernel_rfl) ?_ _
 have aW:=C3t (HC.out.step (aB.out.trans aE.out))
 go_upto_region 3 with(first
  |(go_at_call 101;refine(HN.out w5 aW.out).mono ?_;rintro r w7 ⟨rfl,hc,I⟩;have aX:=C3t hc;have bB:=C3t (show M8 w7.drew (.slice A5 n q5) L from(aZ.out.past HC.out (aB.out.trans (aA.out)) I).drew);have aS:=C3t (((aB.out.trans aE.out).same (G:=CF c m) (λ_ x=>x.elim)).trans I);have aN:=C3t (show∀V V',(C0 V zb 35 #[.int .i64 i,.int .i64 g]/\C0 V z5 74 (ea x))->A8 (CF c m) V (CF c m) V'->C0 V' zb 35 #[.int .i64 i,.int .i64 g]/\C0 V' z5 74 (ea x)fromλV V' h a=>⟨h.1.keep (a.block zb h.1.lt (λhk=>aK.out zb bD.out zb hk rfl)),h.2.keep (a.block z5 h.2.lt (λhk=>aK.out z5 bC.out z5 hk rfl))⟩);have aP:=C3t (aN.out _ _ J.out I);clear hc I)
  |fail)
 have aM:=C3t (show∀V,A8 B0 w7 B0 V->C0 V zb 35 #[.int .i64 i,.int .i64 g]/\C0 V z5 74 (ea x)fromλV a=>⟨aP.out.1.over a,aP.out.2.over a⟩)
 have Y:=C3t (aM.out _ ((A8.refl B0 w7).drew))
 clear U J
 refine E6 (S:=(λw'=>C0 w' zb 35 #[.int .i64 i,.int .i64 g]/\C0 w' z5 74 (ea x))) (by with_reducible first|exact Z.out|exact X.out|exact Y.out|exact J.out|exact U.out) (λhH=>?_)
 refine C3y 0 rfl ?_
 refine C31 1 (.agg #[.int .i64 i,.int .i64 g]) rfl (A1o rfl (.tmp 4) rfl zb rfl (λ_ h=>h.1) Tryz.underlying35 rfl B1 rfl) ?_
 refine C3y 2 rfl ?_
 refine C31 3 (.agg (ea x)) rfl (A1o rfl (.tmp 5) rfl z5 rfl (λ_ h=>h.2) Tryz.underlying74 rfl D9 (G9 _)) ?_
 refine C3v 4 rfl (λK hK=>?_)
 go_simp
 refine(aO.out _ _ bB.out).mono ?_
 rintro r w8 ⟨v8,rfl,o8⟩
 have bA:=C3t (o8)
 have aF:=C3t (A8.of_drew (F:=B0) o8.adv)
 have X:=C3t (aM.out _ aF.out)
 clear o8
 go_wp2_with fail
 refine C3w hK (by with_reducible first|exact Z.out|exact X.out|exact Y.out|exact J.out|exact U.out) ?_
 clear hK K hH
 intro hH
 try simp only[Act.put,sA,sB,sC]
 refine C3v 5 rfl (λK hK=>?_)
 go_simp
 refine(aD.out _ (aX.out.step aF.out) v8 bA.out.rd).mono ?_
 rintro r w9 ⟨rfl,c9,a9⟩
 have aJ:=C3t (And.intro c9 ((aS.out.over aF.out).trans a9))
 have Z:=C3t (aN.out _ _ X.out a9)
 clear c9 a9
 go_wp2_with fail
 refine C3w hK (by with_reducible first|exact Z.out|exact X.out|exact Y.out|exact J.out|exact U.out) ?_
 clear hK K hH
 intro hH
 try simp only[Act.put,sA,sB,sC]
 refine wpAnyH_done (by kernel_rfl) ?_ _
 go_wp2_with fail
 exact bodyPost_end (results_none rfl _ _ _) rfl ⟨rfl,aJ.out.1,aJ.out.2⟩
end
end
section
open Go.RowKit
def upI(X:L6):L6:=⟨X.k,X.g,X.v+1,X.a⟩
def CS.touch(s:CS)(i g:Int):CS:=
 (if(fileX s.H i g).v=1099511627775 then(s.note (fileE s.H i g)).note 8 else s.note (fileE s.H i g)).set i.toNat (upI (fileX s.H i g))
theorem B92(X:L6):(ic X).setIfInBounds 2 (.int .u64 ((X.v:Int)+1))=ic (upI X):=rfl
section
variable {w w':World} {E:Ev} {c m:Nat} {s:CS}
theorem B2E(h:Cs w E c m s)(hs:Sw s.H E.M)(i g:Int)(hi:0<=i/\i<=40):
 Calls Tryz.prog 84 #[.pointer (some ⟨c,0,none⟩),.agg #[.int .i64 i,.int .i64 g]] w λr w'=>r= .returned (.tuple #[])/\Cs w' E c m (s.touch i g)/\A8 (CF c m) w (CF c m) w':=by
 have HC:=C3t h
 have cE:=C3t hs
 have bP:=C3t (λW (k:Cs W E c m s)=>B1o k.rdv hs.sd i g)
 have aM:=C3t (A3h hs.sd i g)
 have HM:=C3t hs.sd.hM
 have aL:=C3t (λ(d:Nat) (hd:w.heap.size<=d)=>h.apart (G:=M0 d) (λk hk=>by unfold M0 at hk;omega))
 have HN:=C3t (λW (k:Cs W E c m s)=>show Calls Tryz.prog 101 #[.pointer (some ⟨c,0,none⟩),.int .i64 (fileE s.H i g)] W λr w'=>r= .returned (.tuple #[])/\Cs w' E c m (s.note (fileE s.H i g))/\A8 (CF c m) W (CF c m) w' from U8 k _)
 have hR:s.touch i g=(if(fileX s.H i g).v=1099511627775 then(s.note (fileE s.H i g)).note 8 else s.note (fileE s.H i g)).set i.toNat (upI (fileX s.H i g)):=rfl
 rw[hR]
 obtain⟨n,rfl⟩:∃n:Nat,i=(n:Int):=⟨i.toNat,by omega⟩
 rw[Int.toNat_natCast]
 obtain⟨X,hX⟩:∃X,X=fileX s.H (n:Int) g:=⟨_,rfl⟩
 obtain⟨fe,bJ⟩:∃fe,fe=fileE s.H (n:Int) g:=⟨_,rfl⟩
 rw[<-hX,<-bJ]at bP⊢
 rw[<-bJ]at HN
 rw[<-hX]at aM
 have bZ:WfI (upI X):=⟨aM.out.1.k,aM.out.1.g,by show X.v+1<_;have:=aM.out.2.2;omega,aM.out.1.a⟩
 have bT:=C3t (λW (t:CS) (k:Cs W E c m t)=>show Calls Tryz.prog 104 #[.pointer (some ⟨c,0,none⟩),.int .i64 (n:Int),.agg (ic (upI X))] W λr w'=>r= .returned (.tuple #[])/\Cs w' E c m (t.set n (upI X))/\A8 (CF c m) W (CF c m) w' from A7e k n (by omega) (upI X) bZ (by have:=HM.out;omega))
 obtain⟨s1,bV⟩:∃s1,s1=s.note fe:=⟨_,rfl⟩
 rw[<-bV]at HN⊢
 obtain⟨v,hv⟩:∃v,v=X.v:=⟨_,rfl⟩
 have hw:IntKind.u64.wrap ((v:Int)+1)=((v:Int)+1):=by have:=aM.out.2.2;rw[IntKind.wrap_u64];omega
 rw[<-hv]
 have HV:=C3t hv
 obtain⟨s2,bK⟩:∃s2,s2=if v=1099511627775 then s1.note 8 else s1:=⟨_,rfl⟩
 rw[<-bK]
 have bS:=C3t bK
 have bF:=C3t (λW (k:Cs W E c m s2)=>bT.out W s2 k)
 obtain⟨s3,bX⟩:∃s3,s3=s2.set n (upI X):=⟨_,rfl⟩
 rw[<-bX]at bF⊢
 clear hR hX bJ bV hv bZ hi h hs bK bX bT
 go_enter Tryz.func84,Tryz.ntmps84
 go_upto_region 1 with(first
  |(refine C4 (t:=35) rfl _ rfl rfl ?_;intro zb W hz U I;have bH:=C3t hz;have bB:=C3t U;have aX:=C3t I;clear hz U I)
  |fail)
 have bO:=C3t (λV (a:A8 B0 W B0 V)=>bP.out V (HC.out.step (aX.out.trans a)))
 have aO:=C3t (show A8 B0 W B0 W.drew from(A8.refl _ _).drew)
 have aD:=C3t (show∀V,A8 B0 W B0 V->C0 V zb 35 #[.int .i64 (n:Int),.int .i64 g]fromλV a=>bB.out.over a)
 have aE:=C3t (aD.out _ aO.out)
 go_frame
 go_cut [4,5] (λt4 t5 W9=>C1M W X fe t5 t4 W9)
 case first=>
  refine E6 (S:=(λw'=>C0 w' zb 35 #[.int .i64 (n:Int),.int .i64 g])) (by with_reducible first|exact aH.out|exact aG.out|exact aF.out|exact aE.out) (λhH=>?_)
  refine C3u 0 rfl ?_
  refine C3u 1 rfl ?_
  refine C3u 2 rfl ?_
  refine C31 3 (.agg #[.int .i64 (n:Int),.int .i64 g]) rfl (A1o rfl (.tmp 3) rfl zb rfl (λ_ h=>h) Tryz.underlying35 rfl B1 rfl) ?_
  refine C3z 4 8 rfl rfl (λK hK=>?_) (λK hK=>?_)
  ·go_simp
   refine(bO.out _ aO.out).mono ?_
   rintro r w5 ⟨rfl,a5⟩
   have aJ:=C3t (aO.out.trans a5)
   have aF:=C3t (aD.out _ aJ.out)
   clear a5
   go_wp2_with fail
   refine C3w hK (by with_reducible first|exact aH.out|exact aG.out|exact aF.out|exact aE.out) ?_
   clear hK K hH
   intro hH
   try simp only[Act.put,sA,sB,sC]
   refine C3u 5 rfl ?_
   refine C3u 6 rfl ?_
   refine C3u 7 rfl ?_
   refine C3v 8 rfl (λK hK=>?_)
   refine Y8 rfl rfl C6 (λJ w8 hz U I=>?_)
   have Z:=C3t (Nat.le_trans aJ.out.size hz)
   have bA:=C3t (U)
   have aK:=C3t (aJ.out.trans I)
   have aG:=C3t (aD.out _ aK.out)
   clear hz U I
   refine C3w hK (by with_reducible first|exact aH.out|exact aG.out|exact aF.out|exact aE.out) ?_
   clear hK K hH
   intro hH
   try simp only[Act.put,sA,sB,sC]
   refine C3v 9 rfl (λK hK=>?_)
   refine Y9 rfl _ _ rfl J bA.out rfl rfl B7 (C2 _) (C2 _) (D7 _) (λw9 U I=>?_)
   have aC:=C3t (U)
   have aB:=C3t (aK.out.fresh Z.out I)
   have aH:=C3t (aD.out _ aB.out)
   clear U I
   refine C3w hK (by with_reducible first|exact aH.out|exact aG.out|exact aF.out|exact aE.out) ?_
   clear hK K hH
   intro hH
   try simp only[Act.put]
   refine C3u 10 rfl ?_
   refine wpAnyH_done (by kernel_rfl) ?_ _
   go_wp2_with fail
   go_meet
   exact⟨J,rfl,rfl,aC.out,Z.out,aB.out⟩
  ·refine Y8 rfl rfl C6 (λJ w8 hz U I=>?_)
   have Z:=C3t (Nat.le_trans aO.out.size hz)
   have bA:=C3t (U)
   have aK:=C3t (aO.out.trans I)
   have aG:=C3t (aD.out _ aK.out)
   clear hz U I
   refine C3w hK (by with_reducible first|exact aH.out|exact aG.out|exact aF.out|exact aE.out) ?_
   clear hK K hH
   intro hH
   try simp only[Act.put,sA,sB,sC]
   refine C3v 4 rfl (λK hK=>?_)
   go_simp
   refine(bO.out _ aK.out).mono ?_
   rintro r w5 ⟨rfl,a5⟩
   have aJ:=C3t (aK.out.trans a5)
   have cB:=C3t (bA.out.over a5)
   have aF:=C3t (aD.out _ aJ.out)
   clear a5
   go_wp2_with fail
   refine C3w hK (by with_reducible first|exact aH.out|exact aG.out|exact aF.out|exact aE.out) ?_
   clear hK K hH
   intro hH
   try simp only[Act.put,sA,sB,sC]
   refine C3u 5 rfl ?_
   refine C3u 6 rfl ?_
   refine C3u 7 rfl ?_
   refine C3v 9 rfl (λK hK=>?_)
   refine Y9 rfl _ _ rfl J cB.out rfl rfl B7 (C2 _) (C2 _) (D7 _) (λw9 U I=>?_)
   have aC:=C3t (U)
   have aB:=C3t (aJ.out.fresh Z.out I)
   have aH:=C3t (aD.out _ aB.out)
   clear U I
   refine C3w hK (by with_reducible first|exact aH.out|exact aG.out|exact aF.out|exact aE.out) ?_
   clear hK K hH
   intro hH
   try simp only[Act.put]
   refine C3u 10 rfl ?_
   refine wpAnyH_done (by kernel_rfl) ?_ _
   go_wp2_with fail
   go_meet
   exact⟨J,rfl,rfl,aC.out,Z.out,aB.out⟩
 case rest=>
 obtain⟨J,rfl,rfl,bU,cA,bI⟩:=hcut
 have aC:=C3t bU
 have aB:=C3t (aX.out.trans bI)
 have aV:=C3t (bB.out.over bI)
 have bM:=C3t (HC.out.step aB.out)
 have Z:=C3t (Nat.le_trans aX.out.size cA)
 have bR:=C3t (show zb≠J fromλe=>by have:=bB.out.lt;omega)
 clear bU cA bI aE aD
 by_cases aQ:v=1099511627775
 ·have e2:s2=s1.note 8:=by rw[bS.out,if_pos aQ]
  have bQ:=C3t (λW (k:Cs W E c m s1)=>show Calls Tryz.prog 101 #[.pointer (some ⟨c,0,none⟩),.int .i64 8] W λr w'=>r= .returned (.tuple #[])/\Cs w' E c m s2/\A8 (CF c m) W (CF c m) w' by rw[e2];exact U8 k _)
  have cC:((v:Int)==1099511627775)=true:=by rw[aQ];rfl
  clear aQ e2
  go_wp2_with (first
  |(go_at_call 101;refine(HN.out _ bM.out).mono ?_;rintro r aW ⟨rfl,Y,I⟩;have bC:=C3t Y;have aY:=C3t ((aB.out.same (G:=CF c m) (λ_ x=>x.elim)).trans I);have aT:=C3t (aV.out.keep (I.block zb aV.out.lt (λhk=>aL.out zb bH.out zb hk rfl)));have aI:=C3t (aC.out.keep (I.block J aC.out.lt (λhk=>aL.out J Z.out J hk rfl)));have d2:aW.cell? ⟨J,2,none⟩=some (.int .u64 (v:Int)):=(by rw[HV.out];exact aI.out.cell 2);clear Y I HN)
   |(go_at_call 101;refine(bQ.out _ bC.out).mono ?_;rintro r aA ⟨rfl,Y,I⟩;have aS:=C3t Y;have aR:=C3t (aY.out.trans I);have aU:=C3t (aT.out.keep (I.block zb aT.out.lt (λhk=>aL.out zb bH.out zb hk rfl)));have aN:=C3t (aI.out.keep (I.block J aI.out.lt (λhk=>aL.out J Z.out J hk rfl)));have cF:aA.cell? ⟨J,2,none⟩=some (.int .u64 (v:Int)):=(by rw[HV.out];exact aN.out.cell 2);have cG:=aN.out.frozen 2;have sc:=A8.setCell (F:=M0 J) (F':=M0 J) (p:=⟨J,2,none⟩) (A8.refl _ aA) (.inl rfl) (.int .u64 ((v:Int)+1));have bG:=C3t (show C0 (aA.setCell ⟨J,2,none⟩ (.int .u64 ((v:Int)+1))) J 62 (ic (upI X))from(by have:=aN.out.set_ 2 (.int .u64 ((v:Int)+1));rw[HV.out,B92]at this;rw[HV.out];exact this));have bD:=C3t (HC.out.fresh aS.out Z.out sc);have aZ:=C3t (aR.out.freshG Z.out sc);have d0:(aA.setCell ⟨J,2,none⟩ (.int .u64 ((v:Int)+1))).cell? ⟨zb,0,none⟩=some (.int .i64 (n:Int)):=(aU.out.far1 sc bR.out).cell 0;clear sc;clear Y I bQ)
   |(refine C3 (t:=62) (C:=ic (upI X)) rfl _ rfl J bG.out rfl Tryz.underlying62 rfl B7 (C2 _) ?_)
   |(go_at_call 104;refine(bF.out _ bD.out).mono ?_;rintro r cD ⟨rfl,Y,I⟩;have aP:=C3t (And.intro Y (aZ.out.trans I));clear Y I)
   |fail)
  exact bodyPost_end (results_none rfl _ _ _) rfl ⟨rfl,aP.out.1,aP.out.2⟩
 ·have e2:s1=s2:=by rw[bS.out,if_neg aQ]
  subst e2
  have cC:((v:Int)==1099511627775)=false:=by rw[beq_eq_false_iff_ne];omega
  clear aQ
  go_wp2_with (first
  |(go_at_call 101;refine(HN.out _ bM.out).mono ?_;rintro r aW ⟨rfl,Y,I⟩;have bC:=C3t Y;have aY:=C3t ((aB.out.same (G:=CF c m) (λ_ x=>x.elim)).trans I);have aT:=C3t (aV.out.keep (I.block zb aV.out.lt (λhk=>aL.out zb bH.out zb hk rfl)));have aI:=C3t (aC.out.keep (I.block J aC.out.lt (λhk=>aL.out J Z.out J hk rfl)));have aS:=C3t bC.out;have aR:=C3t aY.out;have aU:=C3t aT.out;have aN:=C3t aI.out;have d2:aW.cell? ⟨J,2,none⟩=some (.int .u64 (v:Int)):=(by rw[HV.out];exact aI.out.cell 2);have f2:=aI.out.frozen 2;obtain⟨aA,bY⟩:∃aA,aA=aW:=⟨_,rfl⟩;rw[<-bY]at aS aR aU aN d2 f2⊢;clear bY;have sc:=A8.setCell (F:=M0 J) (F':=M0 J) (p:=⟨J,2,none⟩) (A8.refl _ aA) (.inl rfl) (.int .u64 ((v:Int)+1));have bG:=C3t (show C0 (aA.setCell ⟨J,2,none⟩ (.int .u64 ((v:Int)+1))) J 62 (ic (upI X))from(by have:=aN.out.set_ 2 (.int .u64 ((v:Int)+1));rw[HV.out,B92]at this;rw[HV.out];exact this));have bD:=C3t (HC.out.fresh aS.out Z.out sc);have aZ:=C3t (aR.out.freshG Z.out sc);have d0:(aA.setCell ⟨J,2,none⟩ (.int .u64 ((v:Int)+1))).cell? ⟨zb,0,none⟩=some (.int .i64 (n:Int)):=(aU.out.far1 sc bR.out).cell 0;clear sc;clear Y I HN)
   |(refine C3 (t:=62) (C:=ic (upI X)) rfl _ rfl J bG.out rfl Tryz.underlying62 rfl B7 (C2 _) ?_)
   |(go_at_call 104;refine(bF.out _ bD.out).mono ?_;rintro r cD ⟨rfl,Y,I⟩;have aP:=C3t (And.intro Y (aZ.out.trans I));clear Y I)
   |fail)
  exact bodyPost_end (results_none rfl _ _ _) rfl ⟨rfl,aP.out.1,aP.out.2⟩
end
end
section
open Go.RowKit
section
variable {w w':World} {E:Ev} {c m:Nat} {s:CS}
end
end
section
open Go.RowKit
section
variable {w w':World} {E:Ev} {c m:Nat} {s:CS}
end
end
end Go.Proofs.YtbefmjiclpobjaaGreat
