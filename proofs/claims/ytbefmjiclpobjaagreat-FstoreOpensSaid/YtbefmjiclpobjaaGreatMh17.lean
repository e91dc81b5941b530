import Derived.Test.YtbefmjiclpobjaaGreatMh16
import Derived.Test.YtbefmjiclpobjaaGreatMh09
namespace Go.Proofs.YtbefmjiclpobjaaGreat
set_option maxHeartbeats 6400000
set_option maxRecDepth 3000
section
open Go.RowKit
def EsR(w:World)(l:List En)(I:Int)(e:Ending)(w':World):Prop:=∃A c,e= .returned (.tuple #[.slice A l.length c,.int .i64 I])/\EnO w l (.slice A l.length c) w'/\A8 B0 w B0 w'
def EsQ(W:World)(H:Nat->List Nat)(P:List Int)(t8 t25:Value)(wr:World):Prop:=∃k:Nat,t25= .int .i64 (k:Int)/\k<=P.length/\BsL W ((P.take k).map (λa=>H a.toNat)) t8 wr
theorem B1p:(Tryz.prog.info? 54).map (λi=>(i.zero,i.size,i.bytes))=some (some (.slice none 0 0),1,24):=by kernel_rfl
section
variable {p M:Nat} {H:Nat->List Nat} {w:World}
theorem A6W(h:Rdv w p M H)(hs:Sd H M)(i g:Int):Calls Tryz.prog 74 #[.pointer (some ⟨p,0,none⟩),.agg #[.int .i64 i,.int .i64 g]] w (EsR w (T4 H i g) (R6 H i g)):=by
 have HF:=C3t (λV (a:A8 B0 w B0 V)=>A5D (h.step a) hs i g 1)
 have HV:=C3t h
 have HS:=C3t hs
 clear h hs
 by_cases X:U2 H i g 1=0
 ·obtain⟨x,hx⟩:∃x,x=fileX H i g:=⟨_,rfl⟩
  obtain⟨h1,h2,h3⟩:=A4G X
  rw[X,h3,<-hx]at HF
  have aM:=C3t (show∀a∈nzI x 8,42<=a/\a<M by rw[hx];exact HS.out.places h1)
  have Z:T4 H i g=A4z (A5E H x):=by unfold T4;rw[if_pos X,hx]
  have hE:R6 H i g=A9w (A5E H x):=by unfold R6;rw[if_pos X,hx]
  rw[Z,hE]
  clear Z
  have aL:=C3t (B0T x)
  obtain⟨P,hP⟩:∃P,P=nzI x 8:=⟨_,rfl⟩
  obtain⟨N,hN⟩:∃N,N=P.length:=⟨_,rfl⟩
  have bX:(N:Int)<=8:=by have:=B0Q x 8;rw[hN,hP];omega
  have aZ:A5E H x=P.map (λa=>H a.toNat):=by rw[hP];rfl
  rw[<-hP]at aM aL
  rw[<-hN]at aL
  rw[aZ]
  have HN:=C3t hN
  have H8:=C3t (show B6p (P.map (λa=>H a.toNat))fromλr hr=>by
   obtain⟨a,I,rfl⟩:=List.mem_map.1 hr
   have:=aM.out a I
   exact(HS.out.row a.toNat (by omega)).2)
  have aK:=C3t (λv V (h:RwD V v (P.map (λa=>H a.toNat)))=>A7Y v _ V h H8.out)
  obtain⟨L,Z⟩:∃L,L=A4z (P.map (λa=>H a.toNat)):=⟨_,rfl⟩
  obtain⟨er,bD⟩:∃er,er=A9w (P.map (λa=>H a.toNat)):=⟨_,rfl⟩
  unfold A7X at aK
  rw[<-Z,<-bD]at aK⊢
  clear Z bD
  have bP:=C3t (λV (b:A8 B0 w B0 V) (k:Nat) (hk:k<P.length)=>show Calls Tryz.prog 94 #[.pointer (some ⟨p,0,none⟩),.int .i64 P[k]] V (RdR V (H (P[k]).toNat))by
   have h2:=aM.out _ (List.getElem_mem hk)
   have:=HV.out.home _ V b (P[k]).toNat (by omega)
   rwa[Int.toNat_of_nonneg (by omega)]at this)
  obtain⟨i0,hi,bU,aF,aG⟩:=info_parts B1p
  clear X h1 h2 h3 hx hE hP hN aZ
  go_enter Tryz.func74,Tryz.ntmps74
  go_wp2_with (first
   |(refine C4 rfl _ rfl rfl ?_;intro z0 w0 Y J I;have aI:=C3t J;have aA:=C3t I;clear Y J I)
   |(refine C3 rfl _ rfl z0 aI.out rfl Tryz.underlying35 rfl B1 rfl ?_)
   |(go_at_call 86;refine(HF.out _ aA.out).mono ?_;rintro e w2 ⟨rfl,I⟩;have aB:=C3t (aA.out.trans I);clear I)
   |(refine B6 rfl rfl C6 ?_;intro z5 w5 Y J I;have aJ:=C3t J;have aH:=C3t (aB.out.trans I);have aO:=C3t (Nat.le_trans aB.out.size Y);clear Y J I)
   |(refine B5 rfl _ _ rfl z5 aJ.out rfl rfl B7 (C2 _) (C2 _) (D7 _) ?_;intro w6 J I;have aY:=C3t J;have aD:=C3t (aH.out.fresh aO.out I);clear J I)
   |(refine C3 rfl _ rfl z5 aY.out rfl Tryz.underlying62 rfl B7 (C2 _) ?_)
   |(go_at_call 26;refine(aL.out w6).mono ?_;rintro e w7 ⟨v7,F7,rfl,s7,a7⟩;obtain⟨A7,c7,rfl,aQ,aR⟩:=s7.form0;have aX:=C3t s7;have aS:=C3t (aD.out.trans a7.nul);clear s7 a7 aQ aR)
   |fail)
  go_loopw [8,25] (EsQ w7 H P) (λ_ t _=>N-(intOf t).toNat)
  case atStart=>exact⟨0,rfl,Nat.zero_le _,BsL.nil _⟩
  case round=>
   obtain⟨k,rfl,hk,U⟩:=hrel
   rw[<-HN.out]at hk
   by_cases aP:k<N
   ·have aC:k<P.length:=by rw[<-HN.out];exact aP
    have bG:((P.take k).map (λa=>H a.toNat)).length=k:=by simp;omega
    have aN:=C3t (show(P.take (k+1)).map (λa=>H a.toNat)=(P.take k).map (λa=>H a.toNat)++[H (P[k]).toNat]by
     rw[List.take_succ_eq_append_getElem aC,List.map_append];rfl)
    obtain⟨g7,bV,bT,aQ,aR⟩:=aX.out.form (by omega)
    injection bT with e1 e2 e3
    subst e1 e3
    clear aQ aR e2
    have bC:=(aX.out.far U.adv (λ_ h _=>h)).own.cellAt k (by simp;omega)
    have bR:wr.cell? ⟨g7,k,none⟩=some (.int .i64 P[k]):=by
     rw[bC];simp[List.getElem?_eq_getElem aC]
    have aV:=C3t (bP.out wr (aS.out.trans U.adv) k aC)
    obtain⟨A4,c4,rfl⟩:=U.form
    have aE:=C3t (λ(V:World) (a:A8 B0 wr B0 V) (z:Nat) h1 h2 h3 h4=>BsL.more (r:=H (P[k]'aC).toNat) (z:=z) U a h1 h2 h3 h4)
    obtain⟨a,I⟩:∃a,a=P[k]:=⟨_,rfl⟩
    rw[<-I]at bR aV aE aN
    rw[bG]at aE⊢
    obtain⟨bO,bM⟩:∃bO,bO=(P.take k).map (λa=>H a.toNat):=⟨_,rfl⟩
    rw[<-bM]at aE aN
    have aW:=C3t aP
    have bZ:(k:Int)<(N:Int):=by omega
    have bY:(k:Int)<=7:=by omega
    clear U bC bG aC I bM hk
    go_wp2_with (first
     |(go_at_call 94;refine aV.out.mono ?_;rintro e w8 ⟨z,rfl,aF,aG,hr,hl,bA⟩;obtain⟨cs,bJ,bI⟩:=aE.out w8 bA z aF aG hr hl;have bQ:=C3t bI;clear aF aG hr hl bI bA)
     |(at_builtin;refine wpList_append_own_at _ rfl (.tmp 38) (.tmp 40) 214 rfl 0 54 i0 (.slice none 0 0) 1 24 Tryz.underlying214 hi bU aF aG rfl (by decide) (.slice A4 k c4) k _ rfl (bJ.alloc _) ⟨w8.heap.size,0,none⟩ 1 1 [.slice (some ⟨z,0,none⟩) 128 128] rfl rfl (cell_one_new _ _ _) ?c2 ?c3 ?c4 (Nat.zero_le _) ?c5)
     |fail)
    case c2=>intro u hu;simp at hu;subst hu;rfl
    case c3=>unfold maxLen;omega
    case c4=>omega
    case c5=>
     intro v' w9 bK bF _ bB
     have h9:=bQ.out _ v' w9 bK bF (by simpa using bB)
     rw[<-aN.out]at h9
     have H9:=C3t h9
     obtain⟨A9,c9,rfl⟩:=h9.form
     clear h9 bK bF bB bJ
     go_wp2_with fail
     exact⟨⟨k+1,by simp,by rw[<-HN.out];exact aW.out,H9.out⟩,by have:=aW.out;simp[intOf]<;>omega⟩
   ·obtain rfl:k=N:=by omega
    rw[show P.take k=P by rw[HN.out];exact List.take_length]at U
    have aU:=C3t (aK.out _ wr U.rd)
    obtain⟨A4,c4,rfl⟩:=U.form
    have aT:=C3t (aS.out.trans U.adv)
    have bH:(P.map (λa=>H a.toNat)).length=k:=by rw[List.length_map];exact HN.out.symm
    rw[bH]at aU⊢
    clear U aP hk bH
    go_wp2_with (first
     |(go_at_call 136;refine aU.out.mono ?_;rintro e w9 ⟨A9,c9,rfl,h9,a9⟩;have H9:=C3t (And.intro h9 a9);clear h9 a9)
     |fail)
    go_ret2
    exact⟨A9,c9,rfl,H9.out.1.since aT.out,aT.out.trans H9.out.2⟩
 ·have bS:=X
  rcases A5C H i g 1 with e|e|e
  ·exact absurd e X
  all_goals
   have Z:T4 H i g=[]:=by unfold T4;rw[if_neg X]
   have hE:R6 H i g=U2 H i g 1:=by unfold R6;rw[if_neg X]
   rw[Z,hE]
   rw[e]at HF⊢
   clear e X bS Z hE
   go_enter Tryz.func74,Tryz.ntmps74
   go_wp2_with (first
    |(refine C4 rfl _ rfl rfl ?_;intro z0 w0 Y J I;have aI:=C3t J;have aA:=C3t I;clear Y J I)
    |(refine C3 rfl _ rfl z0 aI.out rfl Tryz.underlying35 rfl B1 rfl ?_)
    |(go_at_call 86;refine(HF.out _ aA.out).mono ?_;rintro e w2 ⟨rfl,I⟩;have aB:=C3t (aA.out.trans I);clear I)
    |(refine B6 rfl rfl C6 ?_;intro z5 w5 Y J I;have aJ:=C3t J;have aH:=C3t (aB.out.trans I);have aO:=C3t (Nat.le_trans aB.out.size Y);clear Y J I)
    |(refine B5 rfl _ _ rfl z5 aJ.out rfl rfl B7 (C2 _) (C2 _) (D7 _) ?_;intro w6 J I;have aY:=C3t J;have aD:=C3t (aH.out.fresh aO.out I);clear J I)
    |fail)
   go_ret2
   exact⟨none,0,rfl,(EnO.nil w).step aD.out,aD.out⟩
end
end
section
open Go.RowKit
theorem B90{l:List En}(h:R0 l):Ris l:=by
 have aA:∀n i:Nat,∀x y:En,l[i]? =some x->l[i+1+n]? =some y->ltS x.s y.s:=by
  intro n
  induction n with
  |zero=>
   intro i x y J I
   have:=(h (i+1) y I).2 x (by omega) (by simpa using J)
   exact this
  |succ n ih=>
   intro i x y J I
   have Z:i+1+n<l.length:=by have:=(List.getElem?_eq_some_iff.1 I).1;omega
   have U:l[i+1+n]? =some l[i+1+n]:=List.getElem?_eq_getElem Z
   have V:=ih i x _ J U
   have X:=(h (i+1+(n+1)) y I).2 l[i+1+n] (by omega) (by rw[show i+1+(n+1)-1=i+1+n by omega];exact U)
   exact A08 V X
 unfold Ris
 rw[List.pairwise_iff_getElem]
 intro i j hi Y aB
 obtain⟨n,rfl⟩:∃n,j=i+1+n:=⟨j-(i+1),by omega⟩
 exact aA n i _ _ (List.getElem?_eq_getElem hi) (List.getElem?_eq_getElem Y)
theorem B6z(r:List (List Nat)):Ris (A4z r)/\(A4z r).length<=24:=by
 by_cases h:okP r
 ·obtain⟨e,_⟩:=A7U h
  obtain⟨I,J⟩:=B6f h.2.2.1
  rw[e]
  exact⟨B90 I,J⟩
 ·rw[(B6j h).1]
  exact⟨List.Pairwise.nil,by simp⟩
theorem A6X(H:Nat->List Nat)(i g:Int):Ris (T4 H i g)/\(T4 H i g).length<=24:=by
 unfold T4
 split
 ·exact B6z _
 ·exact⟨List.Pairwise.nil,by simp⟩
def A2j:En:=⟨⟨#[]⟩,0,0,0⟩
def fnd(l:List En)(s:ByteArray):Option En:=l.find? (λx=>decide (x.s=s))
theorem A0l.fnd_yes{l:List En}{s:ByteArray}{p:Nat}(h:A0l l s p true)(U:Ris l):∃x,l[p]? =some x/\fnd l s=some x:=by
 obtain⟨x,J,V⟩:=h.at_.1 rfl
 refine⟨x,J,?_⟩
 unfold fnd
 cases hf:l.find? (λx=>decide (x.s=s))with
 |none=>
  have:=List.find?_eq_none.1 hf x (List.mem_of_getElem? J)
  simp[V]at this
 |some y=>
  have X:=List.find?_some hf
  obtain⟨k,I⟩:=List.mem_iff_getElem?.1 (List.mem_of_find?_eq_some hf)
  have:=h.eq_at U I
  rw[X,Bool.and_true]at this
  obtain rfl:k=p:=by simpa using this.symm
  rw[J]at I
  exact I.symm
theorem A0l.fnd_no{l:List En}{s:ByteArray}{p:Nat}(h:A0l l s p false)(J:Ris l):fnd l s=none:=by
 unfold fnd
 rw[List.find?_eq_none]
 intro x U
 obtain⟨k,I⟩:=List.mem_iff_getElem?.1 U
 have:=h.eq_at J I
 rw[Bool.and_false]at this
 simpa using this
noncomputable def A0m(H:Nat->List Nat)(i g:Int)(s:ByteArray):Int:=if R6 H i g=0 then(if(fnd (T4 H i g) s).isSome=true then 0 else 11)else R6 H i g
noncomputable def A9A(H:Nat->List Nat)(i g:Int)(s:ByteArray):En:=if R6 H i g=0 then(fnd (T4 H i g) s).getD A2j else A2j
theorem A4l:Tryz.prog.built 74 []=some (ea A2j):=by kernel_rfl
theorem S7{ops:Array Oper}{rest:List Oper}{o:Oper}{a:Act}{w:World}{Q:Exit->Act->World->Prop}(I:o.guard=none)(J:o.op= .build 74 #[])
 (h:wpList Tryz.prog ops Q rest (a.put o.dst (.agg (ea A2j))) w):wpList Tryz.prog ops Q (o::rest) a w:=by
 refine wpList_build I 74 #[] J (by simp[A4l]) ?_
 simpa[A4l]using h
theorem G9(e:En):(ea e).size=4:=rfl
theorem L5:(Tryz.prog.info? 74).map (λi=>(i.zero,i.size,i.bytes))=some (some (.agg (ea A2j)),4,40):=by kernel_rfl
theorem M8.range{w:World}{A:Option Addr}{n c k:Nat}{l:List En}{x:En}(h:M8 w (.slice A n c) l)(hn:n=l.length)(Y:l[k]? =some x):k<n/\∃b o,A=some ⟨b,o,none⟩/\w.rangeAt b (o+k * 4) (ec x):=by
 obtain⟨Z,rfl⟩:=List.getElem?_eq_some_iff.1 Y
 obtain⟨b,o,e,_,J,U,V,h3⟩:=h.at_ hn Z
 refine⟨by omega,b,o,e,λj u I=>?_⟩
 have X:j<4:=(List.getElem?_eq_some_iff.1 I).1
 match j,X with
 |0,_=>simp[ec]at I;subst I;exact J
 |1,_=>simp[ec]at I;subst I;exact U
 |2,_=>simp[ec]at I;subst I;exact V
 |3,_=>simp[ec]at I;subst I;exact h3
def EnX(w:World)(x:En)(I:Int)(e:Ending)(w':World):Prop:=e= .returned (.tuple #[.agg (ea x),.int .i64 I])/\A8 B0 w B0 w'
section
variable {p M:Nat} {H:Nat->List Nat} {w:World}
theorem C0o(h:Rdv w p M H)(hs:Sd H M)(i g:Int)(s:ByteArray):Calls Tryz.prog 80 #[.pointer (some ⟨p,0,none⟩),.agg #[.int .i64 i,.int .i64 g],.string s] w (EnX w (A9A H i g s) (A0m H i g s)):=by
 have HF:=C3t (λV (a:A8 B0 w B0 V)=>A6W (h.step a) hs i g)
 obtain⟨hr,hl⟩:=A6X H i g
 have hX:A9A H i g s=if R6 H i g=0 then(fnd (T4 H i g) s).getD A2j else A2j:=rfl
 have hE:A0m H i g s=if R6 H i g=0 then(if(fnd (T4 H i g) s).isSome=true then 0 else 11)else R6 H i g:=rfl
 rw[hX,hE]
 obtain⟨L,hL⟩:∃L,L=T4 H i g:=⟨_,rfl⟩
 obtain⟨er,aL⟩:∃er,er=R6 H i g:=⟨_,rfl⟩
 rw[<-hL,<-aL]at HF⊢
 rw[<-hL]at hr hl
 unfold EsR at HF
 obtain⟨n,hn⟩:∃n,n=L.length:=⟨_,rfl⟩
 rw[<-hn]at HF hl
 have HR:=C3t hr
 have HN:=C3t hn
 have HL:=C3t (show L.length<=1000 by omega)
 have aR:(n:Int)<=24:=by omega
 clear hX hE hL aL h hs hr hl hn
 by_cases he:er=0
 ·subst he
  rw[if_pos rfl,if_pos rfl]
  obtain⟨fo,aH⟩:∃fo,fo=fnd L s:=⟨_,rfl⟩
  rw[<-aH]
  have aK:=C3t (λV (v:Value) (a:M8 V v L)=>(A98 v L s V a HR.out HL.out).mono (R':=λx w'=>A8 B0 V B0 w'/\((∃e k,fo=some e/\L[k]? =some e/\x= .returned (.tuple #[.int .i64 ((k:Nat):Int),.bool true]))\/(fo=none/\∃k:Nat,x= .returned (.tuple #[.int .i64 (k:Int),.bool false])))) λx w' hx=>by
   obtain⟨k,b,hp,rfl,I⟩:=hx
   refine⟨I,?_⟩
   cases b with
   |true=>obtain⟨e,h1,X⟩:=hp.fnd_yes HR.out;exact .inl ⟨e,k,by rw[aH];exact X,h1,rfl⟩
   |false=>exact .inr ⟨by rw[aH];exact hp.fnd_no HR.out,k,rfl⟩)
  clear aH
  cases fo with
  |none=>
   go_enter Tryz.func80,Tryz.ntmps80
   go_wp2_with (first
    |(refine C4 rfl _ rfl rfl ?_;intro z0 w0 U J I;have aC:=C3t J;have Y:=C3t I;clear U J I)
    |(refine B6 rfl rfl L5 ?_;intro z w1 U J I;have HZ:=C3t (Nat.le_trans Y.out.size U);have aG:=C3t J;have Z:=C3t (Y.out.trans I);have aD:=C3t (aC.out.over I);clear U J I)
    |(refine C3 rfl _ rfl z0 aD.out rfl Tryz.underlying35 rfl B1 rfl ?_)
    |(go_at_call 74;refine(HF.out _ Z.out).mono ?_;rintro e w2 ⟨A2,c2,rfl,X,I⟩;have HO:=C3t X;have aA:=C3t (Z.out.trans I);have aE:=C3t (aG.out.over I);clear X I)
    |(go_at_call 140;refine(aK.out w2 _ (by rw[HN.out];exact(by have:=HO.out.rd;rwa[HN.out]at this))).mono ?_;rintro e w3 ⟨I,⟨e',k,hf,_⟩|⟨_,k,rfl⟩⟩;exact absurd hf (by simp);have aI:=C3t (aA.out.trans I);have aJ:=C3t (aE.out.over I);clear I)
    |(refine S7 rfl rfl ?_)
    |(refine B5 rfl _ _ rfl z aJ.out rfl rfl D9 (G9 _) (G9 _) (U0 _) ?_;intro w4 J I;have aF:=C3t J;have aB:=C3t (aI.out.fresh HZ.out I);clear J I)
    |fail)
   exact bodyPost_ret (Q2 rfl _ _ rfl rfl aF.out Tryz.underlying74 rfl (by rw[D9];rfl)) rfl ⟨rfl,aB.out⟩
  |some x=>
   have aN:=C3t (λV (v:Value) (a:M8 V v L)=>(aK.out V v a).mono (R':=λr w'=>A8 B0 V B0 w'/\∃k:Nat,L[k]? =some x/\r= .returned (.tuple #[.int .i64 (k:Int),.bool true])) λr w' hx=>by
    obtain⟨I,⟨e',k,h1,X,h3⟩|⟨h1,_⟩⟩:=hx
    ·cases h1;exact⟨I,k,X,h3⟩
    ·cases h1)
   clear aK
   go_enter Tryz.func80,Tryz.ntmps80
   go_wp2_with (first
    |(refine C4 rfl _ rfl rfl ?_;intro z0 w0 U J I;have aC:=C3t J;have Y:=C3t I;clear U J I)
    |(refine B6 rfl rfl L5 ?_;intro z w1 U J I;have HZ:=C3t (Nat.le_trans Y.out.size U);have aG:=C3t J;have Z:=C3t (Y.out.trans I);have aD:=C3t (aC.out.over I);clear U J I)
    |(refine C3 rfl _ rfl z0 aD.out rfl Tryz.underlying35 rfl B1 rfl ?_)
    |(go_at_call 74;refine(HF.out _ Z.out).mono ?_;rintro e w2 ⟨A2,c2,rfl,X,I⟩;have HO:=C3t X;have aA:=C3t (Z.out.trans I);have aE:=C3t (aG.out.over I);clear X I)
    |(go_at_call 140;refine(aN.out w2 _ (by rw[HN.out];exact(by have:=HO.out.rd;rwa[HN.out]at this))).mono ?_;rintro e w3 ⟨I,k,hk,rfl⟩;have aI:=C3t (aA.out.trans I);have aJ:=C3t (aE.out.over I);obtain⟨aP,b,o,rfl,aM⟩:=(HO.out.step I).rd.range HN.out hk;have aO:=C3t aM;have aQ:(k:Int)<(n:Int):=(by omega);clear I aM hk)
    |(refine wpList_load_mid rfl 74 (.tmp 33) rfl b _ rfl (ec x) _ aO.out Tryz.underlying74 rfl (by rw[D9];rfl) ?_)
    |(refine B5 rfl _ _ rfl z aJ.out rfl (show _=Value.agg (ea x)from rfl) D9 (G9 _) (G9 _) (U0 _) ?_;intro w4 J I;have aF:=C3t J;have aB:=C3t (aI.out.fresh HZ.out I);clear J I)
    |fail)
   exact bodyPost_ret (Q2 rfl _ _ rfl rfl aF.out Tryz.underlying74 rfl (by rw[D9];rfl)) rfl ⟨rfl,aB.out⟩
 ·rw[if_neg he,if_neg he]
  have J:(er !=0)=true:=by rw[bne_iff_ne];exact he
  clear he
  go_enter Tryz.func80,Tryz.ntmps80
  go_wp2_with (first
   |(refine C4 rfl _ rfl rfl ?_;intro z0 w0 U J I;have aC:=C3t J;have Y:=C3t I;clear U J I)
   |(refine B6 rfl rfl L5 ?_;intro z w1 U J I;have HZ:=C3t (Nat.le_trans Y.out.size U);have aG:=C3t J;have Z:=C3t (Y.out.trans I);have aD:=C3t (aC.out.over I);clear U J I)
   |(refine C3 rfl _ rfl z0 aD.out rfl Tryz.underlying35 rfl B1 rfl ?_)
   |(go_at_call 74;refine(HF.out _ Z.out).mono ?_;rintro e w2 ⟨A2,c2,rfl,X,I⟩;have HO:=C3t X;have aA:=C3t (Z.out.trans I);have aE:=C3t (aG.out.over I);clear X I)
   |(refine S7 rfl rfl ?_)
   |(refine B5 rfl _ _ rfl z aE.out rfl rfl D9 (G9 _) (G9 _) (U0 _) ?_;intro w4 J I;have aF:=C3t J;have aB:=C3t (aA.out.fresh HZ.out I);clear J I)
   |fail)
  exact bodyPost_ret (Q2 rfl _ _ rfl rfl aF.out Tryz.underlying74 rfl (by rw[D9];rfl)) rfl ⟨rfl,aB.out⟩
end
end
section
open Go.RowKit
theorem P4(i g:Int):(#[Value.int .i64 i,.int .i64 g]).all (·.oneCell')=true:=by
 rw[Array.all_eq_true_iff_forall_mem]
 intro v hv
 simp at hv
 rcases hv with rfl|rfl<;>rfl
open Classical in
noncomputable def A41(I:List ByteArray):Int:=if∀s∈I,Nam s then 0 else 9
def C2x(w:World)(I:List ByteArray)(t8:Value)(wr:World):Prop:=∃k:Nat,t8= .int .i64 (k:Int)/\k<=I.length/\(∀i (h:i<I.length),i<k->Nam I[i])/\A8 B0 w B0 wr
theorem B8z(v:Value)(I:List ByteArray)(w:World)(h:Rd w 1 v I.length (I.map Value.string))(hs:∀s∈I,s.size<=maxLen)(hl:I.length<=100):Calls Tryz.prog 79 #[v] w λe w'=>e= .returned (.int .i64 (A41 I))/\A8 B0 w B0 w':=by
 obtain⟨A,c,rfl,aJ,aK⟩:=h.form
 obtain⟨n,hn⟩:∃n,n=I.length:=⟨_,rfl⟩
 rw[<-hn]at h hl⊢
 have HR:=C3t h
 have Z:=C3t hn
 have HS:=C3t hs
 have aP:(n:Int)<=100:=by omega
 clear h hn hs hl aJ aK
 go_enter Tryz.func79,Tryz.ntmps79
 go_wp2_with fail
 go_loopw [8] (C2x w I) (λt _=>n-(intOf t).toNat)
 case atStart=>exact⟨0,rfl,Nat.zero_le _,λi _ hi=>absurd hi (by omega),A8.refl _ _⟩
 case round=>
  obtain⟨k,rfl,hk,aA,J⟩:=hrel
  rw[<-Z.out]at hk
  by_cases aF:k<n
  ·have aI:k<I.length:=by rw[<-Z.out];exact aF
   obtain⟨b,o,e1,hb,hc⟩:=(HR.out.far (λ_ _ _ hl=>J.block _ hl (λx=>x)) J.size).cells (by omega) (by decide)
   obtain⟨s,aB⟩:∃s,I[k]? =some s:=⟨_,List.getElem?_eq_getElem aI⟩
   have aL:=hc k (.string s) (by simp[aB])
   have Y:=C3t (A6U s wr (HS.out _ (List.mem_of_getElem? aB)))
   subst e1
   have aD:=C3t aA
   have X:=C3t J
   have aH:=C3t aB
   have aG:=C3t aF
   have aO:(k:Int)<(n:Int):=by omega
   have aN:(k:Int)<=99:=by omega
   clear aA J aB hc hb hk aI
   by_cases U:Nam s
   ·have hv:A9z s=0:=by unfold A9z;rw[if_pos U]
    rw[hv]at Y
    have aE:=C3t U
    clear hv U
    go_wp2_with (first
     |(go_at_call 139;refine Y.out.mono ?_;rintro e w1 ⟨rfl,V⟩;have aC:=C3t (X.out.trans (A8.new_ (F':=B0) V (λ_ x=>x.elim)));clear V)
     |fail)
    refine⟨⟨k+1,by simp,by rw[<-Z.out];exact aG.out,λi hi aM=>?_,aC.out⟩,by have:=aG.out;simp[intOf]<;>omega⟩
    rcases Nat.lt_or_ge i k with h1|h1
    ·exact aD.out i hi h1
    ·obtain rfl:i=k:=by omega
     rw[(List.getElem?_eq_some_iff.1 aH.out).2];exact aE.out
   ·have hv:A9z s=9:=by unfold A9z;rw[if_neg U]
    rw[hv]at Y
    have aE:=C3t (show A41 I=9 by unfold A41;rw[if_neg (λx=>U (x _ (List.mem_of_getElem? aH.out)))])
    clear hv U
    go_wp2_with (first
     |(go_at_call 139;refine Y.out.mono ?_;rintro e w1 ⟨rfl,V⟩;have aC:=C3t (X.out.trans (A8.new_ (F':=B0) V (λ_ x=>x.elim)));clear V)
     |fail)
    go_ret
    refine⟨?_,aC.out⟩
    rw[aE.out];rfl
  ·obtain rfl:k=n:=by omega
   have aD:=C3t (show A41 I=0 by
    unfold A41
    rw[if_pos]
    intro s hs
    obtain⟨i,hi,rfl⟩:=List.getElem_of_mem hs
    exact aA i hi (by rw[Z.out];exact hi))
   have X:=C3t J
   clear aA J aF hk
   go_wp2_with fail
   go_ret
   refine⟨?_,X.out⟩
   rw[aD.out];rfl
section
variable {p M:Nat} {H:Nat->List Nat} {w:World}
end
end
section
open Go.RowKit Go.Maps
def A26(l:List Nat):Nat:=P7 (l.take 3)
def A27(l:List Nat):Nat:=P7 ((l.drop 120).take 3)
theorem B80(v:Value)(l:List Nat)(w:World)(h:Rd w 1 v 128 (l.map u8))(I:∀x∈l,x<256):
 Calls Tryz.prog 120 #[v] w λx w'=>x= .returned (.tuple #[.int .u64 (A26 l:Int),.int .u64 (A27 l:Int)])/\∃k,w'=w.drewN k:=by
 have Y:=h.len8
 have V:P7 (l.take 8)/1099511627776=A26 l:=by
  rw[A26,B9F (by rw[List.length_take];omega) (λx J=>I x (List.mem_of_mem_take J)),List.take_take];rfl
 have X:P7 (l.drop 120)/1099511627776=A27 l:=by
  rw[A27,B9F (by rw[List.length_drop];omega) (λx J=>I x (List.mem_of_mem_drop J))]
 have U:=B5c v l w h I
 rw[V,X]at U
 exact U
def A0A(s:DS):Nat->Nat
 |0=>0
 |k+1=>max (max (A0A s k) (A26 (isS s k))) (A27 (isS s k))
theorem C0p{l:List Nat}(h:∀x∈l,x<256):A26 l<16777216/\A27 l<16777216:=by
 have hv:∀m:List Nat,(∀x∈m,x<256)->m.length<=3->P7 m<16777216:=λm U J=>by
  have V:=A2r _ m rfl U
  have X:(256:Nat)^m.length<=256^3:=Nat.pow_le_pow_right (by decide) J
  have h3:(256:Nat)^3=16777216:=rfl
  omega
 unfold A26 A27
 exact⟨hv _ (λx I=>h x (List.mem_of_mem_take I)) (by rw[List.length_take];omega),hv _ (λx I=>h x (List.mem_of_mem_drop (List.mem_of_mem_take I))) (by rw[List.length_take];omega)⟩
theorem B2B{s:DS}{N:Nat}(h:SB s N):∀k,k<=N->A0A s k<16777216
 |0,_=>by unfold A0A;decide
 |k+1,hk=>by
  have I:=B2B h k (by omega)
  have J:=C0p (h k (by omega))
  unfold A0A
  omega
def TpL(w:World)(s:DS)(m:Nat)(t12 t5:Value)(wr:World):Prop:=∃k:Nat,k<=m/\t12= .int .i64 (k:Int)/\t5= .int .u64 (A0A s k:Int)/\A8 B0 w B0 wr
theorem B81(d N m:Nat)(F:Nat->Prop)(s:DS)(w:World)(h:Dk w F d N s)(aC:SB s N)(hm:m<=N)(hN:N<=4096):
 Calls Tryz.prog 61 #[.pointer (some ⟨d,0,none⟩),.int .i64 (m:Int)] w λe w'=>e= .returned (.int .u64 (A0A s m:Int))/\A8 B0 w B0 w':=by
 have HD:=C3t h
 have aG:=C3t aC
 have aI:(m:Int)<=4096:=by omega
 have HM:=C3t hm
 clear h aC hm hN
 go_enter Tryz.func61,Tryz.ntmps61
 go_wp2_with fail
 go_loopw [12,5] (TpL w s m) (λt _ _=>m-(intOf t).toNat)
 case atStart=>exact⟨0,Nat.zero_le _,rfl,rfl,A8.refl _ _⟩
 case round=>
  obtain⟨k,hk,rfl,rfl,J⟩:=hrel
  have V:=C3t J
  by_cases U:k<m
  ·have aH:(k:Int)<(m:Int):=by omega
   have aB:=C3t (A4A d N F s k wr (HD.out.far J (λ_ x _=>x)) (by have:=HM.out;omega))
   have aA:=C3t (aG.out k (by have:=HM.out;omega))
   have aF:=C3t U
   have I:=C3t (show A0A s (k+1)=max (max (A0A s k) (A26 (isS s k))) (A27 (isS s k))from rfl)
   obtain⟨l,hl⟩:∃l,l=isS s k:=⟨_,rfl⟩
   rw[<-hl]at aB aA I
   obtain⟨T,hT⟩:∃T,T=A0A s k:=⟨_,rfl⟩
   rw[<-hT]at I⊢
   clear J U hk hl hT
   go_wp2_with fail
   refine aB.out.mono ?_
   rintro x w1 ⟨z,rfl,b1,l1,a1⟩
   have Z:=C3t (B80 (.slice (some ⟨z,0,none⟩) 128 128) l w1 (b1.rdS8 l1) aA.out)
   have aD:=C3t (V.out.trans (a1.sub (G:=B0) (λ_ x=>x.elim)))
   obtain⟨X,hX⟩:∃X,X=A26 l:=⟨_,rfl⟩
   obtain⟨Y,hY⟩:∃Y,Y=A27 l:=⟨_,rfl⟩
   rw[<-hX,<-hY]at Z I
   clear b1 l1 a1 hX hY
   go_wp2_with fail
   refine Z.out.mono ?_
   rintro x w2 ⟨rfl,k2,rfl⟩
   have aE:=C3t (aD.out.drewN k2)
   go_wp2_with fail
   have U:=aF.out
   refine⟨⟨k+1,by omega,by go_num,?_,aE.out⟩,by simp[intOf]<;>omega⟩
   rw[I.out]
   congr 1
   by_cases h1:T<X
   ·rw[if_pos h1]
    split<;>omega
   ·rw[if_neg h1]
    split<;>omega
  ·obtain rfl:k=m:=by omega
   clear J U hk
   go_wp2_with fail
   go_ret
   exact⟨rfl,V.out⟩
structure PW (T:TypeId) (W:World) (P:Nat->Pc) (k:Nat) (vo:Value) (F:Nat->Prop) (qs:List (Pc×Value)) (w:World):Prop where
 len:qs.length=k
 sl:Sl w F T 5 vo k (qs.flatMap A2x)
 at_:∀i (h:i<qs.length),qs[i].1=P i/\∃a q,qs[i].2= .slice a (P i).d.length q/\Rd w 1 (.slice a (P i).d.length q) (P i).d.length ((P i).d.map u8)/\∀g,(Value.slice a (P i).d.length q).ownBlock=some g->0<(P i).d.length->¬F g
 adv:A8 B0 W F w
section
variable {T:TypeId} {W w w':World} {P:Nat->Pc} {k:Nat} {vo:Value}
theorem PW.nil(T:TypeId)(W:World)(P:Nat->Pc):PW T W P 0 (.slice none 0 0) B0 [] W:=⟨rfl,Sl.nil _ _ _,λi h=>absurd h (by simp),A8.refl _ _⟩
theorem PW.step{F F':Nat->Prop}{qs:List (Pc×Value)}(h:PW T W P k vo F qs w)(I:A8 B0 w F' w'):PW T W P k vo F qs w':=
 ⟨h.len,h.sl.far I (λ_ h _=>h),λi hi=>by
  obtain⟨e,a,q,J,X,V⟩:=h.at_ i hi
  exact⟨e,a,q,J,X.far (λ_ _ _ U=>I.block _ U (λx=>x)) I.size,V⟩,h.adv.over I⟩
theorem PW.push{F:Nat->Prop}{qs:List (Pc×Value)}{X:Value}{a:Option Addr}{q:Nat}(h:PW T W P k vo F qs w)(V:Rd w 1 (.slice a (P k).d.length q) (P k).d.length ((P k).d.map u8))(aG:∀g,(Value.slice a (P k).d.length q).ownBlock=some g->0<(P k).d.length->¬F g)
 (aI:w'.ownsRow 0 T 5 X (k+1) (qs.flatMap A2x++A2x (P k,.slice a (P k).d.length q))) (I:w.grownBy w' vo.ownBlock) (aA:X.ownBlock=vo.ownBlock\/X.ownBlock=some w.heap.size):∃F' aK,PW T W P (k+1) X F' aK w':=by
 obtain⟨g1,g2⟩:=A31 h.sl aI I aA (Nat.le_refl _)
 have aD:∀g,g<w.heap.size->¬F g->¬(F g\/X.ownBlock=some g):=λg aL Y aH=>by
  rcases aH with J|J
  ·exact Y J
  ·rcases aA with e|e
   ·exact Y (h.sl.inF g (by rw[<-e];exact J))
   ·rw[e]at J;injection J with J;omega
 have aE:∀{a:Option Addr} {d q:Nat} {l:List Nat},Rd w 1 (.slice a d q) d (l.map u8)->∀g,(Value.slice a d q).ownBlock=some g->0<d->g<w.heap.size:=λV g I U=>V.lt I U
 have aC:∀{a:Option Addr} {d q:Nat} {l:List Nat},Rd w 1 (.slice a d q) d (l.map u8)->(∀g,(Value.slice a d q).ownBlock=some g->0<d->¬F g)->Rd w' 1 (.slice a d q) d (l.map u8)/\∀g,(Value.slice a d q).ownBlock=some g->0<d->¬(F g\/X.ownBlock=some g):=λV Y=>
  ⟨V.far (λg I U Z=>g2.block g Z (Y g I U)) g2.size,λg I U=>aD g (aE V g I U) (Y g I U)⟩
 have Z:=h.len
 refine⟨_,qs++[(P k,.slice a (P k).d.length q)],by simp[Z],by simpa using g1,λi hi=>?_,h.adv.trans g2⟩
 rw[List.length_append,List.length_singleton]at hi
 by_cases aB:i<qs.length
 ·rw[List.getElem_append_left aB]
  obtain⟨e,a',q',e2,aJ,aF⟩:=h.at_ i aB
  obtain⟨k1,k2⟩:=aC aJ aF
  exact⟨e,a',q',e2,k1,k2⟩
 ·obtain rfl:i=qs.length:=by omega
  rw[List.getElem_append_right (Nat.le_refl _)]
  simp only[Nat.sub_self,List.getElem_cons_zero,Z]
  obtain⟨k1,k2⟩:=aC V aG
  exact⟨trivial,a,q,rfl,k1,k2⟩
theorem PW.prd{F:Nat->Prop}{qs:List (Pc×Value)}(h:PW T W P k vo F qs w)(Y:0<k):PRd w vo ((List.range k).map P):=by
 have hl:=h.len
 obtain⟨g,c,rfl,U,Z⟩:=h.sl.form Y
 obtain⟨_,_,e,_,V⟩:=h.sl.form0
 injection e with _ _ I
 subst I
 refine⟨_,c,by simp,by simpa using Z,V,λ_=>⟨g,0,rfl,h.sl.bd g U,λi hi=>?_⟩⟩
 have aA:i<k:=by simpa using hi
 obtain⟨e,a,q,J,hr,_⟩:=h.at_ i (by omega)
 have I:((List.range k).map P)[i]'hi=P i:=by simp
 rw[I]
 have H:∀j u,j<5->(A2x (qs[i]'(by omega)))[j]? =some u->w.cell? ⟨g,0+(i * 5+j),none⟩=some u:=λj u X hu=>by
  rw[Nat.zero_add,h.sl.own.cellAt (i * 5+j) (by omega),B9t A2x (λ_=>rfl) qs i j (by omega) X]
  exact hu
 refine⟨a,q,H 0 _ (by decide) ?_,H 1 _ (by decide) ?_,H 2 _ (by decide) ?_,H 3 _ (by decide) ?_,H 4 _ (by decide) ?_,hr⟩<;>simp[A2x,e,J]
end
theorem C0q{T:TypeId}{W w wc:World}{P:Nat->Pc}{k:Nat}{vo v:Value}{F I:Nat->Prop}{qs:List (Pc×Value)}{e:TypeId}{Y d:Nat}{xs:List Value}(h:PW T W P k vo F qs w)(V:Sl wc I e Y v d xs)(U:A8 B0 w I wc):∀g,v.ownBlock=some g->0<d->¬F g:=λg X _ hF=>by
 have:=h.sl.bd g hF
 rcases U.into g (V.inF g X)with J|J
 ·exact J
 ·omega
theorem B82{T:TypeId}{w:World}{e:Nat}{cI:Int}{f g:Bool}{v:Value}(j:Nat)(u:Value)(h:[Value.int .u64 (e:Int),.int .u64 cI,.bool f,.bool g,v][j]? =some u):
 (w.alloc (.cells #[.int .u64 (e:Int),.int .u64 cI,.bool f,.bool g,v] T)).cell? ((⟨w.heap.size,0,none⟩:Addr).add j)=some u:=by
 rw[add_none,Nat.zero_add,(C0.new w T #[.int .u64 (e:Int),.int .u64 cI,.bool f,.bool g,v]).cell j,List.getElem?_toArray]
 exact h
end
section
open Go.RowKit Go.Maps
def rdP(s:DS)(n c:Nat):List Nat:=isS s (2+c%n)
def P9(s:DS)(n c:Nat):Prop:=X5 (rdP s n c)/\(dec (rdP s n c)).c=c
instance (s:DS) (n c:Nat):Decidable (P9 s n c):=by unfold P9;exact inferInstance
def scan(s:DS)(n:Nat):Nat->Nat->Option (List Pc)
 |0,_=>none
 |f+1,c=>if P9 s n c then(if(dec (rdP s n c)).g then some [dec (rdP s n c)]else(scan s n f (c+1)).map (dec (rdP s n c)::·))else none
def scanV(s:DS)(n c:Nat):List Pc:=(scan s n (n+1) c).getD []
def A1X(s:DS)(n c k:Nat):List Pc:=(List.range k).map (λi=>dec (rdP s n (c+i)))
theorem A6Y(s:DS)(n c k:Nat):A1X s n c (k+1)=A1X s n c k++[dec (rdP s n (c+k))]:=by simp[A1X,List.range_succ]
theorem A8b{s:DS}{n c f:Nat}(h:¬P9 s n c):scan s n f c=none:=by
 cases f with
 |zero=>rfl
 |succ f=>unfold scan;rw[if_neg h]
theorem A6Z{s:DS}{n c f:Nat}(h:P9 s n c)(I:(dec (rdP s n c)).g=true):scan s n (f+1) c=some [dec (rdP s n c)]:=by unfold scan;rw[if_pos h,if_pos I]
theorem A3L{s:DS}{n c f:Nat}(h:P9 s n c)(I:(dec (rdP s n c)).g=false):scan s n (f+1) c=(scan s n f (c+1)).map (dec (rdP s n c)::·):=by rw[scan,if_pos h,if_neg (by rw[I];decide)]
structure Pre (s:DS) (n c k:Nat):Prop where
 le:k<=n
 good:∀i,i<k->P9 s n (c+i)
 res:scan s n (n+1) c=(scan s n (n+1-k) (c+k)).map (A1X s n c k++·)
theorem Pre.zero(s:DS)(n c:Nat):Pre s n c 0:=⟨Nat.zero_le _,λi h=>absurd h (Nat.not_lt_zero _),by simp[A1X]⟩
theorem Pre.lt{s:DS}{n c k:Nat}(h:Pre s n c k)(X:1<=n)(V:P9 s n (c+k)):k<n:=by
 rcases Nat.lt_or_ge k n with I|I
 ·exact I
 ·have e:k=n:=Nat.le_antisymm h.le I
  subst e
  have U:=h.good 0 X
  have J:rdP s k (c+k)=rdP s k (c+0):=by unfold rdP;rw[Nat.add_mod_right,Nat.add_zero]
  have I:=V.2
  rw[J,U.2]at I
  omega
theorem Pre.no{s:DS}{n c k:Nat}(h:Pre s n c k)(I:¬P9 s n (c+k)):scanV s n c=[]:=by
 unfold scanV
 rw[h.res,A8b I];rfl
theorem Pre.last{s:DS}{n c k:Nat}(h:Pre s n c k)(I:P9 s n (c+k))(J:(dec (rdP s n (c+k))).g=true):scanV s n c=A1X s n c (k+1):=by
 unfold scanV
 rw[h.res,show n+1-k=(n-k)+1 by have:=h.le;omega,A6Z I J,A6Y];rfl
theorem Pre.more{s:DS}{n c k:Nat}(h:Pre s n c k)(V:1<=n)(I:P9 s n (c+k))(J:(dec (rdP s n (c+k))).g=false):Pre s n c (k+1):=by
 have U:=h.lt V I
 refine⟨U,λi hi=>?_,?_⟩
 ·by_cases e:i=k
  ·subst e;exact I
  ·exact h.good i (by omega)
 ·rw[h.res,show n+1-k=(n-k)+1 by omega,A3L I J,A6Y,show n+1-(k+1)=n-k by omega,<-Nat.add_assoc]
  cases scan s n (n-k) (c+k+1)<;>simp
theorem A8c{l:List Nat}(h:X5 l):Q7 l=dec l/\X8 l=0:=⟨if_pos h,if_pos h⟩
theorem B1q{l:List Nat}(h:¬X5 l):X8 l=4:=if_neg h
theorem B83{T:TypeId}{W w w':World}{P:Nat->Pc}{k:Nat}{vo I:Value}{F:Nat->Prop}{qs:List (Pc×Value)}{a:Option Addr}{q:Nat}{p:Pc}(h:PW T W P k vo F qs w)(Y:P k=p)(Z:Rd w 1 (.slice a p.d.length q) p.d.length (p.d.map u8))(V:∀g,(Value.slice a p.d.length q).ownBlock=some g->0<p.d.length->¬F g)
 (X:w'.ownsRow 0 T 5 I (k+1) (qs.flatMap A2x++[.int .u64 (p.e:Int),.int .u64 (p.c:Int),.bool p.f,.bool p.g,.slice a p.d.length q])) (U:w.grownBy w' vo.ownBlock) (J:I.ownBlock=vo.ownBlock\/I.ownBlock=some w.heap.size):∃F' aA,PW T W P (k+1) I F' aA w':=by
 subst Y
 exact h.push Z V X U J
def C0r(w:World)(ps:List Pc)(e:Ending)(w':World):Prop:=∃A k,e= .returned (.slice A ps.length k)/\PRd w' (.slice A ps.length k) ps/\(∀j,(Value.slice A ps.length k).ownBlock=some j->w.heap.size<=j)/\A8 B0 w B0 w'
def PcL(w:World)(s:DS)(n c:Nat)(t4 t3:Value)(wr:World):Prop:=
 ∃k A q F qs,t4= .int .u64 ((c+k:Nat):Int)/\t3= .slice A k q/\Pre s n c k/\PW 201 w (λi=>dec (rdP s n (c+i))) k (.slice A k q) F qs wr
theorem B1r(l b d n N:Nat)(g:LS)(F:Nat->Prop)(s:DS)(w:World)(h:Rs w F d l b n N s g)(bM:SB s N)(hn:2<=n/\n+3<=N/\N<=4096)(aO:g.next<=2199023255552):
 Calls Tryz.prog 123 #[.pointer (some ⟨l,0,none⟩)] w (C0r w (scanV s n g.next)):=by
 obtain⟨c,hc⟩:∃c,c=g.next:=⟨_,rfl⟩
 have c5:=h.lg.cells.2.2.2.2.2.1
 rw[<-hc]at c5 aO⊢
 have HS:=C3t h
 have cC:=C3t bM
 have U:=C3t hn
 have HC:=C3t aO
 clear h bM hn aO hc
 go_enter Tryz.func123,Tryz.ntmps123
 go_wp2_with fail
 go_loopw [4,3] (PcL w s n c) (λt _ _=>c+n+1-(intOf t).toNat)
 case atStart=>exact⟨0,none,0,B0,[],by simp,rfl,Pre.zero s n c,PW.nil _ _ _⟩
 case round=>
  obtain⟨k,A,q,Fq,qs,rfl,rfl,aE,aR⟩:=hrel
  have Y:=aR.adv.sub (G:=B0) (λ_ x=>x.elim)
  have hs:=HS.out.over Y
  have c0:=hs.lg.cells.1
  obtain⟨x,hx⟩:∃x,x=c+k:=⟨_,rfl⟩
  have cE:x<18446744073709551616:=by have:=HC.out;have:=aE.le;have:=U.out;omega
  have aQ:2+x%n<N:=by have:=Nat.mod_lt x (show 0<n by have:=U.out;omega);have:=U.out;omega
  have aY:=C3t (A6G (w:=wr.drew) x (show Lg wr.drew l b d n N g from⟨hs.lg.blk,hs.lg.mp⟩) (by have:=U.out;omega))
  have aJ:=C3t (A4A d N F s (2+x%n) wr.drew (hs.dk.far ((A8.refl B0 wr).drew) (λ_ x _=>x)) aQ)
  have aX:=C3t (cC.out _ aQ)
  have bT:=C3t (show∀w',A8 B0 wr.drew B0 w'->w'.cell? ⟨l,0,none⟩=some (.pointer (some ⟨d,0,none⟩))fromλw' a=>(hs.over (A8.of_drew a)).lg.cells.1)
  have aG:=C3t c0
  have aH:=C3t (show wr.drew.cell? ⟨l,0,none⟩=some (.pointer (some ⟨d,0,none⟩))from c0)
  have aD:=C3t aE
  have aZ:=C3t aR
  have bG:=aE.le
  have hm:=show c+n+1-(c+k)>0 by omega
  obtain⟨L,hL⟩:∃L,L=rdP s n x:=⟨_,rfl⟩
  have bB:isS s (2+x%n)=L:=by rw[hL];rfl
  rw[bB]at aJ aX
  obtain⟨pl,bI⟩:∃y,y=2+x%n:=⟨_,rfl⟩
  rw[<-bI]at aY aJ
  rw[<-hx]
  have X:=C3t hx
  have HL:=C3t hL
  have cG:=C3t bG
  clear Y hs hx cE aQ aE aR bG hm hL bB bI
  go_wp2_with fail
  refine E6 (S:=(λw'=>w'.cell? ⟨l,0,none⟩=some (.pointer (some ⟨d,0,none⟩)))) (by with_reducible first|exact aF.out|exact aH.out|exact aG.out) (λhH=>?_)
  refine C3u 0 rfl ?_
  refine C3u 1 rfl ?_
  refine C3u 2 rfl ?_
  refine C3u 3 rfl ?_
  refine C3u 4 rfl ?_
  refine C3u 5 rfl ?_
  refine C3v 6 rfl (λK hK=>?_)
  go_simp
  refine aY.out.mono ?_
  rintro e w6 ⟨rfl,rfl⟩
  go_wp2_with fail
  refine C3w hK (by with_reducible first|exact aF.out|exact aH.out|exact aG.out) ?_
  clear hK K hH
  intro hH
  try simp only[Act.put,sA,sB,sC]
  refine C3v 7 rfl (λK hK=>?_)
  go_simp
  refine aJ.out.mono ?_
  rintro e w7 ⟨y,rfl,b7,l7,a7⟩
  have aF:=C3t (bT.out w7 (a7.sub (G:=B0) (λ_ x=>x.elim)))
  have aS:=C3t (A8.of_drew (a7.sub (G:=B0) (λ_ x=>x.elim)))
  have cD:=C3t (A4V _ 128 L w7 (b7.rdS8 l7) aX.out)
  clear b7 l7 a7
  go_wp2_with fail
  refine C3w hK (by with_reducible first|exact aF.out|exact aH.out|exact aG.out) ?_
  clear hK K hH
  intro hH
  try simp only[Act.put,sA,sB,sC]
  refine C3u 8 rfl ?_
  refine C3u 9 rfl ?_
  refine C3u 10 rfl ?_
  refine C3u 11 rfl ?_
  refine C3u 12 rfl ?_
  refine wpAnyH_done (by kernel_rfl) ?_ _
  go_wp2_with fail
  refine cD.out.mono ?_
  rintro e w8 ⟨a8,q8,F8,rfl,s8,t8⟩
  obtain⟨p,hp⟩:∃p,p=Q7 L:=⟨_,rfl⟩
  obtain⟨E,hE⟩:∃E,E=X8 L:=⟨_,rfl⟩
  rw[<-hp]at s8⊢
  rw[<-hE]
  obtain⟨Z,I,pf,J,D⟩:=p
  simp only at s8⊢
  obtain⟨m,hm⟩:∃m,m=D.length:=⟨_,rfl⟩
  rw[<-hm]at s8⊢
  obtain⟨V,hV⟩:∃V,V=w8.alloc (.cells #[.int .u64 (Z:Int),.int .u64 (I:Int),.bool pf,.bool J,.slice a8 m q8] 201):=⟨_,rfl⟩
  obtain⟨z,hz⟩:∃z,z=w8.heap.size:=⟨_,rfl⟩
  have Y:A8 B0 w8 B0 V:=by rw[hV];exact(A8.refl _ _).alloc _
  have aB:=aZ.out.step (aS.out)
  have bU:=C3t (C0q aB s8 t8)
  have bK:=(aB.step t8).step Y
  have bZ:=C3t bK
  have cB:=C3t (s8.rd.far (λ_ _ _ h=>Y.block _ h (λh=>h)) Y.size)
  have aK:=C3t (show C0 V z 201 #[.int .u64 (Z:Int),.int .u64 (I:Int),.bool pf,.bool J,.slice a8 m q8]by rw[hV,hz];exact C0.new _ _ _)
  have bP:=C3t ((aZ.out.adv.sub (G:=B0) (λ_ x=>x.elim)).trans (aS.out.trans ((t8.sub (G:=B0) (λ_ x=>x.elim)).trans Y)))
  have bV:=C3t (show∀j,(Value.slice A k q).ownBlock=some j->j≠z fromλj hj e=>by
   have:=(aB.step t8).sl.bd j (aB.sl.inF j hj)
   omega)
  have HP:=C3t hp
  have HE:=C3t hE
  have HV:=C3t hV
  have HZ:=C3t hz
  have aI:=C3t hm
  clear s8 t8 hp hE hV hz Y aB bK hm
  go_upto_region 6 with(fail)
  rw[<-HV.out,<-HZ.out]
  obtain⟨z0,z1,z2,z3,z4⟩:=B0H aK.out
  have aT:=C3t (show¬P9 s n (c+k)->C0r w (scanV s n c) (.returned (.slice none 0 0)) V fromλk'=>by
   rw[aD.out.no k']
   exact⟨none,0,rfl,PRd.nil _,λj hj=>by simp[Value.ownBlock]at hj,bP.out⟩)
  by_cases hw:X5 L
  ·obtain⟨u1,u2⟩:=A8c hw
   obtain rfl:E=0:=by rw[HE.out,u2]
   have HW:=C3t hw
   have aC:=C3t (show(⟨Z,I,pf,J,D⟩:Pc)=dec L by rw[HP.out,u1])
   clear hw u1 u2
   by_cases aL:I=x
   ·subst aL
    have aN:P9 s n (c+k):=by
     rw[<-X.out]
     unfold P9
     rw[<-HL.out]
     exact⟨HW.out,by rw[<-aC.out]⟩
    have bF:=aD.out.lt (by have:=U.out;omega) aN
    have aV:=C3t aN
    have aW:=C3t bF
    have bR:=C3t (show k+1<=maxLen by have:=U.out;unfold maxLen;omega)
    have bS:=C3t (show(k+1) * 48<=140737488355328 by have:=U.out;omega)
    have bY:=C3t (show(λi=>dec (rdP s n (c+i))) k=(⟨Z,I,pf,J,D⟩:Pc)by rw[aC.out,HL.out,X.out])
    have bA:=C3t (bZ.out.step ((A8.refl B0 V).alloc (.cells #[.int .u64 (Z:Int),.int .u64 (I:Int),.bool pf,.bool J,.slice a8 m q8] 201)))
    have cA:=C3t (cB.out.up (.cells #[.int .u64 (Z:Int),.int .u64 (I:Int),.bool pf,.bool J,.slice a8 m q8] 201))
    have bD:(dec (rdP s n (c+k))).g=J:=by rw[<-X.out,<-HL.out,<-aC.out]
    have aU:=C3t bD
    clear aN bF bD
    go_upto_region 9 with(first
     |(at_builtin;refine A1d rfl (.tmp 39) (.tmp 41) 197 201 rfl Tryz.underlying197 A6D rfl (by decide) rfl bA.out.sl.own ⟨V.heap.size,0,none⟩ 1 1 rfl [.int .u64 (Z:Int),.int .u64 (I:Int),.bool pf,.bool J,.slice a8 m q8] rfl B82 C2o bR.out bS.out ?_;intro v' w2 aP aM bC;obtain⟨a9,k9,rfl⟩:=(A8T aP);have bX:=C3t aP;have bQ:=C3t aM;have bO:=C3t bC;have cK:w2.cell? ⟨z,3,none⟩=some (.bool J):=((aK.out.alloc _).keep (aM.block z (by have:=aK.out.lt;simp;omega) (λe=>bV.out _ e.symm rfl))).cell 3;clear aP aM bC z0 z1 z2 z3 z4)
     |fail)
    obtain⟨F9,cF,bJ⟩:=B83 (p:=⟨Z,I,pf,J,D⟩) bA.out bY.out (by simp only;rw[<-aI.out];exact cA.out) (by simp only;rw[<-aI.out];exact bU.out) (by simp only;rw[<-aI.out];exact bX.out) bQ.out bO.out
    have aA:=C3t bJ
    have cJ:IntKind.u64.wrap ((I:Int)+1)=(I:Int)+1:=by
     have:=A2c (x:=I+1) (by have:=X.out;have:=HC.out;have:=aW.out;have:=U.out;omega)
     rw[Int.natCast_add]at this
     exact this
    clear bJ
    cases J with
    |true=>
     have HF:=C3t (show C0r w (scanV s n c) (.returned (.slice a9 (k+1) k9)) w2 by
      have e1:=aD.out.last aV.out aU.out
      have e2:(A1X s n c (k+1)).length=k+1:=by simp[A1X]
      rw[e1]
      refine⟨a9,k9,by rw[e2],?_,λj hj=>?_,aA.out.adv.sub (λ_ x=>x.elim)⟩
      ·rw[e2]
       exact aA.out.prd (by omega)
      ·rw[e2]at hj
       rcases aA.out.adv.into j (aA.out.sl.inF j hj)with h|h
       ·exact h.elim
       ·exact h)
     go_wp2_with fail
     go_ret
     exact HF.out
    |false=>
     go_wp2_with fail
     refine⟨⟨k+1,a9,k9,F9,cF,?_,rfl,aD.out.more (by have:=U.out;omega) aV.out aU.out,aA.out⟩,?_⟩
     ·rw[X.out];go_num
     ·have h1:=X.out
      have h2:=aW.out
      simp[intOf]
      omega
   ·have bH:¬P9 s n (c+k):=by
     rw[<-X.out]
     unfold P9
     rw[<-HL.out]
     intro h
     exact aL (by rw[<-h.2,<-aC.out])
    have HF:=C3t (aT.out bH)
    have hb:((I:Int)!=(x:Int))=true:=by rw[bne_iff_ne];omega
    have cH:((I:Int)==(x:Int))=false:=by rw[beq_eq_false_iff_ne];omega
    clear bH aL
    go_wp2_with fail
    go_ret
    exact HF.out
  ·obtain rfl:E=4:=by rw[HE.out,B1q hw]
   have HF:=C3t (aT.out (λh=>hw (by have:=h.1;rw[<-X.out,<-HL.out]at this;exact this)))
   clear hw
   go_wp2_with fail
   go_ret
   exact HF.out
end
end Go.Proofs.YtbefmjiclpobjaaGreat
