import Derived.Test.YtbefmjiclpobjaaGreatMj06
import Derived.Test.YtbefmjiclpobjaaGreatMj07
import Derived.Maps.OwnSet
namespace Go.Proofs.YtbefmjiclpobjaaGreat
set_option maxHeartbeats 6400000
set_option maxRecDepth 3000
section
open Go.RowKit
def nx(c:Option Hd)(o:Option Hd):Option Hd:=match o with
 |some h=>if(c.getD hZ).g<=h.g then some h else c
 |none=>c
def U1(s:DS)(p:Nat):Nat->Option Hd
 |0=>none
 |k+1=>nx (U1 s p k) (unO (isS s (p+k)) k)
def inR(n:Nat)(I:Int)(k:Nat):Prop:=∀j:Nat,j<k->0<=I+(j:Int)/\I+(j:Int)<(n:Int)
def B8a(s:DS)(n:Nat)(I:Int)(x:Ending):Prop:=
 (inR n I 2/\x= .returned (.tuple #[hv ((U1 s I.toNat 2).getD hZ),.bool (U1 s I.toNat 2).isSome,.int .i64 0]))\/(¬inR n I 2/\x= .returned (.tuple #[hv hZ,.bool false,.int .i64 2]))
def SB(s:DS)(n:Nat):Prop:=∀i,i<n->∀x∈isS s i,x<256
def B8b(w:World)(s:DS)(n:Nat)(I:Int)(y z:Nat)(t15 t8:Value)(wr:World):Prop:=
 ∃k:Nat,k<=2/\inR n I k/\t15= .int .i64 (k:Int)/\t8= .bool (U1 s I.toNat k).isSome/\
  C3 wr y 135 (h3 (((U1 s I.toNat k).getD hZ).g:Int) (((U1 s I.toNat k).getD hZ).t:Int) (((U1 s I.toNat k).getD hZ).f:Int))/\C3 wr z 135 (h3 0 0 0)/\B0 (λj=>j=y) w (λj=>j=y) wr
theorem A36(s:DS)(p k:Nat):U1 s p (k+1)=nx (U1 s p k) (unO (isS s (p+k)) k):=rfl
theorem B0.overN{F G:Nat->Prop}{w I w2:World}(h:B0 F w G I)(k:B0 B5 I B5 w2):B0 F w G w2:=h.over k
theorem B4y{w V wr:World}{y:Nat}(I:B0 B5 w B5 V)(J:B0 (λj=>j=y) V (λj=>j=y) wr)(W:w.heap.size<=y):B0 B5 w B5 wr:=
 ⟨J.os.trans I.os,J.tape.trans I.tape,J.output.trans I.output,Nat.le_trans I.size J.size,λj U _=>(J.block j (Nat.lt_of_lt_of_le U I.size) (λe=>by omega)).trans (I.block j U (λx=>x)),λ_ h=>h.elim⟩
theorem B8c{n:Nat}{I:Int}{k:Nat}(h:inR n I k)(J:0<=I+(k:Int)/\I+(k:Int)<(n:Int)):inR n I (k+1):=λj U=>by
 by_cases e:j=k
 ·rw[e];exact J
 ·exact h j (by omega)
theorem A6b{w wr:World}{s:DS}{n y z k p:Nat}{I:Int}{c:Option Hd}{g t f:Nat}{b:Bool}(hk:k<2)(J:inR n I k)(hq:I+(k:Int)=(p:Int))(hp:p<n)(hc:nx (U1 s I.toNat k) (unO (isS s p) k)=c)
 (V:g=(c.getD hZ).g) (W:t=(c.getD hZ).t) (X:f=(c.getD hZ).f) (Y:b=c.isSome) (aA:C3 wr y 135 (h3 (g:Int) (t:Int) (f:Int))) (aB:C3 wr z 135 (h3 0 0 0)) (Z:B0 (λj=>j=y) w (λj=>j=y) wr):
 B8b w s n I y z (.int .i64 ((k:Int)+1)) (.bool b) wr:=by
 have U:I.toNat+k=p:=by
  by_cases aC:k=0
  ·subst aC;omega
  ·have:=J 0 (by omega);omega
 have e:U1 s I.toNat (k+1)=c:=by rw[A36,U];exact hc
 subst V W X Y
 refine⟨k+1,by omega,B8c J (by omega),by go_num,by rw[e],by rw[e];exact aA,aB,Z⟩
theorem B8d(d n:Nat)(F:Nat->Prop)(s:DS)(I:Int)(w:World)(hd:Dk w F d n s)(cB:SB s n)(hn:n<=4096)(bS: -9223372036854775808<=I)(bT:I<9223372036854775808):
 Calls Tryz.prog 62 #[.pointer (some ⟨d,0,none⟩),.int .i64 I] w λx w'=>B8a s n I x/\B0 B5 w B5 w':=by
 obtain⟨z,hz⟩:∃z,z=w.heap.size:=⟨_,rfl⟩
 obtain⟨V0,Z⟩:∃V,V=w.alloc (.cells #[.int .u64 0,.int .u64 0,.int .u64 0] 135):=⟨_,rfl⟩
 obtain⟨y,hy⟩:∃y,y=V0.heap.size:=⟨_,rfl⟩
 obtain⟨V,hV⟩:∃V,V=V0.alloc (.cells #[.int .u64 0,.int .u64 0,.int .u64 0] 135):=⟨_,rfl⟩
 have HZ:=C6x (show C3 V z 135 (h3 0 0 0)by rw[hV,Z,hz];exact(C3.new _ _ _).alloc _)
 have HY:=C6x (show C3 V y 135 (h3 0 0 0)by rw[hV,hy];exact C3.new _ _ _)
 have HA:=C6x (show B0 B5 w B5 V by rw[hV,Z];exact((B0.refl _ _).alloc _).alloc _)
 have cQ:=C6x (show y≠z by rw[hy,hz,Z];simp)
 have bR:=C6x (show w.heap.size<=z by rw[hz];exact Nat.le_refl _)
 have aY:=C6x (show w.heap.size<=y by rw[hy,Z];simp)
 have bX:=hd.far HA.out (λ_ h _=>h)
 have HD:=C6x bX
 have cJ:=C6x (show∀j,j=y->F j->False fromλj e h=>by have:=hd.bd j h;have:=aY.out;omega)
 have cL:=C6x cB
 have cD:y=z+1:=by rw[hy,hz,Z];simp
 have cP:=C6x cD
 have HV:=C6x (show V=(w.alloc (.cells #[.int .u64 0,.int .u64 0,.int .u64 0] 135)).alloc (.cells #[.int .u64 0,.int .u64 0,.int .u64 0] 135)by rw[hV,Z])
 have cR:=C6x hz
 have cY:(n:Int)<=4096:=by omega
 have cF:=C6x bS
 have cG:=C6x bT
 clear hd bX cB hn cD hV Z hz hy bS bT
 go_enter Tryz.func62,Tryz.ntmps62
 go_upto_region 2 with(fail)
 rw[<-HV.out,<-cR.out,<-cP.out]
 go_wp2_with fail
 go_loopw [15,8] (B8b V s n I y z) (λt _ _=>2-(intOf t).toNat)
 case atStart=>exact⟨0,by decide,λj h=>absurd h (Nat.not_lt_zero _),rfl,rfl,HY.out,HZ.out,B0.refl _ _⟩
 case round=>
  obtain⟨k,hk,bY,rfl,rfl,bB,bV,bA⟩:=hrel
  obtain⟨Y,aL⟩:∃c,c=U1 s I.toNat k:=⟨_,rfl⟩
  obtain⟨X,bF⟩:∃x,x=(Y.getD hZ).g:=⟨_,rfl⟩
  obtain⟨ct,bG⟩:∃x,x=(Y.getD hZ).t:=⟨_,rfl⟩
  obtain⟨cf,bD⟩:∃x,x=(Y.getD hZ).f:=⟨_,rfl⟩
  obtain⟨cb,bC⟩:∃x,x=Y.isSome:=⟨_,rfl⟩
  rw[<-aL,<-bF,<-bG,<-bD]at bB
  rw[<-aL,<-bC]
  have aF:=C6x aL
  have aB:=C6x bF
  have aK:=C6x bG
  have aJ:=C6x bD
  have aI:=C6x bC
  have aS:=C6x bB
  have aA:=C6x bV
  have aQ:=C6x bA
  have aC:=C6x bY
  have bM:=C6x (HD.out.far bA cJ.out)
  clear aL bF bG bD bC bB bV bA bY
  by_cases J:k<2
  ·have cX:(k:Int)<2:=by omega
   have cW:IntKind.i64.wrap (I+(k:Int))=I+(k:Int):=by
    rw[IntKind.wrap_i64]
    have h0:=cF.out
    have h1:=cG.out
    by_cases cU:k=0
    ·subst cU;omega
    ·have:=aC.out 0 (by omega)
     omega
   have aG:=C6x J
   obtain⟨q,hq⟩:∃q,q=I+(k:Int):=⟨_,rfl⟩
   rw[<-hq]at cW
   have HQ:=C6x hq
   have aH:I+(k:Int)=q:=hq.symm
   clear J hk hq
   by_cases hr:0<=q/\q<(n:Int)
   ·obtain⟨p,rfl⟩:=Int.eq_ofNat_of_zero_le hr.1
    have aD:=C6x (show p<n by omega)
    clear hr
    go_wp2_with fail
    refine(A6a d n F s p wr bM.out aD.out).mono ?_
    rintro e w2 ⟨z2,rfl,bU,bZ,a2⟩
    have cK:=C6x ((bU.sl8 bZ).rd)
    have cH:=C6x (a2.sub (G:=B5) (λ_ h=>h.elim))
    clear bU bZ a2
    go_wp2_with fail
    refine(B0M _ 128 (isS s p) w2 cK.out (cL.out p aD.out)).mono ?_
    intro x w3 h
    obtain⟨⟨g,t,f⟩,ok,rfl,cC,a3⟩:=h
    simp only
    obtain⟨u,hu⟩:∃u,u=w3.heap.size:=⟨_,rfl⟩
    obtain⟨w4,aO⟩:∃w4,w4=w3.alloc (.cells #[.int .u64 (g:Int),.int .u64 (t:Int),.int .u64 (f:Int)] 135):=⟨_,rfl⟩
    have HU:=C6x (show C3 w4 u 135 #[.int .u64 (g:Int),.int .u64 (t:Int),.int .u64 (f:Int)]by rw[aO,hu];exact C3.new _ _ _)
    have aP:=C6x (show B0 B5 wr B5 w4 by rw[aO];exact(cH.out.trans a3).alloc _)
    have aT:=C6x (aS.out.keep (aP.out.block y aS.out.lt (λh=>h)))
    have aU:=C6x (aA.out.keep (aP.out.block z aA.out.lt (λh=>h)))
    have bK:=C6x (aQ.out.overN aP.out)
    have bQ:=C6x cC
    have cN:=C6x hu
    have cO:=C6x aO
    clear cC a3 hu aO
    go_upto_region 9 with(fail)
    rw[<-cO.out,<-cN.out]
    obtain⟨u0,u1,u2⟩:=HU.out.three
    cases ok with
    |false=>
     have cA:A1o (isS s p)=none:=by have h:=bQ.out;simpa using h
     have U:nx (U1 s I.toNat k) (unO (isS s p) k)=Y:=by rw[B0V cA,<-aF.out];rfl
     have W:=C6x U
     clear cA U
     go_wp2_with fail
     have J:=aG.out
     exact⟨A6b J aC.out aH aD.out W.out aB.out aK.out aJ.out aI.out aT.out aU.out bK.out,by simp[intOf];omega⟩
    |true=>
     have cE:A1o (isS s p)=some ⟨g,t,f⟩:=by have h:=bQ.out;simpa using h
     have aZ:=C6x cE
     obtain⟨r,hr⟩:∃r,r=g%2:=⟨_,rfl⟩
     have aX:=C6x hr
     clear cE hr
     go_wp2_with fail
     refine(A81 g t f _).mono ?_
     rintro x w5 ⟨rfl,a5⟩
     rw[<-aX.out]
     have cM:=C6x (HU.out.keep (a5.block u HU.out.lt (λh=>h)))
     have aE:=C6x (aT.out.keep (a5.block y aT.out.lt (λh=>h)))
     have aV:=C6x (aU.out.keep (a5.block z aU.out.lt (λh=>h)))
     have aR:=C6x (bK.out.overN a5)
     obtain⟨v0,v1,v2⟩:=cM.out.three
     obtain⟨y0,y1,y2⟩:=aE.out.three
     clear u0 u1 u2 a5
     by_cases aN:r=k
     ·have cV:((r:Int)==(k:Int))=true:=by rw[beq_iff_eq];omega
      have bP:=C6x (show(⟨g,t,f⟩:Hd).g%2=k by show g%2=k;rw[<-aX.out];exact aN)
      clear aN
      by_cases aM:X<=g
      ·have cT:(X:Int)<=(g:Int):=by omega
       have U:nx (U1 s I.toNat k) (unO (isS s p) k)=some ⟨g,t,f⟩:=by
        rw[A91 aZ.out bP.out,<-aF.out]
        exact if_pos (by rw[<-aB.out];exact aM)
       have W:=C6x U
       clear aM U
       go_wp2_with (first
        |(refine Z9 Q8 rfl (.tmp 7) (.tmp 49) rfl y _ (h3 (g:Int) (t:Int) (f:Int)) aE.out rfl rfl (Z8 _ _ _) rfl rfl ?_)
        |fail)
       have J:=aG.out
       exact⟨A6b J aC.out aH aD.out W.out rfl rfl rfl rfl (aE.out.putAll rfl) (aV.out.keep (L7 y cQ.out.symm _ 0 _)) (B0.lsetCells _ 0 _ aR.out (.inl rfl)),by simp[intOf];omega⟩
      ·have cT:(g:Int)<(X:Int):=by omega
       have U:nx (U1 s I.toNat k) (unO (isS s p) k)=Y:=by
        rw[A91 aZ.out bP.out,<-aF.out]
        exact if_neg (by rw[<-aB.out];exact aM)
       have W:=C6x U
       clear aM U
       go_wp2_with fail
       have J:=aG.out
       exact⟨A6b J aC.out aH aD.out W.out aB.out aK.out aJ.out aI.out aE.out aV.out aR.out,by simp[intOf];omega⟩
     ·have cV:((r:Int)==(k:Int))=false:=by rw[beq_eq_false_iff_ne];omega
      have U:nx (U1 s I.toNat k) (unO (isS s p) k)=Y:=by
       rw[C27 aZ.out (by show g%2≠k;rw[<-aX.out];exact aN),<-aF.out]
       rfl
      have W:=C6x U
      clear aN U
      go_wp2_with fail
      have J:=aG.out
      exact⟨A6b J aC.out aH aD.out W.out aB.out aK.out aJ.out aI.out aE.out aV.out aR.out,by simp[intOf];omega⟩
   ·have bO:=C6x hr
    clear hr
    go_wp2_with fail
    refine(B6i d n F s q wr bM.out bO.out).mono ?_
    rintro e w2 ⟨rfl,rfl⟩
    have aW:=C6x (show B8a s n I (.returned (.tuple #[.agg #[.int .u64 0,.int .u64 0,.int .u64 0],.bool false,.int .i64 2]))from .inr ⟨λh=>bO.out (by have h1:=h k aG.out;rw[aH]at h1;exact h1),rfl⟩)
    go_wp2_with (first
     |(refine Z9 Q8 rfl (.tmp 4) (.tmp 28) rfl z _ (h3 0 0 0) aA.out rfl rfl (Z8 _ _ _) rfl rfl ?_)
     |fail)
    obtain⟨bH,bI,bJ⟩:=(aA.out.putAll (D:=h3 0 0 0) rfl).three
    exact bodyPost_ret (v:=.tuple #[.agg #[.int .u64 0,.int .u64 0,.int .u64 0],.bool false,.int .i64 2]) (by simp[results,Tryz.results62,go_sem,bH,bI,bJ]) rfl ⟨aW.out,B0.lsetCells _ 0 _ (B4y HA.out aQ.out aY.out) (.inr bR.out)⟩
  ·obtain rfl:k=2:=by omega
   have aW:=C6x (show B8a s n I (.returned (.tuple #[.agg #[.int .u64 (X:Int),.int .u64 (ct:Int),.int .u64 (cf:Int)],.bool cb,.int .i64 0]))from .inl ⟨aC.out,by rw[aB.out,aK.out,aJ.out,aI.out,<-aF.out];rfl⟩)
   obtain⟨y0,y1,y2⟩:=aS.out.three
   clear J hk
   go_wp2_with (first
    |(refine Z9 Q8 rfl (.tmp 4) (.tmp 51) rfl z _ (h3 (X:Int) (ct:Int) (cf:Int)) aA.out rfl rfl (Z8 _ _ _) rfl rfl ?_)
    |fail)
   obtain⟨bH,bI,bJ⟩:=(aA.out.putAll (D:=h3 (X:Int) (ct:Int) (cf:Int)) rfl).three
   exact bodyPost_ret (v:=.tuple #[.agg #[.int .u64 (X:Int),.int .u64 (ct:Int),.int .u64 (cf:Int)],.bool cb,.int .i64 0]) (by simp[results,Tryz.results62,go_sem,bH,bI,bJ]) rfl ⟨aW.out,B0.lsetCells _ 0 _ (B4y HA.out aQ.out aY.out) (.inr bR.out)⟩
end
section
open Go.RowKit
theorem A4T(s:DS)(i:Int)(b:List Nat):(L3 s i b).1.Q.length<=s.Q.length+1:=by
 unfold L3
 split
 ·exact Nat.le_succ _
 ·split
  ·simp
  ·simp[A1E]
theorem A4U(s:DS):(E0 s).1.Q.length<=s.Q.length:=by
 unfold E0
 split
 ·simp
 ·simp[A1E]
end
section
open Go.RowKit Go.Maps
abbrev DU:=DataW Unit
def u8D:Value->DU
 | .int .u8 x=>.lit (.int .u8 x)
 |_=>.nil
def C08(x:Nat):DU:=.lit (.int .u8 (x:Int))
def A09(l:List Nat):DU:=.agg (l.map C08)
def A0w:Value->Option (DU×List MemPlace)
 | .agg cs=>some (.agg (cs.toList.map u8D),[])
 |_=>none
theorem A1H(l:List Nat):A0w (.agg (l.map u8).toArray)=some (A09 l,[]):=by
 have e:(l.map u8).map u8D=l.map C08:=by rw[List.map_map];rfl
 simp[A0w,A09,e]
theorem B4z:∀{cs:List Value} {l:List Nat},cs.map u8D=l.map C08->cs=l.map u8
 |[],[],_=>rfl
 |[],_::_,h=>by simp at h
 |_::_,[],h=>by simp at h
 |c::cs,x::l,h=>by
  rw[List.map_cons,List.map_cons,List.cons.injEq]at h
  have J:=B4z h.2
  have I:c=u8 x:=by
   have h3:=h.1
   unfold u8D C08 at h3
   split at h3
   ·injection h3 with h3;injection h3 with _ h3;subst h3;rfl
   ·cases h3
  rw[I,J];rfl
theorem A2m{v:Value}{ps:List MemPlace}{l:List Nat}(h:A0w v=some (A09 l,ps)):v= .agg (l.map u8).toArray:=by
 unfold A0w at h
 split at h
 ·injection h with h
  injection h with h _
  unfold A09 at h
  injection h with h
  have:=B4z h
  rw[<-this]
 ·cases h
def ik(i:Nat):Lit:=.int .i64 (i:Int)
theorem B40{i j:Nat}(h:i≠j):ik i≠ik j:=λe=>h (by unfold ik at e;injection e with _ e;omega)
theorem C4m{i:Nat}(h:i<1000000000):(Lit.int .i64 (i:Int)).wf=true:=by
 have I:IntKind.i64.min= -9223372036854775808:=rfl
 have J:IntKind.i64.max=9223372036854775807:=rfl
 simp[Lit.wf]
 omega
def cnt(A:Nat->Option (List Nat))(N:Nat):Nat:=((List.range N).filter (λi=>(A i).isSome)).length
theorem A1t(A:Nat->Option (List Nat))(N:Nat):cnt A (N+1)=cnt A N+(if(A N).isSome then 1 else 0):=by
 unfold cnt
 rw[List.range_succ,List.filter_append,List.length_append]
 congr 1
 cases h:(A N).isSome<;>simp[h]
def Q9(A:Nat->Option (List Nat))(i:Nat)(l:List Nat):Nat->Option (List Nat):=λj=>if j=i then some l else A j
theorem A6L(A:Nat->Option (List Nat))(N:Nat):cnt A N<=N:=by
 have:=List.length_filter_le (λi=>(A i).isSome) (List.range N)
 rwa[List.length_range]at this
theorem A96{A B:Nat->Option (List Nat)}:∀{N:Nat},(∀j,j<N->A j=B j)->cnt A N=cnt B N
 |0,_=>rfl
 |N+1,h=>by rw[A1t,A1t,A96 (N:=N) (λj I=>h j (by omega)),h N (by omega)]
theorem B41{A:Nat->Option (List Nat)}{i:Nat}{l:List Nat}:∀{N:Nat},i<N->cnt (Q9 A i l) N=if(A i).isSome then cnt A N else cnt A N+1
 |0,h=>by omega
 |N+1,h=>by
  rw[A1t,A1t]
  by_cases e:i=N
  ·subst e
   rw[A96 (A:=Q9 A i l) (B:=A) (λj I=>by unfold Q9;rw[if_neg (by omega)])]
   have:(Q9 A i l i).isSome=true:=by unfold Q9;rw[if_pos rfl];rfl
   rw[this]
   cases (A i).isSome<;>simp
  ·rw[B41 (N:=N) (by omega)]
   have:Q9 A i l N=A N:=by unfold Q9;rw[if_neg (by omega)]
   rw[this]
   cases (A i).isSome<;>simp<;>omega
structure MpD (N:Nat) (A:Nat->Option (List Nat)) (D:DU):Prop where
 tidy:Tidy D
 size:Maps.size D=cnt A N
 has:∀i,i<N->Maps.has D (ik i)=(A i).isSome
 at_:∀i,i<N->∀z,D.atKey (ik i) z=((A i).map A09).getD z
 keys:∀k:Lit,WideAt.IsKeyLit k->Maps.has D k=true->∃i,i<N/\k=ik i
theorem A97(i:Nat):WideAt.IsKeyLit (ik i):=trivial
theorem A6M(N:Nat):cnt (λ_=>none) N=0:=by unfold cnt;simp
theorem MpD.empty(N:Nat):MpD N (λ_=>none) (.map []):=
 ⟨tidy_empty,by rw[A6M];rfl,λ_ _=>rfl,λ_ _ _=>rfl,λ_ _ h=>by simp[Maps.has_eq]at h⟩
theorem MpD.put{N i:Nat}{A:Nat->Option (List Nat)}{D:DU}{l:List Nat}(h:MpD N A D)(hi:i<N):MpD N (Q9 A i l) (D.put (ik i) (A09 l)) where
 tidy:=h.tidy.put (A97 i) _
 size:=by rw[size_put h.tidy,h.has i hi,B41 hi,h.size]
 has j hj:=by
  by_cases e:j=i
  ·subst e;rw[has_put_same h.tidy.isMap (A97 j)];unfold Q9;rw[if_pos rfl];rfl
  ·rw[has_put_other (B40 e),h.has j hj];unfold Q9;rw[if_neg e]
 at_ j hj z:=by
  by_cases e:j=i
  ·subst e;rw[atKey_put_same h.tidy.isMap (A97 j)];unfold Q9;rw[if_pos rfl];rfl
  ·rw[atKey_put_other (B40 e),h.at_ j hj];unfold Q9;rw[if_neg e]
 keys k hk hh:=by
  by_cases e:k=ik i
  ·exact⟨i,hi,e⟩
  ·rw[has_put_other e]at hh
   exact h.keys k hk hh
def Mp(w:World)(b N:Nat)(A:Nat->Option (List Nat)):Prop:=∃D:DU,w.ownsMap Tryz.prog 3 A0w b (cnt A N) D/\MpD N A D
theorem N7:Keyed Tryz.prog 3:=int_keyed Tryz.underlying3
theorem A37{i:Nat}(h:i<1000000000):keyOf Tryz.prog 3 (.int .i64 (i:Int))=some (ik i):=keyOf_int_mk Tryz.underlying3 (C4m h)
theorem A98:(Tryz.prog.info? 141).map (λi=>(i.zero,i.size,i.bytes))=some (some (.agg zS),128,128):=by kernel_rfl
theorem B42:(Tryz.prog.info? 141).map (·.size)=some 128:=by kernel_rfl
theorem Mp.lt{w:World}{b N:Nat}{A:Nat->Option (List Nat)}(h:Mp w b N A):b<w.heap.size:=by obtain⟨D,h,_⟩:=h;exact h.lt
theorem Mp.keep{w w':World}{b N:Nat}{A:Nat->Option (List Nat)}(h:Mp w b N A)(V:w'.heap[b]? =w.heap[b]?):Mp w' b N A:=by
 obtain⟨D,⟨I,c,J,U⟩,h3⟩:=h
 exact⟨D,⟨I,c,V.trans J,U⟩,h3⟩
theorem Mp.new(w:World)(N:Nat):Mp (w.alloc (.map #[] 0)) w.heap.size N (λ_=>none):=⟨_,by rw[A6M];exact World.ownsMap_made _ _ _ _,MpD.empty N⟩
theorem Mp.ne{w:World}{b g N:Nat}{t:TypeId}{cs:Array Value}{A:Nat->Option (List Nat)}(h:Mp w b N A)(I:C3 w g t cs):g≠b:=by
 rintro rfl
 obtain⟨D,⟨U,c,J,V⟩,h3⟩:=h
 unfold C3 at I
 rw[J]at I
 cases I
section
variable {ops:Array Oper} {rest:List Oper} {o:Oper} {a:Act} {w:World} {Q:Exit->Act->World->Prop}
theorem C09(J:o.guard=none)(m x:Operand)(V:o.op=Op.lookup 138 m x true)(b N i:Nat)(A:Nat->Option (List Nat))(I:Mp w b N A)(U:a.eval m= .map (some b))(W:a.eval x= .int .i64 (i:Int))(hi:i<N)(X:N<=4096)
 (hK:wpList Tryz.prog ops Q rest (a.put o.dst (.tuple #[.agg ((((A i).getD (List.replicate 128 0)).map u8).toArray),.bool (A i).isSome])) w):wpList Tryz.prog ops Q (o::rest) a w:=by
 obtain⟨D,h,d⟩:=I
 refine wpList_lookup_own_ok w J m x 138 V 3 141 N7 Tryz.underlying138 A0w (A2g A98) (A09 (List.replicate 128 0)) [] (by rw[zS,<-List.map_replicate];exact A1H _) b _ D U h _ (ik i) W (A37 (by omega)) (λv ps hv=>?_)
 rw[d.at_ i hi]at hv
 rw[d.has i hi]
 have e:((A i).map A09).getD (A09 (List.replicate 128 0))=A09 ((A i).getD (List.replicate 128 0)):=by cases A i<;>rfl
 rw[e]at hv
 rw[A2m hv]
 exact hK
theorem A4j(I:o.guard=none)(J:o.op= .alloc 141)(h:wpList Tryz.prog ops Q rest (a.put o.dst (.pointer (some ⟨w.heap.size,0,none⟩))) (w.alloc (.cells zS 141))):wpList Tryz.prog ops Q (o::rest) a w:=
 A4g I J A98 h
theorem A4k(J:o.guard=none)(x y:Operand)(V:o.op= .store 141 x y)(g:Nat)(I:g=w.heap.size)(l:List Nat)(U:l.length=128)(W:a.eval x= .pointer (some ⟨g,0,none⟩))(X:a.eval y= .agg (l.map u8).toArray)
 (h:wpList Tryz.prog ops Q rest (a.put o.dst undef) (w.alloc (.cells (l.map u8).toArray 141))):wpList Tryz.prog ops Q (o::rest) a (w.alloc (.cells zS 141)):=
 A0v J x y V g I W X B42 (by simpa using U) A0S (A2i l) h
end
structure LS where
 h:Hd
 next:Nat
 ep:Nat
 A:Nat->Option (List Nat)
 err:Int
def C2C(d n b:Nat)(g:LS):Array Value:= #[.pointer (some ⟨d,0,none⟩),.int .i64 (n:Int),.int .u64 (g.h.g:Int),.int .u64 (g.h.t:Int),.int .u64 (g.h.f:Int),.int .u64 (g.next:Int),.int .u64 (g.ep:Int),.map (some b),.int .i64 g.err]
structure Lg (w:World) (l b d n N:Nat) (g:LS):Prop where
 blk:C3 w l 140 (C2C d n b g)
 mp:Mp w b (N-2-n) g.A
def LF(l b:Nat):Nat->Prop:=λk=>k=l\/k=b
theorem Lg.bd{w:World}{l b d n N:Nat}{g:LS}(h:Lg w l b d n N g):Bd (LF l b) w:=λk I=>by
 rcases I with rfl|rfl
 ·exact h.blk.lt
 ·exact h.mp.lt
theorem Lg.far{w w':World}{F F':Nat->Prop}{l b d n N:Nat}{g:LS}(h:Lg w l b d n N g)(I:B0 F w F' w')(J:Sep F (LF l b)):Lg w' l b d n N g:=
 ⟨h.blk.keep (I.block l h.blk.lt (λx=>J l x (.inl rfl))),h.mp.keep (I.block b h.mp.lt (λx=>J b x (.inr rfl)))⟩
theorem Lg.ne{w:World}{l b d n N:Nat}{g:LS}(h:Lg w l b d n N g):l≠b:=h.mp.ne h.blk
theorem Lg.cells{w:World}{l b d n N:Nat}{g:LS}(h:Lg w l b d n N g):w.cell? ⟨l,0,none⟩=some (.pointer (some ⟨d,0,none⟩))/\w.cell? ⟨l,1,none⟩=some (.int .i64 (n:Int))/\w.cell? ⟨l,2,none⟩=some (.int .u64 (g.h.g:Int))/\
 w.cell? ⟨l,3,none⟩=some (.int .u64 (g.h.t:Int))/\w.cell? ⟨l,4,none⟩=some (.int .u64 (g.h.f:Int))/\w.cell? ⟨l,5,none⟩=some (.int .u64 (g.next:Int))/\w.cell? ⟨l,6,none⟩=some (.int .u64 (g.ep:Int))/\w.cell? ⟨l,7,none⟩=some (.map (some b))/\w.cell? ⟨l,8,none⟩=some (.int .i64 g.err):=
 ⟨h.blk.cell 0,h.blk.cell 1,h.blk.cell 2,h.blk.cell 3,h.blk.cell 4,h.blk.cell 5,h.blk.cell 6,h.blk.cell 7,h.blk.cell 8⟩
end
section
open Go.RowKit Go.Maps
section
variable {w:World} {l b d n N:Nat} {g:LS}
theorem A4l(h:Lg w l b d n N g):Calls Tryz.prog 64 #[.pointer (some ⟨l,0,none⟩)] w λe w'=>e= .returned (.bool true)/\w=w':=by
 have I:=h.cells.1
 clear h
 go_enter Tryz.func64,Tryz.ntmps64
 go_wp2_with fail
 go_ret
 exact⟨rfl,rfl⟩
theorem A4V(h:Lg w l b d n N g):Calls Tryz.prog 151 #[.pointer (some ⟨l,0,none⟩)] w λe w'=>e= .returned (.int .i64 g.err)/\w=w':=by
 obtain⟨V, -, -, -, -, -, -, -,U⟩:=h.cells
 have J:=C6x (A4l h)
 obtain⟨E,I⟩:∃E,E=g.err:=⟨_,rfl⟩
 rw[<-I]at U⊢
 clear h I
 go_enter Tryz.func151,Tryz.ntmps151
 go_wp2_with fail
 refine J.out.mono ?_
 rintro e W ⟨rfl,rfl⟩
 go_wp2_with fail
 go_ret
 exact⟨rfl,rfl⟩
theorem Lg.setErr(h:Lg w l b d n N g)(E:Int):Lg (w.setCell ⟨l,8,none⟩ (.int .i64 E)) l b d n N { g with err:=E }:=
 ⟨h.blk.set_ 8 _,h.mp.keep (Below.heap_setCell w _ _ b (λe=>h.ne e.symm))⟩
theorem A4m(E:Int)(h:Lg w l b d n N g):Calls Tryz.prog 152 #[.pointer (some ⟨l,0,none⟩),.int .i64 E] w λe w'=>e= .returned (.int .i64 E)/\Lg w' l b d n N { g with err:=E }/\B0 (LF l b) w (LF l b) w':=by
 have V:=h.cells.2.2.2.2.2.2.2.2
 have J:=C6x (h.blk.frozen 8)
 have U:=C6x (h.setErr E)
 have I:=C6x ((B0.refl (LF l b) w).setCell (p:=⟨l,8,none⟩) (.inl (.inl rfl)) (.int .i64 E))
 have W:=J.out
 clear h
 go_enter Tryz.func152,Tryz.ntmps152
 go_wp2_with fail
 go_ret
 exact⟨rfl,U.out,I.out⟩
theorem B0X(i:Nat)(h:Lg w l b d n N g)(hi:i<=100000)(I:n<=100000):Calls Tryz.prog 67 #[.pointer (some ⟨l,0,none⟩),.int .i64 (i:Int)] w λe w'=>e= .returned (.int .i64 ((2+n+i:Nat):Int))/\w=w':=by
 have c1:=h.cells.2.1
 have e:((2+n+i:Nat):Int)=2+(n:Int)+(i:Int):=by omega
 rw[e]
 have J:(i:Int)<=100000:=by omega
 have U:(n:Int)<=100000:=by omega
 clear h e hi I
 go_enter Tryz.func67,Tryz.ntmps67
 go_wp2_with fail
 go_ret
 exact⟨rfl,rfl⟩
theorem A83(c:Nat)(h:Lg w l b d n N g)(J:1<=n/\n<=100000):Calls Tryz.prog 159 #[.pointer (some ⟨l,0,none⟩),.int .u64 (c:Int)] w λe w'=>e= .returned (.int .i64 ((2+c%n:Nat):Int))/\w=w':=by
 have c1:=h.cells.2.1
 obtain⟨r,I⟩:∃r,r=c%n:=⟨_,rfl⟩
 have U:r<n:=by rw[I];exact Nat.mod_lt _ J.1
 have e:((2+r:Nat):Int)=2+(r:Int):=by omega
 rw[<-I,e]
 have V:IntKind.u64.wrap (n:Int)=(n:Int):=A3k (by omega)
 have W:(c:Int).tmod (n:Int)=(r:Int):=by rw[I];rfl
 have X:(c:Int)%(n:Int)=(r:Int):=by rw[I];rfl
 have h3:IntKind.u64.wrap (r:Int)=(r:Int):=A3k (by omega)
 have Y:IntKind.i64.wrap (r:Int)=(r:Int):=by rw[IntKind.wrap_i64];omega
 have Z:IntKind.i64.wrap (2+(r:Int))=2+(r:Int):=by rw[IntKind.wrap_i64];omega
 have h6:((n:Int)==0)=false:=by rw[beq_eq_false_iff_ne];omega
 have h7:(n:Int)≠0:=by omega
 clear h e J I U
 go_enter Tryz.func159,Tryz.ntmps159
 go_wp2_with fail
 go_ret
 exact⟨rfl,rfl⟩
theorem A2P{F:Nat->Prop}{s:DS}(h:Lg w l b d n N g)(I:Dk w F d N s)(V:N<=4096)(W:n+2<=N):Calls Tryz.prog 65 #[.pointer (some ⟨l,0,none⟩)] w λe w'=>e= .returned (.int .i64 ((N-2-n:Nat):Int))/\∃k,w'=w.drewN k:=by
 obtain⟨X,c1, -⟩:=h.cells
 have J:=C6x (A4l h)
 have U:=C6x (λ(k:Nat)=>(A4i d N F s (w.drewN k) (I.far ((B0.refl B5 w).drewN k) (λ_ h _=>h))).mono (R':=λe w'=>e= .returned (.int .i64 (N:Int))/\w'=w.drewN k) (λ_ _ ⟨a,b⟩=>⟨a,b.symm⟩))
 have e:((N-2-n:Nat):Int)=(N:Int)-2-(n:Int):=by omega
 have Y:IntKind.i64.wrap ((N:Int)-2)=(N:Int)-2:=by rw[IntKind.wrap_i64];omega
 have Z:IntKind.i64.wrap ((N:Int)-2-(n:Int))=(N:Int)-2-(n:Int):=by rw[IntKind.wrap_i64];omega
 rw[e]
 clear h I e V W
 go_enter Tryz.func65,Tryz.ntmps65
 go_wp2_with fail
 refine J.out.mono ?_
 rintro e w1 ⟨rfl,rfl⟩
 go_wp2_with fail
 go_quiet (exact Calls.quiet_of_same (U.out _))
 go_wp2
 go_ret
 exact⟨rfl,_,rfl⟩
theorem B8e(h:Lg w l b d n N g)(W:n<=100000)(U:g.h.t<=g.next)(V:g.next-g.h.t<=n):Calls Tryz.prog 187 #[.pointer (some ⟨l,0,none⟩)] w λe w'=>e= .returned (.int .i64 ((n-(g.next-g.h.t):Nat):Int))/\∃k,w'=w.drewN k:=by
 obtain⟨-,c1, -,c3, -,c5, -⟩:=h.cells
 have J:=C6x (A4l h)
 obtain⟨u,X⟩:∃u,u=g.next-g.h.t:=⟨_,rfl⟩
 have e:((n-(g.next-g.h.t):Nat):Int)=(n:Int)-(u:Int):=by omega
 have I:(g.next:Int)-(g.h.t:Int)=(u:Int):=by omega
 have h3:IntKind.u64.wrap ((g.next:Int)-(g.h.t:Int))=(u:Int):=by rw[I];exact A3k (by omega)
 have Z:IntKind.i64.wrap (u:Int)=(u:Int):=by rw[IntKind.wrap_i64];omega
 have h5:IntKind.i64.wrap ((n:Int)-(u:Int))=(n:Int)-(u:Int):=by rw[IntKind.wrap_i64];omega
 rw[e]
 have Y:=h.cells.1
 clear h e W U V X I
 go_enter Tryz.func187,Tryz.ntmps187
 go_wp2_with fail
 refine J.out.mono ?_
 rintro e w1 ⟨rfl,rfl⟩
 go_wp2_with fail
 go_quiet (fail)
 go_wp2
 go_ret
 exact⟨rfl,_,rfl⟩
end
end
section
open Go.RowKit Go.Maps
section
variable {ops:Array Oper} {o:Oper} {a:Act} {w:World} {Q:Exit->Act->World->Prop} {K:Act->World->Prop} {E:Prop}
theorem B0Y(U:o.guard=none)(x:Operand)(W:o.op= .load 141 x)(b I:Nat)(l:List Nat)(V:l.length=128)(J:w.rangeAt b I (l.map u8))(X:a.eval x= .pointer (some ⟨b,I,none⟩))
 (h:K (a.put o.dst (.agg (l.map u8).toArray)) w):if Region.wanted o (yielded ops a.tmps)=true then Oper.wp Tryz.prog o a w K Q else E:=by
 rw[if_pos (by simp[Region.wanted,U])]
 exact wp_load_mid 141 x W b I X (l.map u8) _ J Tryz.underlying141 rfl (by rw[B42,List.length_map,V]) h
theorem B3e(I:o.guard=none)(x:Operand)(J:o.op= .sliceToArrayPointer 141 x)(A:Option Addr)(c:Nat)(U:a.eval x= .slice A 128 c)
 (h:K (a.put o.dst (.pointer A)) w):if Region.wanted o (yielded ops a.tmps)=true then Oper.wp Tryz.prog o a w K Q else E:=by
 rw[if_pos (by simp[Region.wanted,I])]
 unfold Oper.wp execOp
 simp[J,U,Instr.arrayAt,run_underlying Tryz.underlying141,Result.andThen]
 exact h
theorem C2D(Y:o.guard=none)(m x v:Operand)(ho:o.op=Op.mapUpdate 138 m x v)(b N i:Nat)(A:Nat->Option (List Nat))(l:List Nat)(X:Mp w b N A)(Z:a.eval m= .map (some b))(hx:a.eval x= .int .i64 (i:Int))(hv:a.eval v= .agg (l.map u8).toArray)(hi:i<N)(hN:N<=4096)
 (hK:∀w',Mp w' b N (Q9 A i l)->w.grownBy w' (some b)->K (a.put o.dst undef) w'):if Region.wanted o (yielded ops a.tmps)=true then Oper.wp Tryz.prog o a w K Q else E:=by
 rw[if_pos (by simp[Region.wanted,Y])]
 obtain⟨D,h,d⟩:=X
 obtain⟨w',aA,r1,r2⟩:=h.update N7 Tryz.underlying138 (by have:=A6L A N;unfold maxLen;omega) (A37 (i:=i) (by omega)) (A1H l)
 unfold Oper.wp
 simp[execOp,ho,Z,hx,hv,aA,Result.andThen]
 refine hK w' ⟨_,?_,d.put hi⟩ r2
 obtain⟨U,c,V,W,h3,J⟩:=r1
 refine⟨U,c,V,W,?_,J⟩
 have I:=(d.put (l:=l) hi).size
 rw[J]at I
 rw[<-I]
 simp[Maps.size,length_sorted]
end
def putA(A:Nat->Option (List Nat))(ps:List Pt):Nat->Option (List Nat):=ps.foldl (λA p=>Q9 A p.a.toNat p.d) A
theorem B6j(A:Nat->Option (List Nat))(ps:List Pt){k:Nat}(h:k<ps.length):putA A (ps.take (k+1))=Q9 (putA A (ps.take k)) ps[k].a.toNat ps[k].d:=by
 unfold putA
 rw[List.take_succ_eq_append_getElem h,List.foldl_append]
 rfl
def LS.putAll(g:LS)(ps:List Pt)(m:Nat):LS:={ g with next:=g.next+m,A:=putA g.A ps }
def TkL(w:World)(l b d n N:Nat)(g:LS)(ps:List Pt)(t:Value)(wr:World):Prop:=∃k:Nat,k<=ps.length/\t= .int .i64 (k:Int)/\Lg wr l b d n N { g with A:=putA g.A (ps.take k) }/\B0 (LF l b) w (LF l b) wr
theorem Lg.setNext{w:World}{l b d n N:Nat}{g:LS}(h:Lg w l b d n N g)(m:Nat):Lg (w.setCell ⟨l,5,none⟩ (.int .u64 (m:Int))) l b d n N { g with next:=m }:=
 ⟨h.blk.set_ 5 _,h.mp.keep (Below.heap_setCell w _ _ b (λe=>h.ne e.symm))⟩
theorem A38{w:World}{l z:Nat}{m u v:Value}{t:TypeId}(J:w.cell? ⟨l,7,none⟩=some m)(I:C3 w z t #[u,v]):w.cell? ⟨l,7,none⟩=some m/\w.cell? ⟨z,0,none⟩=some u/\w.cell? ⟨z,1,none⟩=some v:=⟨J,I.cell 0,I.cell 1⟩
theorem B0Z(l b d n N m:Nat)(g:LS)(A0:Option Addr)(M k0:Nat)(ps:List Pt)(w:World)(h:Lg w l b d n N g)(hq:QRd w (LF l b) (.slice A0 M k0) ps)(ht:A0h ps ((N-2-n:Nat):Int))(hN:N<=4096)(hm:g.next+m<18446744073709551616):
 Calls Tryz.prog 127 #[.pointer (some ⟨l,0,none⟩),.slice A0 M k0,.int .i64 (m:Int)] w λe w'=>e= .returned (.tuple #[])/\Lg w' l b d n N (g.putAll ps m)/\B0 (LF l b) w (LF l b) w':=by
 have hM:=hq.len.1
 have bJ:M<=24:=by have:=ht.1.2;omega
 have bQ:(M:Int)<=24:=by omega
 have HQ:=C6x hq
 have HM:=C6x hM
 have HT:=C6x ht
 have HN:=C6x hN
 have HL:=C6x h
 have aN:=C6x hm
 clear h hq ht hN hm hM bJ
 go_enter Tryz.func127,Tryz.ntmps127
 go_wp2_with fail
 go_loopw [10] (TkL w l b d n N g ps) (λt _=>M-(intOf t).toNat)
 case atStart=>exact⟨0,Nat.zero_le _,rfl,HL.out,B0.refl _ _⟩
 case round=>
  obtain⟨k,hk,rfl,I,Y⟩:=hrel
  by_cases Z:k<M
  ·have bR:(k:Int)<(M:Int):=by omega
   have J:k<ps.length:=by rw[<-HM.out];exact Z
   obtain⟨b1,o,a,q,rfl,bK,⟨c0,c1⟩,hr,aG⟩:=(HQ.out.adv Y (λ_ x=>x) (λ_ x=>.inl x)).row J
   have aM:=HT.out.row _ (List.getElem_mem J)
   have aF:=B6j g.A ps J
   obtain⟨p,hp⟩:∃p,p=ps[k]:=⟨_,rfl⟩
   rw[<-hp]at c0 c1 hr aG aM aF
   clear hp
   obtain⟨pa,pd⟩:=p
   simp only at c0 c1 hr aG aM aF
   obtain⟨⟨aS,bO⟩,aJ⟩:=aM
   obtain⟨x,rfl⟩:=Int.eq_ofNat_of_zero_le aS
   rw[aJ]at c1 hr aG
   have aL:putA g.A (ps.take (k+1))=Q9 (putA g.A (ps.take k)) x pd:=aF
   obtain⟨A',aP⟩:∃A',A'=putA g.A (ps.take k):=⟨_,rfl⟩
   rw[<-aP]at I aL
   obtain⟨V,W⟩:∃V,V=wr.alloc (.cells #[.int .i64 (x:Int),.slice a 128 q] 239):=⟨_,rfl⟩
   obtain⟨z,hz⟩:∃z,z=wr.heap.size:=⟨_,rfl⟩
   have aD:B0 B5 wr B5 V:=by rw[W];exact(B0.refl _ _).alloc _
   have aA:=I.far aD (λ_ x _=>x)
   have aH:C3 V z 239 #[.int .i64 (x:Int),.slice a 128 q]:=by rw[W,hz];exact C3.new _ _ _
   have aT:=hr.far (λ_ _ _ h=>aD.block _ h (λh=>h)) aD.size
   obtain⟨b2,o2,rfl,bM,aR⟩:=aT.cells (by decide) (by decide)
   have aU:z≠b:=by rw[hz];have:=I.mp.lt;omega
   have U:=C6x (A38 aA.cells.2.2.2.2.2.2.2.1 aH)
   have aC:=C6x (A38 (w:=V.drew) aA.cells.2.2.2.2.2.2.2.1 aH)
   have bH:=C6x (show V.drew.rangeAt b2 o2 (pd.map u8)from aR)
   have bD:=C6x (show Mp V.drew b (N-2-n) A' from aA.mp)
   have aI:=C6x aA
   have aO:=C6x aH
   have bI:=C6x aU
   have aX:=C6x (show B0 (LF l b) w (LF l b) V by rw[W];exact Y.alloc _)
   have aY:=C6x aJ
   have HX:=C6x (show x<N-2-n by omega)
   have bF:=C6x (show N-2-n<=4096 by have:=HN.out;omega)
   have bG:=C6x aL
   have HV:=C6x W
   have HZ:=C6x hz
   have bC:=C6x Z
   have aZ:=C6x J
   clear Z hr aS bO aJ aF aL aP aD aA aH aT bM aR aU aG bK I Y W hz J hk
   go_upto_region 3 with(fail)
   rw[<-HV.out,<-HZ.out]
   clear c0 c1
   obtain⟨c7,z0,z1⟩:=U.out
   refine D6 (S:=(λw'=>w'.cell? ⟨l,7,none⟩=some (.map (some b))/\w'.cell? ⟨z,0,none⟩=some (.int .i64 (x:Int))/\w'.cell? ⟨z,1,none⟩=some (.slice (some ⟨b2,o2,none⟩) 128 q))) (by with_reducible first|exact aB.out|exact aC.out|exact U.out) (λhH=>?_)
   refine C64 0 rfl ?_
   refine C64 1 rfl ?_
   refine C64 2 rfl ?_
   refine C64 3 rfl ?_
   refine C64 4 rfl ?_
   refine C64 5 rfl ?_
   refine C64 6 rfl ?_
   refine C64 7 rfl ?_
   refine C6z 8 rfl (λK hK=>?_)
   refine B3e rfl _ rfl (some ⟨b2,o2,none⟩) q rfl ?_
   refine C60 hK (by with_reducible first|exact aB.out|exact aC.out|exact U.out) ?_
   clear hK K hH
   intro hH
   try simp only[Act.put,sA,sB,sC]
   refine C6z 9 rfl (λK hK=>?_)
   refine B0Y rfl _ rfl b2 o2 pd aY.out bH.out rfl ?_
   refine C60 hK (by with_reducible first|exact aB.out|exact aC.out|exact U.out) ?_
   clear hK K hH
   intro hH
   try simp only[Act.put,sA,sB,sC]
   refine C6z 10 rfl (λK hK=>?_)
   refine C2D rfl _ _ _ rfl b (N-2-n) x A' pd bD.out rfl rfl rfl HX.out bF.out ?_
   intro w6 aQ aE
   have aK:Lg w6 l b d n N { g with A:=Q9 A' x pd }:=⟨aI.out.blk.keep (aE.block l aI.out.blk.lt (λe=>aI.out.ne (Option.some.inj e))),aQ⟩
   have aB:=C6x (A38 aK.cells.2.2.2.2.2.2.2.1 (aO.out.keep (aE.block z aO.out.lt (λe=>bI.out (Option.some.inj e)))))
   have bA:=C6x aK
   have aV:=C6x (aX.out.drew.grown aE (λk e=>.inl (.inr (Option.some.inj e).symm)))
   clear aQ aE aK
   refine C60 hK (by with_reducible first|exact aB.out|exact aC.out|exact U.out) ?_
   clear hK K hH
   intro hH
   try simp only[Act.put]
   refine wpAnyH_done (by kernel_rfl) ?_ _
   go_wp2_with fail
   have Z:=bC.out
   have J:=aZ.out
   exact⟨⟨k+1,by omega,by go_num,by rw[bG.out];exact bA.out,aV.out⟩,by simp[intOf]<;>omega⟩
  ·obtain rfl:k=M:=by have:=HM.out;omega
   have e1:ps.take k=ps:=by rw[HM.out,List.take_length]
   rw[e1]at I
   have c5:=I.cells.2.2.2.2.2.1
   have hf:=I.blk.frozen 5
   obtain⟨X,hX⟩:∃X,X=g.next:=⟨_,rfl⟩
   have bP:wr.cell? ⟨l,5,none⟩=some (.int .u64 (X:Int)):=by rw[hX];exact c5
   have bS:IntKind.u64.wrap (m:Int)=(m:Int):=A3k (by have:=aN.out;omega)
   have bT:IntKind.u64.wrap ((X:Int)+(m:Int))=(X:Int)+(m:Int):=by
    have:=A3k (x:=X+m) (by rw[hX];exact aN.out)
    rw[Int.natCast_add]at this
    exact this
   have bB:=C6x (show Lg (wr.setCell ⟨l,5,none⟩ (.int .u64 ((X:Int)+(m:Int)))) l b d n N (g.putAll ps m)by
    have:=I.setNext (g.next+m)
    rw[Int.natCast_add]at this
    rw[hX]
    exact this)
   have aW:=C6x (Y.setCell (p:=⟨l,5,none⟩) (.inl (.inl rfl)) (.int .u64 ((X:Int)+(m:Int))))
   clear hk Z I Y c5 e1 hX
   go_wp2_with fail
   go_end0
   exact⟨rfl,bB.out,aW.out⟩
end
section
open Go.RowKit Go.Maps
theorem B3f{w:World}{z:Nat}{t:TypeId}{u0 u1 u2 u3 u4:Value}(h:C3 w z t #[u0,u1,u2,u3,u4]):w.cell? ⟨z,0,none⟩=some u0/\w.cell? ⟨z,1,none⟩=some u1/\w.cell? ⟨z,2,none⟩=some u2/\w.cell? ⟨z,3,none⟩=some u3/\w.cell? ⟨z,4,none⟩=some u4:=⟨h.cell 0,h.cell 1,h.cell 2,h.cell 3,h.cell 4⟩
def C4n(w:World)(F:Nat->Prop)(d N:Nat)(r:DS×Int)(e:Ending)(w':World):Prop:=e= .returned (.int .i64 r.2)/\∃F',Dk w' F' d N r.1/\B0 F w F' w'
theorem C0A(l b d n N:Nat)(g:LS)(F:Nat->Prop)(s:DS)(p:Pc)(A:Option Addr)(k:Nat)(w:World)(h:Lg w l b d n N g)(hd:Dk w F d N s)(aS:Sep F (LF l b))(aM:p.ok)(hr:Rd w 1 (.slice A p.d.length k) p.d.length (p.d.map u8))(h8:∀x∈p.d,x<256)(hq:s.Q.length<=1000000)(hn:1<=n/\n<=100000):
 Calls Tryz.prog 188 #[.pointer (some ⟨l,0,none⟩),.agg #[.int .u64 (p.e:Int),.int .u64 (p.c:Int),.bool p.f,.bool p.g,.slice A p.d.length k]] w (C4n w F d N (L3 s ((2+p.c%n:Nat):Int) (E8 p))):=by
 obtain⟨V,hV⟩:∃V,V=w.alloc (.cells #[.int .u64 (p.e:Int),.int .u64 (p.c:Int),.bool p.f,.bool p.g,.slice A p.d.length k] 201):=⟨_,rfl⟩
 obtain⟨z,hz⟩:∃z,z=w.heap.size:=⟨_,rfl⟩
 have Y:B0 B5 w B5 V:=by rw[hV];exact(B0.refl _ _).alloc _
 have aT:C3 V z 201 #[.int .u64 (p.e:Int),.int .u64 (p.c:Int),.bool p.f,.bool p.g,.slice A p.d.length k]:=by rw[hV,hz];exact C3.new _ _ _
 have aK:=C6x (B0C p (.slice A p.d.length k) V (hr.far (λ_ _ _ h=>Y.block _ h (λh=>h)) Y.size) h8)
 have aZ:=C6x (h.far Y (λ_ x _=>x))
 have aH:=C6x (hd.far Y (λ_ x _=>x))
 have J:=C6x aT
 have aW:=C6x Y
 have bC:=C6x aS
 have aI:=C6x aM
 have HQ:=C6x hq
 have HN:=C6x hn
 have HV:=C6x hV
 have HZ:=C6x hz
 have aU:¬F z:=λx=>by have:=hd.bd z x;omega
 have bD:=C6x aU
 obtain⟨R,hR⟩:∃R,R=L3 s ((2+p.c%n:Nat):Int) (E8 p):=⟨_,rfl⟩
 rw[<-hR]
 have HR:=C6x hR
 obtain⟨⟨e,c,f,gg,D⟩,U⟩:∃q,q=p:=⟨_,rfl⟩
 have HP:=C6x U
 obtain⟨m,hm⟩:∃m,m=D.length:=⟨_,rfl⟩
 have aR:p.d.length=m:=by rw[<-U,hm]
 have aN:p.e=e:=by rw[<-U]
 have aG:p.c=c:=by rw[<-U]
 have aO:p.f=f:=by rw[<-U]
 have aP:p.g=gg:=by rw[<-U]
 rw[aR,aN,aG,aO,aP]at aK J HV⊢
 rw[aG]at HR
 have bA:=C6x (show R=L3 s ((2+c%n:Nat):Int) (E8 p)from HR.out)
 obtain⟨z0,z1,z2,z3,z4⟩:=B3f J.out
 clear h hd aS aM hr h8 hq hn hV hz Y aT aU hR U hm aR aN aG aO aP HR
 go_enter Tryz.func188,Tryz.ntmps188
 go_upto_region 1 with(fail)
 rw[<-HV.out,<-HZ.out]
 go_wp2_with fail
 refine aK.out.mono ?_
 intro x I h1
 obtain⟨A1,m1,k1,F1,rfl,X,p1, -⟩:=h1
 obtain⟨rfl,hs⟩:=p1 aI.out
 have he:A5w p=0:=by rw[A5w,if_pos aI.out]
 rw[he]
 have aB:=X.sub (G:=B5) (λ_ x=>x.elim)
 have aA:=C6x (aZ.out.far aB (λ_ x _=>x))
 have aL:=aH.out.far aB (λ_ x _=>x)
 have aV:=C6x (aW.out.trans aB)
 have HC:=C6x (show I.cell? ⟨l,0,none⟩=some (.pointer (some ⟨d,0,none⟩))/\I.cell? ⟨z,1,none⟩=some (.int .u64 (c:Int))from⟨aA.out.cells.1,(J.out.keep (X.block z J.out.lt (λx=>x))).cell 1⟩)
 have aD:=C6x (show I.drew.cell? ⟨l,0,none⟩=some (.pointer (some ⟨d,0,none⟩))/\I.drew.cell? ⟨z,1,none⟩=some (.int .u64 (c:Int))from HC.out)
 have aJ:=C6x (A83 (w:=I.drew) c (show Lg I.drew l b d n N g from⟨aA.out.blk,aA.out.mp⟩) HN.out)
 have aE:=C6x (show Calls Tryz.prog 209 #[.pointer (some ⟨d,0,none⟩),.int .i64 ((2+c%n:Nat):Int),.slice A1 128 k1] I.drew λe w'=>e= .returned (.int .i64 R.2)/\∃F',Dk w' F' d N R.1/\B0 F I.drew F' w' by
  rw[bA.out]
  exact A6K d N 128 _ _ F s (E8 p) I.drew (aL.far ((B0.refl B5 I).drew) (λ_ x _=>x)) hs.drew.rd (λj Z hf=>by
   rcases X.into j (hs.inF j Z)with h|h
   ·exact h
   ·have:=aH.out.bd j hf;omega) HQ.out)
 have aX:=C6x (show∀(F':Nat->Prop) (w':World),B0 F I.drew F' w'->w'.cell? ⟨l,0,none⟩=some (.pointer (some ⟨d,0,none⟩))/\w'.cell? ⟨z,1,none⟩=some (.int .u64 (c:Int))fromλF' w' a=>by
  have hb:∀j,j<I.heap.size->¬F j->w'.heap[j]? =I.heap[j]? :=a.block
  exact⟨(aA.out.blk.keep (hb l aA.out.blk.lt (λx=>bC.out l x (.inl rfl)))).cell 0,(((J.out.keep (X.block z J.out.lt (λx=>x))).keep (hb z (Nat.lt_of_lt_of_le J.out.lt X.size) bD.out))).cell 1⟩)
 obtain⟨RE,aF⟩:∃E,E=R.2:=⟨_,rfl⟩
 rw[<-aF]at aE
 have bB:=C6x aF
 obtain⟨pl,aQ⟩:∃x,x=2+c%n:=⟨_,rfl⟩
 rw[<-aQ]at aJ aE
 clear X aB hs p1 aL he aF aQ z0 z1 z2 z3 z4
 obtain⟨c0,z1⟩:=HC.out
 go_wp2_with fail
 refine D6 (S:=(λw'=>w'.cell? ⟨l,0,none⟩=some (.pointer (some ⟨d,0,none⟩))/\w'.cell? ⟨z,1,none⟩=some (.int .u64 (c:Int)))) (by with_reducible first|exact aC.out|exact aD.out|exact HC.out) (λhH=>?_)
 refine C62 0 rfl ?_
 refine C62 1 rfl ?_
 refine C62 2 rfl ?_
 refine C62 3 rfl ?_
 refine C62 4 rfl ?_
 refine C62 5 rfl ?_
 refine C62 6 rfl ?_
 refine C62 8 rfl ?_
 refine C6z 7 rfl (λK hK=>?_)
 go_simp
 refine aJ.out.mono ?_
 rintro x w2 ⟨rfl,rfl⟩
 go_wp2_with fail
 refine C60 hK (by with_reducible first|exact aC.out|exact aD.out|exact HC.out) ?_
 clear hK K hH
 intro hH
 try simp only[Act.put,sA,sB,sC]
 refine C6z 9 rfl (λK hK=>?_)
 go_simp
 refine aE.out.mono ?_
 rintro x w9 ⟨rfl,F9,k9,a9⟩
 have aC:=C6x (aX.out F9 w9 a9)
 have aY:=C6x k9
 have W:=C6x a9
 clear k9 a9
 go_wp2_with fail
 refine C60 hK (by with_reducible first|exact aC.out|exact aD.out|exact HC.out) ?_
 clear hK K hH
 intro hH
 try simp only[Act.put,sA,sB,sC]
 refine C62 10 rfl ?_
 refine wpAnyH_done (by kernel_rfl) ?_ _
 go_wp2_with fail
 go_ret
 refine⟨by rw[bB.out];rfl,F9,aY.out,?_⟩
 have:=aV.out
 exact⟨W.out.os.trans this.os,W.out.tape.trans this.tape,W.out.output.trans this.output,Nat.le_trans this.size W.out.size,λj Z hn=>(W.out.block j (Nat.lt_of_lt_of_le Z this.size) hn).trans (this.block j Z (λx=>x)),λj Z=>(W.out.into j Z).imp id (λh=>Nat.le_trans this.size h)⟩
end
end Go.Proofs.YtbefmjiclpobjaaGreat
