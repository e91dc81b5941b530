import Derived.Test.YtbefmjiclpobjaaGreatMh29
import Derived.Test.YtbefmjiclpobjaaGreatMh32
import Derived.Test.YtbefmjiclpobjaaGreatMh26
import Derived.Test.YtbefmjiclpobjaaGreatMh27
import Derived.Test.YtbefmjiclpobjaaGreatMh15
import Derived.Deep.Slices
import Derived.Deep.Fields
import Derived.ChangeArms
import Derived.OpenShut
namespace Go.Proofs.YtbefmjiclpobjaaGreat
set_option maxHeartbeats 25600000
set_option maxRecDepth 30000
section
open Go.RowKit Go.Maps
def B4E(n:Int)(N:Nat):Prop:=20<=n/\n+48<=(N:Int)/\(N:Int)<=n+1026
instance (n:Int) (N:Nat):Decidable (B4E n N):=inferInstanceAs (Decidable (20<=n/\n+48<=(N:Int)/\(N:Int)<=n+1026))
def C27(W:World)(n:Int)(N:Nat)(t11 t12:Value)(wr:World):Prop:=∃p e,t11= .pointer p/\t12= .int .i64 e/\((B4E n N/\(∃a,p=some a)/\e=0)\/(¬B4E n N/\p=none/\e=2))/\A8 B0 W B0 wr
theorem A8z{ops:Array Oper}{rest:List Oper}{o:Oper}{a:Act}{w:World}{Q:Exit->Act->World->Prop}(I:o.guard=none)(J:o.op= .build 74 #[])
 (h:wpList Tryz.prog ops Q rest (a.put o.dst (.agg #[.string ⟨#[]⟩,.int .i64 0,.int .i64 0,.int .i64 0])) w):wpList Tryz.prog ops Q (o::rest) a w:=S7 I J h
section
variable {ops:Array Oper} {rest:List Oper} {o:Oper} {a:Act} {w:World} {Q:Exit->Act->World->Prop}
theorem A6g(I:Region.wanted o (yielded ops a.tmps)=true)(h:wpList Tryz.prog ops Q ({ o with guard:=none }::rest) a w):wpList Tryz.prog ops Q (o::rest) a w:=by
 unfold wpList at h⊢
 rw[if_pos I]
 have e:Region.wanted { o with guard:=none } (yielded ops a.tmps)=true:=rfl
 rw[if_pos e]at h
 exact h
theorem A80{t t':TypeId}{C:Array Value}{s:Nat}{d:TypeDesc}(x:Operand)(V:o.op= .load t x)(z:Nat)(I:C0 w z t' C)(Z:a.eval x= .pointer (some ⟨z,0,none⟩))
 (X:Tryz.prog.underlying t=some d) (U:d.isRow=true) (W:(Tryz.prog.info? t).map (·.size)=some s) (J:C.size=s) (Y:Region.wanted o (yielded ops a.tmps)=true)
 (h:wpList Tryz.prog ops Q rest (a.put o.dst (.agg C)) w):wpList Tryz.prog ops Q (o::rest) a w:=A6g Y (C3 rfl x V z I Z X U W J h)
theorem B0r(I:o.op= .build 70 #[])(J:Region.wanted o (yielded ops a.tmps)=true)(h:wpList Tryz.prog ops Q rest (a.put o.dst (.agg #[.int .i64 0,.int .u64 0,.int .i64 0])) w):wpList Tryz.prog ops Q (o::rest) a w:=A6g J (A3n rfl I h)
theorem B0s(I:o.op= .build 35 #[])(J:Region.wanted o (yielded ops a.tmps)=true)(h:wpList Tryz.prog ops Q rest (a.put o.dst (.agg #[.int .i64 0,.int .i64 0])) w):wpList Tryz.prog ops Q (o::rest) a w:=A6g J (J9 rfl I h)
end
theorem B0t:Tryz.prog.built 88 []=some #[.pointer none,.map none]:=by kernel_rfl
theorem A81{ops:Array Oper}{rest:List Oper}{o:Oper}{a:Act}{w:World}{Q:Exit->Act->World->Prop}(I:o.guard=none)(J:o.op= .build 88 #[])
 (h:wpList Tryz.prog ops Q rest (a.put o.dst (.agg #[.pointer none,.map none])) w):wpList Tryz.prog ops Q (o::rest) a w:=by
 refine wpList_build I 88 #[] J (by simp[B0t]) ?_
 simpa[B0t]using h
structure OpS (W w:World) (v:Value) (z6:Nat) (i g:Int) (L:List (Nat×TypeId×Array Value)):Prop where
 no:NoS w v
 bz:C0 w z6 35 #[.int .i64 i,.int .i64 g]
 adv:A8 B0 W B0 w
 bl:∀p∈L,C0 w p.1 p.2.1 p.2.2
theorem OpS.step{W w w':World}{v:Value}{I:Nat}{i g:Int}{L:List (Nat×TypeId×Array Value)}(h:OpS W w v I i g L)(a:A8 B0 w B0 w'):OpS W w' v I i g L:=⟨h.no.step a,h.bz.over a,h.adv.trans a,λp J=>(h.bl p J).over a⟩
theorem OpS.put{W w:World}{v:Value}{J:Nat}{i g:Int}{L:List (Nat×TypeId×Array Value)}(h:OpS W w v J i g L){z:Nat}{t:TypeId}{cs:Array Value}(U:C0 w z t cs):OpS W w v J i g ((z,t,cs)::L):=⟨h.no,h.bz,h.adv,λp I=>by
 rcases List.mem_cons.1 I with rfl|I
 ·exact U
 ·exact h.bl p I⟩
theorem OpS.b{W w:World}{v:Value}{J:Nat}{i g:Int}{L:List (Nat×TypeId×Array Value)}(h:OpS W w v J i g L)(k:Nat){z:Nat}{t:TypeId}{cs:Array Value}(I:L[k]? =some (z,t,cs)):C0 w z t cs:=h.bl (z,t,cs) (List.mem_of_getElem? I)
def C28(W:World)(t16:Value)(wr:World):Prop:=∃k:Nat,t16= .int .i64 (k:Int)/\k<=2/\A8 B0 W B0 wr
theorem B1L(w:World)(sz n:Int)(hr: -9223372036854775808<=n/\n<9223372036854775808)(i g:Int)(s:ByteArray)(hs:s.size<=maxLen):Calls Tryz.prog 7 #[.int .i64 sz,.int .i64 n,.agg #[.int .i64 i,.int .i64 g],.string s] w λe w'=>e= .returned (.bool true)/\Below w.heap.size w w':=by
 have HR:=C3t hr
 have aL:=C3t (λV=>B00 sz 1 1100 V (by decide))
 have aF:=C3t (λV=>show Calls Tryz.prog 30 #[.string s,.int .i64 20] V λe w'=>e= .returned (.string (if 20<s.size then s.extract 0 20 else s))/\V=w' from B4i s 20 V (by decide) hs)
 obtain⟨s',aQ⟩:∃s',s'=(if 20<s.size then s.extract 0 20 else s):=⟨_,rfl⟩
 rw[<-aQ]at aF
 clear hs aQ hr
 go_enter Tryz.func7,Tryz.ntmps7
 go_upto_region 3 with(first
  |(refine C4 (t:=35) rfl _ rfl rfl ?_;intro z6 w0 X U I;have bD:=C3t X;have aU:=C3t U;have aT:=C3t I;clear X U I)
  |(go_at_call 8;refine(aL.out _).mono ?_;rintro e w1 ⟨y,rfl,y1,y2,y3,rfl⟩;obtain⟨N,rfl⟩:=Int.eq_ofNat_of_zero_le (show(0:Int)<=y by omega);have Z:=C3t (show 1<=N/\N<=1100 by omega);clear y1 y2 y3)
  |(go_at_call 30;refine(aF.out _).mono ?_;rintro e w1 ⟨rfl,rfl⟩)
  |(go_at_call 10;refine(B9u N Z.out.1 (by have:=Z.out.2;omega) _).mono ?_;rintro e w3 ⟨d,F,rfl,hd,I⟩;have aE:=C3t hd;have aC:=C3t I;clear hd I)
  |fail)
 clear aL aF
 go_cut [11,12] (λt11 t12 w9=>C27 w0 n N t11 t12 w9)
 case first=>
  by_cases U:B4E n N
  ·obtain⟨k,rfl⟩:∃k:Nat,n=(k:Int):=⟨n.toNat,by have:=U.1;omega⟩
   have HO:=C3t (Hs.open_ w0 d k N (by have:=Z.out;unfold B4E at U;omega) aE.out aC.out)
   have aD:=C3t U
   clear U
   go_wp2_with (first
    |(go_at_call 11;refine HO.out.mono ?_;rintro e w4 ⟨o,rfl,hs⟩;have aA:=C3t hs.adv;clear hs)
    |fail)
   go_meet
   exact⟨_,_,rfl,rfl,.inl ⟨aD.out,⟨_,rfl⟩,rfl⟩,aA.out⟩
  ·have HO:=C3t (B7r n aE.out Z.out HR.out U)
   have aD:=C3t U
   clear U
   go_wp2_with (first
    |(go_at_call 11;refine HO.out.mono ?_;rintro e w4 ⟨rfl,I⟩;have aA:=C3t ((aC.out.sub (G:=B0) (λ_ x=>x.elim)).trans I);clear I)
    |fail)
   go_meet
   exact⟨_,_,rfl,rfl,.inr ⟨aD.out,rfl,rfl⟩,aA.out⟩
 case rest=>
 obtain⟨p,bF,rfl,rfl,aP,aM⟩:=hcut
 have aB:=C3t aP
 have aA:=C3t aM
 clear aP aM aE aC
 go_upto_region 4 with(fail)
 obtain⟨B,hB⟩:∃B,B=decide (B4E n N):=⟨_,rfl⟩
 have W:=C3t hB
 clear hB
 go_cut [13] (λt13 w9=>t13= .bool B/\wc=w9)
 case first=>
  have q1:IntKind.i64.wrap ((N:Int)-48)=(N:Int)-48:=by have:=Z.out;rw[IntKind.wrap_i64];omega
  by_cases h1:20<=n
  ·have q2:IntKind.i64.wrap ((N:Int)-n)=(N:Int)-n:=by have:=Z.out;have:=HR.out;rw[IntKind.wrap_i64];omega
   have q3:IntKind.i64.wrap ((N:Int)-n-2)=(N:Int)-n-2:=by have:=Z.out;have:=HR.out;rw[IntKind.wrap_i64];omega
   by_cases h2:n<=(N:Int)-48
   ·by_cases h3:(N:Int)-n-2<=1024
    ·have Y:=C3t (show B=true by rw[W.out];exact decide_eq_true ⟨h1,by omega,by omega⟩)
     as_aux_lemma=>
      go_wp2_with fail
      go_meet
      exact⟨by first|(rw[Y.out];done)|(rw[Y.out];simp;omega),rfl⟩
    ·have Y:=C3t (show B=false by rw[W.out];exact decide_eq_false (λh=>h3 (by have:=h.2.2;omega)))
     as_aux_lemma=>
      go_wp2_with fail
      go_meet
      exact⟨by first|(rw[Y.out];done)|(rw[Y.out];simp;omega),rfl⟩
   ·have Y:=C3t (show B=false by rw[W.out];exact decide_eq_false (λh=>h2 (by have:=h.2.1;omega)))
    as_aux_lemma=>
     go_wp2_with fail
     go_meet
     exact⟨by first|(rw[Y.out];done)|(rw[Y.out];simp;omega),rfl⟩
  ·have Y:=C3t (show B=false by rw[W.out];exact decide_eq_false (λh=>h1 h.1))
   as_aux_lemma=>
    go_wp2_with fail
    go_meet
    exact⟨by first|(rw[Y.out];done)|(rw[Y.out];simp;omega),rfl⟩
 case rest=>
 obtain⟨rfl,rfl⟩:=hcut
 go_upto_region 5 with(fail)
 go_cut [82] (λt82 w9=>t82= .bool false/\wc=w9)
 case first=>
  rcases aB.out with⟨c1,⟨a,rfl⟩,rfl⟩|⟨c1,rfl,rfl⟩
  ·obtain rfl:B=true:=by rw[W.out];exact decide_eq_true c1
   clear aB W c1
   as_aux_lemma=>
    go_wp2_with fail
    go_meet
    exact⟨rfl,rfl⟩
  ·obtain rfl:B=false:=by rw[W.out];exact decide_eq_false c1
   clear aB W c1
   as_aux_lemma=>
    go_wp2_with fail
    go_meet
    exact⟨rfl,rfl⟩
 case rest=>
 obtain⟨rfl,rfl⟩:=hcut
 clear aB W Z HR
 go_wp2_with (first
  |(go_at_call 11;refine(B7s n _).mono ?_;rintro e w5 ⟨rfl,I⟩;have aJ:=C3t (aA.out.trans I);clear I aA)
  |fail)
 go_loopw [16] (C28 w0) (λt _=>2-(intOf t).toNat)
 case atStart=>exact⟨0,rfl,by omega,aJ.out⟩
 case round=>
  obtain⟨k,rfl,hk,I⟩:=hrel
  have HA:=C3t I
  clear I aJ
  by_cases aN:k<2
  ·have aK:=C3t (aU.out.over HA.out)
   have bG:(k:Int)<2:=by omega
   have HK:=C3t aN
   go_upto_if 99 with(fail)
   go_cut [16,17]from 94 to 249 (λt16 t17 w9=>t16= .int .i64 (k:Int)/\NoS w9 t17/\A8 B0 wr B0 w9)
   case first=>
    by_cases aH:k=1
    ·have bC:((k:Int)==1)=true:=by rw[beq_iff_eq];omega
     have aY:=C3t aH
     clear aH
     go_wp2_with (first
      |(refine A81 rfl rfl ?_)
      |(refine C4 (t:=88) rfl _ rfl rfl ?_;intro z w4 X U I;have bB:=C3t U;have bA:=C3t I;clear X U I)
      |fail)
     go_meet
     exact⟨by rw[aY.out]<;>rfl,NoS.zero bB.out rfl,bA.out⟩
    ·have bC:((k:Int)==1)=false:=by rw[beq_eq_false_iff_ne];omega
     clear aH
     as_aux_lemma=>
      go_wp2_with fail
      go_meet
      exact⟨rfl,NoS.nil _,A8.refl _ _⟩
   case rest=>
   obtain⟨rfl,aO,aG⟩:=hcut
   have J:=C3t (show OpS wr wc u17 z6 i g []from⟨aO,aK.out.over aG,aG,λp hp=>by simp at hp⟩)
   clear aO aG aK
   as_aux_lemma=>
    go_upto_region 24 with(first
     |(refine C3 (t:=35) rfl _ rfl z6 J.out.bz rfl Tryz.underlying35 rfl B1 rfl ?_)
     |(go_at_call 31;refine(B15 J.out.no _ _ _).mono ?_;rintro e _ ⟨rfl,I⟩;replace J:=C3t (J.out.step I);clear I)
     |(refine B6 rfl rfl L5 ?_;intro aI wa X U I;have HZ:=C3t X;have W:=C3t U;have HX:=C3t I;clear X U I)
     |(refine B5 (t:=74) rfl _ _ rfl aI W.out rfl rfl D9 (G9 _) (G9 _) (U0 _) ?_;intro wb U I;replace J:=C3t ((J.out.step (HX.out.fresh HZ.out I)).put U);clear U I HZ W HX)
     |(go_at_call 27;refine(B6V J.out.no _ _).mono ?_;rintro e _ ⟨rfl,I⟩;replace J:=C3t (J.out.step I);clear I)
     |(go_at_call 28;refine(B6W J.out.no _ _).mono ?_;rintro e _ ⟨rfl,I⟩;replace J:=C3t (J.out.step I);clear I)
     |(refine B6 rfl rfl B0a ?_;intro aR wa X U I;have HZ:=C3t X;have W:=C3t U;have HX:=C3t I;clear X U I)
     |(refine B5 (t:=70) rfl _ _ rfl aR W.out rfl rfl A3m rfl rfl (by simp[Value.oneCell']) ?_;intro wb U I;replace J:=C3t ((J.out.step (HX.out.fresh HZ.out I)).put U);clear U I HZ W HX)
     |(go_at_call 34;refine(B6X J.out.no _ _ _).mono ?_;rintro e _ ⟨rfl,I⟩;replace J:=C3t (J.out.step I);clear I)
     |(go_at_call 36;refine(B16 J.out.no _ _ _ _).mono ?_;rintro e _ ⟨rfl,I⟩;replace J:=C3t (J.out.step I);clear I)
     |(refine B6 rfl rfl J4 ?_;intro aS wa X U I;have HZ:=C3t X;have W:=C3t U;have HX:=C3t I;clear X U I)
     |(refine B5 (t:=35) rfl _ _ rfl aS W.out rfl rfl B1 rfl rfl (by simp[Value.oneCell']) ?_;intro wb U I;replace J:=C3t ((J.out.step (HX.out.fresh HZ.out I)).put U);clear U I HZ W HX)
     |(go_at_call 35;refine(B47 J.out.no _ _ _ _).mono ?_;rintro e _ ⟨rfl,I⟩;replace J:=C3t (J.out.step I);clear I)
     |(go_at_call 37;refine(B48 J.out.no _ _).mono ?_;rintro e _ ⟨rfl,I⟩;replace J:=C3t (J.out.step I);clear I)
     |(go_at_call 38;refine(B17 J.out.no).mono ?_;rintro e _ ⟨rfl,I⟩;replace J:=C3t (J.out.step I);have aV:=C3t (show C0 _ aI 74 #[.string ⟨#[]⟩,.int .i64 0,.int .i64 0,.int .i64 0]from J.out.b 2 rfl);have aW:=C3t (J.out.b 1 rfl);have aX:=C3t (J.out.b 0 rfl);clear I)
     |fail)
    refine wp_region_lit ?_
    show wpList _ _ _ (_::_::_::_::_::_::_::_::_::_::_::_::_::_::_::_::_::_::_::_::_::_::_::_::_::_::_::_::_::_::_::_::_::_::_::_::_::_::_::_::_::_::_::_::_::_::_::_::_::_::_::_::_::_::_::_::_::_::_::_::_::_::_::_::_::_::_::_::_::_::_::_::_::_::_::_::_::_::_::_::_::_::_::_::_::_::_::_::_::_::_::_::_::_::_::[]) _ _
    go_wp2_with (first
     |(refine A80 (t:=35) _ rfl z6 J.out.bz rfl Tryz.underlying35 rfl B1 rfl (by kernel_rfl) ?_)
     |(go_at_call 33;refine(B18 J.out.no _ _ _).mono ?_;rintro e _ ⟨rfl,I⟩;replace J:=C3t (J.out.step I);clear I)
     |(go_at_call 39;refine(B19 J.out.no _ _ _ _ _ _).mono ?_;rintro e _ ⟨rfl,I⟩;replace J:=C3t (J.out.step I);clear I)
     |(go_at_call 40;refine(B1A J.out.no).mono ?_;rintro e _ ⟨rfl,I⟩;replace J:=C3t (J.out.step I);clear I)
     |(refine C3 (t:=74) rfl _ rfl aI aV.out rfl Tryz.underlying74 rfl D9 rfl ?_)
     |(refine A80 (t:=70) _ rfl aR aW.out rfl Tryz.underlying70 rfl A3m rfl (by kernel_rfl) ?_)
     |(refine A80 (t:=35) _ rfl aS aX.out rfl Tryz.underlying35 rfl B1 rfl (by kernel_rfl) ?_)
     |(refine A8z rfl rfl ?_)
     |(refine B0r rfl (by kernel_rfl) ?_)
     |(refine B0s rfl (by kernel_rfl) ?_)
     |fail)
    exact⟨⟨k+1,by simp,HK.out,HA.out.trans J.out.adv⟩,by have:=HK.out;simp[intOf]<;>omega⟩
  ·obtain rfl:k=2:=by omega
   clear hk aN
   go_wp2_with (first
    |(go_at_call 17;refine(A8y _).mono ?_;rintro e wL ⟨rfl,I⟩;have aZ:=C3t (HA.out.trans I);clear I)
    |fail)
   go_ret
   exact⟨rfl,(aT.out.trans aZ.out).toBelow⟩
end
section
open Go.ChangeShapes Go.WideShapes Go.ChangeAt Go.RowKit Go.Deep
theorem B0u:Tryz.prog.cellsOf 35=2:=by kernel_rfl
theorem B1M:Tryz.prog.cellsOf 3=1:=by kernel_rfl
end
section
open Go.RowKit Go.Maps Go.ChangeShapes Go.WideShapes Go.ChangeAt
theorem B9n{H:Type}{enc:TypeId×Value->H}{W:World}{n:Nat}{cs:List Value}{x:DataW H×List MemPlace}(h:DataW.trod enc Tryz.prog W 0 (λ_=>true) true n 35 cs=some x):
 ∃i g:Int,cs=[.int .i64 i,.int .i64 g]:=by
 obtain⟨zs,Z,_,_,Y,aA,X⟩:=DataW.trod_struct Tryz.underlying35 h
 rw[B0u]at Y
 match cs,Y with
 |[c1,c2],_=>
  match zs,aA with
  |[z0,z1],_=>
   have I:=X 0 _ rfl
   have J:=X 1 _ rfl
   change DataW.trod enc Tryz.prog W 0 (λ_=>true) true Z 3 ((([c1,c2]:List Value).drop 0).take (Tryz.prog.cellsOf 3))=some z0 at I
   change DataW.trod enc Tryz.prog W 0 (λ_=>true) true Z 3 ((([c1,c2]:List Value).drop 1).take (Tryz.prog.cellsOf 3))=some z1 at J
   rw[B1M]at I J
   obtain⟨a1,U,_,_⟩:=DataW.trod_int Tryz.underlying3 I
   obtain⟨a2,V,_,_⟩:=DataW.trod_int Tryz.underlying3 J
   simp at U V
   subst U V
   exact⟨a1,a2,rfl⟩
theorem B4F{H:Type}{enc:TypeId×Value->H}{W:World}{I:Nat}{r:Reach}{v:Value}{d:DataW H}{p:List MemPlace}(hv:Value.okWide Tryz.prog W r I 35 v)(h:DataW.Trod enc Tryz.prog W 0 (λ_=>true) true 35 v d p):∃i g:Int,v= .agg #[.int .i64 i,.int .i64 g]:=by
 obtain⟨cs,rfl,_⟩:=okWide_struct Tryz.underlying35 hv
 obtain⟨X,V⟩:=h
 obtain⟨i,g,J⟩:=B9n V
 have U:cs.toList=[.int .i64 i,.int .i64 g]:=J
 exact⟨i,g,by rw[<-Array.toArray_toList (xs:=cs),U]⟩
theorem B7w(w:World)(I:Int)(_:(Lit.int .i64 I).wf=true)(n:Int)(J:(Lit.int .i64 n).wf=true)(v:Value)(hv:∃i g:Int,v= .agg #[.int .i64 i,.int .i64 g])(s:ByteArray)(U:s.size<=maxLen):
 Calls Tryz.prog 7 #[.int .i64 I,.int .i64 n,v,.string s] w λe w'=>e= .returned (.bool true)/\Below w.heap.size w w':=by
 obtain⟨i,g,rfl⟩:=hv
 exact B1L w I n (by have V:=bounds_i64 J;omega) i g s U
end
end Go.Proofs.YtbefmjiclpobjaaGreat
