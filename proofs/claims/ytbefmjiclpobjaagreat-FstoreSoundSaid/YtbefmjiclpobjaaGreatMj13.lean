import Derived.Test.YtbefmjiclpobjaaGreatMj00
import Derived.Test.YtbefmjiclpobjaaGreatMj12
import Derived.Laws.RangeAny
import Derived.Laws.DeepStrings4
import Derived.Test.YtbefmjiclpobjaaGreatMj11
import Derived.Deep.MidRow
namespace Go.Proofs.YtbefmjiclpobjaaGreat
set_option maxHeartbeats 3200000
set_option maxRecDepth 3000
section
open Go.ChangeShapes Go.WideShapes Go.ChangeAt Go.RowKit
def Nam(s:ByteArray):Prop:=A56 s.data.toList
instance (s:ByteArray):Decidable (Nam s):=by unfold Nam;infer_instance
theorem B1x(s:ByteArray)(i:Nat)(h:i<s.size):s.data.toList[i]? =some (s[i]'h):=by
 have:i<s.data.size:=h
 rw[Array.getElem?_toList,Array.getElem?_eq_getElem this]
 rfl
theorem C0U{s:ByteArray}(h:∀i (hi:i<s.size),okC (s[i]'hi)=true):∀c∈s.data.toList,okC c=true:=by
 intro c J
 obtain⟨i,hi,e⟩:=List.getElem_of_mem J
 have I:i<s.size:=by simpa using hi
 have:=B1x s i I
 rw[List.getElem?_eq_getElem hi]at this
 rw[<-e,Option.some.inj this]
 exact h i I
theorem C2T{s:ByteArray}(h:∀c∈s.data.toList,okC c=true)(i:Nat)(hi:i<s.size):okC (s[i]'hi)=true:=by
 refine h _ ?_
 have:=B1x s i hi
 exact List.mem_of_getElem? this
theorem B4H(s:ByteArray):Nam s↔0<s.size/\s.size<17/\(∀i (hi:i<s.size),okC (s[i]'hi)=true)/\s.toList≠[46]/\s.toList≠[46,46]:=by
 have X:s.data.toList.length=s.size:=Array.length_toList
 unfold Nam A56
 rw[X,Lib.toList_data]
 constructor
 ·rintro⟨I,J,h3,U,V⟩
  exact⟨I,J,C2T h3,U,V⟩
 ·rintro⟨I,J,h3,U,V⟩
  exact⟨I,J,C0U h3,U,V⟩
theorem C5n(s:ByteArray)(w:World)(hs:s.size<=maxLen):
 Calls Tryz.prog 109 #[.string s] w λe w'=>e= .returned (.bool (decide (Nam s)))/\w=w':=by
 unfold maxLen at hs
 obtain⟨b,hb⟩:∃b,b=decide (Nam s):=⟨_,rfl⟩
 rw[<-hb]
 have hN:=C6x (B4H s)
 have V:=C6x hb
 clear hb
 go_enter Tryz.func109,Tryz.ntmps109
 go_wp2
 go_loopw [3] (λt wr=>∃k:Nat,t= .int .i64 ((k:Nat):Int)/\k<=s.size/\(∀i (hi:i<s.size),i<k->okC (s[i]'hi)=true)/\wr=w) (λt _=>s.size-(intOf t).toNat)
 case atStart=>exact⟨0,rfl,Nat.zero_le _,λ_ _ h=>absurd h (by omega),rfl⟩
 case round=>
  obtain⟨k,rfl,hk,aA,rfl⟩:=hrel
  by_cases I:k<s.size
  ·have no:okC (s[k]'I)=false->b=false:=λh=>by
    rw[V.out]
    refine decide_eq_false λhn=>?_
    have:=(hN.out.1 hn).2.2.1 k I
    rw[h]at this;cases this
   have J:=C6x no
   clear no
   by_cases Y:((s[k]'I).toNat:Int)<=32
   ·obtain rfl:=J.out (by unfold okC;rw[decide_eq_false (by omega)];rfl)
    go_wp2
    go_ret
    exact⟨rfl,rfl⟩
   ·by_cases Z:(127:Int)<=((s[k]'I).toNat:Int)
    ·obtain rfl:=J.out (by unfold okC;rw[decide_eq_true (by omega),decide_eq_false (p:=(s[k]'I).toNat<127) (by omega)];rfl)
     go_wp2
     go_ret
     exact⟨rfl,rfl⟩
    ·by_cases h3:((s[k]'I).toNat:Int)=47
     ·obtain rfl:=J.out (by unfold okC;rw[decide_eq_true (by omega),decide_eq_true (p:=(s[k]'I).toNat<127) (by omega),decide_eq_false (by omega)];rfl)
      have aF:(((s[k]'I).toNat:Int)==47)=true:=beq_iff_eq.2 h3
      clear h3
      go_wp2
      go_ret
      exact⟨rfl,rfl⟩
     ·have aD:okC (s[k]'I)=true:=by unfold okC;rw[decide_eq_true (by omega),decide_eq_true (p:=(s[k]'I).toNat<127) (by omega),decide_eq_true (by omega)];rfl
      have aF:(((s[k]'I).toNat:Int)==47)=false:=beq_eq_false_iff_ne.2 h3
      have U:∀i (hi:i<s.size),i<k+1->okC (s[i]'hi)=true:=λi hi aI=>by
       by_cases e:i=k
       ·subst e;exact aD
       ·exact aA i hi (by omega)
      have aB:=C6x U
      clear h3 aD U aA
      go_wp2
      exact⟨⟨k+1,by simp,by omega,by first|exact⟨aB.out,rfl⟩|exact⟨aB.out,trivial⟩|exact aB.out⟩,by simp[intOf];omega⟩
  ·obtain rfl:k=s.size:=by omega
   have U:=C6x aA
   clear aA
   have J:Hid ((¬0<s.size\/¬s.size<17\/s.toList=[46]\/s.toList=[46,46])->b=false):=C6x λh=>by
    rw[V.out]
    refine decide_eq_false λhn=>?_
    obtain⟨Y,Z,_,h4,h5⟩:=hN.out.1 hn
    rcases h with h|h|h|h
    ·exact h Y
    ·exact h Z
    ·exact h4 h
    ·exact h5 h
   have aE:Hid (0<s.size->s.size<17->s.toList≠[46]->s.toList≠[46,46]->b=true):=C6x λY Z h4 h5=>by
    rw[V.out]
    exact decide_eq_true (hN.out.2 ⟨Y,Z,λi hi=>U.out i hi hi,h4,h5⟩)
   clear V hN U
   by_cases h0:0<s.size
   ·by_cases aC:s.size<17
    ·by_cases e1:s.toList=[46]
     ·obtain rfl:=J.out (.inr (.inr (.inl e1)))
      go_wp2
      go_ret
      exact⟨rfl,rfl⟩
     ·have b1:(s.toList==[46])=false:=beq_eq_false_iff_ne.2 e1
      by_cases X:s.toList=[46,46]
      ·obtain rfl:=J.out (.inr (.inr (.inr X)))
       have b2:(s.toList==[46,46])=true:=beq_iff_eq.2 X
       go_wp2
       go_ret
       exact⟨by first|rfl|simp[b1,b2],rfl⟩
      ·have b2:(s.toList==[46,46])=false:=beq_eq_false_iff_ne.2 X
       obtain rfl:=aE.out h0 aC e1 X
       go_wp2
       go_ret
       exact⟨by first|rfl|simp[b1,b2],rfl⟩
    ·obtain rfl:=J.out (.inr (.inl aC))
     have aH:¬((s.size:Int)<17):=by omega
     go_wp2
     go_ret
     exact⟨rfl,rfl⟩
   ·obtain rfl:=J.out (.inl h0)
    have aG:s.size=0:=by omega
    go_wp2
    go_ret
    exact⟨rfl,rfl⟩
theorem B1y(r:Int)(w:World):
 Calls Tryz.prog 176 #[.int .i32 r] w λe w'=>e= .returned (.bool (decide (32<r)&&decide (r<127)&&decide (r≠47)))/\w=w':=by
 obtain⟨b,J⟩:∃b,b=(decide (32<r)&&decide (r<127)&&decide (r≠47)):=⟨_,rfl⟩
 rw[<-J]
 have I:=C6x J
 clear J
 by_cases U:33<=r
 ·by_cases V:r<=126
  ·by_cases h3:r=47
   ·obtain rfl:b=false:=by rw[I.out,decide_eq_false (p:=r≠47) (by omega),Bool.and_false]
    subst h3
    go_enter Tryz.func176,Tryz.ntmps176
    go_wp2
    go_ret
    exact⟨rfl,rfl⟩
   ·obtain rfl:b=true:=by rw[I.out,decide_eq_true (p:=32<r) (by omega),decide_eq_true (p:=r<127) (by omega),decide_eq_true (p:=r≠47) h3];rfl
    have X:(r==47)=false:=beq_eq_false_iff_ne.2 h3
    go_enter Tryz.func176,Tryz.ntmps176
    go_wp2
    go_ret
    exact⟨by first|rfl|simp[h3],rfl⟩
  ·obtain rfl:b=false:=by rw[I.out,decide_eq_false (p:=r<127) (by omega),Bool.and_false,Bool.false_and]
   go_enter Tryz.func176,Tryz.ntmps176
   go_wp2
   go_ret
   exact⟨rfl,rfl⟩
 ·obtain rfl:b=false:=by rw[I.out,decide_eq_false (p:=32<r) (by omega),Bool.false_and,Bool.false_and]
  go_enter Tryz.func176,Tryz.ntmps176
  go_wp2
  go_ret
  exact⟨rfl,rfl⟩
def B1z(s:ByteArray):Int:=if Nam s then 0 else 9
theorem A8F(s:ByteArray)(w:World)(hs:s.size<=maxLen):
 Calls Tryz.prog 139 #[.string s] w λe w'=>e= .returned (.int .i64 (B1z s))/\Below w.heap.size w w':=by
 unfold maxLen at hs
 obtain⟨b,hb⟩:∃b,b=B1z s:=⟨_,rfl⟩
 rw[<-hb]
 have Z:=C6x (B4H s)
 have V:=C6x hb
 clear hb
 have U:Hid ((¬0<s.size\/¬s.size<17\/s.toList=[46]\/s.toList=[46,46])->b=9):=C6x λh=>by
  rw[V.out]
  refine if_neg λhn=>?_
  obtain⟨h1,h2,_,h4,h5⟩:=Z.out.1 hn
  rcases h with h|h|h|h
  ·exact h h1
  ·exact h h2
  ·exact h4 h
  ·exact h5 h
 by_cases h0:0<s.size
 ·by_cases aC:s.size<17
  ·by_cases X:s.toList=[46]
   ·obtain rfl:=U.out (.inr (.inr (.inl X)))
    have b1:(s.toList==[46])=true:=beq_iff_eq.2 X
    go_enter Tryz.func139,Tryz.ntmps139
    go_wp2
    go_ret
    exact⟨rfl,.refl _ _⟩
   ·have b1:(s.toList==[46])=false:=beq_eq_false_iff_ne.2 X
    by_cases Y:s.toList=[46,46]
    ·obtain rfl:=U.out (.inr (.inr (.inr Y)))
     have b2:(s.toList==[46,46])=true:=beq_iff_eq.2 Y
     go_enter Tryz.func139,Tryz.ntmps139
     go_wp2
     go_ret
     exact⟨rfl,.refl _ _⟩
    ·have b2:(s.toList==[46,46])=false:=beq_eq_false_iff_ne.2 Y
     have aF:Hid ((∀i (hi:i<s.size),okC (s[i]'hi)=true)->b=0):=C6x λh=>by
      rw[V.out]
      exact if_pos (Z.out.2 ⟨h0,aC,h,X,Y⟩)
     have aB:Hid (∀i (hi:i<s.size),okC (s[i]'hi)=false->b=9):=C6x λi hi h=>by
      rw[V.out]
      refine if_neg λhn=>?_
      have:=(Z.out.1 hn).2.2.1 i hi
      rw[h]at this;cases this
     clear V Z U
     go_enter Tryz.func139,Tryz.ntmps139
     go_wp2
     go_loopw [4] (λt wr=>∃k:Nat,k<=s.size/\(∀i (hi:i<s.size),i<k->okC (s[i]'hi)=true)/\wr=w.iter s k) (λ_ wr=>s.size-wr.iterPos w.heap.size)
     case atStart=>exact⟨0,Nat.zero_le _,λ_ _ h=>absurd h (by omega),rfl⟩
     case round=>
      obtain⟨k,hk,aE,rfl⟩:=hrel
      have HO:=C6x aE
      clear aE
      by_cases I:k<s.size
      ·by_cases ha:(s[k]'I).toNat<128
       ·have aA:∀ty,(Instr.next (.pointer (some ⟨w.heap.size,0,none⟩)) true ty).run Tryz.prog (w.iter s k)=_:=λty=>run_next_ascii w s k ty I ha
        have c:=λw=>B1y ((s[k]'I).toNat:Int) w
        obtain⟨r,J⟩:∃r:Nat,r=(s[k]'I).toNat:=⟨_,rfl⟩
        obtain⟨o,ho⟩:∃o,o=(decide (32<(r:Int))&&decide ((r:Int)<127)&&decide ((r:Int)≠47)):=⟨_,rfl⟩
        rw[<-J]at aA c
        rw[<-ho]at c
        have eo:o=okC (s[k]'I):=by
         rw[ho];unfold okC;rw[<-J]
         simp only[ne_eq,decide_not]
         congr 1
         ·congr 1
          ·exact decide_eq_decide.2 (by omega)
          ·exact decide_eq_decide.2 (by omega)
         ·congr 1
          exact decide_eq_decide.2 (by omega)
        have EO:=C6x eo
        clear ha J ho eo
        cases o
        ·obtain rfl:=aB.out k I EO.out.symm
         go_wp2_with (first|fail|(go_at_call 176;refine(c _).mono ?_;rintro e w1 ⟨rfl,rfl⟩))
         go_ret
         exact⟨rfl,(Below.refl _ w).alloc (Nat.le_refl _) _⟩
        ·go_wp2_with (first|fail|(go_at_call 176;refine(c _).mono ?_;rintro e w1 ⟨rfl,rfl⟩))
         exact⟨⟨k+1,by omega,λi hi aI=>by
          by_cases e:i=k
          ·subst e;exact EO.out.symm
          ·exact HO.out i hi (by omega),rfl⟩,by simp;omega⟩
       ·have aA:∀ty,(Instr.next (.pointer (some ⟨w.heap.size,0,none⟩)) true ty).run Tryz.prog (w.iter s k)=_:=λty=>run_next_any w s k ty I
        have aD:=(decode_high s k I (by omega)).1
        obtain⟨r,J⟩:∃r:Nat,r=(Utf8.decode s k).1:=⟨_,rfl⟩
        obtain⟨p,hp⟩:∃p:Nat,p=k+(Utf8.decode s k).2:=⟨_,rfl⟩
        rw[<-J,<-hp]at aA
        rw[<-J]at aD
        have c:∀w,Calls Tryz.prog 176 #[.int .i32 (r:Int)] w λe w'=>e= .returned (.bool false)/\w=w':=λw=>(B1y (r:Int) w).mono λe w' ⟨he,hw⟩=>⟨by
         rw[he,decide_eq_false (p:=(r:Int)<127) (by omega),Bool.and_false,Bool.false_and],hw⟩
        obtain rfl:=aB.out k I (by unfold okC;rw[decide_eq_false (p:=(s[k]'I).toNat<127) (by omega),Bool.and_false,Bool.false_and])
        clear J hp aD ha
        go_wp2_with (first|fail|(go_at_call 176;refine(c _).mono ?_;rintro e w1 ⟨rfl,rfl⟩))
        go_ret
        exact⟨rfl,(Below.refl _ w).alloc (Nat.le_refl _) _⟩
      ·have aA:∀ty,(Instr.next (.pointer (some ⟨w.heap.size,0,none⟩)) true ty).run Tryz.prog (w.iter s k)=_:=λty=>run_next_end w s k ty I
       obtain rfl:=aF.out λi hi=>HO.out i hi (by omega)
       go_wp2
       go_ret
       exact⟨rfl,(Below.refl _ w).alloc (Nat.le_refl _) _⟩
  ·obtain rfl:=U.out (.inr (.inl aC))
   have aH:(16:Int)<(s.size:Int):=by omega
   go_enter Tryz.func139,Tryz.ntmps139
   go_wp2
   go_ret
   exact⟨rfl,.refl _ _⟩
 ·obtain rfl:=U.out (.inl h0)
  have aG:s.size=0:=by omega
  go_enter Tryz.func139,Tryz.ntmps139
  go_wp2
  go_ret
  exact⟨rfl,.refl _ _⟩
end
section
open Go.ChangeShapes Go.WideShapes Go.ChangeAt Go.RowKit
def ea(e:En):Array Value:= #[.string e.s,.int .i64 e.i,.int .i64 e.g,.int .i64 e.k]
structure E4 (w:World) (y:Nat) (e:En):Prop where
 all:w.cell? ⟨y,0,none⟩=some (.string e.s)/\w.cell? ⟨y,1,none⟩=some (.int .i64 e.i)/\w.cell? ⟨y,2,none⟩=some (.int .i64 e.g)/\w.cell? ⟨y,3,none⟩=some (.int .i64 e.k)
theorem C3.e4{w:World}{y:Nat}{t:TypeId}{e:En}(h:C3 w y t (ea e)):E4 w y e:=⟨⟨h.cell 0,h.cell 1,h.cell 2,h.cell 3⟩⟩
theorem A5d{w w':World}(h:Below w.heap.size w w'):B0 B5 w B5 w':=B0.of_below h
theorem B10(e:En)(hs:e.s.size<=maxLen)(w:World):Calls Tryz.prog 215 #[.agg (ea e)] w λx w'=>x= .returned (.bool (decide (okE e)))/\B0 B5 w B5 w':=by
 obtain⟨y,hy⟩:∃y,y=w.heap.size:=⟨_,rfl⟩
 obtain⟨V,hV⟩:∃V,V=w.alloc (.cells (ea e) 74):=⟨_,rfl⟩
 obtain⟨U,hU⟩:∃U,U=V.alloc (.cells #[.int .i64 e.i,.int .i64 e.g] 35):=⟨_,rfl⟩
 obtain⟨z,hz⟩:∃z,z=V.heap.size:=⟨_,rfl⟩
 have HY:=C6x (show C3 V y 74 (ea e)by rw[hV,hy];exact C3.new _ _ _)
 have aC:=C6x (show C3 U y 74 (ea e)by rw[hU];exact HY.out.alloc _)
 have aB:=C6x (show C3 U z 35 #[.int .i64 e.i,.int .i64 e.g]by rw[hU,hz];exact C3.new _ _ _)
 have HA:=C6x (show B0 B5 w B5 U by rw[hU,hV];exact((B0.refl _ _).alloc _).alloc _)
 have HV:=C6x hV
 have HU:=C6x hU
 have aD:=C6x hy
 have aE:=C6x hz
 obtain⟨c,hc⟩:∃c,c=B1z e.s:=⟨_,rfl⟩
 have X:=C6x (show Calls Tryz.prog 139 #[.string e.s] U λx w'=>x= .returned (.int .i64 c)/\Below U.heap.size U w' by rw[hc];exact A8F e.s U hs)
 obtain⟨B,hB⟩:∃B,B=decide (okE e):=⟨_,rfl⟩
 rw[<-hB]
 have aA:=C6x (show(c=0/\0<e.i/\e.i<41/\0<=e.g/\e.g<2147483648/\0<e.k/\e.k<3->B=true)/\(¬(c=0/\0<e.i/\e.i<41/\0<=e.g/\e.g<2147483648/\0<e.k/\e.k<3)->B=false)/\(c=0\/c=9)by
  have hn:(c=0↔A56 e.s.data.toList)/\(c=0\/c=9):=by
   rw[hc];unfold B1z
   by_cases h:Nam e.s
   ·rw[if_pos h];exact⟨⟨λ_=>h,λ_=>rfl⟩,.inl rfl⟩
   ·rw[if_neg h];exact⟨⟨λx=>absurd x (by decide),λx=>absurd x h⟩,.inr rfl⟩
  refine⟨λh=>?_,λh=>?_,hn.2⟩
  ·rw[hB];exact decide_eq_true ⟨hn.1.1 h.1,h.2⟩
  ·rw[hB];exact decide_eq_false λo=>h ⟨hn.1.2 o.1,o.2⟩)
 obtain⟨Z,s1,s2,s3⟩:=HY.out.e4.all
 clear hV hU hy hz hc hB
 obtain⟨s,i,g,k⟩:=e
 simp only[ea]at HV⊢
 simp only at Z s1 s2 s3 hs aA HU aB X
 go_enter Tryz.func215,Tryz.ntmps215
 go_upto_region 1 with(fail)
 rw[<-HV.out,<-aD.out]
 go_upto_region 2 with(fail)
 rw[<-HU.out,<-aE.out]
 clear Z s1 s2 s3
 obtain⟨Z,s1,s2,s3⟩:=aC.out.e4.all
 simp only at Z s1 s2 s3
 have z0:U.cell? ⟨z,0,none⟩=some (.int .i64 i):=aB.out.cell 0
 have z1:U.cell? ⟨z,1,none⟩=some (.int .i64 g):=aB.out.cell 1
 have HN:=C6x (λ(J:World) (I:Below U.heap.size U J)=>show(J.cell? ⟨y,0,none⟩=some (.string s)/\J.cell? ⟨y,1,none⟩=some (.int .i64 i)/\J.cell? ⟨y,2,none⟩=some (.int .i64 g)/\J.cell? ⟨y,3,none⟩=some (.int .i64 k))/\J.cell? ⟨z,0,none⟩=some (.int .i64 i)/\J.cell? ⟨z,1,none⟩=some (.int .i64 g)from⟨(aC.out.keep ((A5d I).block _ aC.out.lt (λx=>x))).e4.all,(aB.out.keep ((A5d I).block _ aB.out.lt (λx=>x))).cell 0,(aB.out.keep ((A5d I).block _ aB.out.lt (λx=>x))).cell 1⟩)
 rcases aA.out.2.2 with rfl|rfl
 ·by_cases h1:1<=i
  ·by_cases h2:i<=40
   ·by_cases h3:0<=g
    ·by_cases h4:g<=2147483647
     ·by_cases h5:k=1
      ·obtain rfl:=aA.out.1 ⟨rfl,by omega,by omega,by omega,by omega,by omega,by omega⟩
       subst h5
       go_wp2_with (first|(go_at_call 139;refine X.out.mono ?_;rintro x J ⟨rfl,I⟩;have Y:=C6x (HA.out.trans (A5d I));obtain⟨⟨t0,t1,t2,t3⟩,q0,q1⟩:=HN.out J I;clear I Z s1 s2 s3 z0 z1 X)|fail)
       go_ret
       exact⟨by first|rfl|simp[*],Y.out⟩
      ·by_cases h6:k=2
       ·obtain rfl:=aA.out.1 ⟨rfl,by omega,by omega,by omega,by omega,by omega,by omega⟩
        subst h6
        clear h5
        go_wp2_with (first|(go_at_call 139;refine X.out.mono ?_;rintro x J ⟨rfl,I⟩;have Y:=C6x (HA.out.trans (A5d I));obtain⟨⟨t0,t1,t2,t3⟩,q0,q1⟩:=HN.out J I;clear I Z s1 s2 s3 z0 z1 X)|fail)
        go_ret
        exact⟨by first|rfl|simp[*],Y.out⟩
       ·obtain rfl:=aA.out.2.1 (by omega)
        have aF:(k==1)=false:=beq_eq_false_iff_ne.2 h5
        have aG:(k==2)=false:=beq_eq_false_iff_ne.2 h6
        clear h5 h6
        go_wp2_with (first|(go_at_call 139;refine X.out.mono ?_;rintro x J ⟨rfl,I⟩;have Y:=C6x (HA.out.trans (A5d I));obtain⟨⟨t0,t1,t2,t3⟩,q0,q1⟩:=HN.out J I;clear I Z s1 s2 s3 z0 z1 X)|fail)
        go_ret
        exact⟨by first|rfl|simp[*],Y.out⟩
     ·obtain rfl:=aA.out.2.1 (by omega)
      go_wp2_with (first|(go_at_call 139;refine X.out.mono ?_;rintro x J ⟨rfl,I⟩;have Y:=C6x (HA.out.trans (A5d I));obtain⟨⟨t0,t1,t2,t3⟩,q0,q1⟩:=HN.out J I;clear I Z s1 s2 s3 z0 z1 X)|fail)
      go_ret
      exact⟨by first|rfl|simp[*],Y.out⟩
    ·obtain rfl:=aA.out.2.1 (by omega)
     go_wp2_with (first|(go_at_call 139;refine X.out.mono ?_;rintro x J ⟨rfl,I⟩;have Y:=C6x (HA.out.trans (A5d I));obtain⟨⟨t0,t1,t2,t3⟩,q0,q1⟩:=HN.out J I;clear I Z s1 s2 s3 z0 z1 X)|fail)
     go_ret
     exact⟨by first|rfl|simp[*],Y.out⟩
   ·obtain rfl:=aA.out.2.1 (by omega)
    go_wp2_with (first|(go_at_call 139;refine X.out.mono ?_;rintro x J ⟨rfl,I⟩;have Y:=C6x (HA.out.trans (A5d I));obtain⟨⟨t0,t1,t2,t3⟩,q0,q1⟩:=HN.out J I;clear I Z s1 s2 s3 z0 z1 X)|fail)
    go_ret
    exact⟨by first|rfl|simp[*],Y.out⟩
  ·obtain rfl:=aA.out.2.1 (by omega)
   go_wp2_with (first|(go_at_call 139;refine X.out.mono ?_;rintro x J ⟨rfl,I⟩;have Y:=C6x (HA.out.trans (A5d I));obtain⟨⟨t0,t1,t2,t3⟩,q0,q1⟩:=HN.out J I;clear I Z s1 s2 s3 z0 z1 X)|fail)
   go_ret
   exact⟨by first|rfl|simp[*],Y.out⟩
 ·obtain rfl:=aA.out.2.1 (by omega)
  go_wp2_with (first|(go_at_call 139;refine X.out.mono ?_;rintro x J ⟨rfl,I⟩;have Y:=C6x (HA.out.trans (A5d I));obtain⟨⟨t0,t1,t2,t3⟩,q0,q1⟩:=HN.out J I;clear I Z s1 s2 s3 z0 z1 X)|fail)
  go_ret
  exact⟨by first|rfl|simp[*],Y.out⟩
end
section
open Go.ChangeShapes Go.WideShapes Go.ChangeAt Go.RowKit
theorem WSt.keepA{w w':World}{F F':Nat->Prop}{b N m:Nat}(h:WSt w F b N m)(J:B0 B5 w F' w'):WSt w' F b N m:=by
 obtain⟨V,I,U⟩:=h.ex
 exact⟨⟨V,I.keep (J.block b I.lt (λx=>x)),U.far J (λ_ x=>x.elim)⟩,h.inF,h.lt⟩
structure WL (W:World) (F0 F:Nat->Prop) (b N m:Nat) (w:World):Prop where
 ws:WSt w F b N m
 ad:B0 F0 W F w
 bd:Bd F w
section
variable {W w w':World} {F0 F F':Nat->Prop} {b N m:Nat}
theorem WL.over(h:WL W F0 F b N m w)(I:B0 B5 w F' w'):WL W F0 F b N m w':=⟨h.ws.keepA I,h.ad.over I,I.bd h.bd⟩
theorem WL.put(h:WL W F0 F b N m w)(x n:Nat)(U:n<=64)(V:x<2^n)(J:m+n<=1000000000)(X:Int)(I:X=(x:Int)):
 Calls Tryz.prog 134 #[.pointer (some ⟨b,0,none⟩),.int .u64 X,.int .i64 (n:Int)] w λe w'=>∃F',e= .returned (.pointer (some ⟨b,0,none⟩))/\WL W F0 F' b (N * 2^n+x) (m+n) w':=by
 subst I
 refine(A9u b N m x n F w h.ws h.bd U V J).mono ?_
 rintro e w' ⟨rfl,F',Y,Z,k3⟩
 exact⟨F',rfl,Y,h.ad.trans Z,k3⟩
end
theorem C3.front{w:World}{g:Nat}{t:TypeId}{C:Array Value}(h:C3 w g t C)(I:List Value)(hl:I.length<=C.size)(D:Array Value)(hD:D.size=C.size)(aA:∀j,j<I.length->D[j]? =I[j]?) (hout:∀j,I.length<=j->D[j]? =C[j]?):C3 (w.setCells g 0 I) g t D:=by
 have aD:∀(I:List Value) (o:Nat) (w:World) (cs:Array Value),C3 w g t cs->∃J,C3 (w.setCells g o I) g t J/\J.size=cs.size:=by
  intro I
  induction I with
  |nil=>exactλ_ _ cs h=>⟨cs,h,rfl⟩
  |cons v r ih=>
   intro o w cs h
   rw[World.setCells]
   obtain⟨J,U,Z⟩:=ih (o+1) _ _ (h.set_ o v)
   exact⟨J,U,by rw[Z];simp⟩
 obtain⟨C',U,Z⟩:=aD I 0 w C h
 have e:C'=D:=by
  apply Array.ext (by omega)
  intro k aB aC
  have h3:=U.cell k
  rw[Array.getElem?_eq_getElem aB]at h3
  have V:=Array.getElem?_eq_getElem aC
  by_cases X:k<I.length
  ·have hi:=World.cell?_setCells_in g I 0 w (λj hj=>by
    rw[h.cell (0+j),Nat.zero_add,Array.getElem?_eq_getElem (by omega)];rfl) k X
   rw[Nat.zero_add,h3]at hi
   rw[aA k X,List.getElem?_eq_getElem X]at V
   rw[<-Option.some.inj V];exact Option.some.inj hi
  ·have Y:=World.cell?_setCells_out g I 0 w ⟨g,k,none⟩ (λ_ _=>.inr (by simp;omega))
   rw[h3,h.cell k]at Y
   rw[hout k (by omega)]at V
   rw[V]at Y
   exact Option.some.inj Y
 rw[<-e];exact U
theorem B0.csetCells{F F':Nat->Prop}{w:World}{g:Nat}:∀(I:List Value) (o:Nat) (w':World),B0 F w F' w'->(F g\/w.heap.size<=g)->B0 F w F' (w'.setCells g o I)
 |[],_,_,h,_=>h
 |v::r,o,w',h,hg=>by
  rw[World.setCells]
  exact B0.csetCells r (o+1) _ (h.setCell (p:=⟨g,o,none⟩) hg v) hg
def a16(f:Nat->Nat):Array Value:= #[u8 (f 0),u8 (f 1),u8 (f 2),u8 (f 3),u8 (f 4),u8 (f 5),u8 (f 6),u8 (f 7),u8 (f 8),u8 (f 9),u8 (f 10),u8 (f 11),u8 (f 12),u8 (f 13),u8 (f 14),u8 (f 15)]
theorem C48{j:Nat}(I:j<16):j=0\/j=1\/j=2\/j=3\/j=4\/j=5\/j=6\/j=7\/j=8\/j=9\/j=10\/j=11\/j=12\/j=13\/j=14\/j=15:=by omega
theorem A2r(f:Nat->Nat)(j:Nat)(I:j<16):(a16 f)[j]? =some (u8 (f j)):=by
 rcases C48 I with rfl|rfl|rfl|rfl|rfl|rfl|rfl|rfl|rfl|rfl|rfl|rfl|rfl|rfl|rfl|rfl<;>rfl
theorem A2s(f:Nat->Nat):(a16 f).size=16:=rfl
theorem C49(f:Nat->Nat)(j:Nat)(I:j<16)(w:World):(Instr.index 288 (.agg (a16 f)) (.int .i64 (j:Int))).run Tryz.prog w= .ok (.int .u8 (f j:Int)) w:=by
 rcases C48 I with rfl|rfl|rfl|rfl|rfl|rfl|rfl|rfl|rfl|rfl|rfl|rfl|rfl|rfl|rfl|rfl<;>kernel_rfl
theorem C0V:(Tryz.prog.info? 288).map (·.size)=some 16:=by kernel_rfl
theorem B12:(Tryz.prog.info? 5).map (·.size)=some 1:=by kernel_rfl
theorem A8d{w:World}{ops:Array Oper}{o:Oper}{a:Act}{K:Act->World->Prop}{Q:Exit->Act->World->Prop}{E:Prop}(aC:o.guard=none)(d s:Operand)
 (ho:o.op= .call { callee:=.builtin .copy,args:= #[d,s],argTypes:= #[54,9] }) (g:Nat) (t:TypeId) (I:ByteArray) (hd:a.eval d= .slice (some ⟨g,0,none⟩) 16 16) (hs:a.eval s= .string I) (Z:I.size<=16)
 (V:C3 w g t (a16 λ_=>0)) (h:∀w',C3 w' g t (a16 (nmB I))->B0 (·=g) w (·=g) w'->K (a.put o.dst (goInt I.size)) w'):
 if Region.wanted o (yielded ops a.tmps)=true then Oper.wp Tryz.prog o a w K Q else E:=by
 rw[if_pos (by simp[Region.wanted,aC])]
 obtain⟨cs,U⟩:∃cs:List Value,cs=((I.extract 0 I.size).data.map λb=>(Value.int .u8 b.toNat:Value)).toList:=⟨_,rfl⟩
 have aB:(I.extract 0 I.size)=I:=by simp
 rw[aB]at U
 have aE:cs.length=I.size:=by rw[U,Array.length_toList,Array.size_map];rfl
 have Y:∀j,j<I.size->cs[j]? =some (u8 (nmB I j)):=λj J=>by
  rw[U,Array.getElem?_toList,Array.getElem?_map]
  have aD:j<I.data.size:=J
  rw[Array.getElem?_eq_getElem aD,nmB,dif_pos J]
  rfl
 have aA:=run_storeCells_cells (P:=Tryz.prog) g 0 cs 0 w (λj J=>by rw[Nat.add_zero,Nat.zero_add,V.cell,A2r _ _ (by omega)];rfl) (λj J=>V.frozen _) (λv hv=>by
  obtain⟨j,J,rfl⟩:=List.mem_iff_getElem.1 hv
  have:=Y j (by omega)
  rw[List.getElem?_eq_getElem J]at this
  rw[Option.some.inj this];rfl)
 have aG:(Builtin.copy_ #[54,9] o.type #[.slice (some ⟨g,0,none⟩) 16 16,.string I]).run Tryz.prog w= .ok (goInt I.size) (w.setCells g 0 cs):=by
  cases hq:Tryz.prog.info? 5 with
  |none=>have:=B12;simp[hq]at this
  |some i=>
   have hi:i.size=1:=by have:=B12;simpa[hq]using this
   have aF:Nat.min I.size 16=I.size:=Nat.min_eq_left Z
   simp only[Nat.zero_add]at aA
   simp[Builtin.copy_,run_underlying Tryz.underlying54,Builtin.lenOf,Builtin.firstCells,sizeOf,typeInfo,hq,aF]
   have aH:List.take I.size (List.map (λb:UInt8=>Value.int .u8 b.toNat) I.data.toList)=cs:=by
    rw[U,Array.toList_map,List.take_of_length_le (by rw[List.length_map];exact Nat.le_refl _)]
   rw[aH,aA];rfl
 unfold Oper.wp
 simp[execOp,ho,resolve,invoke,builtin,hd,hs,aG,Result.andThen]
 refine h _ (V.front cs (by rw[aE,A2s];exact Z) _ rfl (λj J=>?_) (λj J=>?_)) (B0.csetCells _ _ _ (B0.refl _ _) (.inl rfl))
 ·rw[Y j (by omega),A2r _ _ (by omega)]
 ·by_cases X:j<16
  ·rw[A2r _ _ X,A2r _ _ X,nmB,dif_neg (by omega)]
  ·rw[Array.getElem?_eq_none (by rw[A2s];omega),Array.getElem?_eq_none (by rw[A2s];omega)]
def LyL(W:World)(F0:Nat->Prop)(b N m:Nat)(e:En)(t:Value)(wr:World):Prop:=∃(j:Nat) (F:Nat->Prop),t= .int .i64 (j:Int)/\j<=16/\WL W F0 F b (sN N e j) (m+44+8 * j) wr
theorem B8H(e:En)(bC:okE e)(b N m:Nat)(F:Nat->Prop)(w:World)(hw:WSt w F b N m)(hF:Bd F w)(hm:m+172<=1000000):
 Calls Tryz.prog 218 #[.pointer (some ⟨b,0,none⟩),.agg (ea e)] w λx w'=>x= .returned (.tuple #[])/\∃F',WSt w' F' b (sN N e 16) (m+172)/\B0 F w F' w'/\Bd F' w':=by
 obtain⟨y,hy⟩:∃y,y=w.heap.size:=⟨_,rfl⟩
 obtain⟨V,hV⟩:∃V,V=w.alloc (.cells (ea e) 74):=⟨_,rfl⟩
 have Z:=C6x (show C3 V y 74 (ea e)by rw[hV,hy];exact C3.new _ _ _)
 have aF:B0 B5 w B5 V:=by rw[hV];exact(B0.refl _ _).alloc _
 have aU:=C6x (show WL w F F b N m V from(WL.mk hw (B0.refl F w) hF).over aF)
 have aJ:¬F y:=λh=>by have:=hF y h;omega
 have X:=C6x (λ(F':Nat->Prop) (N' m':Nat) (w':World) (h:WL V F F' b N' m' w')=>(Z.out.keep (h.ad.block y Z.out.lt aJ)).e4.all)
 have aE:=C6x (λ(F':Nat->Prop) (N' m':Nat) (w':World) (h:WL V F F' b N' m' w')=>Z.out.keep (h.ad.block y Z.out.lt aJ))
 have aV:=C6x (show WL V F F b N m V from⟨aU.out.ws,B0.refl F V,aU.out.bd⟩)
 have bD:=C6x aF
 have HV:=C6x hV
 have bR:=C6x hy
 obtain⟨bS,aW⟩:=A2q bC
 obtain⟨_,i1,i2,g1,g2,k1,k2⟩:=bC
 obtain⟨s0,s1,s2,s3⟩:=Z.out.e4.all
 clear hV hy hw hF aF aJ
 obtain⟨s,i,g,k⟩:=e
 simp only at aW i1 i2 g1 g2 k1 k2
 obtain⟨I,rfl⟩:=Int.eq_ofNat_of_zero_le (show 0<=i by omega)
 obtain⟨gN,rfl⟩:=Int.eq_ofNat_of_zero_le (show 0<=g by omega)
 obtain⟨J,rfl⟩:=Int.eq_ofNat_of_zero_le (show 0<=k by omega)
 have bI:=C6x (show I<2^6 by omega)
 have bH:=C6x (show gN<2^31 by omega)
 have bJ:=C6x (show J<2^2 by omega)
 have bP:=C6x (show s.size<2^5 by omega)
 have bO:=C6x (show s.size<=16 by omega)
 have Y:=C6x hm
 have aZ:IntKind.u64.wrap (I:Int)=(I:Int):=by rw[IntKind.wrap_u64];omega
 have aY:IntKind.u64.wrap (gN:Int)=(gN:Int):=by rw[IntKind.wrap_u64];omega
 have bA:IntKind.u64.wrap (J:Int)=(J:Int):=by rw[IntKind.wrap_u64];omega
 have bB:IntKind.u64.wrap (s.size:Int)=(s.size:Int):=by rw[IntKind.wrap_u64];omega
 have aO:=C6x (show sN N ⟨s,(I:Int),(gN:Int),(J:Int)⟩ 0=(((N * 2^5+s.size) * 2^6+I) * 2^31+gN) * 2^2+J from rfl)
 have bG:=C6x (λj=>show sN N ⟨s,(I:Int),(gN:Int),(J:Int)⟩ (j+1)=sN N ⟨s,(I:Int),(gN:Int),(J:Int)⟩ j * 2^8+nmB s j from rfl)
 have bK:=C6x (B3q s)
 simp only[ea]at HV⊢
 simp only at s0 s1 s2 s3 X
 clear bS aW i1 i2 g1 g2 k1 k2 hm
 go_enter Tryz.func218,Tryz.ntmps218
 go_upto_region 1 with(fail)
 rw[<-HV.out,<-bR.out]
 go_upto_region 2 with(first
  |(go_at_call 134;refine(aV.out.put s.size 5 (by decide) bP.out (by have:=Y.out;omega) _ (by first|rfl|exact bB)).mono ?_;rintro x w1 ⟨F1,rfl,q1⟩;have G1:=C6x q1;clear q1)
  |fail)
 have K0:=C6x (X.out _ _ _ _ G1.out).2
 have aK:=C6x (G1.out.over ((B0.refl B5 w1).drew))
 have aA:=C6x (show w1.drew.cell? ⟨y,1,none⟩=some (.int .i64 (I:Int))/\w1.drew.cell? ⟨y,2,none⟩=some (.int .i64 (gN:Int))/\w1.drew.cell? ⟨y,3,none⟩=some (.int .i64 (J:Int))from K0.out)
 clear s0 s1 s2 s3
 refine D6 (S:=(λw'=>w'.cell? ⟨y,1,none⟩=some (.int .i64 (I:Int))/\w'.cell? ⟨y,2,none⟩=some (.int .i64 (gN:Int))/\w'.cell? ⟨y,3,none⟩=some (.int .i64 (J:Int)))) (by with_reducible first|exact K4.out|exact K3.out|exact K2.out|exact aA.out) (λhH=>?_)
 refine C66 0 rfl ?_
 refine C66 1 rfl ?_
 refine C66 2 rfl ?_
 refine C66 3 rfl ?_
 refine C66 4 rfl ?_
 refine C66 6 rfl ?_
 refine C66 7 rfl ?_
 refine C66 8 rfl ?_
 refine C66 9 rfl ?_
 refine C66 11 rfl ?_
 refine C66 12 rfl ?_
 refine C66 13 rfl ?_
 refine C6z 5 rfl (λK hK=>?_)
 go_simp
 refine(aK.out.put I 6 (by decide) bI.out (by have:=Y.out;omega) _ (by first|rfl|exact aZ)).mono ?_
 rintro x v2 ⟨F2,rfl,q2⟩
 have G2:=C6x q2
 have K2:=C6x (X.out _ _ _ _ q2).2
 clear q2
 go_wp2_with fail
 refine C60 hK (by with_reducible first|exact K4.out|exact K3.out|exact K2.out|exact aA.out) ?_
 clear hK K hH
 intro hH
 try simp only[Act.put,sA,sB,sC]
 refine C6z 10 rfl (λK hK=>?_)
 go_simp
 refine(G2.out.put gN 31 (by decide) bH.out (by have:=Y.out;omega) _ (by first|rfl|exact aY)).mono ?_
 rintro x v3 ⟨F3,rfl,q3⟩
 have G3:=C6x q3
 have K3:=C6x (X.out _ _ _ _ q3).2
 clear q3
 go_wp2_with fail
 refine C60 hK (by with_reducible first|exact K4.out|exact K3.out|exact K2.out|exact aA.out) ?_
 clear hK K hH
 intro hH
 try simp only[Act.put,sA,sB,sC]
 refine C6z 14 rfl (λK hK=>?_)
 go_simp
 refine(G3.out.put J 2 (by decide) bJ.out (by have:=Y.out;omega) _ (by first|rfl|exact bA)).mono ?_
 rintro x v4 ⟨F4,rfl,q4⟩
 have G4:=C6x q4
 have K4:=C6x (X.out _ _ _ _ q4).2
 clear q4
 go_wp2_with fail
 refine C60 hK (by with_reducible first|exact K4.out|exact K3.out|exact K2.out|exact aA.out) ?_
 clear hK K hH
 intro hH
 try simp only[Act.put,sA,sB,sC]
 refine wpAnyH_done (by kernel_rfl) ?_ _
 obtain⟨U,aC⟩:∃U,U=v4.heap.size:=⟨_,rfl⟩
 obtain⟨W5,aB⟩:∃W,W=v4.alloc (.cells (a16 λ_=>0) 288):=⟨_,rfl⟩
 have aP:=C6x (show C3 W5 U 288 (a16 λ_=>0)by rw[aB,aC];exact C3.new _ _ _)
 have aD:=C6x (show C3 W5 y 74 (ea ⟨s,(I:Int),(gN:Int),(J:Int)⟩)by rw[aB];exact(aE.out _ _ _ _ G4.out).alloc _)
 have bQ:=C6x (show y≠U by rw[aC];exact Nat.ne_of_lt (aE.out _ _ _ _ G4.out).lt)
 have aL:=C6x (show B0 B5 v4 (·=U) W5 by rw[aB];exact B0.new_ ((B0.refl B5 v4).alloc _).toBelow (λk hk=>by rw[hk,aC];exact Nat.le_refl _))
 have aT:=C6x aB
 have aQ:=C6x aC
 clear aC aB
 go_upto_region 4 with(fail)
 rw[show v4.alloc (.cells #[.int .u8 0,.int .u8 0,.int .u8 0,.int .u8 0,.int .u8 0,.int .u8 0,.int .u8 0,.int .u8 0,.int .u8 0,.int .u8 0,.int .u8 0,.int .u8 0,.int .u8 0,.int .u8 0,.int .u8 0,.int .u8 0] 288)=W5 from aT.out.symm,<-aQ.out]
 have K5:=C6x (show W5.drew.cell? ⟨y,0,none⟩=some (.string s)from aD.out.e4.all.1)
 refine D6 (S:=(λw'=>w'.cell? ⟨y,0,none⟩=some (.string s))) (by with_reducible first|exact K6.out|exact K5.out) (λhH=>?_)
 refine C6y 0 rfl ?_
 refine C6y 1 rfl ?_
 refine C6y 2 rfl ?_
 refine C6z 3 rfl (λK hK=>?_)
 refine A8d rfl (.tmp 28) (.tmp 30) rfl U 288 s rfl rfl bO.out aP.out.drew (λw6 aX aH=>?_)
 have aN:=C6x aX
 have aM:=C6x aH
 have K6:=C6x (show w6.cell? ⟨y,0,none⟩=some (.string s)from(aD.out.keep (aH.block y aD.out.lt bQ.out)).e4.all.1)
 clear aX aH
 refine C60 hK (by with_reducible first|exact K6.out|exact K5.out) ?_
 clear hK K hH
 intro hH
 try simp only[Act.put,sA,sB,sC]
 refine wpAnyH_done (by kernel_rfl) ?_ _
 have G6:=C6x (show WL V F F4 b (sN N ⟨s,(I:Int),(gN:Int),(J:Int)⟩ 0) (m+44+8 * 0) w6 by rw[aO.out];exact G4.out.over (aL.out.drew.trans aM.out))
 have bM:=C6x (show w6.rangeAt U 0 (a16 (nmB s)).toList fromλj v hv=>by rw[Nat.zero_add,aN.out.cell,<-hv,Array.getElem?_toList])
 have aR:=C6x (C49 (nmB s))
 obtain⟨AV,aG⟩:∃AV,AV=Value.agg (a16 (nmB s)):=⟨_,rfl⟩
 rw[<-aG]at aR
 have bF:=C6x aG
 clear aG G1 aK G2 G3 G4 K0 aA K2 K3 K4 K5 K6 aL aM aN aP aD aT aQ X aE aV aO aZ aY bA bB
 go_wp2_with (first
  |(refine wpList_load_mid rfl 288 (.tmp 4) rfl U 0 rfl (a16 (nmB s)).toList _ bM.out Tryz.underlying288 rfl C0V ?_;rw[Array.toArray_toList,<-bF.out])
  |fail)
 go_loopw [33] (LyL V F b N m ⟨s,(I:Int),(gN:Int),(J:Int)⟩) (λt _=>16-(intOf t).toNat)
 case atStart=>exact⟨0,F4,rfl,Nat.zero_le _,G6.out⟩
 case round=>
  obtain⟨j,F7,rfl,hj,h7⟩:=hrel
  have G7:=C6x h7
  clear h7
  by_cases aI:j<16
  ·have bU:=aR.out j aI
   have aS:=C6x aI
   obtain⟨c,hc⟩:∃c,c=nmB s j:=⟨_,rfl⟩
   have HC:=C6x (show c<2^8 by rw[hc];exact bK.out j)
   have HS:=C6x (show sN N ⟨s,(I:Int),(gN:Int),(J:Int)⟩ (j+1)=sN N ⟨s,(I:Int),(gN:Int),(J:Int)⟩ j * 2^8+c by rw[hc];exact bG.out j)
   rw[<-hc]at bU
   have bT:IntKind.u64.wrap (c:Int)=(c:Int):=by rw[IntKind.wrap_u64];have:=HC.out;omega
   clear hc
   go_wp2_with (first
    |(go_at_call 134;refine(G7.out.put c 8 (by decide) HC.out (by have:=Y.out;have:=aS.out;omega) _ (by first|rfl|exact bT)).mono ?_;rintro x w8 ⟨F8,rfl,q8⟩;have G8:=C6x q8;clear q8)
    |fail)
   exact⟨⟨j+1,F8,by go_num,aS.out,by rw[HS.out];exact G8.out⟩,by simp[intOf]<;>omega⟩
  ·obtain rfl:j=16:=by omega
   clear hj aI
   go_wp2_with fail
   go_end0
   exact⟨rfl,F7,G7.out.ws,(bD.out.same (λ_ h=>h.elim)).trans G7.out.ad,G7.out.bd⟩
end
section
open Go.ChangeShapes Go.WideShapes Go.ChangeAt Go.RowKit
structure M0 (w:World) (v:Value) (l:List En):Prop where
 rd:Rd w 4 v l.length (ecs l)
 sz:∀e∈l,e.s.size<=maxLen
section
variable {w w':World} {v:Value} {l:List En}
theorem M0.step{F:Nat->Prop}(h:M0 w v l)(I:B0 B5 w F w'):M0 w' v l:=⟨h.rd.far (λ_ _ _ J=>I.block _ J (λx=>x)) I.size,h.sz⟩
theorem M0.drew(h:M0 w v l):M0 w.drew v l:=⟨h.rd,h.sz⟩
theorem M0.form(h:M0 w v l):∃A c,v= .slice A l.length c/\l.length<=c/\c<=maxLen:=h.rd.form
theorem M0.at_{A:Option Addr}{n c i:Nat}(h:M0 w (.slice A n c) l)(X:n=l.length)(hi:i<l.length):∃b o,A=some ⟨b,o,none⟩/\b<w.heap.size/\(w.cell? ⟨b,o+i * 4,none⟩=some (.string l[i].s)/\w.cell? ⟨b,o+i * 4+1,none⟩=some (.int .i64 l[i].i)/\w.cell? ⟨b,o+i * 4+2,none⟩=some (.int .i64 l[i].g)/\w.cell? ⟨b,o+i * 4+3,none⟩=some (.int .i64 l[i].k)):=by
 have J:=h.rd
 rw[<-X]at J
 obtain⟨b,o,rfl,U,V⟩:=J.cells (by omega) (by decide)
 have H:∀j (I:j<4) u,(ec l[i])[j]? =some u->w.cell? ⟨b,o+(i * 4+j),none⟩=some u:=λj I u Y=>V _ _ (by rw[C2Q l i j I hi];exact Y)
 exact⟨b,o,rfl,U,H 0 (by decide) _ rfl,H 1 (by decide) _ rfl,H 2 (by decide) _ rfl,H 3 (by decide) _ rfl⟩
end
theorem Rd.lt4{w:World}{v:Value}{X n k:Nat}{Y:List Value}(h:Rd w X v n Y)(V:v.ownBlock=some k)(J:0<n):k<w.heap.size:=by
 obtain⟨A,c,rfl,_,_,_,_,U⟩:=h
 obtain⟨I,rfl,Z,_⟩:=U J
 have:I.block=k:=by simpa[Value.ownBlock]using V
 omega
def A7c(l:List En):Nat->ByteArray
 |0=>⟨#[]⟩
 |k+1=>((l[k]?).map En.s).getD ⟨#[]⟩
theorem A7d{l:List En}{k:Nat}(h:k<l.length):A7c l (k+1)=l[k].s:=by simp[A7c,h]
theorem B8J{l:List En}{k:Nat}(h:k<l.length):C0N l k↔ltS (A7c l k) l[k].s/\okE l[k]:=by
 constructor
 ·intro Y
  have I:=Y _ (List.getElem?_eq_getElem h)
  refine⟨?_,I.1⟩
  cases k with
  |zero=>
   have:=I.1.1.1
   show([]:List UInt8)<_
   match U:l[0].s.data.toList with
   |[]=>rw[U]at this;exact absurd this (by decide)
   |_::_=>exact List.nil_lt_cons _ _
  |succ k=>
   have J:k<l.length:=by omega
   rw[A7d J]
   exact I.2 _ (by omega) (by simp[J])
 ·rintro⟨I,X⟩ e V
  rw[List.getElem?_eq_getElem h]at V
  obtain rfl:=Option.some.inj V
  refine⟨X,λd J U=>?_⟩
  cases k with
  |zero=>omega
  |succ k=>
   have J:k<l.length:=by omega
   rw[A7d J]at I
   rw[show k+1-1=k from rfl,List.getElem?_eq_getElem J]at U
   rw[<-Option.some.inj U]
   exact I
theorem C0W{l:List En}(h:∀k,k<l.length->C0N l k):S6 l:=λk e I=>h k (List.getElem?_eq_some_iff.1 I).1 e I
theorem B62(e:En)(hs:e.s.size<=maxLen)(x:ByteArray)(b:Nat)(w:World)(I:C3 w b 9 #[.string x]):
 Calls Tryz.prog 214 #[.agg (ea e),.pointer (some ⟨b,0,none⟩)] w λr w'=>r= .returned (.bool (!(decide (ltS x e.s))|| !decide (okE e)))/\C3 w' b 9 #[.string e.s]/\B0 (·=b) w (·=b) w':=by
 obtain⟨y,hy⟩:∃y,y=w.heap.size:=⟨_,rfl⟩
 obtain⟨V,X⟩:∃V,V=w.alloc (.cells (ea e) 74):=⟨_,rfl⟩
 have aC:C3 V y 74 (ea e):=by rw[X,hy];exact C3.new _ _ _
 have Z:C3 V b 9 #[.string x]:=by rw[X];exact I.alloc _
 obtain⟨U,J⟩:∃U,U=V.setCell ⟨b,0,none⟩ (.string e.s):=⟨_,rfl⟩
 have aE:y≠b:=by have:=I.lt;omega
 have aA:=C6x (show C3 U b 9 #[.string e.s]by rw[J];exact Z.set_ 0 _)
 have aF:=C6x (show C3 U y 74 (ea e)by rw[J];exact aC.far (p:=⟨b,0,none⟩) aE _)
 have HA:=C6x (show B0 (·=b) w (·=b) U by rw[J,X];exact((B0.refl (·=b) w).alloc _).setCell (p:=⟨b,0,none⟩) (.inl rfl) _)
 have Y:=C6x (B10 e hs U)
 have aB:=C6x (C0M x e.s)
 have b0:V.cell? ⟨b,0,none⟩=some (.string x):=Z.cell 0
 have f0:=Z.frozen 0
 have HV:=C6x X
 have HU:=C6x J
 have aG:=C6x hy
 obtain⟨s0,s1,s2,s3⟩:=aC.e4.all
 clear X J hy aC Z I aE
 obtain⟨B,I⟩:∃B,B=decide (okE e):=⟨_,rfl⟩
 rw[<-I]at Y⊢
 obtain⟨L,hL⟩:∃L,L=decide (ltS x e.s):=⟨_,rfl⟩
 rw[<-hL]at aB⊢
 clear I hL
 obtain⟨s,i,g,k⟩:=e
 simp only[ea]at HV⊢
 simp only at s0 s1 s2 s3 hs HU Y aB
 simp only[ea]at Y
 have aH:=aB.out
 go_enter Tryz.func214,Tryz.ntmps214
 go_upto_region 1 with(fail)
 rw[<-HV.out,<-aG.out]
 go_upto_region 3 with(fail)
 rw[<-HU.out]
 clear s0 s1 s2 s3 b0 f0
 obtain⟨s0,s1,s2,s3⟩:=aF.out.e4.all
 simp only at s0 s1 s2 s3
 clear aH
 cases L with
 |true=>
  go_wp2_with (first
   |(go_at_call 215;refine Y.out.mono ?_;rintro r w1 ⟨rfl,a1⟩;have aD:=C6x a1;clear a1)
   |fail)
  go_ret
  exact⟨by cases B<;>rfl,aA.out.keep (aD.out.block _ aA.out.lt (λh=>h)),HA.out.over aD.out⟩
 |false=>
  go_wp2_with (fail)
  go_ret
  exact⟨rfl,aA.out,HA.out⟩
def C5o(w:World)(b:Nat)(l:List En)(t:Value)(wr:World):Prop:=∃k:Nat,k<=l.length/\t= .int .i64 (k:Int)/\(∀i,i<k->C0N l i)/\C3 wr b 9 #[.string (A7c l k)]/\B0 (·=b) w (·=b) wr
def C5p(w:World)(b:Nat)(l:List En)(x:Ending)(w':World):Prop:=∃r:Int,x= .returned (.int .i64 r)/\(0<=r↔¬S6 l)/\B0 (·=b) w (·=b) w'
theorem B30(v:Value)(l:List En)(b:Nat)(w:World)(h:M0 w v l)(J:C3 w b 9 #[.string ⟨#[]⟩])(hb:∀k,v.ownBlock=some k->0<l.length->k≠b):
 Calls Tryz.prog 226 #[v,.func (.func 214) #[] #[.pointer (some ⟨b,0,none⟩)]] w (C5p w b l):=by
 obtain⟨A,c,rfl,aM,aL⟩:=h.form
 obtain⟨n,hn⟩:∃n,n=l.length:=⟨_,rfl⟩
 have aR:(n:Int)<=9223372036854775807:=by unfold maxLen at aL;omega
 rw[<-hn]at h hb aM⊢
 have HR:=C6x h
 have U:=C6x hn
 have HB:=C6x J
 have aQ:=C6x hb
 clear h hn J hb aM aL
 go_enter Tryz.func226,Tryz.ntmps226
 go_wp2_with fail
 go_loopw [8] (C5o w b l) (λt _=>n-(intOf t).toNat)
 case atStart=>exact⟨0,Nat.zero_le _,rfl,λi hi=>absurd hi (Nat.not_lt_zero _),HB.out,B0.refl _ _⟩
 case round=>
  obtain⟨k,hk,rfl,aJ,aA,ha⟩:=hrel
  rw[<-U.out]at hk
  have aF:=C6x aJ
  have aO:=C6x aA
  have HA:=C6x ha
  clear aJ aA ha
  by_cases aD:k<n
  ·have aC:k<l.length:=by rw[<-U.out];exact aD
   obtain⟨I,o1,rfl,aA,V,X,Y,Z⟩:=HR.out.at_ U.out aC
   have hw:wr.heap[I]? =w.heap[I]? :=HA.out.block I aA (λe=>aQ.out I rfl (by omega) e)
   replace V:=(World.cell?_of_block (a:=⟨I,o1+k * 4,none⟩) hw).trans V
   replace X:=(World.cell?_of_block (a:=⟨I,o1+k * 4+1,none⟩) hw).trans X
   replace Y:=(World.cell?_of_block (a:=⟨I,o1+k * 4+2,none⟩) hw).trans Y
   replace Z:=(World.cell?_of_block (a:=⟨I,o1+k * 4+3,none⟩) hw).trans Z
   obtain⟨e,he⟩:∃e,e=l[k]:=⟨_,rfl⟩
   have aN:e.s.size<=maxLen:=by rw[he];exact HR.out.sz _ (List.getElem_mem _)
   have HW:=C6x (B62 e aN (A7c l k) b wr aO.out)
   have aB:=C6x (B8J aC)
   have HE:=C6x (show A7c l (k+1)=e.s by rw[A7d aC,he])
   have aH:=C6x aD
   rw[<-he]at V X Y Z aB
   obtain⟨B,J⟩:∃B,B=(!(decide (ltS (A7c l k) e.s))|| !decide (okE e)):=⟨_,rfl⟩
   rw[<-J]at HW
   have aG:=C6x J
   clear aA hw aC he aN J
   obtain⟨s,i,g,kd⟩:=e
   simp only[ea]at HW
   simp only at V X Y Z HE
   go_wp2_with fail
   refine HW.out.mono ?_
   rintro x w2 ⟨rfl,aK,aI⟩
   have aP:=C6x aK
   have aE:=C6x (HA.out.trans aI)
   clear aK aI V X Y Z
   cases B with
   |false=>
    go_wp2_with fail
    refine⟨⟨k+1,by have:=aH.out;have:=U.out;omega,by go_num,λi hi=>?_,by rw[HE.out];exact aP.out,aE.out⟩,by have:=aH.out;simp[intOf];omega⟩
    by_cases e:i=k
    ·rw[e,aB.out]
     have:=aG.out
     simpa using this.symm
    ·exact aF.out i (by omega)
   |true=>
    go_wp2_with fail
    go_ret
    refine⟨_,rfl,⟨λ_ hr=>?_,λ_=>by omega⟩,aE.out⟩
    have:=aG.out
    rw[decide_eq_true ((aB.out.1 (hr k)).1),decide_eq_true ((aB.out.1 (hr k)).2)]at this
    exact absurd this (by decide)
  ·obtain rfl:k=n:=by omega
   clear aD hk
   go_wp2_with fail
   go_ret
   exact⟨-1,rfl,⟨λh=>absurd h (by decide),λh=>absurd (C0W λi hi=>aF.out i (by rw[U.out];exact hi)) h⟩,HA.out⟩
theorem A9M(v:Value)(l:List En)(b:Nat)(w:World)(h:M0 w v l)(U:C3 w b 9 #[.string ⟨#[]⟩])(X:∀k,v.ownBlock=some k->0<l.length->k≠b):
 Calls Tryz.prog 216 #[v,.func (.func 214) #[] #[.pointer (some ⟨b,0,none⟩)]] w λx w'=>x= .returned (.bool (decide (¬S6 l)))/\B0 (·=b) w (·=b) w':=by
 have H:=C6x (B30 v l b w h U X)
 clear h U X
 go_enter Tryz.func216,Tryz.ntmps216
 go_wp2_with (first
  |(go_at_call 226;refine H.out.mono ?_;rintro x w1 ⟨r,rfl,Y,V⟩;have J:=C6x Y;have Z:=C6x V;clear Y V)
  |fail)
 go_ret
 refine⟨?_,Z.out⟩
 by_cases I:0<=r
 ·rw[decide_eq_true I,decide_eq_true (J.out.1 I)];rfl
 ·rw[decide_eq_false I,decide_eq_false (λx=>I (J.out.2 x))];rfl
theorem A9N(v:Value)(l:List En)(w:World)(h:M0 w v l):
 Calls Tryz.prog 200 #[v] w λx w'=>x= .returned (.bool (decide (S6 l)))/\B0 B5 w B5 w':=by
 obtain⟨V,I⟩:∃V,V=w.alloc (.cells #[.string ⟨#[]⟩] 9):=⟨_,rfl⟩
 obtain⟨b,J⟩:∃b,b=w.heap.size:=⟨_,rfl⟩
 have Y:C3 V b 9 #[.string ⟨#[]⟩]:=by rw[I,J];exact C3.new _ _ _
 have U:B0 B5 w B5 V:=by rw[I];exact(B0.refl _ _).alloc _
 have HN:=C6x (show B0 B5 w (·=b) V from B0.new_ U.toBelow (λk X=>by rw[X,J];exact Nat.le_refl _))
 have H:=C6x (A9M v l b V (h.step U) Y λk X h0 e=>by
  have:=Rd.lt4 h.rd X h0
  omega)
 have HV:=C6x I
 have HB:=C6x J
 clear h I J Y U
 go_enter Tryz.func200,Tryz.ntmps200
 go_upto_region 2 with(fail)
 rw[<-HV.out,<-HB.out]
 go_wp2_with (first
  |(go_at_call 216;refine H.out.mono ?_;rintro x w1 ⟨rfl,Z⟩;have aA:=C6x Z;clear Z)
  |fail)
 go_ret
 exact⟨by by_cases hr:S6 l<;>simp[hr],(HN.out.trans aA.out).sub (λ_ h=>h.elim)⟩
end
end Go.Proofs.YtbefmjiclpobjaaGreat
