import Derived.Test.YtbefmjiclpobjaaGreatMj01
import Derived.Deep.DeepCutAuto
import Derived.Deep.Slices
import Derived.Deep.Fields
import Derived.ChangeArms
import Derived.Test.YtbefmjiclpobjaaGreatMj00
namespace Go.Proofs.YtbefmjiclpobjaaGreat
set_option maxHeartbeats 3200000
set_option maxRecDepth 3000
section
open Go.RowKit
def UnR(w:World)(l:List Nat)(x:Ending)(w':World):Prop:=
 ∃a k F,x= .returned (.tuple #[.agg #[.int .u64 ((T8 l).e:Int),.int .u64 ((T8 l).c:Int),.bool (T8 l).f,.bool (T8 l).g,.slice a (T8 l).d.length k],.int .i64 (A0t l)])/\
  Sl w' F 5 1 (.slice a (T8 l).d.length k) (T8 l).d.length ((T8 l).d.map u8)/\B0 B5 w F w'
theorem UnR.none{w w':World}{l:List Nat}(h:¬A0q l)(J:B0 B5 w B5 w'):UnR w l (.returned (.tuple #[.agg #[.int .u64 0,.int .u64 0,.bool false,.bool false,.slice none 0 0],.int .i64 4])) w':=by
 have e:T8 l=B72:=if_neg h
 have I:A0t l=4:=if_neg h
 unfold UnR
 rw[e,I]
 exact⟨_,_,_,rfl,Sl.nil _ _ _,J⟩
theorem UnR.some{w w':World}{l:List Nat}{F:Nat->Prop}{a:Option Addr}{k:Nat}(h:A0q l)(U:Sl w' F 5 1 (.slice a (dec l).d.length k) (dec l).d.length ((dec l).d.map u8))(J:B0 B5 w F w'):
 UnR w l (.returned (.tuple #[.agg #[.int .u64 ((dec l).e:Int),.int .u64 ((dec l).c:Int),.bool (dec l).f,.bool (dec l).g,.slice a (dec l).d.length k],.int .i64 0])) w':=by
 have e:T8 l=dec l:=if_pos h
 have I:A0t l=0:=if_pos h
 unfold UnR
 rw[e,I]
 exact⟨_,_,_,rfl,U,J⟩
theorem A8u{ops:Array Oper}{rest:List Oper}{o:Oper}{a:Act}{w:World}{Q:Exit->Act->World->Prop}{t t':TypeId}(Z:(Tryz.prog.info? t).map (·.size)=some 5)(I:o.guard=none)(x y:Operand)(Y:o.op= .store t x y)
 (z:Nat) (C D:Array Value) (V:C3 w z t' C) (W:C.size=5) (X:D.size=5) (U:D.all (·.oneCell')=true) (hx:a.eval x= .pointer (some ⟨z,0,none⟩)) (hy:a.eval y= .agg D)
 (h:wpList Tryz.prog ops Q rest (a.put o.dst undef) (w.setCells z 0 D.toList)):wpList Tryz.prog ops Q (o::rest) a w:=by
 refine wpList_plain I λK hK=>?_
 have J:=A1n (ops:=ops) (K:=K) (Q:=Q) (E:=True) Z I x y Y z C D V W X U hx hy (hK _ _ h)
 rwa[if_pos (by simp[Region.wanted,I])]at J
theorem A6w(v:Value)(n:Nat)(l:List Nat)(w:World)(h:Rd w 1 v n (l.map u8))(I:n≠128\/106<l.getD 9 0):
 Calls Tryz.prog 157 #[v] w (UnR w l):=by
 have V:=h.len8
 have J:¬A0q l:=λh=>by obtain⟨h1,h2,_⟩:=h;omega
 obtain⟨A,c,rfl,aA,Z⟩:=h.form
 unfold maxLen at Z
 have U:=C6x J
 by_cases W:n=128
 ·subst W
  obtain⟨b,o,c',e,_,_,_⟩:=h.adr (by decide)
  injection e with e1 _ e3
  subst e1 e3
  have Y:=h.at8 (k:=9) (by decide)
  obtain⟨x,X⟩:∃x,x=l.getD 9 0:=⟨_,rfl⟩
  rw[<-X]at Y I
  have aB:(106:Int)<(x:Int):=by omega
  clear h V J I X
  go_enter Tryz.func157,Tryz.ntmps157
  go_wp2_with fail
  exact bodyPost_ret (v:=.tuple #[.agg #[.int .u64 0,.int .u64 0,.bool false,.bool false,.slice none 0 0],.int .i64 4]) (by simp[results,Tryz.results157,go_sem]) rfl (UnR.none U.out ((B0.refl _ _).alloc _))
 ·have I:((n:Int)!=128)=true:=by rw[bne_iff_ne];omega
  clear h V J W
  go_enter Tryz.func157,Tryz.ntmps157
  go_wp2_with fail
  exact bodyPost_ret (v:=.tuple #[.agg #[.int .u64 0,.int .u64 0,.bool false,.bool false,.slice none 0 0],.int .i64 4]) (by simp[results,Tryz.results157,go_sem]) rfl (UnR.none U.out ((B0.refl _ _).alloc _))
def C1X(w:World)(t:TypeId)(p:Pc)(t5:Value)(wr:World):Prop:=
 ∃z a k F,t5= .pointer (some ⟨z,0,none⟩)/\C3 wr z t #[.int .u64 (p.e:Int),.int .u64 (p.c:Int),.bool p.f,.bool p.g,.slice a p.d.length k]/\Sl wr F 5 1 (.slice a p.d.length k) p.d.length (p.d.map u8)/\B0 B5 w F wr
theorem k89{w:World}{b o c I J:Nat}{l:List Nat}(h:Rd w 1 (.slice (some ⟨b,o,none⟩) 128 c) 128 (l.map u8))(U:I=l.getD 8 0)(V:J=l.getD 9 0):
 w.cell? ⟨b,o+8,none⟩=some (.int .u8 (I:Int))/\w.cell? ⟨b,o+9,none⟩=some (.int .u8 (J:Int)):=by
 rw[U,V];exact⟨h.at8 (by decide),h.at8 (by decide)⟩
theorem Rd.put{w:World}{b o n c z:Nat}{I:List Value}(h:Rd w 1 (.slice (some ⟨b,o,none⟩) n c) n I)(U:b≠z)(D:List Value):Rd (w.setCells z 0 D) 1 (.slice (some ⟨b,o,none⟩) n c) n I:=
 h.far (λk J _ _=>L7 z (by simp[Value.ownBlock]at J;omega) D 0 w) (B0.lsetCells D 0 _ (B0.refl (λk=>k=z) w) (.inl rfl)).size
theorem Sl.put{w:World}{F:Nat->Prop}{e:TypeId}{J n z:Nat}{v:Value}{U:List Value}(h:Sl w F e J v n U)(hF:∀k,F k->k≠z)(D:List Value):Sl (w.setCells z 0 D) F e J v n U:=
 ⟨J2 h.own λj I=>L7 z (hF j (h.inF j I)) D 0 w,h.inF,λj I=>Nat.lt_of_lt_of_le (h.bd j I) (B0.lsetCells D 0 _ (B0.refl (λk=>k=z) w) (.inl rfl)).size⟩
theorem A3W{W w':World}{t:TypeId}{P:Pc}{z n U V k:Nat}{C:Array Value}{F:Nat->Prop}{a:Option Addr}{f g:Bool}(hB:C3 w' z t C)(hC:C.size=5)(I:Sl w' F 5 1 (.slice a n k) n (P.d.map u8))(hn:P.d.length=n)(hA:B0 B5 W F w')(hz:W.heap.size<=z)(hF:∀k,F k->k≠z)
 (X:U=P.e) (Y:V=P.c) (Z:f=P.f) (e4:g=P.g):C1X W t P (.pointer (some ⟨z,0,none⟩)) (w'.setCells z 0 (pc5 (U:Int) (V:Int) f g (.slice a n k)).toList):=by
 subst hn X Y Z e4
 exact⟨z,a,k,F,rfl,hB.putAll (by rw[hC];rfl),⟨J2 I.own λj J=>L7 z (hF j (I.inF j J)) _ 0 w',I.inF,λj J=>Nat.lt_of_lt_of_le (I.bd j J) (B0.lsetCells _ 0 _ (B0.refl (λk=>k=z) w') (.inl rfl)).size⟩,B0.lsetCells _ 0 _ hA (.inr hz)⟩
theorem C0o(x:Nat)(h:x<256):(bits .and .u8 (x:Int) 1!=0)=(x%2==1):=by
 revert h;revert x;decide+kernel
theorem C0p(x:Nat)(h:x<256):(bits .and .u8 (x:Int) 2!=0)=(x/2%2==1):=by
 revert h;revert x;decide+kernel
theorem B2R(v:Value)(l:List Nat)(w:World)(h:Rd w 1 v 128 (l.map u8))(hl:∀x∈l,x<256)(h9:l.getD 9 0<=106):
 Calls Tryz.prog 157 #[v] w (UnR w l):=by
 have cU:=h.len8
 obtain⟨b,o,c,rfl,hb,dK,bG⟩:=h.adr (by decide)
 have bJ:=B73 cU h9 hl
 have aV:(dec l).d.length=l.getD 9 0:=by show((l.drop 10).take (l.getD 9 0)).length=_;rw[List.length_take,List.length_drop];omega
 have bH:∀x∈(dec l).d,x<256:=λx hx=>hl x (List.mem_of_mem_drop (List.mem_of_mem_take hx))
 have bS:l.getD 8 0<256:=by rw[List.getD_eq_getElem?_getD,List.getElem?_eq_getElem (by omega)];exact hl _ (List.getElem_mem _)
 obtain⟨z,hz⟩:∃z,z=w.heap.size:=⟨_,rfl⟩
 obtain⟨W,hW⟩:∃W,W=w.alloc (.cells #[.int .u64 0,.int .u64 0,.bool false,.bool false,.slice none 0 0] 201):=⟨_,rfl⟩
 have hZ:C3 W z 201 #[.int .u64 0,.int .u64 0,.bool false,.bool false,.slice none 0 0]:=by rw[hW,hz];exact C3.new _ _ _
 have hA:B0 B5 w B5 W:=by rw[hW];exact(B0.refl _ _).alloc _
 have hR:Rd W 1 (.slice (some ⟨b,o,none⟩) 128 c) 128 (l.map u8):=by rw[hW];exact h.up _
 have cY:b<z:=by rw[hz];exact hb
 have c8:=hR.at8 (k:=8) (by decide)
 have c9:=hR.at8 (k:=9) (by decide)
 have bO:=hR.sub 0 8 c (by decide) (by omega) bG
 rw[Nat.add_zero,List.drop_zero]at bO
 have aY:=hR.sub 10 (l.getD 9 0) (c-10) (by omega) (by omega) (by omega)
 have bR:R8 (l.take 8)<18446744073709551616:=by
  have:=A3x 8 (l.take 8) (by rw[List.length_take];omega) (λx hx=>hl x (List.mem_of_mem_take hx))
  rwa[C2w]at this
 have aN:=C0o _ bS
 have aO:=C0p _ bS
 unfold maxLen at bG
 obtain⟨x8,h8⟩:∃x,x=l.getD 8 0:=⟨_,rfl⟩
 obtain⟨Z,aP⟩:∃x,x=l.getD 9 0:=⟨_,rfl⟩
 obtain⟨s,hs⟩:∃s,s=R8 (l.take 8):=⟨_,rfl⟩
 obtain⟨P,hP⟩:∃P,P=dec l:=⟨_,rfl⟩
 have cO:P.e=s/1099511627776:=by rw[hP,hs];rfl
 have hPc:P.c=s%1099511627776:=by rw[hP,hs];rfl
 have cP:P.f=(x8%2==1):=by rw[hP,h8];rfl
 have cQ:P.g=(x8/2%2==1):=by rw[hP,h8];rfl
 have cN:P.d=(l.drop 10).take Z:=by rw[hP,aP];rfl
 rw[<-h8]at c8 aN aO
 rw[<-aP]at c9 aY h9 aV
 rw[<-hs]at bR
 rw[<-hP]at bJ aV bH
 rw[<-cP]at aN
 rw[<-cQ]at aO
 rw[<-cN]at aY
 have dM:(Z:Int)<=106:=by omega
 have dN:(10:Int)<=(c:Int):=by omega
 have dO:(118:Int)<=(c:Int)-10:=by omega
 have dP:(128:Int)<=(c:Int):=by omega
 have dQ:¬c=10:=by omega
 have dR:(Z:Int)<=(c:Int)-10:=by omega
 have dS:Z<=c-10:=by omega
 have HW:=C6x hW
 have HZ:=C6x hZ
 have HA:=C6x hA
 have HR:=C6x hR
 have dD:=C6x bO
 have aT:=C6x aY
 have HS:=C6x hs
 have bB:=C6x bR
 have cE:=C6x bJ
 have aS:=C6x aV
 have cB:=C6x bH
 have HL:=C6x hl
 have HP:=C6x hP
 obtain⟨pe,bK⟩:∃x,x=P.e:=⟨_,rfl⟩
 obtain⟨pn,bM⟩:∃x,x=P.c:=⟨_,rfl⟩
 have aE:=C6x bK
 have aF:=C6x bM
 have cF:=C6x (show pe=s/1099511627776 by rw[bK,cO])
 have bA:=C6x (show pn=s%1099511627776 by rw[bM,hPc])
 have aD:=C6x h8
 have aC:=C6x aP
 have aQ:=C6x (show Z<=1000000000 by omega)
 have aR:=C6x (show b<W.heap.size from Nat.lt_of_lt_of_le hb hA.size)
 have V:=C6x (k89 hR.drew h8 aP)
 have X:=C6x (k89 (hR.up (.cells #[.int .u64 0,.int .u64 0,.bool false,.bool false,.slice none 0 0] 201)).drew h8 aP)
 have dA:=C6x aN
 have dB:=C6x aO
 have cM:=C6x hz
 have dL:=C6x cY
 have H9:=C6x h9
 clear h hl cU hb dK bG bJ aV bH bS hW hZ hA hR bO aY bR aN aO h8 aP hs hP cO hPc cP cQ cN h9 hz cY bK bM
 go_enter Tryz.func157,Tryz.ntmps157
 go_upto_region 1 with(fail)
 rw[<-HW.out,<-cM.out]
 go_wp2_with fail
 refine(A3z _ 8 _ _ dD.out (by decide) (λx hx=>HL.out x (List.mem_of_mem_take hx))).mono ?_
 rintro x w1 ⟨rfl,rfl⟩
 rw[<-HS.out]
 go_upto_region 4 with(fail)
 go_cut [5] (λt5 wr=>C1X W 201 P t5 wr)
 case first=>
  have aN:=dA.out
  have aO:=dB.out
  obtain⟨f,hf⟩:∃f,f=P.f:=⟨_,rfl⟩
  obtain⟨g,hg⟩:∃g,g=P.g:=⟨_,rfl⟩
  rw[<-hf]at aN
  rw[<-hg]at aO
  have HF:=C6x hf
  have HG:=C6x hg
  clear hf hg
  refine D6 (S:=(λw'=>w'.cell? ⟨b,o+8,none⟩=some (.int .u8 (x8:Int))/\w'.cell? ⟨b,o+9,none⟩=some (.int .u8 (Z:Int)))) (by with_reducible first|exact U.out|exact J.out|exact Y.out|exact X.out|exact V.out) (λhH=>?_)
  refine C62 0 rfl ?_
  refine C62 2 rfl ?_
  refine C62 4 rfl ?_
  refine C62 5 rfl ?_
  refine C62 6 rfl ?_
  refine C62 7 rfl ?_
  refine C62 8 rfl ?_
  refine C62 9 rfl ?_
  refine C62 10 rfl ?_
  refine C62 11 rfl ?_
  refine C62 12 rfl ?_
  refine C62 13 rfl ?_
  refine C62 14 rfl ?_
  refine C62 15 rfl ?_
  refine C62 16 rfl ?_
  refine C62 17 rfl ?_
  refine C62 18 rfl ?_
  refine C62 19 rfl ?_
  refine C63 1 22 rfl rfl (λK hK=>?_) (λK hK=>?_)
  ·go_simp
   refine(A2F s _).mono ?_
   rintro x w1 ⟨rfl,rfl⟩
   rw[<-cF.out]
   go_wp2_with fail
   refine C60 hK (by with_reducible first|exact U.out|exact J.out|exact Y.out|exact X.out|exact V.out) ?_
   clear hK K hH
   intro hH
   try simp only[Act.put,sA,sB,sC]
   refine C63 3 22 rfl rfl (λK hK=>?_) (λK hK=>?_)
   ·go_simp
    refine(A4G s bB.out _).mono ?_
    rintro x w1 ⟨rfl,rfl⟩
    rw[<-bA.out]
    go_wp2_with fail
    refine C60 hK (by with_reducible first|exact U.out|exact J.out|exact Y.out|exact X.out|exact V.out) ?_
    clear hK K hH
    intro hH
    try simp only[Act.put,sA,sB,sC]
    refine C63 20 22 rfl rfl (λK hK=>?_) (λK hK=>?_)
    ·go_simp
     refine(S8 _ Z _ _ aT.out.drew (T5 _) aQ.out).mono ?_
     rintro x wc ⟨vc,Fc,rfl,hc,I⟩
     obtain⟨Ac,cc,rfl,_,_⟩:=hc.form0
     have bP:=HR.out.drew.far (λ_ _ _ h=>I.block _ h (λh=>h)) I.size
     have aA:=C6x (bP.up (.cells #[.int .u64 0,.int .u64 0,.bool false,.bool false,.slice none 0 0] 201))
     have Y:=C6x (k89 bP aD.out aC.out)
     have J:=C6x (k89 aA.out aD.out aC.out)
     have aJ:=C6x (hc.lup1 (.cells #[.int .u64 0,.int .u64 0,.bool false,.bool false,.slice none 0 0] 201))
     have aI:=C6x (B0.of_drew (I.alloc (.cells #[.int .u64 0,.int .u64 0,.bool false,.bool false,.slice none 0 0] 201)))
     have aB:=C6x (C3.new wc 201 #[.int .u64 0,.int .u64 0,.bool false,.bool false,.slice none 0 0])
     have aG:=C6x (show W.heap.size<=wc.heap.size from I.size)
     have aH:=C6x (show b≠wc.heap.size by have:=aR.out;have:=aG.out;omega)
     have aL:=C6x (show∀k,Fc k->k≠wc.heap.size fromλk hk e=>by have:=hc.bd k hk;omega)
     clear bP hc I
     go_wp2_with fail
     refine C60 hK (by with_reducible first|exact U.out|exact J.out|exact Y.out|exact X.out|exact V.out) ?_
     clear hK K hH
     intro hH
     try simp only[Act.put,sA,sB,sC]
     refine C62 21 rfl ?_
     refine C6z 22 rfl (λK hK=>?_)
     go_simp
     refine C60 hK (by with_reducible first|exact U.out|exact J.out|exact Y.out|exact X.out|exact V.out) ?_
     clear hK K hH
     intro hH
     try simp only[Act.put,sA,sB,sC]
     refine C6z 23 rfl (λK hK=>?_)
     refine A1n A02 rfl (.tmp 5) (.tmp 42) rfl _ _ (pc5 (pe:Int) (pn:Int) f g (.slice Ac Z cc)) aB.out rfl rfl (A2H _ _ _ _ _ _ _) rfl rfl ?_
     have U:=C6x (k89 (aA.out.put aH.out (pc5 (pe:Int) (pn:Int) f g (.slice Ac Z cc)).toList) aD.out aC.out)
     have aK:=C6x (A3W (P:=P) aB.out rfl aJ.out aS.out aI.out aG.out aL.out aE.out aF.out HF.out HG.out)
     refine C60 hK (by with_reducible first|exact U.out|exact J.out|exact Y.out|exact X.out|exact V.out) ?_
     clear hK K hH
     intro hH
     try simp only[Act.put]
     refine wpAnyH_done (by kernel_rfl) ?_ _
     go_wp2_with fail
     go_meet
     exact aK.out
    ·go_simp
     refine C60 hK (by with_reducible first|exact U.out|exact J.out|exact Y.out|exact X.out|exact V.out) ?_
     clear hK K hH
     intro hH
     try simp only[Act.put,sA,sB,sC]
     refine C6z 20 rfl (λK hK=>?_)
     go_simp
     refine(S8 _ Z _ _ (aT.out.up (.cells #[.int .u64 0,.int .u64 0,.bool false,.bool false,.slice none 0 0] 201)).drew (T5 _) aQ.out).mono ?_
     rintro x wc ⟨vc,Fc,rfl,hc,I⟩
     obtain⟨Ac,cc,rfl,_,_⟩:=hc.form0
     have aA:=C6x ((HR.out.up (.cells #[.int .u64 0,.int .u64 0,.bool false,.bool false,.slice none 0 0] 201)).drew.far (λ_ _ _ h=>I.block _ h (λh=>h)) I.size)
     have J:=C6x (k89 aA.out aD.out aC.out)
     have aJ:=C6x hc
     have aI:=C6x ((((B0.refl B5 W).alloc (.cells #[.int .u64 0,.int .u64 0,.bool false,.bool false,.slice none 0 0] 201)).drew).over' I)
     have aB:=C6x ((C3.new W 201 #[.int .u64 0,.int .u64 0,.bool false,.bool false,.slice none 0 0]).drew.keep (I.block _ (C3.new W 201 #[.int .u64 0,.int .u64 0,.bool false,.bool false,.slice none 0 0]).drew.lt (λh=>h)))
     have aG:=C6x (show W.heap.size<=W.heap.size from Nat.le_refl _)
     have aH:=C6x (show b≠W.heap.size from Nat.ne_of_lt aR.out)
     have aL:=C6x (show∀k,Fc k->k≠W.heap.size fromλk hk e=>by rcases I.into k hk with h|h;exact h;simp at h;omega)
     clear hc I
     go_wp2_with fail
     refine C60 hK (by with_reducible first|exact U.out|exact J.out|exact Y.out|exact X.out|exact V.out) ?_
     clear hK K hH
     intro hH
     try simp only[Act.put,sA,sB,sC]
     refine C62 21 rfl ?_
     refine C6z 23 rfl (λK hK=>?_)
     refine A1n A02 rfl (.tmp 5) (.tmp 42) rfl _ _ (pc5 (pe:Int) (pn:Int) f g (.slice Ac Z cc)) aB.out rfl rfl (A2H _ _ _ _ _ _ _) rfl rfl ?_
     have U:=C6x (k89 (aA.out.put aH.out (pc5 (pe:Int) (pn:Int) f g (.slice Ac Z cc)).toList) aD.out aC.out)
     have aK:=C6x (A3W (P:=P) aB.out rfl aJ.out aS.out aI.out aG.out aL.out aE.out aF.out HF.out HG.out)
     refine C60 hK (by with_reducible first|exact U.out|exact J.out|exact Y.out|exact X.out|exact V.out) ?_
     clear hK K hH
     intro hH
     try simp only[Act.put]
     refine wpAnyH_done (by kernel_rfl) ?_ _
     go_wp2_with fail
     go_meet
     exact aK.out
   ·go_simp
    refine C60 hK (by with_reducible first|exact U.out|exact J.out|exact Y.out|exact X.out|exact V.out) ?_
    clear hK K hH
    intro hH
    try simp only[Act.put,sA,sB,sC]
    refine C6z 3 rfl (λK hK=>?_)
    go_simp
    refine(A4G s bB.out _).mono ?_
    rintro x w1 ⟨rfl,rfl⟩
    rw[<-bA.out]
    go_wp2_with fail
    refine C60 hK (by with_reducible first|exact U.out|exact J.out|exact Y.out|exact X.out|exact V.out) ?_
    clear hK K hH
    intro hH
    try simp only[Act.put,sA,sB,sC]
    refine C6z 20 rfl (λK hK=>?_)
    go_simp
    refine(S8 _ Z _ _ (aT.out.up (.cells #[.int .u64 0,.int .u64 0,.bool false,.bool false,.slice none 0 0] 201)).drew (T5 _) aQ.out).mono ?_
    rintro x wc ⟨vc,Fc,rfl,hc,I⟩
    obtain⟨Ac,cc,rfl,_,_⟩:=hc.form0
    have aA:=C6x ((HR.out.up (.cells #[.int .u64 0,.int .u64 0,.bool false,.bool false,.slice none 0 0] 201)).drew.far (λ_ _ _ h=>I.block _ h (λh=>h)) I.size)
    have J:=C6x (k89 aA.out aD.out aC.out)
    have aJ:=C6x hc
    have aI:=C6x ((((B0.refl B5 W).alloc (.cells #[.int .u64 0,.int .u64 0,.bool false,.bool false,.slice none 0 0] 201)).drew).over' I)
    have aB:=C6x ((C3.new W 201 #[.int .u64 0,.int .u64 0,.bool false,.bool false,.slice none 0 0]).drew.keep (I.block _ (C3.new W 201 #[.int .u64 0,.int .u64 0,.bool false,.bool false,.slice none 0 0]).drew.lt (λh=>h)))
    have aG:=C6x (show W.heap.size<=W.heap.size from Nat.le_refl _)
    have aH:=C6x (show b≠W.heap.size from Nat.ne_of_lt aR.out)
    have aL:=C6x (show∀k,Fc k->k≠W.heap.size fromλk hk e=>by rcases I.into k hk with h|h;exact h;simp at h;omega)
    clear hc I
    go_wp2_with fail
    refine C60 hK (by with_reducible first|exact U.out|exact J.out|exact Y.out|exact X.out|exact V.out) ?_
    clear hK K hH
    intro hH
    try simp only[Act.put,sA,sB,sC]
    refine C62 21 rfl ?_
    refine C6z 23 rfl (λK hK=>?_)
    refine A1n A02 rfl (.tmp 5) (.tmp 42) rfl _ _ (pc5 (pe:Int) (pn:Int) f g (.slice Ac Z cc)) aB.out rfl rfl (A2H _ _ _ _ _ _ _) rfl rfl ?_
    have U:=C6x (k89 (aA.out.put aH.out (pc5 (pe:Int) (pn:Int) f g (.slice Ac Z cc)).toList) aD.out aC.out)
    have aK:=C6x (A3W (P:=P) aB.out rfl aJ.out aS.out aI.out aG.out aL.out aE.out aF.out HF.out HG.out)
    refine C60 hK (by with_reducible first|exact U.out|exact J.out|exact Y.out|exact X.out|exact V.out) ?_
    clear hK K hH
    intro hH
    try simp only[Act.put]
    refine wpAnyH_done (by kernel_rfl) ?_ _
    go_wp2_with fail
    go_meet
    exact aK.out
  ·go_simp
   refine C60 hK (by with_reducible first|exact U.out|exact J.out|exact Y.out|exact X.out|exact V.out) ?_
   clear hK K hH
   intro hH
   try simp only[Act.put,sA,sB,sC]
   refine C6z 1 rfl (λK hK=>?_)
   go_simp
   refine(A2F s _).mono ?_
   rintro x w1 ⟨rfl,rfl⟩
   rw[<-cF.out]
   go_wp2_with fail
   refine C60 hK (by with_reducible first|exact U.out|exact J.out|exact Y.out|exact X.out|exact V.out) ?_
   clear hK K hH
   intro hH
   try simp only[Act.put,sA,sB,sC]
   refine C6z 3 rfl (λK hK=>?_)
   go_simp
   refine(A4G s bB.out _).mono ?_
   rintro x w1 ⟨rfl,rfl⟩
   rw[<-bA.out]
   go_wp2_with fail
   refine C60 hK (by with_reducible first|exact U.out|exact J.out|exact Y.out|exact X.out|exact V.out) ?_
   clear hK K hH
   intro hH
   try simp only[Act.put,sA,sB,sC]
   refine C6z 20 rfl (λK hK=>?_)
   go_simp
   refine(S8 _ Z _ _ (aT.out.up (.cells #[.int .u64 0,.int .u64 0,.bool false,.bool false,.slice none 0 0] 201)).drew (T5 _) aQ.out).mono ?_
   rintro x wc ⟨vc,Fc,rfl,hc,I⟩
   obtain⟨Ac,cc,rfl,_,_⟩:=hc.form0
   have aA:=C6x ((HR.out.up (.cells #[.int .u64 0,.int .u64 0,.bool false,.bool false,.slice none 0 0] 201)).drew.far (λ_ _ _ h=>I.block _ h (λh=>h)) I.size)
   have J:=C6x (k89 aA.out aD.out aC.out)
   have aJ:=C6x hc
   have aI:=C6x ((((B0.refl B5 W).alloc (.cells #[.int .u64 0,.int .u64 0,.bool false,.bool false,.slice none 0 0] 201)).drew).over' I)
   have aB:=C6x ((C3.new W 201 #[.int .u64 0,.int .u64 0,.bool false,.bool false,.slice none 0 0]).drew.keep (I.block _ (C3.new W 201 #[.int .u64 0,.int .u64 0,.bool false,.bool false,.slice none 0 0]).drew.lt (λh=>h)))
   have aG:=C6x (show W.heap.size<=W.heap.size from Nat.le_refl _)
   have aH:=C6x (show b≠W.heap.size from Nat.ne_of_lt aR.out)
   have aL:=C6x (show∀k,Fc k->k≠W.heap.size fromλk hk e=>by rcases I.into k hk with h|h;exact h;simp at h;omega)
   clear hc I
   go_wp2_with fail
   refine C60 hK (by with_reducible first|exact U.out|exact J.out|exact Y.out|exact X.out|exact V.out) ?_
   clear hK K hH
   intro hH
   try simp only[Act.put,sA,sB,sC]
   refine C62 21 rfl ?_
   refine C6z 23 rfl (λK hK=>?_)
   refine A1n A02 rfl (.tmp 5) (.tmp 42) rfl _ _ (pc5 (pe:Int) (pn:Int) f g (.slice Ac Z cc)) aB.out rfl rfl (A2H _ _ _ _ _ _ _) rfl rfl ?_
   have U:=C6x (k89 (aA.out.put aH.out (pc5 (pe:Int) (pn:Int) f g (.slice Ac Z cc)).toList) aD.out aC.out)
   have aK:=C6x (A3W (P:=P) aB.out rfl aJ.out aS.out aI.out aG.out aL.out aE.out aF.out HF.out HG.out)
   refine C60 hK (by with_reducible first|exact U.out|exact J.out|exact Y.out|exact X.out|exact V.out) ?_
   clear hK K hH
   intro hH
   try simp only[Act.put]
   refine wpAnyH_done (by kernel_rfl) ?_ _
   go_wp2_with fail
   go_meet
   exact aK.out
 case rest=>
 obtain⟨zp,a5,k5,F5,rfl,bD,bF,aM⟩:=hcut
 have cW:=HZ.out.keep (aM.block z HZ.out.lt (λh=>h))
 have cV:=HR.out.far (λ_ _ _ h=>aM.block _ h (λh=>h)) aM.size
 have cX:∀k,F5 k->k≠z:=λk hk e=>by
  rcases aM.into k hk with h|h
  ·exact h
  ·have:=HZ.out.lt;omega
 obtain⟨d0,d1,d2,d3,d4⟩:=bD.five
 have cT:=bF.rd
 have cL:=C6x cW
 have dE:=C6x cV
 have dJ:=C6x cX
 have cA:=C6x bD
 have dG:=C6x bF
 have cZ:=C6x (HA.out.trans aM)
 have dC:=C6x cT
 have cD:=C6x (show w.heap.size<=z by have:=cM.out;omega)
 clear cW cV cX bD bF aM cT
 obtain⟨q,hq⟩:∃q,q=P.d.length:=⟨_,rfl⟩
 obtain⟨pf,aW⟩:∃x,x=P.f:=⟨_,rfl⟩
 obtain⟨pg,aX⟩:∃x,x=P.g:=⟨_,rfl⟩
 rw[<-aE.out]at d0
 rw[<-aF.out]at d1
 rw[<-aW]at d2
 rw[<-aX]at d3
 rw[<-hq]at d4
 have bQ:=B4j P _ wc cE.out dC.out cB.out
 rw[<-aE.out,<-aF.out,<-aW,<-aX,<-hq]at bQ
 have dH:=C6x bQ
 have HQ:=C6x hq
 have cG:=C6x aW
 have cH:=C6x aX
 clear bQ hq aW aX
 go_wp2_with fail
 refine(dH.out).mono ?_
 rintro x w2 ⟨v2,F2,rfl,h2,a2⟩
 obtain⟨g2,e2,rfl,_,_⟩:=h2.form0
 have cR:=cA.out.keep (a2.block zp cA.out.lt (λh=>h))
 obtain⟨d0,d1,d2,d3,d4⟩:=cR.five
 rw[<-aE.out]at d0
 rw[<-aF.out]at d1
 rw[<-cG.out]at d2
 rw[<-cH.out]at d3
 rw[<-HQ.out]at d4
 have aU:=C6x (cL.out.keep (a2.block z cL.out.lt (λh=>h)))
 have cJ:=C6x (dE.out.far (λ_ _ _ h=>a2.block _ h (λh=>h)) a2.size)
 have dF:=C6x (dG.out.far a2 (λ_ h _=>h))
 have bZ:=C6x (cZ.out.over a2)
 have cC:=C6x h2.rd
 have cK:=C6x (A6t cE.out.2.2 cB.out)
 clear h2 a2 cR
 by_cases hw:E8 P=l
 ·have bC:=C6x (show A0q l from⟨HR.out.len8,by rw[<-aC.out];exact H9.out,by rw[<-HP.out];exact hw⟩)
  have aZ:=C6x (decide_eq_true hw)
  clear hw
  go_wp2_with (first
   |(go_at_call 72;refine(A4J _ _ 128 128 _ _ _ cC.out cJ.out cK.out HL.out).mono ?_;rintro x w3 ⟨rfl,rfl⟩;rw[aZ.out])
   |(refine A8u A02 rfl (.tmp 2) (.tmp 57) rfl z _ (pc5 (pe:Int) (pn:Int) pf pg (.slice a5 q k5)) aU.out rfl rfl (A2H _ _ _ _ _ _ _) rfl rfl ?_)
   |fail)
  obtain⟨bT,bU,bV,bX,bY⟩:=(aU.out.putAll (D:=pc5 (pe:Int) (pn:Int) pf pg (.slice a5 q k5)) rfl).five
  have bI:UnR w l (.returned (.tuple #[.agg #[.int .u64 (pe:Int),.int .u64 (pn:Int),.bool pf,.bool pg,.slice a5 q k5],.int .i64 0])) (w2.setCells z 0 (pc5 (pe:Int) (pn:Int) pf pg (.slice a5 q k5)).toList):=by
   have hs:=dF.out.put dJ.out (pc5 (pe:Int) (pn:Int) pf pg (.slice a5 q k5)).toList
   have h:=UnR.some bC.out (by rw[<-HP.out];exact hs) (B0.lsetCells _ 0 _ bZ.out (.inr cD.out))
   rw[<-HP.out,<-aE.out,<-aF.out,<-cG.out,<-cH.out,<-HQ.out]at h
   exact h
  exact bodyPost_ret (v:=.tuple #[.agg #[.int .u64 (pe:Int),.int .u64 (pn:Int),.bool pf,.bool pg,.slice a5 q k5],.int .i64 0]) (by simp[results,Tryz.results157,go_sem,bT,bU,bV,bX,bY]) rfl bI
 ·have bC:=C6x (show¬A0q l fromλh=>hw (by rw[HP.out];exact h.2.2))
  have aZ:=C6x (decide_eq_false hw)
  clear hw
  go_wp2_with (first
   |(go_at_call 72;refine(A4J _ _ 128 128 _ _ _ cC.out cJ.out cK.out HL.out).mono ?_;rintro x w3 ⟨rfl,rfl⟩;rw[aZ.out])
   |(refine A8u A02 rfl (.tmp 2) (.tmp 56) rfl z _ (pc5 0 0 false false (.slice none 0 0)) aU.out rfl rfl (A2H _ _ _ _ _ _ _) rfl rfl ?_)
   |fail)
  obtain⟨bT,bU,bV,bX,bY⟩:=(aU.out.putAll (D:=pc5 0 0 false false (.slice none 0 0)) rfl).five
  have bI:=UnR.none bC.out ((B0.lsetCells (pc5 0 0 false false (.slice none 0 0)).toList 0 _ bZ.out (.inr cD.out)).sub (G:=B5) (λ_ h=>h.elim))
  exact bodyPost_ret (v:=.tuple #[.agg #[.int .u64 0,.int .u64 0,.bool false,.bool false,.slice none 0 0],.int .i64 4]) (by simp[results,Tryz.results157,go_sem,bT,bU,bV,bX,bY]) rfl bI
end
section
open Go.ChangeShapes Go.WideShapes Go.ChangeAt Go.RowKit Go.Deep
theorem A6x(v:Value)(n:Nat)(l:List Nat)(w:World)(h:Rd w 1 v n (l.map u8))(U:∀x∈l,x<256):Calls Tryz.prog 157 #[v] w (UnR w l):=by
 by_cases I:n=128
 ·subst I
  by_cases J:l.getD 9 0<=106
  ·exact B2R v l w h U J
  ·exact A6w v _ l w h (.inr (by omega))
 ·exact A6w v n l w h (.inl I)
end
section
open Go.RowKit
def A5w(p:Pc):Int:=if p.ok then 0 else 2
def C1Y(w:World)(p:Pc)(x:Ending)(w':World):Prop:=
 ∃A m k F,x= .returned (.tuple #[.slice A m k,.int .i64 (A5w p)])/\B0 B5 w F w'/\(p.ok->m=128/\Sl w' F 5 1 (.slice A 128 k) 128 ((E8 p).map u8))/\(¬p.ok->A=none/\m=0/\k=0)
theorem B0C(p:Pc)(v:Value)(w:World)(hv:Rd w 1 v p.d.length (p.d.map u8))(V:∀x∈p.d,x<256):
 Calls Tryz.prog 194 #[.agg #[.int .u64 (p.e:Int),.int .u64 (p.c:Int),.bool p.f,.bool p.g,v]] w (C1Y w p):=by
 by_cases h:p.ok
 ·refine(B4j p v w h hv V).mono ?_
  rintro x w' ⟨W,F,rfl,U,I⟩
  obtain⟨A,k,rfl,_,_⟩:=U.form0
  exact⟨A,128,k,F,by rw[A5w,if_pos h],I,λ_=>⟨rfl,U⟩,λJ=>absurd h J⟩
 ·refine(C0n p v w h hv).mono ?_
  rintro x w' ⟨rfl,I⟩
  exact⟨none,0,0,B5,by rw[A5w,if_neg h],I,λJ=>absurd J h,λ_=>⟨rfl,rfl,rfl⟩⟩
end
section
open Go.RowKit
end
section
theorem B7D:∀q V i,i<q->(be q V)[i]? =some (V/256^(q-1-i)%256)
 |0,_,_,h=>absurd h (by omega)
 |q+1,V,i,h=>by
  simp only[be]
  rcases Nat.lt_or_ge i q with hi|hi
  ·rw[List.getElem?_append_left (by rw[C7];exact hi),B7D q _ i hi]
   congr 2
   rw[Nat.div_div_eq_div_mul,Nat.mul_comm,<-Nat.pow_succ]
   congr 2
   omega
  ·rw[List.getElem?_append_right (by rw[C7];exact hi),C7]
   obtain rfl:i=q:=by omega
   simp
def C4(q V I n:Nat):Nat:=V/2^(8 * q-I-n)%2^n
theorem Q7(q V a n:Nat):C4 q V a n<2^n:=Nat.mod_lt _ (Nat.two_pow_pos _)
theorem B0D(q V a:Nat):C4 q V a 0=0:=by simp[C4,Nat.mod_one]
theorem A7W(W c k:Nat):W%2^(c+k)=(W/2^k%2^c) * 2^k+W%2^k:=by
 rw[Nat.add_comm c k,Nat.pow_add,Nat.mod_mul,Nat.add_comm,Nat.mul_comm]
theorem A9t(q V a c k:Nat)(h:a+c+k<=8 * q):C4 q V a (c+k)=C4 q V a c * 2^k+C4 q V (a+c) k:=by
 unfold C4
 rw[A7W,Nat.div_div_eq_div_mul,<-Nat.pow_add,show 8 * q-a-(c+k)+k=8 * q-a-c from by omega,show 8 * q-(a+c)-k=8 * q-a-(c+k)from by omega]
theorem B0E(q V a k:Nat)(J:k<=8-a%8)(h:a/8<q):V/256^(q-1-a/8)%256/2^(8-a%8-k)%2^k=C4 q V a k:=by
 have I:∀j,(256:Nat)^j=2^(8 * j):=λj=>by rw[Nat.pow_mul]
 unfold C4
 rw[I,show(256:Nat)=2^(8-a%8-k) * 2^(a%8+k)from by rw[<-Nat.pow_add,show 8-a%8-k+(a%8+k)=8 from by omega]]
 rw[Nat.mod_mul_right_div_self,Nat.div_div_eq_div_mul,<-Nat.pow_add,Nat.pow_add 2 (a%8) k,Nat.mod_mul_left_mod]
 congr 3
 omega
theorem C21(X p c k:Nat)(I:X<2^c)(J:p<2^k)(h:c+k<=64):(X * 2^k%18446744073709551616) ||| p=X * 2^k+p:=by
 have U:X * 2^k<2^(c+k):=by rw[Nat.pow_add];exact Nat.mul_lt_mul_of_pos_right I (Nat.two_pow_pos _)
 have V:(2:Nat)^(c+k)<=2^64:=Nat.pow_le_pow_right (by decide) h
 rw[Nat.mod_eq_of_lt (by omega),Nat.mul_comm X,<-Nat.two_pow_add_eq_or_of_lt J]
end
section
structure Hd where
 g:Nat
 t:Nat
 f:Nat
def A1R(h:Hd):List Nat:=be 8 (h.t * 16777216+h.f)
def hPc(e:Nat)(h:Hd):Pc:=⟨e,h.g,true,true,A1R h⟩
def hOk(e:Nat)(h:Hd):Prop:=(e<=16777215/\h.g<=1099511627775)/\h.t<1099511627776/\h.f<16777216
instance (e:Nat) (h:Hd):Decidable (hOk e h):=by unfold hOk;exact inferInstance
def A1b(e:Nat)(h:Hd):List Nat:=E8 (hPc e h)
def A1o(l:List Nat):Option Hd:=if A0q l/\(dec l).f=true/\(dec l).g=true/\(dec l).d.length=8 then some ⟨(dec l).c,R8 (dec l).d/16777216,R8 (dec l).d%16777216⟩else none
theorem A1C(h:Hd):(A1R h).length=8:=C7 8 _
theorem B0F(h:Hd):∀x∈A1R h,x<256:=λx I=>A3T 8 _ x I
theorem A4K{e:Nat}{h:Hd}(k:hOk e h):(hPc e h).ok:=⟨k.1.1,k.1.2,by show(A1R h).length<=106;rw[A1C];decide⟩
theorem B0G{e:Nat}{h:Hd}(k:hOk e h):(A1b e h).length=128:=A1B (A4K k).2.2
theorem C0q{e:Nat}{h:Hd}(k:hOk e h):∀x∈A1b e h,x<256:=A6t (A4K k).2.2 (B0F h)
theorem B5M{h:Hd}(J:h.t<1099511627776)(I:h.f<16777216):R8 (A1R h)=h.t * 16777216+h.f:=by
 unfold A1R
 rw[A6q]
 refine Nat.mod_eq_of_lt ?_
 have e:(256:Nat)^8=18446744073709551616:=by decide
 rw[e]
 omega
theorem B5N{e:Nat}{h:Hd}(k:hOk e h):A1o (A1b e h)=some h:=by
 have I:=A4K k
 have V:dec (A1b e h)=hPc e h:=Y6 I
 have W:R8 (A1R h)=h.t * 16777216+h.f:=B5M k.2.1 k.2.2
 unfold A1o
 rw[V,if_pos ⟨A3y I,rfl,rfl,A1C h⟩]
 show some (Hd.mk h.g (R8 (A1R h)/16777216) (R8 (A1R h)%16777216))=some h
 rw[W]
 have J:(h.t * 16777216+h.f)/16777216=h.t:=by have:=k.2.2;omega
 have U:(h.t * 16777216+h.f)%16777216=h.f:=by have:=k.2.2;omega
 rw[J,U]
theorem A8v{l:List Nat}(I:∀x∈l,x<256):be l.length (R8 l)=l:=B71 l.length l rfl I
theorem B4l{l:List Nat}(I:l.length=8)(J:∀x∈l,x<256):R8 l<18446744073709551616:=by
 have h:=A3x 8 l I J
 have e:(256:Nat)^8=18446744073709551616:=by decide
 rw[e]at h
 exact h
theorem B5P{V:Nat}(J:V<18446744073709551616):C4 8 V 0 40=V/16777216:=by
 unfold C4
 have e:2^(8 * 8-0-40)=16777216:=by decide
 have I:2^40=1099511627776:=by decide
 rw[e,I]
 omega
theorem B2S(V:Nat):C4 8 V 40 24=V%16777216:=by
 unfold C4
 have e:2^(8 * 8-40-24)=1:=by decide
 have I:2^24=16777216:=by decide
 rw[e,I,Nat.div_one]
theorem C4g(t f:Nat):V1 (t * 2^24+f) 64=be 8 (t * 16777216+f):=by
 have I:qn 64=8:=by decide
 have J:pad 64=0:=by decide
 unfold V1
 rw[I,J,Nat.pow_zero,Nat.mul_one]
end
section
open Go.RowKit
structure WSt (w:World) (F:Nat->Prop) (b N m:Nat):Prop where
 ex:∃rowv,C3 w b 245 #[.bool true,.int .i64 0,rowv,.int .i64 (pad m)]/\Sl w F 5 1 rowv (qn m) ((V1 N m).map u8)
 inF:F b
 lt:N<2^m
theorem WSt.drew{w:World}{F:Nat->Prop}{b N m:Nat}(h:WSt w F b N m):WSt w.drew F b N m:=
 ⟨let ⟨r,h1,h2⟩:=h.ex;⟨r,h1,h2.drew⟩,h.inF,h.lt⟩
structure Mid (w:World) (F:Nat->Prop) (b g q cap N r:Nat):Prop where
 blk:C3 w b 245 #[.bool true,.int .i64 0,.slice (some ⟨g,0,none⟩) q cap,.int .i64 r]
 sl:Sl w F 5 1 (.slice (some ⟨g,0,none⟩) q cap) q ((be q (N * 2^r)).map u8)
 inF:F b
 ne:g≠b
theorem Mid.grown{J:World}{F:Nat->Prop}{b g q U N:Nat}{v:Value}(W:C3 J b 245 #[.bool true,.int .i64 0,v,.int .i64 0])(Y:J.ownsRow 0 5 1 (.slice (some ⟨g,0,none⟩) (q+1) U) (q+1) ((be q N).map u8++[.int .u8 0]))
 (hF:F b) (V:g≠b) (Z:g<J.heap.size) (X:Bd F J):
 Mid ((J.setCell ⟨b,2,none⟩ (.slice (some ⟨g,0,none⟩) (q+1) U)).setCell ⟨b,3,none⟩ (.int .i64 8)) (λj=>F j\/j=g) b g (q+1) U N 8:=by
 refine⟨(W.set_ 2 _).set_ 3 _,⟨?_,λj I=>?_,λj I=>?_⟩,.inl hF,V⟩
 ·rw[B70,List.map_append,Nat.pow_zero,Nat.mul_one]
  exact J2 (J2 Y λj I=>Below.heap_setCell _ _ _ _ (by
   have:g=j:=by simpa[Value.ownBlock]using I
   subst this;exact V)) λj I=>Below.heap_setCell _ _ _ _ (by
   have:g=j:=by simpa[Value.ownBlock]using I
   subst this;exact V)
 ·have:g=j:=by simpa[Value.ownBlock]using I
  exact .inr this.symm
 ·simp only[World.setCell,Array.size_modify]
  rcases I with h|h
  ·exact X j h
  ·omega
theorem B5Q{w wr J:World}{F F':Nat->Prop}{b g q U n:Nat}{v:Value}{o:Obj}{xs:List Value}(W:B0 F w F' wr)(V:Sl wr F' 5 1 v n xs)(Y:(wr.alloc o).grownBy J v.ownBlock)
 (X:(Value.slice (some ⟨g,0,none⟩) (q+1) U).ownBlock=v.ownBlock\/(Value.slice (some ⟨g,0,none⟩) (q+1) U).ownBlock=some (wr.heap.size+1)) (hF:F' b) (u1 u2:Value):
 B0 F w (λj=>F' j\/j=g) ((J.setCell ⟨b,2,none⟩ u1).setCell ⟨b,3,none⟩ u2):=by
 have Z:∀j,(λj=>F' j\/j=g) j->F' j\/wr.heap.size<=j:=by
  rintro j (h|rfl)
  ·exact .inl h
  ·rcases X with h|h
   ·exact .inl (V.inF _ (by rw[<-h];rfl))
   ·right;simp[Value.ownBlock]at h;omega
 have I:B0 F' wr F' ((J.setCell ⟨b,2,none⟩ u1).setCell ⟨b,3,none⟩ u2):=
  ((((B0.refl F' wr).alloc o).grown Y (λk hk=>.inl (V.inF k hk))).setCell (p:=⟨b,2,none⟩) (.inl hF) _).setCell (p:=⟨b,3,none⟩) (.inl hF) _
 exact W.trans ⟨I.os,I.tape,I.output,I.size,I.block,Z⟩
theorem Mid.last{w:World}{F:Nat->Prop}{b g q I N r:Nat}(h:Mid w F b g q I N r)(J:0<q):w.cell? ⟨g,q-1,none⟩=some (.int .u8 ((N * 2^r%256:Nat):Int)):=by
 rw[h.sl.own.cellAt (q-1) (by omega),List.getElem?_map,B7x _ _ J];rfl
theorem Mid.step{w:World}{F:Nat->Prop}{b g q J N r m n y k:Nat}(h:Mid w F b g q J N r)(hq:0<q)(hm:8 * q=m+r)(aA:0<r)(hr:r<=8)(hk:k=min n r)(hn:0<n)(Z:y<2^n)(hN:N<2^m)
 (v:Int) (hv:v=(((N * 2^r%256) ||| (y/2^(n-k)%256 * 2^(r-k)%256):Nat):Int)) (t:Int) (ht:t=((r-k:Nat):Int)):
 WSt ((w.setCell ⟨b,3,none⟩ (.int .i64 t)).setCell ⟨g,q-1,none⟩ (.int .u8 v)) F b (N * 2^k+y/2^(n-k)) (m+k):=by
 have W:=B5A q N r n y k aA hr hq hk Z
 have Y:qn (m+k)=q:=by unfold qn;omega
 have X:pad (m+k)=r-k:=by unfold pad;omega
 subst hv;subst ht
 refine⟨⟨.slice (some ⟨g,0,none⟩) q J,?_,?_⟩,h.inF,?_⟩
 ·rw[X]
  exact((h.blk.set_ 3 _).far (p:=⟨g,q-1,none⟩) (λe=>h.ne e.symm) _)
 ·have U:Sl (w.setCell ⟨b,3,none⟩ (.int .i64 ((r-k:Nat):Int))) F 5 1 (.slice (some ⟨g,0,none⟩) q J) q ((be q (N * 2^r)).map u8):=
   ⟨J2 h.sl.own λj I=>Below.heap_setCell _ _ _ _ (by
    have:g=j:=by simpa[Value.ownBlock]using I
    subst this;exact h.ne),h.sl.inF,λj I=>by have:=h.sl.bd j I;simpa[World.setCell]using this⟩
  refine⟨?_,U.inF,λj I=>by have:=U.bd j I;simpa[World.setCell]using this⟩
  have V:=(U.own.stored (q-1) (.int .u8 (((N * 2^r%256) ||| (y/2^(n-k)%256 * 2^(r-k)%256):Nat):Int))).1
  have h3:((be q (N * 2^r)).map u8).set (q-1) (.int .u8 (((N * 2^r%256) ||| (y/2^(n-k)%256 * 2^(r-k)%256):Nat):Int))=(V1 (N * 2^k+y/2^(n-k)) (m+k)).map u8:=by
   rw[W.1]
   show _=(be (qn (m+k)) _).map u8
   rw[Y,X,<-W.2,List.map_set]
   rfl
  rw[h3]at V
  rw[Y]
  exact V
 ·refine B7z N m k _ hN ?_
  rw[Nat.div_lt_iff_lt_mul (Nat.two_pow_pos _),<-Nat.pow_add,show k+(n-k)=n from by omega]
  exact Z
theorem A6y(y j:Nat)(V:y<18446744073709551616)(U:j<64):
 bits .and .u64 (y:Int) (IntKind.u64.wrap (IntKind.u64.wrap (2^j)-1))=((y%2^j:Nat):Int):=by
 have W:2^j<2^64:=Nat.pow_lt_pow_right (by decide) U
 have X:0<2^j:=Nat.two_pow_pos j
 have I:IntKind.u64.wrap (2^j)=((2^j:Nat):Int):=by
  rw[IntKind.wrap_u64,show((2:Int)^j)=((2^j:Nat):Int)from by simp]
  omega
 have J:IntKind.u64.wrap (((2^j:Nat):Int)-1)=((2^j-1:Nat):Int):=by
  rw[IntKind.wrap_u64]
  omega
 rw[I,J,u64_and_nat _ _ V (by omega),Nat.and_two_pow_sub_one_eq_mod]
theorem B0H(y:Nat)(I:y<18446744073709551616):bits .and .u64 (y:Int) 0=0:=by
 have:=u64_and_nat y 0 I (by decide)
 simpa using this
theorem A8w(u c:Nat)(J:u<256)(I:c<256)(v:Int)(hv:v=(c:Int)):bits .or .u8 (u:Int) v=((u ||| c:Nat):Int):=by
 rw[hv];exact u8_or_nat u c J I
theorem A6z{y k:Nat}(J:y<2^k)(I:k<=64):y<18446744073709551616:=
 Nat.lt_of_lt_of_le J (by have:=Nat.pow_le_pow_right (n:=2) (by decide) I;simpa using this)
def B7E(w:World)(F:Nat->Prop)(b N m x n:Nat)(t1 t2:Value)(wr:World):Prop:=
 ∃y k I J F',t1= .int .u64 ((y:Nat):Int)/\t2= .int .i64 ((k:Nat):Int)/\k<=n/\y<2^k/\J+k=m+n/\I * 2^k+y=N * 2^n+x/\WSt wr F' b I J/\B0 F w F' wr/\Bd F' wr
theorem A03{w X:World}{F F':Nat->Prop}{b g q Y N I m J r n k x y j:Nat}(U:Mid X F' b g q Y I r)(hq:0<q)(hm:8 * q=J+r)(aD:0<r)(hr:r<=8)(hk:k=min j r)(hj:0<j)(hy:y<2^j)
 (hN:I<2^J) (aE:j<=n) (aF:J+j=m+n) (aB:I * 2^j+y=N * 2^n+x) (ha:B0 F w F' X) (hb:Bd F' X)
 (V W v t:Int) (Z:V=((y%2^(j-k):Nat):Int)) (h2:W=((j-k:Nat):Int))
 (hv:v=(((I * 2^r%256) ||| (y/2^(j-k)%256 * 2^(r-k)%256):Nat):Int)) (ht:t=((r-k:Nat):Int)):
 B7E w F b N m x n (.int .u64 V) (.int .i64 W) (((X.setCell ⟨b,3,none⟩ (.int .i64 t)).setCell ⟨g,q-1,none⟩ (.int .u8 v)).drew):=by
 have hs:=U.step hq hm aD hr hk hj hy hN v hv t ht
 have aC:k<=j:=by omega
 have aA:F' g:=U.sl.inF g rfl
 refine⟨y%2^(j-k),j-k,I * 2^k+y/2^(j-k),J+k,F',by rw[Z],by rw[h2],by omega,Nat.mod_lt _ (Nat.two_pow_pos _),by omega,?_,hs.drew,?_,λi hi=>by have:=hb i hi;simpa[World.setCell]using this⟩
 ·rw[B7y _ _ _ _ aC];exact aB
 ·exact(ha.trans (((B0.refl F' X).setCell (p:=⟨b,3,none⟩) (.inl U.inF) _).setCell (p:=⟨g,q-1,none⟩) (.inl aA) _)).drew
end
end Go.Proofs.YtbefmjiclpobjaaGreat
