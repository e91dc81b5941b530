import Derived.Test.YtbefmjiclpobjaaGreatMj18
import Derived.Test.YtbefmjiclpobjaaGreatMj02
import Derived.Test.YtbefmjiclpobjaaGreatMj01
import Derived.Test.YtbefmjiclpobjaaGreatMj05
namespace Go.Proofs.YtbefmjiclpobjaaGreat
set_option maxHeartbeats 6400000
set_option maxRecDepth 3000
section
open Go.RowKit Go.Maps
def C4L(w:World)(l:List Nat)(e:Ending)(w':World):Prop:=∃z,e= .returned (.tuple #[.slice (some ⟨z,0,none⟩) (gP l).length (gP l).length,.bool (decide (A7Y l=0))])/\(∀G,Bd G w->QRd w' G (.slice (some ⟨z,0,none⟩) (gP l).length (gP l).length) (gP l))/\B0 B5 w B5 w'
def DcL(W:World)(F:Nat->Prop)(b z N:Nat)(l:List Nat)(t:Value)(wr:World):Prop:=∃(k:Nat) (Y:Nat->Nat),k<=N/\t= .int .i64 (k:Int)/\DcI W F b z N l Y k (8+1036 * k) wr
def DcM(W:World)(F:Nat->Prop)(b z N:Nat)(l:List Nat)(Y:Nat->Nat)(k y:Nat)(t:Value)(wr:World):Prop:=∃j:Nat,j<=128/\t= .int .i64 (j:Int)/\DcJ W F b z N l Y k (20+1036 * k+8 * j) y j wr
theorem B5a(x:Int)(A:Option Addr){m k:Nat}:(#[Value.int .i64 x,.slice A m k]:Array Value).all (·.oneCell')=true:=by simp[Value.oneCell']
theorem B9k{W w:World}{F:Nat->Prop}{b z N:Nat}{l:List Nat}{Y:Nat->Nat}{k a y:Nat}(h:DcI W F b z N l Y k a w)(J:y=w.heap.size):y≠z/\¬F y/\(∀i,i<k->Y i≠y)/\W.heap.size<=y:=by
 obtain⟨C,I,_⟩:=h.blk
 have U:=I.lt
 refine⟨by omega,λx=>by have:=h.rd.bd y x;omega,λi hi=>?_,by rw[J];exact h.adv.size⟩
 have:=(h.at_ i hi).2.2.1.lt
 omega
theorem DcJ.cellAt{W w:World}{F:Nat->Prop}{b z N:Nat}{l:List Nat}{Y:Nat->Nat}{k a y j:Nat}(h:DcJ W F b z N l Y k a y j w)(I:j<128):∃u,w.cell? ⟨y,j,none⟩=some u:=by
 have J:(((List.range j).map (gB l k)++List.replicate (128-j) 0).map u8).length=128:=by simp;omega
 refine⟨(((List.range j).map (gB l k)++List.replicate (128-j) 0).map u8)[j]'(by omega),?_⟩
 rw[h.yb.cell,List.getElem?_toArray,List.getElem?_eq_getElem (by omega)]
theorem B1M(v:Value)(l:List Nat)(w:World)(h:Rd w 1 v l.length (l.map u8))(h8:∀x∈l,x<256)(hl:l.length<=200000):
 Calls Tryz.prog 125 #[v] w (C4L w l):=by
 have aT:Calls Tryz.prog 130 #[v] w λe w'=>∃b F,e= .returned (.pointer (some ⟨b,0,none⟩))/\RSt w' F b l.length (R8 l) 0/\B0 B5 w F w'/\Bd F w':=
  A3X v l.length (R8 l) w (by rw[A8v h8];exact h) (by omega)
 have bC:=C6x aT
 obtain⟨N,hN⟩:∃N,N=gN l:=⟨_,rfl⟩
 have aQ:N<256:=by rw[hN];exact C2i l
 have bJ:(N:Int)<=256:=by omega
 have HN:=C6x hN
 have bB:=C6x aQ
 clear h h8 hl aT hN aQ
 go_enter Tryz.func125,Tryz.ntmps125
 go_wp2_with fail
 refine bC.out.mono ?_
 rintro e w1 ⟨b,F,rfl,r1,a1,b1⟩
 have aR:RdS w1 F b l.length (R8 l) 0:=.inl ⟨Nat.zero_le _,r1,b1⟩
 have HG:=C6x (aR.getx 8 (by decide))
 have aU:=C6x a1
 clear r1 b1 aR a1
 go_wp2_with fail
 refine HG.out.mono ?_
 rintro e w2 ⟨rfl,r2,a2⟩
 rw[show A2v l.length (R8 l) 0 8=N from HN.out.symm]
 have aE:=C6x (aU.out.trans a2)
 have bH:=B6E N (by have:=bB.out;omega)
 obtain⟨z,hz⟩:∃z,z=w2.heap.size:=⟨_,rfl⟩
 obtain⟨V,hV⟩:∃V,V=w2.alloc (.cells (madeCells #[.int .i64 0,.slice none 0 0] (N * 2)) 239):=⟨_,rfl⟩
 have aH:B0 B5 w2 B5 V:=by rw[hV];exact(B0.refl _ _).alloc _
 have HI:=C6x (show DcI w F b z N l (λ_=>0) 0 8 V from by
  refine⟨r2.far (λj J hl=>by rw[hV];exact Below.heap_alloc _ _ _ hl) aH.size,⟨_,by rw[hV,hz];exact C3.new _ _ _,A7q _ _⟩,λi hi=>absurd hi (Nat.not_lt_zero _),(aE.out.sub (G:=B5) (λ_ x=>x.elim)).trans aH,λj J=>?_,by rw[hz];exact aE.out.size,λx=>?_⟩
  ·rcases aE.out.into j J with h|h
   ·exact h.elim
   ·exact h
  ·have:=r2.bd z x;omega)
 have HV:=C6x hV
 have HZ:=C6x hz
 clear r2 a2 hz hV aH
 go_upto_region 3 with(fail)
 rw[<-HV.out,<-HZ.out]
 clear bH
 go_wp2_with fail
 go_loopw [15] (DcL w F b z N l) (λt _=>N-(intOf t).toNat)
 case atStart=>exact⟨0,_,Nat.zero_le _,rfl,HI.out⟩
 case round=>
  obtain⟨k,Y,hk,rfl,hi⟩:=hrel
  by_cases U:k<N
  ·have bP:(k:Int)<(N:Int):=by omega
   have bO:(0:Int)<=(k:Int):=by omega
   obtain⟨x,hx⟩:∃x,x=gA l k:=⟨_,rfl⟩
   have HX:=C6x hx
   have aL:=C6x (show A2v l.length (R8 l) (8+1036 * k) 12=x by rw[hx];rfl)
   have aP:=C6x (show IntKind.i64.wrap (x:Int)=(gA l k:Int)by rw[IntKind.wrap_i64,<-hx];have:=C4F l k;omega)
   have bI:=C6x hi
   have aB:=C6x U
   have aF:=C6x (hi.over ((B0.refl B5 wr).drew))
   have aJ:=C6x (show 8+1036 * k+12=20+1036 * k by omega)
   clear hi U hk hx
   go_upto_region 6 with(fail)
   go_cut [] (λw6=>∃y,DcJ w F b z N l Y k (20+1036 * k) y 0 w6)
   case first=>
    refine D6 (S:=(λ_=>True)) (by first|trivial) (λhH=>?_)
    refine C61 0 rfl ?_
    refine C61 1 rfl ?_
    refine C61 2 rfl ?_
    refine C63 3 5 rfl rfl (λK hK=>?_) (λK hK=>?_)
    ·go_simp
     refine(aF.out.get 12 (by decide)).mono ?_
     rintro e w4 ⟨rfl,g4, -⟩
     rw[aL.out]
     rw[aJ.out]at g4
     have G4:=C6x g4
     clear g4
     go_wp2_with fail
     refine C60 hK (by first|trivial) ?_
     clear hK K hH
     intro hH
     try simp only[Act.put,sA,sB,sC]
     refine C61 4 rfl ?_
     refine C6z 5 rfl (λK hK=>?_)
     refine A7p rfl _ _ rfl rfl rfl ?_
     obtain⟨y,Z⟩:∃y,y=w4.heap.size:=⟨_,rfl⟩
     obtain⟨w5,X⟩:∃W,W=w4.alloc (.cells ((List.replicate 128 0).map u8).toArray 5):=⟨_,rfl⟩
     rw[<-X,<-Z]
     have G5:=C6x (show DcI w F b z N l Y k (20+1036 * k) w5 by rw[X];exact G4.out.over ((B0.refl B5 w4).alloc _))
     have aC:=C6x (show C3 w5 y 5 ((List.replicate 128 0).map u8).toArray by rw[X,Z];exact C3.new _ _ _)
     have I:=C6x (B9k G4.out Z)
     clear Z X
     refine C60 hK (by first|trivial) ?_
     clear hK K hH
     intro hH
     try simp only[Act.put,sA,sB,sC]
     refine C61 6 rfl ?_
     refine C61 7 rfl ?_
     refine C6z 8 rfl (λK hK=>?_)
     refine A8M B4S rfl (.tmp 25) (.tmp 24) rfl z (k * 2) #[.int .i64 (IntKind.i64.wrap (x:Int)),.slice (some ⟨y,0,none⟩) 128 128] (G5.out.there aB.out) rfl (B5a _ _) rfl rfl ?_
     have HJ:=C6x (G5.out.lay aB.out aP.out aC.out I.out.1 I.out.2.1 I.out.2.2.1 I.out.2.2.2)
     refine C60 hK (by first|trivial) ?_
     clear hK K hH
     intro hH
     try simp only[Act.put]
     refine wpAnyH_done (by kernel_rfl) ?_ _
     go_wp2_with fail
     go_meet
     exact⟨y,HJ.out⟩
    ·refine A7p rfl _ _ rfl rfl rfl ?_
     obtain⟨y,Z⟩:∃y,y=wr.drew.heap.size:=⟨_,rfl⟩
     obtain⟨w5,X⟩:∃W,W=wr.drew.alloc (.cells ((List.replicate 128 0).map u8).toArray 5):=⟨_,rfl⟩
     rw[<-X,<-Z]
     have G5:=C6x (show DcI w F b z N l Y k (8+1036 * k) w5 by rw[X];exact aF.out.over ((B0.refl B5 wr.drew).alloc _))
     have aC:=C6x (show C3 w5 y 5 ((List.replicate 128 0).map u8).toArray by rw[X,Z];exact C3.new _ _ _)
     have I:=C6x (B9k aF.out Z)
     clear Z X
     refine C60 hK (by first|trivial) ?_
     clear hK K hH
     intro hH
     try simp only[Act.put,sA,sB,sC]
     refine C6z 3 rfl (λK hK=>?_)
     go_simp
     refine(G5.out.get 12 (by decide)).mono ?_
     rintro e w6 ⟨rfl,g6,a6⟩
     rw[aL.out]
     rw[aJ.out]at g6
     have G6:=C6x g6
     have bG:=C6x (aC.out.keep (a6.block y aC.out.lt I.out.2.1))
     clear g6 a6
     go_wp2_with fail
     refine C60 hK (by first|trivial) ?_
     clear hK K hH
     intro hH
     try simp only[Act.put,sA,sB,sC]
     refine C61 4 rfl ?_
     refine C61 6 rfl ?_
     refine C61 7 rfl ?_
     refine C6z 8 rfl (λK hK=>?_)
     refine A8M B4S rfl (.tmp 25) (.tmp 24) rfl z (k * 2) #[.int .i64 (IntKind.i64.wrap (x:Int)),.slice (some ⟨y,0,none⟩) 128 128] (G6.out.there aB.out) rfl (B5a _ _) rfl rfl ?_
     have HJ:=C6x (G6.out.lay aB.out aP.out bG.out I.out.1 I.out.2.1 I.out.2.2.1 I.out.2.2.2)
     refine C60 hK (by first|trivial) ?_
     clear hK K hH
     intro hH
     try simp only[Act.put]
     refine wpAnyH_done (by kernel_rfl) ?_ _
     go_wp2_with fail
     go_meet
     exact⟨y,HJ.out⟩
   case rest=>
    obtain⟨y,J⟩:=hcut
    have c1:=J.c1
    have aZ:=C6x J
    clear J
    go_wp2_with fail
    go_loopw [32] (DcM w F b z N l Y k y) (λt _=>128-(intOf t).toNat)
    case atStart=>exact⟨0,Nat.zero_le _,rfl,aZ.out⟩
    case round=>
     obtain⟨j,J,rfl,aA⟩:=hrel
     by_cases U:j<128
     ·have bM:(j:Int)<128:=by omega
      have bK:(0:Int)<=(j:Int):=by omega
      obtain⟨xb,aD⟩:∃x,x=gB l k j:=⟨_,rfl⟩
      have bF:=C6x aD
      have aY:=C6x (show A2v l.length (R8 l) (20+1036 * k+8 * j) 8=xb by rw[aD];rfl)
      have bD:=C6x (show IntKind.u8.wrap (xb:Int)=(xb:Int)by have:=C4G l k j;rw[<-aD]at this;rw[IntKind.wrap_u8];omega)
      have aX:=C6x (show 20+1036 * k+8 * j+8=20+1036 * k+8 * (j+1)by omega)
      have aG:=C6x U
      have bA:=C6x aA.drew
      have k0:=aA.c1
      have K0:=C6x k0
      have KD:=C6x aA.drew.c1
      clear aA U J aD c1
      go_upto_region 10 with(fail)
      refine D6 (S:=(λw'=>w'.cell? ⟨z,k * 2+1,none⟩=some (.slice (some ⟨y,0,none⟩) 128 128))) (by with_reducible first|exact K8.out|exact K7.out|exact KD.out|exact K0.out) (λhH=>?_)
      refine C6y 0 rfl ?_
      refine C6y 1 rfl ?_
      refine C6y 2 rfl ?_
      refine C6y 3 rfl ?_
      refine C6y 4 rfl ?_
      refine C6y 5 rfl ?_
      refine C6y 6 rfl ?_
      refine C6z 7 rfl (λK hK=>?_)
      go_simp
      refine(bA.out.get 8 (by decide)).mono ?_
      rintro e w7 ⟨rfl,g7⟩
      rw[aY.out]
      rw[aX.out]at g7
      obtain⟨u,ky⟩:=g7.cellAt aG.out
      have fy:=g7.yb.frozen j
      have K7:=C6x g7.c1
      have aO:=C6x (show DcJ w F b z N l Y k (20+1036 * k+8 * (j+1)) y (j+1) (w7.setCell ⟨y,j,none⟩ (.int .u8 (IntKind.u8.wrap (xb:Int))))by rw[bD.out];exact g7.set aG.out bF.out)
      have K8:=C6x aO.out.c1
      clear g7
      go_wp2_with fail
      refine C60 hK (by with_reducible first|exact K8.out|exact K7.out|exact KD.out|exact K0.out) ?_
      clear hK K hH
      intro hH
      try simp only[Act.put,sA,sB,sC]
      refine C6y 8 rfl ?_
      refine C6y 9 rfl ?_
      refine C6z 10 rfl (λK hK=>?_)
      go_simp
      refine C60 hK (by with_reducible first|exact K8.out|exact K7.out|exact KD.out|exact K0.out) ?_
      clear hK K hH
      intro hH
      try simp only[Act.put]
      refine wpAnyH_done (by kernel_rfl) ?_ _
      go_wp2_with fail
      have U:=aG.out
      exact⟨⟨j+1,by omega,by go_num,aO.out⟩,by simp[intOf]<;>omega⟩
     ·obtain rfl:j=128:=by omega
      have aW:=C6x (show DcI w F b z N l (λi=>if i=k then y else Y i) (k+1) (8+1036 * (k+1)) wr by
       have:=aA.done
       rwa[show 20+1036 * k+8 * 128=8+1036 * (k+1)by omega]at this)
      clear aA U J c1
      go_wp2_with fail
      have U:=aB.out
      exact⟨⟨k+1,_,by omega,by go_num,aW.out⟩,by simp[intOf]<;>omega⟩
  ·obtain rfl:k=N:=by omega
   obtain⟨E,hE⟩:∃E,E=A4L l.length (R8 l) (8+1036 * k):=⟨_,rfl⟩
   have aI:=C6x hi.rd.end_
   rw[<-hE]at aI
   have aM:=C6x hi
   have HE:=C6x (show E=A7Y l by rw[hE,<-C3b,gE,<-HN.out])
   clear hi U hk hE
   go_wp2_with fail
   refine aI.out.mono ?_
   rintro e w9 ⟨rfl,a9⟩
   have aN:=C6x (show(gP l).length=k by rw[HN.out];simp[gP])
   have HQ:=C6x (show∀G,Bd G w->QRd w9 G (.slice (some ⟨z,0,none⟩) k k) (gP l)fromλG hG=>(aM.out.over a9).qrd HN.out hG)
   have aV:=C6x (aM.out.adv.trans a9)
   clear a9
   have aS:∀B,B=decide (A7Y l=0)->C4L w l (.returned (.tuple #[.slice (some ⟨z,0,none⟩) k k,.bool B])) w9:=λB hB=>by
    subst hB
    refine⟨z,by rw[aN.out],λG hG=>?_,aV.out⟩
    rw[aN.out]
    exact HQ.out G hG
   have aK:=C6x aS
   clear aS
   by_cases h0:E=0
   ·subst h0
    have HF:=C6x (aK.out true (by rw[decide_eq_true HE.out.symm]))
    go_wp2_with fail
    exact bodyPost_ret (v:=.tuple #[.slice (some ⟨z,0,none⟩) k k,.bool true]) (by simp[results,Tryz.results125,go_sem]) rfl HF.out
   ·have hb:((E:Int)==0)=false:=by rw[beq_eq_false_iff_ne];exact h0
    have HF:=C6x (aK.out false (by rw[decide_eq_false (by rw[<-HE.out];exact h0)]))
    clear h0
    go_wp2_with fail
    exact bodyPost_ret (v:=.tuple #[.slice (some ⟨z,0,none⟩) k k,.bool false]) (by simp[results,Tryz.results125,go_sem]) rfl HF.out
end
section
open Go.RowKit
theorem A70{w:World}{b q:Nat}{t t':TypeId}{J U V W X Y d1 d2 Z d4:Value}(h:C3 w b t #[J,U,V,W,X])(I:C3 w q t' #[Y,d1,d2,Z,d4]):
 w.cell? ⟨b,0,none⟩=some J/\w.cell? ⟨b,1,none⟩=some U/\w.cell? ⟨b,2,none⟩=some V/\w.cell? ⟨b,3,none⟩=some W/\w.cell? ⟨b,4,none⟩=some X/\w.cell? ⟨q,0,none⟩=some Y/\w.cell? ⟨q,1,none⟩=some d1/\w.cell? ⟨q,2,none⟩=some d2/\w.cell? ⟨q,3,none⟩=some Z/\w.cell? ⟨q,4,none⟩=some d4:=
 ⟨h.cell 0,h.cell 1,h.cell 2,h.cell 3,h.cell 4,I.cell 0,I.cell 1,I.cell 2,I.cell 3,I.cell 4⟩
end
section
open Go.RowKit
def C2n(w:World)(B:Bool)(x:Ending)(w':World):Prop:=x= .returned (.bool B)/\B0 B5 w B5 w'
theorem A2X(e c:Int)(f g:Bool)(v:Value)(w:World):
 Calls Tryz.prog 197 #[.agg #[.int .u64 e,.int .u64 c,.bool f,.bool g,v]] w λx w'=>x= .returned (.int .u8 ((flg f g:Nat):Int))/\B0 B5 w B5 w':=
 (A8t e c f g v w).mono (by rintro x w' ⟨rfl,rfl⟩;exact⟨rfl,(B0.refl _ _).alloc _⟩)
theorem B6T(J c1 Y c2:Nat)(U W Z g2:Bool)(A1 A2:Option Addr)(X n2 k1 k2:Nat)(l1 l2:List Nat)(w:World)(h1:Rd w 1 (.slice A1 X k1) X (l1.map u8))(h2:Rd w 1 (.slice A2 n2 k2) n2 (l2.map u8))(aL:∀x∈l1,x<256)(aM:∀x∈l2,x<256):
 Calls Tryz.prog 162 #[.agg #[.int .u64 (J:Int),.int .u64 (c1:Int),.bool U,.bool W,.slice A1 X k1],.agg #[.int .u64 (Y:Int),.int .u64 (c2:Int),.bool Z,.bool g2,.slice A2 n2 k2]] w
  (C2n w (decide (J=Y/\c1=c2/\flg U W=flg Z g2/\l1=l2))):=by
 obtain⟨b,hb⟩:∃b,b=w.heap.size:=⟨_,rfl⟩
 obtain⟨q,hq⟩:∃q,q=(w.alloc (.cells #[.int .u64 (J:Int),.int .u64 (c1:Int),.bool U,.bool W,.slice A1 X k1] 201)).heap.size:=⟨_,rfl⟩
 obtain⟨V,hV⟩:∃V,V=(w.alloc (.cells #[.int .u64 (J:Int),.int .u64 (c1:Int),.bool U,.bool W,.slice A1 X k1] 201)).alloc (.cells #[.int .u64 (Y:Int),.int .u64 (c2:Int),.bool Z,.bool g2,.slice A2 n2 k2] 201):=⟨_,rfl⟩
 have aH:C3 V b 201 #[.int .u64 (J:Int),.int .u64 (c1:Int),.bool U,.bool W,.slice A1 X k1]:=by rw[hV,hb];exact(C3.new _ _ _).alloc _
 have aI:C3 V q 201 #[.int .u64 (Y:Int),.int .u64 (c2:Int),.bool Z,.bool g2,.slice A2 n2 k2]:=by rw[hV,hq];exact C3.new _ _ _
 have hA:B0 B5 w B5 V:=by rw[hV];exact((B0.refl _ _).alloc _).alloc _
 have aJ:Rd V 1 (.slice A1 X k1) X (l1.map u8):=by rw[hV];exact(h1.up _).up _
 have aK:Rd V 1 (.slice A2 n2 k2) n2 (l2.map u8):=by rw[hV];exact(h2.up _).up _
 have aN:q=b+1:=by rw[hq,hb];simp
 have aR:=C6x aN
 have aO:=C6x (A70 aH aI)
 have aE:=C6x (A70 (w:=V.drew) aH aI)
 have aC:=C6x aH
 have aD:=C6x aI
 have HA:=C6x hA
 have aS:=C6x aJ
 have aT:=C6x aK
 have HV:=C6x hV
 have HB:=C6x hb
 have HQ:=C6x hq
 have aP:=C6x aL
 have aQ:=C6x aM
 obtain⟨B,hB⟩:∃B,B=decide (J=Y/\c1=c2/\flg U W=flg Z g2/\l1=l2):=⟨_,rfl⟩
 rw[<-hB]
 have aG:=C6x hB
 clear aH aI hA aJ aK hV hb hq h1 h2 aL aM hB aN
 go_enter Tryz.func162,Tryz.ntmps162
 go_wp2_with fail
 rw[<-HV.out,<-HB.out,<-aR.out]
 obtain⟨s0,s1,s2,s3,s4,s5,s6,s7,s8,s9⟩:=aO.out
 by_cases he:J=Y
 ·have aV:((J:Int)==(Y:Int))=true:=by rw[beq_iff_eq];omega
  by_cases hc:c1=c2
  ·have aU:((c1:Int)==(c2:Int))=true:=by rw[beq_iff_eq];omega
   have HE:=C6x he
   have aX:=C6x hc
   by_cases hx:flg U W=flg Z g2
   ·have aW:(((flg U W:Nat):Int)==((flg Z g2:Nat):Int))=true:=by rw[beq_iff_eq];omega
    obtain rfl:B=decide (l1=l2):=by rw[aG.out];by_cases hl:l1=l2<;>simp[hl,he,hc,hx]
    clear he hc hx
    refine D6 (S:=(λw'=>w'.cell? ⟨b,0,none⟩=some (.int .u64 (J:Int))/\w'.cell? ⟨b,1,none⟩=some (.int .u64 (c1:Int))/\w'.cell? ⟨b,2,none⟩=some (.bool U)/\w'.cell? ⟨b,3,none⟩=some (.bool W)/\w'.cell? ⟨b,4,none⟩=some (.slice A1 X k1)/\w'.cell? ⟨q,0,none⟩=some (.int .u64 (Y:Int))/\w'.cell? ⟨q,1,none⟩=some (.int .u64 (c2:Int))/\w'.cell? ⟨q,2,none⟩=some (.bool Z)/\w'.cell? ⟨q,3,none⟩=some (.bool g2)/\w'.cell? ⟨q,4,none⟩=some (.slice A2 n2 k2))) (by with_reducible first|exact aB.out|exact aA.out|exact aE.out) (λhH=>?_)
    refine C67 0 rfl ?_
    refine C67 1 rfl ?_
    refine C67 2 rfl ?_
    refine C67 3 rfl ?_
    refine C67 4 rfl ?_
    refine C67 5 rfl ?_
    refine C67 6 rfl ?_
    refine C67 7 rfl ?_
    refine C67 8 rfl ?_
    refine C67 9 rfl ?_
    refine C67 10 rfl ?_
    refine C67 11 rfl ?_
    refine C67 12 rfl ?_
    refine C67 13 rfl ?_
    refine C67 15 rfl ?_
    refine C6z 14 rfl (λK hK=>?_)
    go_simp
    refine(A2X _ _ _ _ _ _).mono ?_
    rintro x w5 ⟨rfl,u1⟩
    have aF:=C6x ((B0.refl B5 V).drew.trans u1)
    have aA:=C6x (A70 (aC.out.keep (aF.out.block b aC.out.lt (λh=>h))) (aD.out.keep (aF.out.block q aD.out.lt (λh=>h))))
    clear u1
    go_wp2_with fail
    refine C60 hK (by with_reducible first|exact aB.out|exact aA.out|exact aE.out) ?_
    clear hK K hH
    intro hH
    try simp only[Act.put,sA,sB,sC]
    refine C6z 16 rfl (λK hK=>?_)
    go_simp
    refine(A2X _ _ _ _ _ _).mono ?_
    rintro x w6 ⟨rfl,u2⟩
    have I:=C6x (aF.out.trans u2)
    have aB:=C6x (A70 (aC.out.keep (I.out.block b aC.out.lt (λh=>h))) (aD.out.keep (I.out.block q aD.out.lt (λh=>h))))
    clear u2
    go_wp2_with fail
    refine C60 hK (by with_reducible first|exact aB.out|exact aA.out|exact aE.out) ?_
    clear hK K hH
    intro hH
    try simp only[Act.put,sA,sB,sC]
    refine C67 17 rfl ?_
    refine C67 18 rfl ?_
    refine C67 19 rfl ?_
    refine C67 20 rfl ?_
    refine C67 21 rfl ?_
    refine C67 22 rfl ?_
    refine C67 23 rfl ?_
    refine C6z 24 rfl (λK hK=>?_)
    go_simp
    refine(A4J _ _ X n2 l1 l2 _ (aS.out.far (λ_ _ _ h=>I.out.block _ h (λh=>h)) I.out.size) (aT.out.far (λ_ _ _ h=>I.out.block _ h (λh=>h)) I.out.size) aP.out aQ.out).mono ?_
    rintro x w7 ⟨rfl,rfl⟩
    go_wp2_with fail
    refine C60 hK (by with_reducible first|exact aB.out|exact aA.out|exact aE.out) ?_
    clear hK K hH
    intro hH
    try simp only[Act.put,sA,sB,sC]
    refine C67 25 rfl ?_
    refine C67 26 rfl ?_
    refine wpAnyH_done (by kernel_rfl) ?_ _
    go_wp2_with fail
    go_ret
    exact⟨rfl,HA.out.trans I.out⟩
   ·have aW:(((flg U W:Nat):Int)==((flg Z g2:Nat):Int))=false:=by rw[beq_eq_false_iff_ne];omega
    obtain rfl:B=false:=by rw[aG.out];exact decide_eq_false (λh=>hx h.2.2.1)
    clear he hc hx
    refine D6 (S:=(λw'=>w'.cell? ⟨b,0,none⟩=some (.int .u64 (J:Int))/\w'.cell? ⟨b,1,none⟩=some (.int .u64 (c1:Int))/\w'.cell? ⟨b,2,none⟩=some (.bool U)/\w'.cell? ⟨b,3,none⟩=some (.bool W)/\w'.cell? ⟨b,4,none⟩=some (.slice A1 X k1)/\w'.cell? ⟨q,0,none⟩=some (.int .u64 (Y:Int))/\w'.cell? ⟨q,1,none⟩=some (.int .u64 (c2:Int))/\w'.cell? ⟨q,2,none⟩=some (.bool Z)/\w'.cell? ⟨q,3,none⟩=some (.bool g2)/\w'.cell? ⟨q,4,none⟩=some (.slice A2 n2 k2))) (by with_reducible first|exact aB.out|exact aA.out|exact aE.out) (λhH=>?_)
    refine C67 0 rfl ?_
    refine C67 1 rfl ?_
    refine C67 2 rfl ?_
    refine C67 3 rfl ?_
    refine C67 4 rfl ?_
    refine C67 5 rfl ?_
    refine C67 6 rfl ?_
    refine C67 7 rfl ?_
    refine C67 8 rfl ?_
    refine C67 9 rfl ?_
    refine C67 10 rfl ?_
    refine C67 11 rfl ?_
    refine C67 12 rfl ?_
    refine C67 13 rfl ?_
    refine C67 15 rfl ?_
    refine C6z 14 rfl (λK hK=>?_)
    go_simp
    refine(A2X _ _ _ _ _ _).mono ?_
    rintro x w5 ⟨rfl,u1⟩
    have aF:=C6x ((B0.refl B5 V).drew.trans u1)
    have aA:=C6x (A70 (aC.out.keep (aF.out.block b aC.out.lt (λh=>h))) (aD.out.keep (aF.out.block q aD.out.lt (λh=>h))))
    clear u1
    go_wp2_with fail
    refine C60 hK (by with_reducible first|exact aB.out|exact aA.out|exact aE.out) ?_
    clear hK K hH
    intro hH
    try simp only[Act.put,sA,sB,sC]
    refine C6z 16 rfl (λK hK=>?_)
    go_simp
    refine(A2X _ _ _ _ _ _).mono ?_
    rintro x w6 ⟨rfl,u2⟩
    have I:=C6x (aF.out.trans u2)
    have aB:=C6x (A70 (aC.out.keep (I.out.block b aC.out.lt (λh=>h))) (aD.out.keep (I.out.block q aD.out.lt (λh=>h))))
    clear u2
    go_wp2_with fail
    refine C60 hK (by with_reducible first|exact aB.out|exact aA.out|exact aE.out) ?_
    clear hK K hH
    intro hH
    try simp only[Act.put,sA,sB,sC]
    refine C67 17 rfl ?_
    refine C67 18 rfl ?_
    refine C67 19 rfl ?_
    refine C68 20 rfl ?_
    refine C68 21 rfl ?_
    refine C68 22 rfl ?_
    refine C68 23 rfl ?_
    refine C68 24 rfl ?_
    refine C67 25 rfl ?_
    refine C67 26 rfl ?_
    refine wpAnyH_done (by kernel_rfl) ?_ _
    go_wp2_with fail
    go_ret
    exact⟨rfl,HA.out.trans I.out⟩
  ·have aU:((c1:Int)==(c2:Int))=false:=by rw[beq_eq_false_iff_ne];omega
   obtain rfl:B=false:=by rw[aG.out];exact decide_eq_false (λh=>hc h.2.1)
   clear hc he
   go_quiet (fail)
   go_wp2_with fail
   go_ret
   exact⟨rfl,HA.out.drewN _⟩
 ·have aV:((J:Int)==(Y:Int))=false:=by rw[beq_eq_false_iff_ne];omega
  obtain rfl:B=false:=by rw[aG.out];exact decide_eq_false (λh=>he h.1)
  clear he
  go_quiet (fail)
  go_wp2_with fail
  go_ret
  exact⟨rfl,HA.out.drewN _⟩
end
section
open Go.RowKit
def EqR(w:World)(ps qs:List Pc)(x:Ending)(w':World):Prop:=∃B:Bool,x= .returned (.bool B)/\(B=true↔ps=qs)/\B0 B5 w B5 w'
def EqL(w:World)(N:Nat)(ps qs:List Pc)(t:Value)(wr:World):Prop:=∃k:Nat,k<=N/\t= .int .i64 (k:Int)/\(∀i,i<k->ps[i]? =qs[i]?)/\B0 B5 w B5 wr
theorem C3n{N:Nat}{ps qs:List Pc}(I:ps.length=N)(J:qs.length=N)(h:∀i,i<N->ps[i]? =qs[i]?):ps=qs:=by
 apply List.ext_getElem?
 intro i
 by_cases hi:i<N
 ·exact h i hi
 ·rw[List.getElem?_eq_none (by omega),List.getElem?_eq_none (by omega)]
theorem C3o{p q:Pc}{B:Bool}(X:B=decide (p.e=q.e/\p.c=q.c/\flg p.f p.g=flg q.f q.g/\p.d=q.d)):B=true↔p=q:=by
 subst X
 rw[decide_eq_true_iff]
 constructor
 ·rintro⟨I,J,h3,U⟩
  obtain⟨V,W⟩:=C0g h3
  cases p;cases q
  simp only at I J U V W
  subst I J U V W
  rfl
 ·rintro rfl
  exact⟨rfl,rfl,rfl,rfl⟩
def B8(ps:List Pc):Prop:=∀p∈ps,∀x∈p.d,x<256
theorem B1N(A1 A2:Option Addr)(k1 k2:Nat)(ps qs:List Pc)(w:World)(h1:PRd w (.slice A1 ps.length k1) ps)(h2:PRd w (.slice A2 qs.length k2) qs)(aQ:B8 ps)(aR:B8 qs):
 Calls Tryz.prog 161 #[.slice A1 ps.length k1,.slice A2 qs.length k2,.func (.func 162) #[] #[]] w (EqR w ps qs):=by
 obtain⟨N,hN⟩:∃N,N=ps.length:=⟨_,rfl⟩
 obtain⟨M,hM⟩:∃N,N=qs.length:=⟨_,rfl⟩
 rw[<-hN]at h1⊢
 rw[<-hM]at h2⊢
 have aV:N<=maxLen:=by
  obtain⟨_,_,e,h3,h4,_⟩:=h1
  injection e with _ e2 e3
  omega
 have bG:(N:Int)<=9223372036854775807:=by unfold maxLen at aV;omega
 clear aV
 have HP:=C6x h1
 have HQ:=C6x h2
 have HN:=C6x hN
 have HM:=C6x hM
 have aY:=C6x aQ
 have aZ:=C6x aR
 clear h1 h2 hN hM aQ aR
 by_cases aM:N=M
 ·subst aM
  go_enter Tryz.func161,Tryz.ntmps161
  go_wp2_with fail
  go_loopw [17] (EqL w N ps qs) (λt _=>N-(intOf t).toNat)
  case atStart=>exact⟨0,Nat.zero_le _,rfl,λi hi=>absurd hi (Nat.not_lt_zero _),B0.refl _ _⟩
  case round=>
   obtain⟨k,hk,rfl,aD,I⟩:=hrel
   by_cases J:k<N
   ·have bH:(k:Int)<(N:Int):=by omega
    have aK:k<ps.length:=by rw[<-HN.out];exact J
    have aL:k<qs.length:=by rw[<-HM.out];exact J
    obtain⟨b1,o1,a1,q1,rfl,bF,aJ,aE⟩:=(HP.out.step I).row aK
    obtain⟨b2,o2,a2,q2,rfl,aU,aC,aF⟩:=(HQ.out.step I).row aL
    obtain⟨p,hp⟩:∃p,p=ps[k]:=⟨_,rfl⟩
    obtain⟨q,hq⟩:∃q,q=qs[k]:=⟨_,rfl⟩
    have aW:∀x∈p.d,x<256:=by rw[hp];exact aY.out _ (List.getElem_mem _)
    have aX:∀x∈q.d,x<256:=by rw[hq];exact aZ.out _ (List.getElem_mem _)
    have aA:=C6x (show ps[k]? =some p/\qs[k]? =some q by rw[hp,hq];exact⟨List.getElem?_eq_getElem aK,List.getElem?_eq_getElem aL⟩)
    rw[<-hp]at aJ aE
    rw[<-hq]at aC aF
    obtain⟨W,Z,X,Y,D⟩:=p
    obtain⟨qe,qn,qf,qg,D'⟩:=q
    obtain⟨d,hd⟩:∃d,d=D.length:=⟨_,rfl⟩
    obtain⟨d',aT⟩:∃d,d=D'.length:=⟨_,rfl⟩
    simp only[<-hd]at aJ aE
    simp only[<-aT]at aC aF
    obtain⟨B,hB⟩:∃B,B=decide (W=qe/\Z=qn/\flg X Y=flg qf qg/\D=D'):=⟨_,rfl⟩
    have aO:=C6x (C3o (p:=⟨W,Z,X,Y,D⟩) (q:=⟨qe,qn,qf,qg,D'⟩) hB)
    have aS:∀v,B0 B5 wr B5 v->Calls Tryz.prog 162 #[.agg #[.int .u64 (W:Int),.int .u64 (Z:Int),.bool X,.bool Y,.slice a1 d q1],.agg #[.int .u64 (qe:Int),.int .u64 (qn:Int),.bool qf,.bool qg,.slice a2 d' q2]] v (C2n v B):=λv hv=>by
     rw[hB]
     exact B6T W Z qe qn X Y qf qg a1 a2 d d' q1 q2 D D' v (aE.far (λ_ _ _ h=>hv.block _ h (λh=>h)) hv.size) (aF.far (λ_ _ _ h=>hv.block _ h (λh=>h)) hv.size) aW aX
    have aN:=C6x aS
    obtain⟨z,hz⟩:∃z,z=wr.heap.size:=⟨_,rfl⟩
    obtain⟨V,hV⟩:∃V,V=wr.alloc (.cells #[.int .u64 (W:Int),.int .u64 (Z:Int),.bool X,.bool Y,.slice a1 d q1] 201):=⟨_,rfl⟩
    obtain⟨U,hU⟩:∃U,U=V.alloc (.cells #[.int .u64 (qe:Int),.int .u64 (qn:Int),.bool qf,.bool qg,.slice a2 d' q2] 201):=⟨_,rfl⟩
    have hZ:C3 U z 201 #[.int .u64 (W:Int),.int .u64 (Z:Int),.bool X,.bool Y,.slice a1 d q1]:=by rw[hU,hV,hz];exact(C3.new _ _ _).alloc _
    have aI:B0 B5 wr B5 V:=by rw[hV];exact(B0.refl _ _).alloc _
    have aP:B0 B5 wr B5 U:=by rw[hU];exact aI.alloc _
    obtain⟨y,hy⟩:∃y,y=V.heap.size:=⟨_,rfl⟩
    have hY:C3 U y 201 #[.int .u64 (qe:Int),.int .u64 (qn:Int),.bool qf,.bool qg,.slice a2 d' q2]:=by rw[hU,hy];exact C3.new _ _ _
    have bA:=C6x (aC.step aU aI)
    have bD:=C6x (A70 hZ hY)
    have HV:=C6x hV
    have HU:=C6x hU
    have HZ:=C6x hz
    have HY:=C6x hy
    have aB:=C6x aP
    have HA:=C6x I
    have aG:=C6x aD
    have bB:=C6x J
    obtain⟨c0,c1,c2,c3,c4⟩:=aJ
    clear aK aL bF aE aU aC aF hp hq aW aX hd aT aS hz hV hU hZ aI aP hY hy I aD J hk hB
    go_upto_region 6 with(fail)
    rw[<-HV.out,<-HZ.out]
    obtain⟨e0,e1,e2,e3,e4⟩:=bA.out
    clear c0 c1 c2 c3 c4
    go_upto_region 7 with(fail)
    rw[<-HU.out,<-HY.out]
    clear e0 e1 e2 e3 e4
    obtain⟨s0,s1,s2,s3,s4,s5,s6,s7,s8,s9⟩:=bD.out
    cases B with
    |true=>
     go_wp2_with fail
     refine(aN.out U aB.out).mono ?_
     rintro x w8 ⟨rfl,t8⟩
     have aH:=C6x (aB.out.trans t8)
     clear t8
     go_wp2_with fail
     have J:=bB.out
     refine⟨⟨k+1,by omega,by go_num,λi hi=>?_,HA.out.trans aH.out⟩,by simp[intOf];omega⟩
     by_cases e:i=k
     ·rw[e,aA.out.1,aA.out.2,aO.out.mp (by trivial)]
     ·exact aG.out i (by omega)
    |false=>
     go_wp2_with fail
     refine(aN.out U aB.out).mono ?_
     rintro x w8 ⟨rfl,t8⟩
     have aH:=C6x (aB.out.trans t8)
     clear t8
     go_wp2_with fail
     go_ret
     refine⟨false,rfl,⟨λh=>absurd h (by decide),λh=>?_⟩,HA.out.trans aH.out⟩
     have e:=aA.out.1
     rw[h,aA.out.2]at e
     injection e with e
     exact aO.out.mpr e.symm
   ·obtain rfl:k=N:=by omega
    have HA:=C6x I
    have aG:=C6x aD
    clear I aD J hk
    go_wp2_with fail
    go_ret
    exact⟨true,rfl,⟨λ_=>C3n HN.out.symm HM.out.symm aG.out,λ_=>rfl⟩,HA.out⟩
 ·have bI:((N:Int)==(M:Int))=false:=by rw[beq_eq_false_iff_ne];omega
  have bC:=C6x aM
  clear aM
  go_enter Tryz.func161,Tryz.ntmps161
  go_wp2_with fail
  all_goals
   go_ret
   exact⟨false,rfl,⟨λh=>absurd h (by decide),λh=>absurd (by rw[HN.out,HM.out,h]) bC.out⟩,B0.refl _ _⟩
end
end Go.Proofs.YtbefmjiclpobjaaGreat
