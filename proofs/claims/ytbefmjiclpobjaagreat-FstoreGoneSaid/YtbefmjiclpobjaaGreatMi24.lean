import Derived.Test.YtbefmjiclpobjaaGreatMi18
import Derived.Test.YtbefmjiclpobjaaGreatMi02
import Derived.Test.YtbefmjiclpobjaaGreatMi01
import Derived.Test.YtbefmjiclpobjaaGreatMi05
namespace Go.Proofs.YtbefmjiclpobjaaGreat
set_option maxHeartbeats 6400000
set_option maxRecDepth 3000
section
open Go.RowKit Go.Maps
def C45(w:World)(l:List Nat)(e:Ending)(w':World):Prop:=∃z,e= .returned (.tuple #[.slice (some ⟨z,0,none⟩) (gP l).length (gP l).length,.bool (decide (A7T l=0))])/\(∀G,Bd G w->QRd w' G (.slice (some ⟨z,0,none⟩) (gP l).length (gP l).length) (gP l))/\B1 B5 w B5 w'
def DcL(W:World)(F:Nat->Prop)(b z N:Nat)(l:List Nat)(t:Value)(wr:World):Prop:=∃(k:Nat) (Y:Nat->Nat),k<=N/\t= .int .i64 (k:Int)/\DcI W F b z N l Y k (8+1036 * k) wr
def DcM(W:World)(F:Nat->Prop)(b z N:Nat)(l:List Nat)(Y:Nat->Nat)(k y:Nat)(t:Value)(wr:World):Prop:=∃j:Nat,j<=128/\t= .int .i64 (j:Int)/\DcJ W F b z N l Y k (20+1036 * k+8 * j) y j wr
theorem B4M(x:Int)(A:Option Addr){m k:Nat}:(#[Value.int .i64 x,.slice A m k]:Array Value).all (·.oneCell')=true:=by simp[Value.oneCell']
theorem B8Y{W w:World}{F:Nat->Prop}{b z N:Nat}{l:List Nat}{Y:Nat->Nat}{k a y:Nat}(h:DcI W F b z N l Y k a w)(J:y=w.heap.size):y≠z/\¬F y/\(∀i,i<k->Y i≠y)/\W.heap.size<=y:=by
 obtain⟨C,I,_⟩:=h.blk
 have U:=I.lt
 refine⟨by omega,λx=>by have:=h.rd.bd y x;omega,λi hi=>?_,by rw[J];exact h.adv.size⟩
 have:=(h.at_ i hi).2.2.1.lt
 omega
theorem DcJ.cellAt{W w:World}{F:Nat->Prop}{b z N:Nat}{l:List Nat}{Y:Nat->Nat}{k a y j:Nat}(h:DcJ W F b z N l Y k a y j w)(I:j<128):∃u,w.cell? ⟨y,j,none⟩=some u:=by
 have J:(((List.range j).map (gB l k)++List.replicate (128-j) 0).map u8).length=128:=by simp;omega
 refine⟨(((List.range j).map (gB l k)++List.replicate (128-j) 0).map u8)[j]'(by omega),?_⟩
 rw[h.yb.cell,List.getElem?_toArray,List.getElem?_eq_getElem (by omega)]
theorem B1D(v:Value)(l:List Nat)(w:World)(h:Rd w 1 v l.length (l.map u8))(h8:∀x∈l,x<256)(hl:l.length<=200000):
 Calls Tryz.prog 125 #[v] w (C45 w l):=by
 have aT:Calls Tryz.prog 130 #[v] w λe w'=>∃b F,e= .returned (.pointer (some ⟨b,0,none⟩))/\RSt w' F b l.length (T2 l) 0/\B1 B5 w F w'/\Bd F w':=
  A4d v l.length (T2 l) w (by rw[A8p h8];exact h) (by omega)
 have bC:=C5Z aT
 obtain⟨N,hN⟩:∃N,N=gN l:=⟨_,rfl⟩
 have aQ:N<256:=by rw[hN];exact C1T l
 have bJ:(N:Int)<=256:=by omega
 have HN:=C5Z hN
 have bB:=C5Z aQ
 clear h h8 hl aT hN aQ
 go_enter Tryz.func125,Tryz.ntmps125
 go_wp2_with fail
 refine bC.out.mono ?_
 rintro e w1 ⟨b,F,rfl,r1,a1,b1⟩
 have aR:RdS w1 F b l.length (T2 l) 0:=.inl ⟨Nat.zero_le _,r1,b1⟩
 have HG:=C5Z (aR.getx 8 (by decide))
 have aU:=C5Z a1
 clear r1 b1 aR a1
 go_wp2_with fail
 refine HG.out.mono ?_
 rintro e w2 ⟨rfl,r2,a2⟩
 rw[show A24 l.length (T2 l) 0 8=N from HN.out.symm]
 have aE:=C5Z (aU.out.trans a2)
 have bH:=B61 N (by have:=bB.out;omega)
 obtain⟨z,hz⟩:∃z,z=w2.heap.size:=⟨_,rfl⟩
 obtain⟨V,hV⟩:∃V,V=w2.alloc (.cells (madeCells #[.int .i64 0,.slice none 0 0] (N * 2)) 239):=⟨_,rfl⟩
 have aH:B1 B5 w2 B5 V:=by rw[hV];exact(B1.refl _ _).alloc _
 have HI:=C5Z (show DcI w F b z N l (λ_=>0) 0 8 V from by
  refine⟨r2.far (λj J hl=>by rw[hV];exact Below.heap_alloc _ _ _ hl) aH.size,⟨_,by rw[hV,hz];exact C3.new _ _ _,A7n _ _⟩,λi hi=>absurd hi (Nat.not_lt_zero _),(aE.out.sub (G:=B5) (λ_ x=>x.elim)).trans aH,λj J=>?_,by rw[hz];exact aE.out.size,λx=>?_⟩
  ·rcases aE.out.into j J with h|h
   ·exact h.elim
   ·exact h
  ·have:=r2.bd z x;omega)
 have HV:=C5Z hV
 have HZ:=C5Z hz
 clear r2 a2 hz hV aH
 go_upto_region 3 with(fail)
 rw[<-HV.out,<-HZ.out]
 clear bH
 go_wp2_with fail
 go_loopw [15] (DcL w F b z N l) (λt _=>N-(intOf t).toNat)
 case atStart=>exact⟨0,_,Nat.zero_le _,rfl,HI.out⟩
 case round=>
  obtain⟨k,Y,hk,rfl,hi⟩:=hrel
  by_cases U:k<N
  ·have bP:(k:Int)<(N:Int):=by omega
   have bO:(0:Int)<=(k:Int):=by omega
   obtain⟨x,hx⟩:∃x,x=gA l k:=⟨_,rfl⟩
   have HX:=C5Z hx
   have aL:=C5Z (show A24 l.length (T2 l) (8+1036 * k) 12=x by rw[hx];rfl)
   have aP:=C5Z (show IntKind.i64.wrap (x:Int)=(gA l k:Int)by rw[IntKind.wrap_i64,<-hx];have:=C40 l k;omega)
   have bI:=C5Z hi
   have aB:=C5Z U
   have aF:=C5Z (hi.over ((B1.refl B5 wr).drew))
   have aJ:=C5Z (show 8+1036 * k+12=20+1036 * k by omega)
   clear hi U hk hx
   go_upto_region 6 with(fail)
   go_cut [] (λw6=>∃y,DcJ w F b z N l Y k (20+1036 * k) y 0 w6)
   case first=>
    refine D8 (S:=(λ_=>True)) (by first|trivial) (λhH=>?_)
    refine C6d 0 rfl ?_
    refine C6d 1 rfl ?_
    refine C6d 2 rfl ?_
    refine C6f 3 5 rfl rfl (λK hK=>?_) (λK hK=>?_)
    ·go_simp
     refine(aF.out.get 12 (by decide)).mono ?_
     rintro e w4 ⟨rfl,g4, -⟩
     rw[aL.out]
     rw[aJ.out]at g4
     have G4:=C5Z g4
     clear g4
     go_wp2_with fail
     refine C6c hK (by first|trivial) ?_
     clear hK K hH
     intro hH
     try simp only[Act.put,sA,sB,sC]
     refine C6d 4 rfl ?_
     refine C6b 5 rfl (λK hK=>?_)
     refine A7m rfl _ _ rfl rfl rfl ?_
     obtain⟨y,Z⟩:∃y,y=w4.heap.size:=⟨_,rfl⟩
     obtain⟨w5,X⟩:∃W,W=w4.alloc (.cells ((List.replicate 128 0).map u8).toArray 5):=⟨_,rfl⟩
     rw[<-X,<-Z]
     have G5:=C5Z (show DcI w F b z N l Y k (20+1036 * k) w5 by rw[X];exact G4.out.over ((B1.refl B5 w4).alloc _))
     have aC:=C5Z (show C3 w5 y 5 ((List.replicate 128 0).map u8).toArray by rw[X,Z];exact C3.new _ _ _)
     have I:=C5Z (B8Y G4.out Z)
     clear Z X
     refine C6c hK (by first|trivial) ?_
     clear hK K hH
     intro hH
     try simp only[Act.put,sA,sB,sC]
     refine C6d 6 rfl ?_
     refine C6d 7 rfl ?_
     refine C6b 8 rfl (λK hK=>?_)
     refine A8E B4D rfl (.tmp 25) (.tmp 24) rfl z (k * 2) #[.int .i64 (IntKind.i64.wrap (x:Int)),.slice (some ⟨y,0,none⟩) 128 128] (G5.out.there aB.out) rfl (B4M _ _) rfl rfl ?_
     have HJ:=C5Z (G5.out.lay aB.out aP.out aC.out I.out.1 I.out.2.1 I.out.2.2.1 I.out.2.2.2)
     refine C6c hK (by first|trivial) ?_
     clear hK K hH
     intro hH
     try simp only[Act.put]
     refine wpAnyH_done (by kernel_rfl) ?_ _
     go_wp2_with fail
     go_meet
     exact⟨y,HJ.out⟩
    ·refine A7m rfl _ _ rfl rfl rfl ?_
     obtain⟨y,Z⟩:∃y,y=wr.drew.heap.size:=⟨_,rfl⟩
     obtain⟨w5,X⟩:∃W,W=wr.drew.alloc (.cells ((List.replicate 128 0).map u8).toArray 5):=⟨_,rfl⟩
     rw[<-X,<-Z]
     have G5:=C5Z (show DcI w F b z N l Y k (8+1036 * k) w5 by rw[X];exact aF.out.over ((B1.refl B5 wr.drew).alloc _))
     have aC:=C5Z (show C3 w5 y 5 ((List.replicate 128 0).map u8).toArray by rw[X,Z];exact C3.new _ _ _)
     have I:=C5Z (B8Y aF.out Z)
     clear Z X
     refine C6c hK (by first|trivial) ?_
     clear hK K hH
     intro hH
     try simp only[Act.put,sA,sB,sC]
     refine C6b 3 rfl (λK hK=>?_)
     go_simp
     refine(G5.out.get 12 (by decide)).mono ?_
     rintro e w6 ⟨rfl,g6,a6⟩
     rw[aL.out]
     rw[aJ.out]at g6
     have G6:=C5Z g6
     have bG:=C5Z (aC.out.keep (a6.block y aC.out.lt I.out.2.1))
     clear g6 a6
     go_wp2_with fail
     refine C6c hK (by first|trivial) ?_
     clear hK K hH
     intro hH
     try simp only[Act.put,sA,sB,sC]
     refine C6d 4 rfl ?_
     refine C6d 6 rfl ?_
     refine C6d 7 rfl ?_
     refine C6b 8 rfl (λK hK=>?_)
     refine A8E B4D rfl (.tmp 25) (.tmp 24) rfl z (k * 2) #[.int .i64 (IntKind.i64.wrap (x:Int)),.slice (some ⟨y,0,none⟩) 128 128] (G6.out.there aB.out) rfl (B4M _ _) rfl rfl ?_
     have HJ:=C5Z (G6.out.lay aB.out aP.out bG.out I.out.1 I.out.2.1 I.out.2.2.1 I.out.2.2.2)
     refine C6c hK (by first|trivial) ?_
     clear hK K hH
     intro hH
     try simp only[Act.put]
     refine wpAnyH_done (by kernel_rfl) ?_ _
     go_wp2_with fail
     go_meet
     exact⟨y,HJ.out⟩
   case rest=>
    obtain⟨y,J⟩:=hcut
    have c1:=J.c1
    have aZ:=C5Z J
    clear J
    go_wp2_with fail
    go_loopw [32] (DcM w F b z N l Y k y) (λt _=>128-(intOf t).toNat)
    case atStart=>exact⟨0,Nat.zero_le _,rfl,aZ.out⟩
    case round=>
     obtain⟨j,J,rfl,aA⟩:=hrel
     by_cases U:j<128
     ·have bM:(j:Int)<128:=by omega
      have bK:(0:Int)<=(j:Int):=by omega
      obtain⟨xb,aD⟩:∃x,x=gB l k j:=⟨_,rfl⟩
      have bF:=C5Z aD
      have aY:=C5Z (show A24 l.length (T2 l) (20+1036 * k+8 * j) 8=xb by rw[aD];rfl)
      have bD:=C5Z (show IntKind.u8.wrap (xb:Int)=(xb:Int)by have:=C41 l k j;rw[<-aD]at this;rw[IntKind.wrap_u8];omega)
      have aX:=C5Z (show 20+1036 * k+8 * j+8=20+1036 * k+8 * (j+1)by omega)
      have aG:=C5Z U
      have bA:=C5Z aA.drew
      have k0:=aA.c1
      have K0:=C5Z k0
      have KD:=C5Z aA.drew.c1
      clear aA U J aD c1
      go_upto_region 10 with(fail)
      refine D8 (S:=(λw'=>w'.cell? ⟨z,k * 2+1,none⟩=some (.slice (some ⟨y,0,none⟩) 128 128))) (by with_reducible first|exact K8.out|exact K7.out|exact KD.out|exact K0.out) (λhH=>?_)
      refine C6a 0 rfl ?_
      refine C6a 1 rfl ?_
      refine C6a 2 rfl ?_
      refine C6a 3 rfl ?_
      refine C6a 4 rfl ?_
      refine C6a 5 rfl ?_
      refine C6a 6 rfl ?_
      refine C6b 7 rfl (λK hK=>?_)
      go_simp
      refine(bA.out.get 8 (by decide)).mono ?_
      rintro e w7 ⟨rfl,g7⟩
      rw[aY.out]
      rw[aX.out]at g7
      obtain⟨u,ky⟩:=g7.cellAt aG.out
      have fy:=g7.yb.frozen j
      have K7:=C5Z g7.c1
      have aO:=C5Z (show DcJ w F b z N l Y k (20+1036 * k+8 * (j+1)) y (j+1) (w7.setCell ⟨y,j,none⟩ (.int .u8 (IntKind.u8.wrap (xb:Int))))by rw[bD.out];exact g7.set aG.out bF.out)
      have K8:=C5Z aO.out.c1
      clear g7
      go_wp2_with fail
      refine C6c hK (by with_reducible first|exact K8.out|exact K7.out|exact KD.out|exact K0.out) ?_
      clear hK K hH
      intro hH
      try simp only[Act.put,sA,sB,sC]
      refine C6a 8 rfl ?_
      refine C6a 9 rfl ?_
      refine C6b 10 rfl (λK hK=>?_)
      go_simp
      refine C6c hK (by with_reducible first|exact K8.out|exact K7.out|exact KD.out|exact K0.out) ?_
      clear hK K hH
      intro hH
      try simp only[Act.put]
      refine wpAnyH_done (by kernel_rfl) ?_ _
      go_wp2_with fail
      have U:=aG.out
      exact⟨⟨j+1,by omega,by go_num,aO.out⟩,by simp[intOf]<;>omega⟩
     ·obtain rfl:j=128:=by omega
      have aW:=C5Z (show DcI w F b z N l (λi=>if i=k then y else Y i) (k+1) (8+1036 * (k+1)) wr by
       have:=aA.done
       rwa[show 20+1036 * k+8 * 128=8+1036 * (k+1)by omega]at this)
      clear aA U J c1
      go_wp2_with fail
      have U:=aB.out
      exact⟨⟨k+1,_,by omega,by go_num,aW.out⟩,by simp[intOf]<;>omega⟩
  ·obtain rfl:k=N:=by omega
   obtain⟨E,hE⟩:∃E,E=A4L l.length (T2 l) (8+1036 * k):=⟨_,rfl⟩
   have aI:=C5Z hi.rd.end_
   rw[<-hE]at aI
   have aM:=C5Z hi
   have HE:=C5Z (show E=A7T l by rw[hE,<-C2M,gE,<-HN.out])
   clear hi U hk hE
   go_wp2_with fail
   refine aI.out.mono ?_
   rintro e w9 ⟨rfl,a9⟩
   have aN:=C5Z (show(gP l).length=k by rw[HN.out];simp[gP])
   have HQ:=C5Z (show∀G,Bd G w->QRd w9 G (.slice (some ⟨z,0,none⟩) k k) (gP l)fromλG hG=>(aM.out.over a9).qrd HN.out hG)
   have aV:=C5Z (aM.out.adv.trans a9)
   clear a9
   have aS:∀B,B=decide (A7T l=0)->C45 w l (.returned (.tuple #[.slice (some ⟨z,0,none⟩) k k,.bool B])) w9:=λB hB=>by
    subst hB
    refine⟨z,by rw[aN.out],λG hG=>?_,aV.out⟩
    rw[aN.out]
    exact HQ.out G hG
   have aK:=C5Z aS
   clear aS
   by_cases h0:E=0
   ·subst h0
    have HF:=C5Z (aK.out true (by rw[decide_eq_true HE.out.symm]))
    go_wp2_with fail
    exact bodyPost_ret (v:=.tuple #[.slice (some ⟨z,0,none⟩) k k,.bool true]) (by simp[results,Tryz.results125,go_sem]) rfl HF.out
   ·have hb:((E:Int)==0)=false:=by rw[beq_eq_false_iff_ne];exact h0
    have HF:=C5Z (aK.out false (by rw[decide_eq_false (by rw[<-HE.out];exact h0)]))
    clear h0
    go_wp2_with fail
    exact bodyPost_ret (v:=.tuple #[.slice (some ⟨z,0,none⟩) k k,.bool false]) (by simp[results,Tryz.results125,go_sem]) rfl HF.out
end
section
open Go.RowKit
theorem A7x{w:World}{b q:Nat}{t t':TypeId}{J U V W X Y d1 d2 Z d4:Value}(h:C3 w b t #[J,U,V,W,X])(I:C3 w q t' #[Y,d1,d2,Z,d4]):
 w.cell? ⟨b,0,none⟩=some J/\w.cell? ⟨b,1,none⟩=some U/\w.cell? ⟨b,2,none⟩=some V/\w.cell? ⟨b,3,none⟩=some W/\w.cell? ⟨b,4,none⟩=some X/\w.cell? ⟨q,0,none⟩=some Y/\w.cell? ⟨q,1,none⟩=some d1/\w.cell? ⟨q,2,none⟩=some d2/\w.cell? ⟨q,3,none⟩=some Z/\w.cell? ⟨q,4,none⟩=some d4:=
 ⟨h.cell 0,h.cell 1,h.cell 2,h.cell 3,h.cell 4,I.cell 0,I.cell 1,I.cell 2,I.cell 3,I.cell 4⟩
end
section
open Go.RowKit
def C1Y(w:World)(B:Bool)(x:Ending)(w':World):Prop:=x= .returned (.bool B)/\B1 B5 w B5 w'
theorem A3d(e c:Int)(f g:Bool)(v:Value)(w:World):
 Calls Tryz.prog 197 #[.agg #[.int .u64 e,.int .u64 c,.bool f,.bool g,v]] w λx w'=>x= .returned (.int .u8 ((flg f g:Nat):Int))/\B1 B5 w B5 w':=
 (A8n e c f g v w).mono (by rintro x w' ⟨rfl,rfl⟩;exact⟨rfl,(B1.refl _ _).alloc _⟩)
theorem B6E(J c1 Y c2:Nat)(U W Z g2:Bool)(A1 A2:Option Addr)(X n2 k1 k2:Nat)(l1 l2:List Nat)(w:World)(h1:Rd w 1 (.slice A1 X k1) X (l1.map u8))(h2:Rd w 1 (.slice A2 n2 k2) n2 (l2.map u8))(aL:∀x∈l1,x<256)(aM:∀x∈l2,x<256):
 Calls Tryz.prog 162 #[.agg #[.int .u64 (J:Int),.int .u64 (c1:Int),.bool U,.bool W,.slice A1 X k1],.agg #[.int .u64 (Y:Int),.int .u64 (c2:Int),.bool Z,.bool g2,.slice A2 n2 k2]] w
  (C1Y w (decide (J=Y/\c1=c2/\flg U W=flg Z g2/\l1=l2))):=by
 obtain⟨b,hb⟩:∃b,b=w.heap.size:=⟨_,rfl⟩
 obtain⟨q,hq⟩:∃q,q=(w.alloc (.cells #[.int .u64 (J:Int),.int .u64 (c1:Int),.bool U,.bool W,.slice A1 X k1] 201)).heap.size:=⟨_,rfl⟩
 obtain⟨V,hV⟩:∃V,V=(w.alloc (.cells #[.int .u64 (J:Int),.int .u64 (c1:Int),.bool U,.bool W,.slice A1 X k1] 201)).alloc (.cells #[.int .u64 (Y:Int),.int .u64 (c2:Int),.bool Z,.bool g2,.slice A2 n2 k2] 201):=⟨_,rfl⟩
 have aH:C3 V b 201 #[.int .u64 (J:Int),.int .u64 (c1:Int),.bool U,.bool W,.slice A1 X k1]:=by rw[hV,hb];exact(C3.new _ _ _).alloc _
 have aI:C3 V q 201 #[.int .u64 (Y:Int),.int .u64 (c2:Int),.bool Z,.bool g2,.slice A2 n2 k2]:=by rw[hV,hq];exact C3.new _ _ _
 have hA:B1 B5 w B5 V:=by rw[hV];exact((B1.refl _ _).alloc _).alloc _
 have aJ:Rd V 1 (.slice A1 X k1) X (l1.map u8):=by rw[hV];exact(h1.up _).up _
 have aK:Rd V 1 (.slice A2 n2 k2) n2 (l2.map u8):=by rw[hV];exact(h2.up _).up _
 have aN:q=b+1:=by rw[hq,hb];simp
 have aR:=C5Z aN
 have aO:=C5Z (A7x aH aI)
 have aE:=C5Z (A7x (w:=V.drew) aH aI)
 have aC:=C5Z aH
 have aD:=C5Z aI
 have HA:=C5Z hA
 have aS:=C5Z aJ
 have aT:=C5Z aK
 have HV:=C5Z hV
 have HB:=C5Z hb
 have HQ:=C5Z hq
 have aP:=C5Z aL
 have aQ:=C5Z aM
 obtain⟨B,hB⟩:∃B,B=decide (J=Y/\c1=c2/\flg U W=flg Z g2/\l1=l2):=⟨_,rfl⟩
 rw[<-hB]
 have aG:=C5Z hB
 clear aH aI hA aJ aK hV hb hq h1 h2 aL aM hB aN
 go_enter Tryz.func162,Tryz.ntmps162
 go_wp2_with fail
 rw[<-HV.out,<-HB.out,<-aR.out]
 obtain⟨s0,s1,s2,s3,s4,s5,s6,s7,s8,s9⟩:=aO.out
 by_cases he:J=Y
 ·have aV:((J:Int)==(Y:Int))=true:=by rw[beq_iff_eq];omega
  by_cases hc:c1=c2
  ·have aU:((c1:Int)==(c2:Int))=true:=by rw[beq_iff_eq];omega
   have HE:=C5Z he
   have aX:=C5Z hc
   by_cases hx:flg U W=flg Z g2
   ·have aW:(((flg U W:Nat):Int)==((flg Z g2:Nat):Int))=true:=by rw[beq_iff_eq];omega
    obtain rfl:B=decide (l1=l2):=by rw[aG.out];by_cases hl:l1=l2<;>simp[hl,he,hc,hx]
    clear he hc hx
    refine D8 (S:=(λw'=>w'.cell? ⟨b,0,none⟩=some (.int .u64 (J:Int))/\w'.cell? ⟨b,1,none⟩=some (.int .u64 (c1:Int))/\w'.cell? ⟨b,2,none⟩=some (.bool U)/\w'.cell? ⟨b,3,none⟩=some (.bool W)/\w'.cell? ⟨b,4,none⟩=some (.slice A1 X k1)/\w'.cell? ⟨q,0,none⟩=some (.int .u64 (Y:Int))/\w'.cell? ⟨q,1,none⟩=some (.int .u64 (c2:Int))/\w'.cell? ⟨q,2,none⟩=some (.bool Z)/\w'.cell? ⟨q,3,none⟩=some (.bool g2)/\w'.cell? ⟨q,4,none⟩=some (.slice A2 n2 k2))) (by with_reducible first|exact aB.out|exact aA.out|exact aE.out) (λhH=>?_)
    refine C6j 0 rfl ?_
    refine C6j 1 rfl ?_
    refine C6j 2 rfl ?_
    refine C6j 3 rfl ?_
    refine C6j 4 rfl ?_
    refine C6j 5 rfl ?_
    refine C6j 6 rfl ?_
    refine C6j 7 rfl ?_
    refine C6j 8 rfl ?_
    refine C6j 9 rfl ?_
    refine C6j 10 rfl ?_
    refine C6j 11 rfl ?_
    refine C6j 12 rfl ?_
    refine C6j 13 rfl ?_
    refine C6j 15 rfl ?_
    refine C6b 14 rfl (λK hK=>?_)
    go_simp
    refine(A3d _ _ _ _ _ _).mono ?_
    rintro x w5 ⟨rfl,u1⟩
    have aF:=C5Z ((B1.refl B5 V).drew.trans u1)
    have aA:=C5Z (A7x (aC.out.keep (aF.out.block b aC.out.lt (λh=>h))) (aD.out.keep (aF.out.block q aD.out.lt (λh=>h))))
    clear u1
    go_wp2_with fail
    refine C6c hK (by with_reducible first|exact aB.out|exact aA.out|exact aE.out) ?_
    clear hK K hH
    intro hH
    try simp only[Act.put,sA,sB,sC]
    refine C6b 16 rfl (λK hK=>?_)
    go_simp
    refine(A3d _ _ _ _ _ _).mono ?_
    rintro x w6 ⟨rfl,u2⟩
    have I:=C5Z (aF.out.trans u2)
    have aB:=C5Z (A7x (aC.out.keep (I.out.block b aC.out.lt (λh=>h))) (aD.out.keep (I.out.block q aD.out.lt (λh=>h))))
    clear u2
    go_wp2_with fail
    refine C6c hK (by with_reducible first|exact aB.out|exact aA.out|exact aE.out) ?_
    clear hK K hH
    intro hH
    try simp only[Act.put,sA,sB,sC]
    refine C6j 17 rfl ?_
    refine C6j 18 rfl ?_
    refine C6j 19 rfl ?_
    refine C6j 20 rfl ?_
    refine C6j 21 rfl ?_
    refine C6j 22 rfl ?_
    refine C6j 23 rfl ?_
    refine C6b 24 rfl (λK hK=>?_)
    go_simp
    refine(A4J _ _ X n2 l1 l2 _ (aS.out.far (λ_ _ _ h=>I.out.block _ h (λh=>h)) I.out.size) (aT.out.far (λ_ _ _ h=>I.out.block _ h (λh=>h)) I.out.size) aP.out aQ.out).mono ?_
    rintro x w7 ⟨rfl,rfl⟩
    go_wp2_with fail
    refine C6c hK (by with_reducible first|exact aB.out|exact aA.out|exact aE.out) ?_
    clear hK K hH
    intro hH
    try simp only[Act.put,sA,sB,sC]
    refine C6j 25 rfl ?_
    refine C6j 26 rfl ?_
    refine wpAnyH_done (by kernel_rfl) ?_ _
    go_wp2_with fail
    go_ret
    exact⟨rfl,HA.out.trans I.out⟩
   ·have aW:(((flg U W:Nat):Int)==((flg Z g2:Nat):Int))=false:=by rw[beq_eq_false_iff_ne];omega
    obtain rfl:B=false:=by rw[aG.out];exact decide_eq_false (λh=>hx h.2.2.1)
    clear he hc hx
    refine D8 (S:=(λw'=>w'.cell? ⟨b,0,none⟩=some (.int .u64 (J:Int))/\w'.cell? ⟨b,1,none⟩=some (.int .u64 (c1:Int))/\w'.cell? ⟨b,2,none⟩=some (.bool U)/\w'.cell? ⟨b,3,none⟩=some (.bool W)/\w'.cell? ⟨b,4,none⟩=some (.slice A1 X k1)/\w'.cell? ⟨q,0,none⟩=some (.int .u64 (Y:Int))/\w'.cell? ⟨q,1,none⟩=some (.int .u64 (c2:Int))/\w'.cell? ⟨q,2,none⟩=some (.bool Z)/\w'.cell? ⟨q,3,none⟩=some (.bool g2)/\w'.cell? ⟨q,4,none⟩=some (.slice A2 n2 k2))) (by with_reducible first|exact aB.out|exact aA.out|exact aE.out) (λhH=>?_)
    refine C6j 0 rfl ?_
    refine C6j 1 rfl ?_
    refine C6j 2 rfl ?_
    refine C6j 3 rfl ?_
    refine C6j 4 rfl ?_
    refine C6j 5 rfl ?_
    refine C6j 6 rfl ?_
    refine C6j 7 rfl ?_
    refine C6j 8 rfl ?_
    refine C6j 9 rfl ?_
    refine C6j 10 rfl ?_
    refine C6j 11 rfl ?_
    refine C6j 12 rfl ?_
    refine C6j 13 rfl ?_
    refine C6j 15 rfl ?_
    refine C6b 14 rfl (λK hK=>?_)
    go_simp
    refine(A3d _ _ _ _ _ _).mono ?_
    rintro x w5 ⟨rfl,u1⟩
    have aF:=C5Z ((B1.refl B5 V).drew.trans u1)
    have aA:=C5Z (A7x (aC.out.keep (aF.out.block b aC.out.lt (λh=>h))) (aD.out.keep (aF.out.block q aD.out.lt (λh=>h))))
    clear u1
    go_wp2_with fail
    refine C6c hK (by with_reducible first|exact aB.out|exact aA.out|exact aE.out) ?_
    clear hK K hH
    intro hH
    try simp only[Act.put,sA,sB,sC]
    refine C6b 16 rfl (λK hK=>?_)
    go_simp
    refine(A3d _ _ _ _ _ _).mono ?_
    rintro x w6 ⟨rfl,u2⟩
    have I:=C5Z (aF.out.trans u2)
    have aB:=C5Z (A7x (aC.out.keep (I.out.block b aC.out.lt (λh=>h))) (aD.out.keep (I.out.block q aD.out.lt (λh=>h))))
    clear u2
    go_wp2_with fail
    refine C6c hK (by with_reducible first|exact aB.out|exact aA.out|exact aE.out) ?_
    clear hK K hH
    intro hH
    try simp only[Act.put,sA,sB,sC]
    refine C6j 17 rfl ?_
    refine C6j 18 rfl ?_
    refine C6j 19 rfl ?_
    refine C6k 20 rfl ?_
    refine C6k 21 rfl ?_
    refine C6k 22 rfl ?_
    refine C6k 23 rfl ?_
    refine C6k 24 rfl ?_
    refine C6j 25 rfl ?_
    refine C6j 26 rfl ?_
    refine wpAnyH_done (by kernel_rfl) ?_ _
    go_wp2_with fail
    go_ret
    exact⟨rfl,HA.out.trans I.out⟩
  ·have aU:((c1:Int)==(c2:Int))=false:=by rw[beq_eq_false_iff_ne];omega
   obtain rfl:B=false:=by rw[aG.out];exact decide_eq_false (λh=>hc h.2.1)
   clear hc he
   go_quiet (fail)
   go_wp2_with fail
   go_ret
   exact⟨rfl,HA.out.drewN _⟩
 ·have aV:((J:Int)==(Y:Int))=false:=by rw[beq_eq_false_iff_ne];omega
  obtain rfl:B=false:=by rw[aG.out];exact decide_eq_false (λh=>he h.1)
  clear he
  go_quiet (fail)
  go_wp2_with fail
  go_ret
  exact⟨rfl,HA.out.drewN _⟩
end
section
open Go.RowKit
def EqR(w:World)(ps qs:List Pc)(x:Ending)(w':World):Prop:=∃B:Bool,x= .returned (.bool B)/\(B=true↔ps=qs)/\B1 B5 w B5 w'
def EqL(w:World)(N:Nat)(ps qs:List Pc)(t:Value)(wr:World):Prop:=∃k:Nat,k<=N/\t= .int .i64 (k:Int)/\(∀i,i<k->ps[i]? =qs[i]?)/\B1 B5 w B5 wr
theorem C2Z{N:Nat}{ps qs:List Pc}(I:ps.length=N)(J:qs.length=N)(h:∀i,i<N->ps[i]? =qs[i]?):ps=qs:=by
 apply List.ext_getElem?
 intro i
 by_cases hi:i<N
 ·exact h i hi
 ·rw[List.getElem?_eq_none (by omega),List.getElem?_eq_none (by omega)]
theorem C3a{p q:Pc}{B:Bool}(X:B=decide (p.e=q.e/\p.c=q.c/\flg p.f p.g=flg q.f q.g/\p.d=q.d)):B=true↔p=q:=by
 subst X
 rw[decide_eq_true_iff]
 constructor
 ·rintro⟨I,J,h3,U⟩
  obtain⟨V,W⟩:=B9S h3
  cases p;cases q
  simp only at I J U V W
  subst I J U V W
  rfl
 ·rintro rfl
  exact⟨rfl,rfl,rfl,rfl⟩
def B8(ps:List Pc):Prop:=∀p∈ps,∀x∈p.d,x<256
theorem B1E(A1 A2:Option Addr)(k1 k2:Nat)(ps qs:List Pc)(w:World)(h1:PRd w (.slice A1 ps.length k1) ps)(h2:PRd w (.slice A2 qs.length k2) qs)(aQ:B8 ps)(aR:B8 qs):
 Calls Tryz.prog 161 #[.slice A1 ps.length k1,.slice A2 qs.length k2,.func (.func 162) #[] #[]] w (EqR w ps qs):=by
 obtain⟨N,hN⟩:∃N,N=ps.length:=⟨_,rfl⟩
 obtain⟨M,hM⟩:∃N,N=qs.length:=⟨_,rfl⟩
 rw[<-hN]at h1⊢
 rw[<-hM]at h2⊢
 have aV:N<=maxLen:=by
  obtain⟨_,_,e,h3,h4,_⟩:=h1
  injection e with _ e2 e3
  omega
 have bG:(N:Int)<=9223372036854775807:=by unfold maxLen at aV;omega
 clear aV
 have HP:=C5Z h1
 have HQ:=C5Z h2
 have HN:=C5Z hN
 have HM:=C5Z hM
 have aY:=C5Z aQ
 have aZ:=C5Z aR
 clear h1 h2 hN hM aQ aR
 by_cases aM:N=M
 ·subst aM
  go_enter Tryz.func161,Tryz.ntmps161
  go_wp2_with fail
  go_loopw [17] (EqL w N ps qs) (λt _=>N-(intOf t).toNat)
  case atStart=>exact⟨0,Nat.zero_le _,rfl,λi hi=>absurd hi (Nat.not_lt_zero _),B1.refl _ _⟩
  case round=>
   obtain⟨k,hk,rfl,aD,I⟩:=hrel
   by_cases J:k<N
   ·have bH:(k:Int)<(N:Int):=by omega
    have aK:k<ps.length:=by rw[<-HN.out];exact J
    have aL:k<qs.length:=by rw[<-HM.out];exact J
    obtain⟨b1,o1,a1,q1,rfl,bF,aJ,aE⟩:=(HP.out.step I).row aK
    obtain⟨b2,o2,a2,q2,rfl,aU,aC,aF⟩:=(HQ.out.step I).row aL
    obtain⟨p,hp⟩:∃p,p=ps[k]:=⟨_,rfl⟩
    obtain⟨q,hq⟩:∃q,q=qs[k]:=⟨_,rfl⟩
    have aW:∀x∈p.d,x<256:=by rw[hp];exact aY.out _ (List.getElem_mem _)
    have aX:∀x∈q.d,x<256:=by rw[hq];exact aZ.out _ (List.getElem_mem _)
    have aA:=C5Z (show ps[k]? =some p/\qs[k]? =some q by rw[hp,hq];exact⟨List.getElem?_eq_getElem aK,List.getElem?_eq_getElem aL⟩)
    rw[<-hp]at aJ aE
    rw[<-hq]at aC aF
    obtain⟨W,Z,X,Y,D⟩:=p
    obtain⟨qe,qn,qf,qg,D'⟩:=q
    obtain⟨d,hd⟩:∃d,d=D.length:=⟨_,rfl⟩
    obtain⟨d',aT⟩:∃d,d=D'.length:=⟨_,rfl⟩
    simp only[<-hd]at aJ aE
    simp only[<-aT]at aC aF
    obtain⟨B,hB⟩:∃B,B=decide (W=qe/\Z=qn/\flg X Y=flg qf qg/\D=D'):=⟨_,rfl⟩
    have aO:=C5Z (C3a (p:=⟨W,Z,X,Y,D⟩) (q:=⟨qe,qn,qf,qg,D'⟩) hB)
    have aS:∀v,B1 B5 wr B5 v->Calls Tryz.prog 162 #[.agg #[.int .u64 (W:Int),.int .u64 (Z:Int),.bool X,.bool Y,.slice a1 d q1],.agg #[.int .u64 (qe:Int),.int .u64 (qn:Int),.bool qf,.bool qg,.slice a2 d' q2]] v (C1Y v B):=λv hv=>by
     rw[hB]
     exact B6E W Z qe qn X Y qf qg a1 a2 d d' q1 q2 D D' v (aE.far (λ_ _ _ h=>hv.block _ h (λh=>h)) hv.size) (aF.far (λ_ _ _ h=>hv.block _ h (λh=>h)) hv.size) aW aX
    have aN:=C5Z aS
    obtain⟨z,hz⟩:∃z,z=wr.heap.size:=⟨_,rfl⟩
    obtain⟨V,hV⟩:∃V,V=wr.alloc (.cells #[.int .u64 (W:Int),.int .u64 (Z:Int),.bool X,.bool Y,.slice a1 d q1] 201):=⟨_,rfl⟩
    obtain⟨U,hU⟩:∃U,U=V.alloc (.cells #[.int .u64 (qe:Int),.int .u64 (qn:Int),.bool qf,.bool qg,.slice a2 d' q2] 201):=⟨_,rfl⟩
    have hZ:C3 U z 201 #[.int .u64 (W:Int),.int .u64 (Z:Int),.bool X,.bool Y,.slice a1 d q1]:=by rw[hU,hV,hz];exact(C3.new _ _ _).alloc _
    have aI:B1 B5 wr B5 V:=by rw[hV];exact(B1.refl _ _).alloc _
    have aP:B1 B5 wr B5 U:=by rw[hU];exact aI.alloc _
    obtain⟨y,hy⟩:∃y,y=V.heap.size:=⟨_,rfl⟩
    have hY:C3 U y 201 #[.int .u64 (qe:Int),.int .u64 (qn:Int),.bool qf,.bool qg,.slice a2 d' q2]:=by rw[hU,hy];exact C3.new _ _ _
    have bA:=C5Z (aC.step aU aI)
    have bD:=C5Z (A7x hZ hY)
    have HV:=C5Z hV
    have HU:=C5Z hU
    have HZ:=C5Z hz
    have HY:=C5Z hy
    have aB:=C5Z aP
    have HA:=C5Z I
    have aG:=C5Z aD
    have bB:=C5Z J
    obtain⟨c0,c1,c2,c3,c4⟩:=aJ
    clear aK aL bF aE aU aC aF hp hq aW aX hd aT aS hz hV hU hZ aI aP hY hy I aD J hk hB
    go_upto_region 6 with(fail)
    rw[<-HV.out,<-HZ.out]
    obtain⟨e0,e1,e2,e3,e4⟩:=bA.out
    clear c0 c1 c2 c3 c4
    go_upto_region 7 with(fail)
    rw[<-HU.out,<-HY.out]
    clear e0 e1 e2 e3 e4
    obtain⟨s0,s1,s2,s3,s4,s5,s6,s7,s8,s9⟩:=bD.out
    cases B with
    |true=>
     go_wp2_with fail
     refine(aN.out U aB.out).mono ?_
     rintro x w8 ⟨rfl,t8⟩
     have aH:=C5Z (aB.out.trans t8)
     clear t8
     go_wp2_with fail
     have J:=bB.out
     refine⟨⟨k+1,by omega,by go_num,λi hi=>?_,HA.out.trans aH.out⟩,by simp[intOf];omega⟩
     by_cases e:i=k
     ·rw[e,aA.out.1,aA.out.2,aO.out.mp (by trivial)]
     ·exact aG.out i (by omega)
    |false=>
     go_wp2_with fail
     refine(aN.out U aB.out).mono ?_
     rintro x w8 ⟨rfl,t8⟩
     have aH:=C5Z (aB.out.trans t8)
     clear t8
     go_wp2_with fail
     go_ret
     refine⟨false,rfl,⟨λh=>absurd h (by decide),λh=>?_⟩,HA.out.trans aH.out⟩
     have e:=aA.out.1
     rw[h,aA.out.2]at e
     injection e with e
     exact aO.out.mpr e.symm
   ·obtain rfl:k=N:=by omega
    have HA:=C5Z I
    have aG:=C5Z aD
    clear I aD J hk
    go_wp2_with fail
    go_ret
    exact⟨true,rfl,⟨λ_=>C2Z HN.out.symm HM.out.symm aG.out,λ_=>rfl⟩,HA.out⟩
 ·have bI:((N:Int)==(M:Int))=false:=by rw[beq_eq_false_iff_ne];omega
  have bC:=C5Z aM
  clear aM
  go_enter Tryz.func161,Tryz.ntmps161
  go_wp2_with fail
  all_goals
   go_ret
   exact⟨false,rfl,⟨λh=>absurd h (by decide),λh=>absurd (by rw[HN.out,HM.out,h]) bC.out⟩,B1.refl _ _⟩
end
end Go.Proofs.YtbefmjiclpobjaaGreat
