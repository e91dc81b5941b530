import Derived.Test.YtbefmjiclpobjaaGreatMj17
import Derived.Lib.LazyBuf
namespace Go.Proofs.YtbefmjiclpobjaaGreat
set_option maxHeartbeats 6400000
set_option maxRecDepth 3000
section
open Go.RowKit Go.Maps
def rdP(s:DS)(n c:Nat):List Nat:=isS s (2+c%n)
def S7(s:DS)(n c:Nat):Prop:=A0q (rdP s n c)/\(dec (rdP s n c)).c=c
instance (s:DS) (n c:Nat):Decidable (S7 s n c):=by unfold S7;exact inferInstance
def scan(s:DS)(n:Nat):Nat->Nat->Option (List Pc)
 |0,_=>none
 |f+1,c=>if S7 s n c then(if(dec (rdP s n c)).g then some [dec (rdP s n c)]else(scan s n f (c+1)).map (dec (rdP s n c)::·))else none
def scanV(s:DS)(n c:Nat):List Pc:=(scan s n (n+1) c).getD []
def A3e(s:DS)(n c k:Nat):List Pc:=(List.range k).map (λi=>dec (rdP s n (c+i)))
theorem A8K(s:DS)(n c k:Nat):A3e s n c (k+1)=A3e s n c k++[dec (rdP s n (c+k))]:=by simp[A3e,List.range_succ]
theorem A9Z{s:DS}{n c f:Nat}(h:¬S7 s n c):scan s n f c=none:=by
 cases f with
 |zero=>rfl
 |succ f=>unfold scan;rw[if_neg h]
theorem A8L{s:DS}{n c f:Nat}(h:S7 s n c)(I:(dec (rdP s n c)).g=true):scan s n (f+1) c=some [dec (rdP s n c)]:=by unfold scan;rw[if_pos h,if_pos I]
theorem A5h{s:DS}{n c f:Nat}(h:S7 s n c)(I:(dec (rdP s n c)).g=false):scan s n (f+1) c=(scan s n f (c+1)).map (dec (rdP s n c)::·):=by rw[scan,if_pos h,if_neg (by rw[I];decide)]
structure Pre (s:DS) (n c k:Nat):Prop where
 le:k<=n
 good:∀i,i<k->S7 s n (c+i)
 res:scan s n (n+1) c=(scan s n (n+1-k) (c+k)).map (A3e s n c k++·)
theorem Pre.zero(s:DS)(n c:Nat):Pre s n c 0:=⟨Nat.zero_le _,λi h=>absurd h (Nat.not_lt_zero _),by simp[A3e]⟩
theorem Pre.lt{s:DS}{n c k:Nat}(h:Pre s n c k)(X:1<=n)(V:S7 s n (c+k)):k<n:=by
 rcases Nat.lt_or_ge k n with I|I
 ·exact I
 ·have e:k=n:=Nat.le_antisymm h.le I
  subst e
  have U:=h.good 0 X
  have J:rdP s k (c+k)=rdP s k (c+0):=by unfold rdP;rw[Nat.add_mod_right,Nat.add_zero]
  have I:=V.2
  rw[J,U.2]at I
  omega
theorem Pre.no{s:DS}{n c k:Nat}(h:Pre s n c k)(I:¬S7 s n (c+k)):scanV s n c=[]:=by
 unfold scanV
 rw[h.res,A9Z I];rfl
theorem Pre.last{s:DS}{n c k:Nat}(h:Pre s n c k)(I:S7 s n (c+k))(J:(dec (rdP s n (c+k))).g=true):scanV s n c=A3e s n c (k+1):=by
 unfold scanV
 rw[h.res,show n+1-k=(n-k)+1 by have:=h.le;omega,A8L I J,A8K];rfl
theorem Pre.more{s:DS}{n c k:Nat}(h:Pre s n c k)(V:1<=n)(I:S7 s n (c+k))(J:(dec (rdP s n (c+k))).g=false):Pre s n c (k+1):=by
 have U:=h.lt V I
 refine⟨U,λi hi=>?_,?_⟩
 ·by_cases e:i=k
  ·subst e;exact I
  ·exact h.good i (by omega)
 ·rw[h.res,show n+1-k=(n-k)+1 by omega,A5h I J,A8K,show n+1-(k+1)=n-k by omega,<-Nat.add_assoc]
  cases scan s n (n-k) (c+k+1)<;>simp
theorem B0a{l:List Nat}(h:A0q l):T8 l=dec l/\A0t l=0:=⟨if_pos h,if_pos h⟩
theorem B3A{l:List Nat}(h:¬A0q l):A0t l=4:=if_neg h
theorem C1h{T:TypeId}{W w w':World}{P:Nat->Pc}{k:Nat}{J I:Value}{F:Nat->Prop}{qs:List (Pc×Value)}{a:Option Addr}{q:Nat}{p:Pc}(h:PW T W P k J F qs w)(hp:P k=p)(hr:Rd w 1 (.slice a p.d.length q) p.d.length (p.d.map u8))(X:∀g,(Value.slice a p.d.length q).ownBlock=some g->0<p.d.length->¬F g)
 (Z:w'.ownsRow 0 T 5 I (k+1) (qs.flatMap A34++[.int .u64 (p.e:Int),.int .u64 (p.c:Int),.bool p.f,.bool p.g,.slice a p.d.length q])) (V:w.grownBy w' J.ownBlock) (U:I.ownBlock=J.ownBlock\/I.ownBlock=some w.heap.size):∃F' aA,PW T W P (k+1) I F' aA w':=by
 subst hp
 exact h.push hr X Z V U
def C3a(w:World)(ps:List Pc)(e:Ending)(w':World):Prop:=∃A k,e= .returned (.slice A ps.length k)/\PRd w' (.slice A ps.length k) ps/\(∀j,(Value.slice A ps.length k).ownBlock=some j->w.heap.size<=j)/\B0 B5 w B5 w'
def PcL(w:World)(s:DS)(n c:Nat)(t4 t3:Value)(wr:World):Prop:=
 ∃k A q F qs,t4= .int .u64 ((c+k:Nat):Int)/\t3= .slice A k q/\Pre s n c k/\PW 201 w (λi=>dec (rdP s n (c+i))) k (.slice A k q) F qs wr
theorem B3B(l b d n N:Nat)(g:LS)(F:Nat->Prop)(s:DS)(w:World)(h:Rs w F d l b n N s g)(bM:SB s N)(hn:2<=n/\n+3<=N/\N<=4096)(aO:g.next<=2199023255552):
 Calls Tryz.prog 123 #[.pointer (some ⟨l,0,none⟩)] w (C3a w (scanV s n g.next)):=by
 obtain⟨c,hc⟩:∃c,c=g.next:=⟨_,rfl⟩
 have c5:=h.lg.cells.2.2.2.2.2.1
 rw[<-hc]at c5 aO⊢
 have HS:=C6x h
 have cC:=C6x bM
 have U:=C6x hn
 have HC:=C6x aO
 clear h bM hn aO hc
 go_enter Tryz.func123,Tryz.ntmps123
 go_wp2_with fail
 go_loopw [4,3] (PcL w s n c) (λt _ _=>c+n+1-(intOf t).toNat)
 case atStart=>exact⟨0,none,0,B5,[],by simp,rfl,Pre.zero s n c,PW.nil _ _ _⟩
 case round=>
  obtain⟨k,A,q,Fq,qs,rfl,rfl,aE,aR⟩:=hrel
  have Z:=aR.adv.sub (G:=B5) (λ_ x=>x.elim)
  have hs:=HS.out.over Z
  have c0:=hs.lg.cells.1
  obtain⟨x,hx⟩:∃x,x=c+k:=⟨_,rfl⟩
  have cE:x<18446744073709551616:=by have:=HC.out;have:=aE.le;have:=U.out;omega
  have aQ:2+x%n<N:=by have:=Nat.mod_lt x (show 0<n by have:=U.out;omega);have:=U.out;omega
  have aY:=C6x (A83 (w:=wr.drew) x (show Lg wr.drew l b d n N g from⟨hs.lg.blk,hs.lg.mp⟩) (by have:=U.out;omega))
  have aJ:=C6x (A6a d N F s (2+x%n) wr.drew (hs.dk.far ((B0.refl B5 wr).drew) (λ_ x _=>x)) aQ)
  have aX:=C6x (cC.out _ aQ)
  have bT:=C6x (show∀w',B0 B5 wr.drew B5 w'->w'.cell? ⟨l,0,none⟩=some (.pointer (some ⟨d,0,none⟩))fromλw' a=>(hs.over (B0.of_drew a)).lg.cells.1)
  have aG:=C6x c0
  have aH:=C6x (show wr.drew.cell? ⟨l,0,none⟩=some (.pointer (some ⟨d,0,none⟩))from c0)
  have aD:=C6x aE
  have aZ:=C6x aR
  have bG:=aE.le
  have hm:=show c+n+1-(c+k)>0 by omega
  obtain⟨L,hL⟩:∃L,L=rdP s n x:=⟨_,rfl⟩
  have bB:isS s (2+x%n)=L:=by rw[hL];rfl
  rw[bB]at aJ aX
  obtain⟨pl,bI⟩:∃y,y=2+x%n:=⟨_,rfl⟩
  rw[<-bI]at aY aJ
  rw[<-hx]
  have X:=C6x hx
  have HL:=C6x hL
  have cG:=C6x bG
  clear Z hs hx cE aQ aE aR bG hm hL bB bI
  go_wp2_with fail
  refine D6 (S:=(λw'=>w'.cell? ⟨l,0,none⟩=some (.pointer (some ⟨d,0,none⟩)))) (by with_reducible first|exact aF.out|exact aH.out|exact aG.out) (λhH=>?_)
  refine C6y 0 rfl ?_
  refine C6y 1 rfl ?_
  refine C6y 2 rfl ?_
  refine C6y 3 rfl ?_
  refine C6y 4 rfl ?_
  refine C6y 5 rfl ?_
  refine C6z 6 rfl (λK hK=>?_)
  go_simp
  refine aY.out.mono ?_
  rintro e w6 ⟨rfl,rfl⟩
  go_wp2_with fail
  refine C60 hK (by with_reducible first|exact aF.out|exact aH.out|exact aG.out) ?_
  clear hK K hH
  intro hH
  try simp only[Act.put,sA,sB,sC]
  refine C6z 7 rfl (λK hK=>?_)
  go_simp
  refine aJ.out.mono ?_
  rintro e w7 ⟨y,rfl,b7,l7,a7⟩
  have aF:=C6x (bT.out w7 (a7.sub (G:=B5) (λ_ x=>x.elim)))
  have aS:=C6x (B0.of_drew (a7.sub (G:=B5) (λ_ x=>x.elim)))
  have cD:=C6x (A6x _ 128 L w7 (b7.rdS8 l7) aX.out)
  clear b7 l7 a7
  go_wp2_with fail
  refine C60 hK (by with_reducible first|exact aF.out|exact aH.out|exact aG.out) ?_
  clear hK K hH
  intro hH
  try simp only[Act.put,sA,sB,sC]
  refine C6y 8 rfl ?_
  refine C6y 9 rfl ?_
  refine C6y 10 rfl ?_
  refine C6y 11 rfl ?_
  refine C6y 12 rfl ?_
  refine wpAnyH_done (by kernel_rfl) ?_ _
  go_wp2_with fail
  refine cD.out.mono ?_
  rintro e w8 ⟨a8,q8,F8,rfl,s8,t8⟩
  obtain⟨p,hp⟩:∃p,p=T8 L:=⟨_,rfl⟩
  obtain⟨E,hE⟩:∃E,E=A0t L:=⟨_,rfl⟩
  rw[<-hp]at s8⊢
  rw[<-hE]
  obtain⟨pe,I,pf,J,D⟩:=p
  simp only at s8⊢
  obtain⟨m,hm⟩:∃m,m=D.length:=⟨_,rfl⟩
  rw[<-hm]at s8⊢
  obtain⟨V,hV⟩:∃V,V=w8.alloc (.cells #[.int .u64 (pe:Int),.int .u64 (I:Int),.bool pf,.bool J,.slice a8 m q8] 201):=⟨_,rfl⟩
  obtain⟨z,hz⟩:∃z,z=w8.heap.size:=⟨_,rfl⟩
  have Z:B0 B5 w8 B5 V:=by rw[hV];exact(B0.refl _ _).alloc _
  have aB:=aZ.out.step (aS.out)
  have bU:=C6x (C2Z aB s8 t8)
  have bK:=(aB.step t8).step Z
  have bZ:=C6x bK
  have cB:=C6x (s8.rd.far (λ_ _ _ h=>Z.block _ h (λh=>h)) Z.size)
  have aK:=C6x (show C3 V z 201 #[.int .u64 (pe:Int),.int .u64 (I:Int),.bool pf,.bool J,.slice a8 m q8]by rw[hV,hz];exact C3.new _ _ _)
  have bP:=C6x ((aZ.out.adv.sub (G:=B5) (λ_ x=>x.elim)).trans (aS.out.trans ((t8.sub (G:=B5) (λ_ x=>x.elim)).trans Z)))
  have bV:=C6x (show∀j,(Value.slice A k q).ownBlock=some j->j≠z fromλj hj e=>by
   have:=(aB.step t8).sl.bd j (aB.sl.inF j hj)
   omega)
  have HP:=C6x hp
  have HE:=C6x hE
  have HV:=C6x hV
  have HZ:=C6x hz
  have aI:=C6x hm
  clear s8 t8 hp hE hV hz Z aB bK hm
  go_upto_region 6 with(fail)
  rw[<-HV.out,<-HZ.out]
  obtain⟨z0,z1,z2,z3,z4⟩:=B3f aK.out
  have aT:=C6x (show¬S7 s n (c+k)->C3a w (scanV s n c) (.returned (.slice none 0 0)) V fromλk'=>by
   rw[aD.out.no k']
   exact⟨none,0,rfl,PRd.nil _,λj hj=>by simp[Value.ownBlock]at hj,bP.out⟩)
  by_cases hw:A0q L
  ·obtain⟨u1,u2⟩:=B0a hw
   obtain rfl:E=0:=by rw[HE.out,u2]
   have HW:=C6x hw
   have aC:=C6x (show(⟨pe,I,pf,J,D⟩:Pc)=dec L by rw[HP.out,u1])
   clear hw u1 u2
   by_cases aL:I=x
   ·subst aL
    have aN:S7 s n (c+k):=by
     rw[<-X.out]
     unfold S7
     rw[<-HL.out]
     exact⟨HW.out,by rw[<-aC.out]⟩
    have bF:=aD.out.lt (by have:=U.out;omega) aN
    have aV:=C6x aN
    have aW:=C6x bF
    have bR:=C6x (show k+1<=maxLen by have:=U.out;unfold maxLen;omega)
    have bS:=C6x (show(k+1) * 48<=140737488355328 by have:=U.out;omega)
    have bY:=C6x (show(λi=>dec (rdP s n (c+i))) k=(⟨pe,I,pf,J,D⟩:Pc)by rw[aC.out,HL.out,X.out])
    have bA:=C6x (bZ.out.step ((B0.refl B5 V).alloc (.cells #[.int .u64 (pe:Int),.int .u64 (I:Int),.bool pf,.bool J,.slice a8 m q8] 201)))
    have cA:=C6x (cB.out.up (.cells #[.int .u64 (pe:Int),.int .u64 (I:Int),.bool pf,.bool J,.slice a8 m q8] 201))
    have bD:(dec (rdP s n (c+k))).g=J:=by rw[<-X.out,<-HL.out,<-aC.out]
    have aU:=C6x bD
    clear aN bF bD
    go_upto_region 9 with(first
     |(at_builtin;refine A2e rfl (.tmp 39) (.tmp 41) 197 201 rfl Tryz.underlying197 A80 rfl (by decide) rfl bA.out.sl.own ⟨V.heap.size,0,none⟩ 1 1 rfl [.int .u64 (pe:Int),.int .u64 (I:Int),.bool pf,.bool J,.slice a8 m q8] rfl C1g C5j bR.out bS.out ?_;intro v' w2 aP aM bC;obtain⟨a9,k9,rfl⟩:=(B0U aP);have bX:=C6x aP;have bQ:=C6x aM;have bO:=C6x bC;have cK:w2.cell? ⟨z,3,none⟩=some (.bool J):=((aK.out.alloc _).keep (aM.block z (by have:=aK.out.lt;simp;omega) (λe=>bV.out _ e.symm rfl))).cell 3;clear aP aM bC z0 z1 z2 z3 z4)
     |fail)
    obtain⟨F9,cF,bJ⟩:=C1h (p:=⟨pe,I,pf,J,D⟩) bA.out bY.out (by simp only;rw[<-aI.out];exact cA.out) (by simp only;rw[<-aI.out];exact bU.out) (by simp only;rw[<-aI.out];exact bX.out) bQ.out bO.out
    have aA:=C6x bJ
    have cJ:IntKind.u64.wrap ((I:Int)+1)=(I:Int)+1:=by
     have:=A3k (x:=I+1) (by have:=X.out;have:=HC.out;have:=aW.out;have:=U.out;omega)
     rw[Int.natCast_add]at this
     exact this
    clear bJ
    cases J with
    |true=>
     have HF:=C6x (show C3a w (scanV s n c) (.returned (.slice a9 (k+1) k9)) w2 by
      have e1:=aD.out.last aV.out aU.out
      have e2:(A3e s n c (k+1)).length=k+1:=by simp[A3e]
      rw[e1]
      refine⟨a9,k9,by rw[e2],?_,λj hj=>?_,aA.out.adv.sub (λ_ x=>x.elim)⟩
      ·rw[e2]
       exact aA.out.prd (by omega)
      ·rw[e2]at hj
       rcases aA.out.adv.into j (aA.out.sl.inF j hj)with h|h
       ·exact h.elim
       ·exact h)
     go_wp2_with fail
     go_ret
     exact HF.out
    |false=>
     go_wp2_with fail
     refine⟨⟨k+1,a9,k9,F9,cF,?_,rfl,aD.out.more (by have:=U.out;omega) aV.out aU.out,aA.out⟩,?_⟩
     ·rw[X.out];go_num
     ·have h1:=X.out
      have h2:=aW.out
      simp[intOf]
      omega
   ·have bH:¬S7 s n (c+k):=by
     rw[<-X.out]
     unfold S7
     rw[<-HL.out]
     intro h
     exact aL (by rw[<-h.2,<-aC.out])
    have HF:=C6x (aT.out bH)
    have hb:((I:Int)!=(x:Int))=true:=by rw[bne_iff_ne];omega
    have cH:((I:Int)==(x:Int))=false:=by rw[beq_eq_false_iff_ne];omega
    clear bH aL
    go_wp2_with fail
    go_ret
    exact HF.out
  ·obtain rfl:E=4:=by rw[HE.out,B3A hw]
   have HF:=C6x (aT.out (λh=>hw (by have:=h.1;rw[<-X.out,<-HL.out]at this;exact this)))
   clear hw
   go_wp2_with fail
   go_ret
   exact HF.out
end
section
open Go.RowKit Go.Maps
def A2v(q V a n:Nat):Nat:=if a+n<=8 * q then C4 q V a n else 0
theorem B0b(q V a n:Nat):A2v q V a n<2^n:=by
 unfold A2v
 split
 ·exact Nat.mod_lt _ (Nat.two_pow_pos _)
 ·exact Nat.two_pow_pos _
theorem RdS.getx{w:World}{F:Nat->Prop}{b q V a:Nat}(h:RdS w F b q V a)(n:Nat)(Z:n<=64):
 Calls Tryz.prog 131 #[.pointer (some ⟨b,0,none⟩),.int .i64 (n:Int)] w λe w'=>e= .returned (.int .u64 (A2v q V a n:Int))/\RdS w' F b q V (a+n)/\B0 F w F w':=by
 rcases h with⟨h1,I,h3⟩|⟨h1,I⟩
 ·by_cases J:a+n<=8 * q
  ·refine(A08 b q V a n F w I h3 Z J).mono ?_
   rintro e w' ⟨rfl,U,X,k3⟩
   exact⟨by rw[A2v,if_pos J],.inl ⟨J,U,k3⟩,X⟩
  ·refine(A8y b q V a n F w I h3 Z (by omega)).mono ?_
   rintro e w' ⟨rfl,U,X⟩
   exact⟨by rw[A2v,if_neg J];rfl,.inr ⟨by omega,U⟩,X⟩
 ·refine(B4p b n 3 F w I).mono ?_
  rintro e w' ⟨rfl,rfl⟩
  exact⟨by rw[A2v,if_neg (by omega)];rfl,.inr ⟨by omega,I⟩,B0.refl _ _⟩
def gN(l:List Nat):Nat:=A2v l.length (R8 l) 0 8
def gA(l:List Nat)(i:Nat):Nat:=A2v l.length (R8 l) (8+1036 * i) 12
def gB(l:List Nat)(i k:Nat):Nat:=A2v l.length (R8 l) (20+1036 * i+8 * k) 8
def gT(l:List Nat)(i:Nat):Pt:=⟨(gA l i:Int),(List.range 128).map (gB l i)⟩
def gP(l:List Nat):List Pt:=(List.range (gN l)).map (gT l)
def gE(l:List Nat):Int:=A4L l.length (R8 l) (8+1036 * gN l)
theorem C2i(l:List Nat):gN l<256:=B0b _ _ _ _
theorem C4F(l:List Nat)(i:Nat):gA l i<4096:=B0b _ _ _ _
theorem C4G(l:List Nat)(i k:Nat):gB l i k<256:=B0b _ _ _ _
theorem B8X(l:List Nat):gN l=B2W l:=by
 unfold gN B2W A2v
 split
 ·rfl
 ·have e:l=[]:=List.length_eq_zero_iff.mp (by omega)
  subst e
  rfl
theorem C3b(l:List Nat):gE l=A7Y l:=by unfold gE A7Y;rw[B8X]
theorem C1i{q V a:Nat}(h:A4L q V a=0):a<=8 * q:=by
 unfold A4L at h
 split at h
 ·assumption
 ·cases h
theorem B3C{l:List Nat}(h:A7Y l=0):gP l=B0Q l:=by
 have X:=C1i (show A4L l.length (R8 l) (8+1036 * B2W l)=0 from h)
 unfold gP B0Q
 rw[B8X]
 apply List.ext_getElem
 ·simp
 ·intro i V J
  have hi:i<B2W l:=by simpa using J
  simp only[List.getElem_map,List.getElem_range]
  have ea:gA l i=C01 l i:=by unfold gA C01 A2v;rw[if_pos (by omega)]
  have I:(List.range 128).map (gB l i)=(List.range 128).map (B7K l i):=by
   apply List.ext_getElem
   ·simp
   ·intro j h3 U
    have Z:j<128:=by simpa using U
    simp only[List.getElem_map,List.getElem_range]
    unfold gB B7K A2v
    rw[if_pos (by omega)]
  unfold gT C02
  rw[ea,I]
section
variable {ops:Array Oper} {o:Oper} {a:Act} {w:World} {Q:Exit->Act->World->Prop} {K:Act->World->Prop} {E:Prop}
theorem A8M{t:TypeId}{m:Nat}(aA:(Tryz.prog.info? t).map (·.size)=some m)(X:o.guard=none)(x y:Operand)(Z:o.op= .store t x y)(z I:Nat)(D:Array Value)(V:w.there z I m)(J:D.size=m)(U:D.all (·.oneCell')=true)
 (hx:a.eval x= .pointer (some ⟨z,I,none⟩)) (hy:a.eval y= .agg D) (h:K (a.put o.dst undef) (w.setCells z I D.toList)):if Region.wanted o (yielded ops a.tmps)=true then Oper.wp Tryz.prog o a w K Q else E:=by
 rw[if_pos (by simp[Region.wanted,X])]
 exact wp_store_mid t x y Z z I D hx hy (by rw[J];exact V) (by rw[aA,J]) U h
theorem C1j:madeCells #[.int .u8 0] 128=((List.replicate 128 0).map u8).toArray:=by
 apply Array.ext_getElem?
 intro i
 rw[<-Array.getElem?_toList,toList_madeCells_one,List.getElem?_toArray,List.map_replicate]
 rfl
theorem B1A(w:World):(Instr.makeSlice 54 (.int .i64 128) (.int .i64 128)).run Tryz.prog w= .ok (.slice (some ⟨w.heap.size,0,none⟩) 128 128) (w.alloc (.cells ((List.replicate 128 0).map u8).toArray 5)):=by
 obtain⟨X,hi,J,U,V⟩:=info_parts Tryz.infoU8
 have I:=run_make (P:=Tryz.prog) w 54 5 X (.int .u8 0) Tryz.underlying54 hi J .i64 .i64 128 128 (by decide) (by decide) (by rw[V];decide) (by decide)
 rw[U]at I
 rw[<-C1j]
 exact I
theorem A7p(I:o.guard=none)(x y:Operand)(J:o.op= .makeSlice 54 x y)(U:a.eval x= .int .i64 128)(V:a.eval y= .int .i64 128)
 (h:K (a.put o.dst (.slice (some ⟨w.heap.size,0,none⟩) 128 128)) (w.alloc (.cells ((List.replicate 128 0).map u8).toArray 5))):if Region.wanted o (yielded ops a.tmps)=true then Oper.wp Tryz.prog o a w K Q else E:=by
 rw[if_pos (by simp[Region.wanted,I])]
 unfold Oper.wp execOp
 simp only[J,U,V,Sem.run_bind,B1A,Result.andThen_ok]
 exact h
end
theorem B4R:(Tryz.prog.info? 239).map (λi=>(i.zero,i.size,i.bytes))=some (some (.agg #[.int .i64 0,.slice none 0 0]),2,32):=by kernel_rfl
theorem B4S:(Tryz.prog.info? 239).map (·.size)=some 2:=by kernel_rfl
theorem B6E(n:Nat)(Z:n<=1000)(w:World):(Instr.makeSlice 202 (.int .u64 (n:Int)) (.int .u64 (n:Int))).run Tryz.prog w= .ok (.slice (some ⟨w.heap.size,0,none⟩) n n) (w.alloc (.cells (madeCells #[.int .i64 0,.slice none 0 0] (n * 2)) 239)):=by
 obtain⟨X,J,V,U,I⟩:=info_parts B4R
 have h:=run_make (P:=Tryz.prog) w 202 239 X _ Tryz.underlying202 J V .u64 .u64 n n (by omega) (Int.le_refl _) (by rw[I];omega) (by omega)
 simpa[U,Value.cells]using h
theorem A7q(C:Array Value)(n:Nat):(madeCells C n).size=n:=by simp[madeCells]
structure DcI (W:World) (F:Nat->Prop) (b z N:Nat) (l:List Nat) (Y:Nat->Nat) (k a:Nat) (w:World):Prop where
 rd:RdS w F b l.length (R8 l) a
 blk:∃C,C3 w z 239 C/\C.size=N * 2
 at_:∀i,i<k->w.cell? ⟨z,i * 2,none⟩=some (.int .i64 (gA l i:Int))/\w.cell? ⟨z,i * 2+1,none⟩=some (.slice (some ⟨Y i,0,none⟩) 128 128)/\C3 w (Y i) 5 (((List.range 128).map (gB l i)).map u8).toArray/\Y i≠z/\¬F (Y i)/\W.heap.size<=Y i
 adv:B0 B5 W B5 w
 newF:∀j,F j->W.heap.size<=j
 hz:W.heap.size<=z
 nz:¬F z
section
variable {W w w':World} {F F':Nat->Prop} {b z N:Nat} {l:List Nat} {Y:Nat->Nat} {k a:Nat}
theorem DcI.adv_(h:DcI W F b z N l Y k a w)(I:B0 F w F w'){V:Nat}(hr:RdS w' F b l.length (R8 l) V):DcI W F b z N l Y k V w':=by
 obtain⟨C,Z,hC⟩:=h.blk
 have U:=I.block z Z.lt h.nz
 refine⟨hr,⟨C,Z.keep U,hC⟩,λi hi=>?_,?_,h.newF,h.hz,h.nz⟩
 ·obtain⟨c0,c1,hy,h1,X,h4⟩:=h.at_ i hi
  exact⟨by rw[World.cell?_of_block U];exact c0,by rw[World.cell?_of_block U];exact c1,hy.keep (I.block _ hy.lt X),h1,X,h4⟩
 ·exact⟨I.os.trans h.adv.os,I.tape.trans h.adv.tape,I.output.trans h.adv.output,Nat.le_trans h.adv.size I.size,λj J hn=>(I.block j (Nat.lt_of_lt_of_le J h.adv.size) (λx=>by have:=h.newF j x;omega)).trans (h.adv.block j J hn),λ_ J=>J.elim⟩
theorem DcI.over(h:DcI W F b z N l Y k a w)(I:B0 B5 w F' w'):DcI W F b z N l Y k a w':=
 h.adv_ ⟨I.os,I.tape,I.output,I.size,λj J _=>I.block j J (λx=>x),λ_ J=>.inl J⟩ (h.rd.far (λj _ U=>I.block j U (λx=>x)) I.size)
theorem DcI.get(h:DcI W F b z N l Y k a w)(n:Nat)(U:n<=64):
 Calls Tryz.prog 131 #[.pointer (some ⟨b,0,none⟩),.int .i64 (n:Int)] w λe w'=>e= .returned (.int .u64 (A2v l.length (R8 l) a n:Int))/\DcI W F b z N l Y k (a+n) w'/\B0 F w F w':=by
 refine(h.rd.getx n U).mono ?_
 rintro e w' ⟨rfl,J,I⟩
 exact⟨rfl,h.adv_ I J,I⟩
theorem DcI.there(h:DcI W F b z N l Y k a w)(X:k<N):w.there z (k * 2) 2:=λj V=>by
 obtain⟨C,J,U⟩:=h.blk
 have I:=J.there (k * 2+j) (by omega)
 rw[Nat.zero_add]at I
 exact I
structure DcJ (W:World) (F:Nat->Prop) (b z N:Nat) (l:List Nat) (Y:Nat->Nat) (k a y j:Nat) (w:World):Prop where
 base:DcI W F b z N l Y k a w
 c0:w.cell? ⟨z,k * 2,none⟩=some (.int .i64 (gA l k:Int))
 c1:w.cell? ⟨z,k * 2+1,none⟩=some (.slice (some ⟨y,0,none⟩) 128 128)
 yb:C3 w y 5 (((List.range j).map (gB l k)++List.replicate (128-j) 0).map u8).toArray
 yz:y≠z
 yF:¬F y
 yY:∀i,i<k->Y i≠y
 yW:W.heap.size<=y
 kN:k<N
theorem DcJ.adv_{y j:Nat}(h:DcJ W F b z N l Y k a y j w)(I:B0 F w F w'){J:Nat}(X:RdS w' F b l.length (R8 l) J):DcJ W F b z N l Y k J y j w':=by
 obtain⟨C,V,Z⟩:=h.base.blk
 have U:=I.block z V.lt h.base.nz
 exact⟨h.base.adv_ I X,by rw[World.cell?_of_block U];exact h.c0,by rw[World.cell?_of_block U];exact h.c1,h.yb.keep (I.block _ h.yb.lt h.yF),h.yz,h.yF,h.yY,h.yW,h.kN⟩
theorem DcJ.drew{y j:Nat}(h:DcJ W F b z N l Y k a y j w):DcJ W F b z N l Y k a y j w.drew:=h.adv_ ((B0.refl F w).drew) (h.base.rd.far (λ_ _ _=>rfl) (Nat.le_refl _))
theorem DcJ.get{y j:Nat}(h:DcJ W F b z N l Y k a y j w)(n:Nat)(U:n<=64):
 Calls Tryz.prog 131 #[.pointer (some ⟨b,0,none⟩),.int .i64 (n:Int)] w λe w'=>e= .returned (.int .u64 (A2v l.length (R8 l) a n:Int))/\DcJ W F b z N l Y k (a+n) y j w':=by
 refine(h.base.rd.getx n U).mono ?_
 rintro e w' ⟨rfl,I,J⟩
 exact⟨rfl,h.adv_ J I⟩
theorem B0.setCellsNew{W w:World}{z o:Nat}(h:B0 B5 W B5 w)(I:W.heap.size<=z)(D:List Value):B0 B5 W B5 (w.setCells z o D):=B0.lsetCells D o _ h (.inr I)
theorem DcI.lay{y:Nat}{xa:Int}(h:DcI W F b z N l Y k a w)(hk:k<N)(hx:xa=(gA l k:Int))(hy:C3 w y 5 ((List.replicate 128 0).map u8).toArray)(aA:y≠z)(aE:¬F y)(aG:∀i,i<k->Y i≠y)(aF:W.heap.size<=y):
 DcJ W F b z N l Y k a y 0 (w.setCells z (k * 2) [.int .i64 xa,.slice (some ⟨y,0,none⟩) 128 128]):=by
 subst hx
 obtain⟨D,I⟩:∃D,D=[Value.int .i64 (gA l k:Int),.slice (some ⟨y,0,none⟩) 128 128]:=⟨_,rfl⟩
 have aI:D.length=2:=by rw[I];rfl
 obtain⟨C,hB,hC⟩:=h.blk
 obtain⟨C',aB,aH⟩:=C3.lsetCells D (k * 2) w C hB
 have U:∀g,g≠z->(w.setCells z (k * 2) D).heap[g]? =w.heap[g]? :=λg V=>L7 z V D (k * 2) w
 have e:∀i j,i<k->j<2->(w.setCells z (k * 2) D).cell? ⟨z,i * 2+j,none⟩=w.cell? ⟨z,i * 2+j,none⟩:=λi j hi J=>World.cell?_setCells_out z D (k * 2) w _ (λ_ _=>.inl (by show i * 2+j<k * 2;omega))
 have X:∀j (J:j<D.length),(w.setCells z (k * 2) D).cell? ⟨z,k * 2+j,none⟩=some D[j]:=λj J=>World.cell?_setCells_in z D (k * 2) w (λj J=>(h.there hk j (by omega)).1) j J
 have aC:w.heap.size<=(w.setCells z (k * 2) D).heap.size:=(B0.lsetCells D (k * 2) _ (B0.refl (λk=>k=z) w) (.inl rfl)).size
 rw[<-I]
 refine⟨⟨h.rd.far (λg V _=>U g (λe=>h.nz (e ▸ V))) aC,⟨C',aB,by omega⟩,λi hi=>?_,h.adv.setCellsNew h.hz D,h.newF,h.hz,h.nz⟩,?_,?_,?_,aA,aE,aG,aF,hk⟩
 ·obtain⟨c0,c1,aD,Z,h2,h4⟩:=h.at_ i hi
  exact⟨by have:=e i 0 hi (by decide);rw[Nat.add_zero]at this;rw[this];exact c0,by rw[e i 1 hi (by decide)];exact c1,aD.keep (U _ Z),Z,h2,h4⟩
 ·have:=X 0 (by omega)
  rw[Nat.add_zero]at this
  rw[this]
  subst I;rfl
 ·have:=X 1 (by omega)
  rw[this]
  subst I;rfl
 ·have e3:(List.range 0).map (gB l k)++List.replicate (128-0) 0=List.replicate 128 0:=rfl
  rw[e3]
  exact hy.keep (U y aA)
theorem DcJ.set{y j x:Nat}(h:DcJ W F b z N l Y k a y j w)(hj:j<128)(hx:x=gB l k j):DcJ W F b z N l Y k a y (j+1) (w.setCell ⟨y,j,none⟩ (.int .u8 (x:Int))):=by
 have U:∀g,g≠y->(w.setCell ⟨y,j,none⟩ (.int .u8 (x:Int))).heap[g]? =w.heap[g]? :=λg V=>Below.heap_setCell w _ _ g V
 have aC:w.heap.size<=(w.setCell ⟨y,j,none⟩ (.int .u8 (x:Int))).heap.size:=by simp[World.setCell]
 obtain⟨C,hB,hC⟩:=h.base.blk
 have I:=U z h.yz.symm
 refine⟨⟨h.base.rd.far (λg V _=>U g (λe=>h.yF (e ▸ V))) aC,⟨C,hB.keep I,hC⟩,λi hi=>?_,h.base.adv.setCell (.inr h.yW) _,h.base.newF,h.base.hz,h.base.nz⟩,by rw[World.cell?_of_block I];exact h.c0,by rw[World.cell?_of_block I];exact h.c1,?_,h.yz,h.yF,h.yY,h.yW,h.kN⟩
 ·obtain⟨Z,c1,aD,J,h2,h4⟩:=h.base.at_ i hi
  exact⟨by rw[World.cell?_of_block I];exact Z,by rw[World.cell?_of_block I];exact c1,aD.keep (U _ (h.yY i hi)),J,h2,h4⟩
 ·have J:=h.yb.set_ j (.int .u8 (x:Int))
  have e:(((List.range j).map (gB l k)++List.replicate (128-j) 0).map u8).toArray.setIfInBounds j (.int .u8 (x:Int))=(((List.range (j+1)).map (gB l k)++List.replicate (128-(j+1)) 0).map u8).toArray:=by
   rw[List.setIfInBounds_toArray]
   congr 1
   apply List.ext_getElem?
   intro i
   rw[List.getElem?_set]
   have aA:(((List.range j).map (gB l k)++List.replicate (128-j) 0).map u8).length=128:=by simp;omega
   rw[aA]
   have aE:(((List.range (j+1)).map (gB l k)++List.replicate (128-(j+1)) 0).map u8).length=128:=by simp;omega
   by_cases X:j=i
   ·subst X
    rw[if_pos rfl,if_pos hj,List.getElem?_map,List.getElem?_append_left (by simp),List.getElem?_map,List.getElem?_range (by omega),hx]
    rfl
   ·rw[if_neg X]
    by_cases hi:i<128
    ·by_cases aB:i<j
     ·rw[List.getElem?_map,List.getElem?_map,List.getElem?_append_left (by simp;omega),List.getElem?_append_left (by simp;omega),List.getElem?_map,List.getElem?_map,List.getElem?_range aB,List.getElem?_range (by omega)]
     ·rw[List.getElem?_map,List.getElem?_map,List.getElem?_append_right (by simp;omega),List.getElem?_append_right (by simp;omega),List.getElem?_replicate,List.getElem?_replicate]
      simp only[List.length_map,List.length_range]
      rw[if_pos (by omega),if_pos (by omega)]
    ·rw[List.getElem?_eq_none (by omega),List.getElem?_eq_none (by omega)]
  rw[e]at J
  exact J
theorem DcJ.done{y:Nat}(h:DcJ W F b z N l Y k a y 128 w):DcI W F b z N l (λi=>if i=k then y else Y i) (k+1) a w:=by
 refine⟨h.base.rd,h.base.blk,λi hi=>?_,h.base.adv,h.base.newF,h.base.hz,h.base.nz⟩
 by_cases e:i=k
 ·subst e
  simp only[if_true]
  have:=h.yb
  rw[show(128-128:Nat)=0 from rfl,List.replicate_zero,List.append_nil]at this
  exact⟨h.c0,h.c1,this,h.yz,h.yF,h.yW⟩
 ·simp only[if_neg e]
  exact h.base.at_ i (by omega)
theorem DcI.qrd{G:Nat->Prop}(h:DcI W F b z N l Y N a w)(V:N=gN l)(I:Bd G W):QRd w G (.slice (some ⟨z,0,none⟩) N N) (gP l):=by
 obtain⟨C,U,hC⟩:=h.blk
 have hl:(gP l).length=N:=by rw[V];simp[gP]
 have aA:=C2i l
 refine⟨_,N,by rw[hl],by omega,by unfold maxLen;omega,λhp=>⟨z,0,rfl,⟨U.lt,λx=>by have:=I z x;have:=h.hz;omega⟩,λi hi=>?_⟩⟩
 obtain⟨J,c1,hy,h1,h2,hY⟩:=h.at_ i (by omega)
 have e:(gP l)[i]'hi=gT l i:=by simp[gP]
 rw[e]
 have X:(gT l i).d.length=128:=by simp[gT]
 rw[X]
 refine⟨some ⟨Y i,0,none⟩,128,by rw[Nat.zero_add,Nat.add_zero];exact J,by rw[Nat.zero_add];exact c1,hy.rdS8 (by simp),λk Z _ x=>?_⟩
 have:Y i=k:=by simpa[Value.ownBlock]using Z
 have:=I k x
 omega
end
end
section
open Go.RowKit
def A5i(s:ByteArray):List Nat:=s.data.toList.map (·.toNat)
def M5(s:ByteArray):List Nat:=if s.size=0 then []else s.size::(A5i s++List.replicate (127-s.size) 0)
theorem A2w(s:ByteArray):(A5i s).length=s.size:=by unfold A5i;rw[List.length_map];rfl
theorem C1k(s:ByteArray):∀x∈A5i s,x<256:=by
 unfold A5i
 intro x I
 obtain⟨b,_,rfl⟩:=List.mem_map.1 I
 exact b.toNat_lt
theorem B6F(s:ByteArray):A3c (A5i s)=s:=by
 apply A0i
 simp only[A3c,strOfNums_data,List.map_map,A5i]
 conv=>rhs;rw[<-List.map_id s.data.toList]
 refine List.map_congr_left λx _=>?_
 simp[Function.comp]
theorem A0X{s:ByteArray}(h:0<s.size)(I:s.size<=127):(M5 s).length=128:=by
 unfold M5
 rw[if_neg (by omega)]
 simp[A2w]
 omega
theorem B0c{s:ByteArray}(J:s.size<=127):∀x∈M5 s,x<256:=by
 unfold M5
 split
 ·intro x I;cases I
 ·intro x I
  rcases List.mem_cons.1 I with rfl|I
  ·omega
  ·rcases List.mem_append.1 I with I|I
   ·exact C1k s x I
   ·rw[(List.mem_replicate.1 I).2];decide
section
variable {ops:Array Oper} {rest:List Oper} {o:Oper} {a:Act} {w:World} {Q:Exit->Act->World->Prop}
theorem B1B(I:o.guard=none)(x y:Operand)(J:o.op= .makeSlice 54 x y)(U:a.eval x= .int .i64 128)(V:a.eval y= .int .i64 128)
 (h:∀z w',w.heap.size<=z->C3 w' z 5 ((List.replicate 128 0).map u8).toArray->B0 B5 w B5 w'->wpList Tryz.prog ops Q rest (a.put o.dst (.slice (some ⟨z,0,none⟩) 128 128)) w'):wpList Tryz.prog ops Q (o::rest) a w:=by
 refine wpList_plain I λK hK=>?_
 unfold Oper.wp execOp
 simp only[J,U,V,Sem.run_bind,B1A,Result.andThen_ok]
 exact hK _ _ (h _ _ (Nat.le_refl _) (C3.new _ _ _) ((B0.refl _ _).alloc _))
theorem B0d(aA:o.guard=none)(d x:Operand)(ho:o.op=Op.call { callee:=Callee.builtin Builtin.copy,args:= #[d,x],argTypes:= #[54,9] })
 (z m:Nat) (t:TypeId) (s:ByteArray) (hd:a.eval d= .slice (some ⟨z,1,none⟩) 127 127) (hx:a.eval x= .string s) (hs:s.size<=127) (J:C3 w z t ((m::List.replicate 127 0).map u8).toArray)
 (h:∀w',C3 w' z t ((m::(A5i s++List.replicate (127-s.size) 0)).map u8).toArray->B0 (J0 z) w (J0 z) w'->wpList Tryz.prog ops Q rest (a.put o.dst (goInt s.size)) w'):wpList Tryz.prog ops Q (o::rest) a w:=by
 refine wpList_plain aA λK hK=>?_
 have aC:∀w:World,(Go.sizeOf 5).run Tryz.prog w= .ok 1 w:=λw=>by
  obtain⟨i0,hi,aE,aD,aF⟩:=info_parts Tryz.infoU8
  simp[Go.sizeOf,typeInfo,hi,aD]
 have aB:=run_copy_string (P:=Tryz.prog) w 54 9 o.type 5 z 1 127 127 s Tryz.underlying54 aC hs (λj U=>by rw[J.cell];simp;omega) (λj U=>J.frozen _)
 unfold Oper.wp
 simp[execOp,ho,resolve,invoke,builtin,hd,hx,aB,Result.andThen]
 refine hK _ _ (h _ ?_ (B0.isetCells _ _ _ (B0.refl _ _) (.inl rfl)))
 have X:=C3.setCells_ (s.data.toList.map λx=>Value.int .u8 (x.toNat:Int)) _ 1 _ J
 have e:A8C ((m::List.replicate 127 0).map u8).toArray 1 (s.data.toList.map λx=>Value.int .u8 (x.toNat:Int))=((m::(A5i s++List.replicate (127-s.size) 0)).map u8).toArray:=by
  have hl:(s.data.toList.map λx=>Value.int .u8 (x.toNat:Int)).length=s.size:=by rw[List.length_map];rfl
  have hv:(s.data.toList.map λx=>Value.int .u8 (x.toNat:Int))=(A5i s).map u8:=by unfold A5i;rw[List.map_map];rfl
  rw[hv]
  have I:((A5i s).map u8).length=s.size:=by rw[List.length_map,A2w]
  apply Array.ext_getElem?
  intro k
  rw[A9G _ _ _ _ (by rw[I];simp;omega),I]
  by_cases Z:k=0
  ·subst Z;simp
  ·obtain⟨j,rfl⟩:∃j,k=j+1:=⟨k-1,by omega⟩
   by_cases U:j<s.size
   ·rw[if_pos (by omega),Nat.add_sub_cancel]
    simp only[List.getElem?_toArray,List.map_cons,List.getElem?_cons_succ,List.map_append]
    rw[List.getElem?_append_left (by rw[I];exact U)]
   ·rw[if_neg (by omega)]
    simp only[List.getElem?_toArray,List.map_cons,List.getElem?_cons_succ,List.map_append,List.map_replicate]
    rw[List.getElem?_append_right (by rw[I];omega),I,List.getElem?_replicate,List.getElem?_replicate]
    by_cases V:j<127
    ·rw[if_pos V,if_pos (by omega)]
    ·rw[if_neg V,if_neg (by omega)]
 rw[e]at X
 exact X
end
theorem A8P(s:ByteArray)(w:World)(hs:s.size<=100):Calls Tryz.prog 89 #[.string s] w λe w'=>∃A c,e= .returned (.slice A (M5 s).length c)/\Rd w' 1 (.slice A (M5 s).length c) (M5 s).length ((M5 s).map u8)/\(∀k,(Value.slice A (M5 s).length c).ownBlock=some k->w.heap.size<=k)/\B0 B5 w B5 w':=by
 by_cases J:s.size=0
 ·have e:M5 s=[]:=by unfold M5;rw[if_pos J]
  rw[e]
  have hq:s=⟨#[]⟩:=by
   apply A0i
   exact List.eq_nil_of_length_eq_zero (by simpa using J)
  subst hq
  clear e J hs
  go_enter Tryz.func89,Tryz.ntmps89
  go_wp2
  go_ret
  exact⟨none,0,rfl,(Sl.nil w 5 1).rd,λk h=>by simp[Value.ownBlock]at h,B0.refl _ _⟩
 ·have X:=A0X (s:=s) (by omega) (by omega)
  have hB:M5 s=s.size::(A5i s++List.replicate (127-s.size) 0):=by unfold M5;rw[if_neg J]
  rw[X]
  have aD:(s.toList==([]:List UInt8))=false:=by
   have V:=B3p s ⟨#[]⟩
   rw[decide_eq_false (λe=>J (by rw[e];rfl))]at V
   rw[ByteArray.toList_eq ⟨#[]⟩]at V
   exact V
  obtain⟨m,hm⟩:∃m,m=s.size:=⟨_,rfl⟩
  have hw:IntKind.u8.wrap ((s.size:Nat):Int)=(m:Int):=by rw[hm];simp[IntKind.wrap,IntKind.bits,IntKind.signed];omega
  have HB:=C6x hB
  have HS:=C6x hs
  have HL:=C6x X
  have HM:=C6x hm
  clear hB X J hs hm
  go_enter Tryz.func89,Tryz.ntmps89
  go_wp2_with (first
   |(refine B1B rfl _ _ rfl rfl rfl ?_;intro z w1 hz I U;have HZ:=C6x hz;have aC:=C6x I;have aB:=C6x U;have c0:w1.cell? ⟨z,0,none⟩=some (.int .u8 0):=I.cell 0;have f0:=I.frozen 0;clear hz I U)
   |(refine B0d rfl (.tmp 13) (.tmp 14) rfl z m 5 s rfl rfl (by have:=HS.out;omega) (aC.out.set_ 0 (.int .u8 (m:Int))) ?_;intro w3 I U;have HF:=C6x (And.intro I (aB.out.fresh HZ.out (((B0.refl (J0 z) w1).setCell (p:=⟨z,0,none⟩) (.inl rfl) _).trans U)));clear I U)
   |fail)
  go_ret
  have Z:=HF.out
  rw[HM.out]at Z
  refine⟨some ⟨z,0,none⟩,128,rfl,?_,λk hk=>?_,Z.2⟩
  ·have aA:=HL.out
   rw[HB.out]at aA⊢
   exact Z.1.rdS8 aA
  ·have:z=k:=by simpa[Value.ownBlock]using hk
   have:=HZ.out
   omega
def A8g(X:List Nat):ByteArray:=A3c ((X.drop 1).take (min (X.getD 0 0) 64))
open Classical in
noncomputable def B1C(X:List Nat):Int:=if M5 (A8g X)=X then 0 else 4
noncomputable def A1W(H:Nat->List Nat)(a:Int):Int:=if a=0 then 0 else B1C (H a.toNat)
noncomputable def A3q(H:Nat->List Nat)(a:Int):ByteArray:=if a=0 then⟨#[]⟩else if B1C (H a.toNat)=0 then A8g (H a.toNat)else⟨#[]⟩
theorem B6G(l:List Nat):(A3c l).size=l.length:=by
 have:(A3c l).data.toList.length=l.length:=by simp only[A3c,strOfNums_data,List.length_map]
 simpa using this
theorem B6H(X:List Nat):(A8g X).size<=64:=by
 unfold A8g
 rw[B6G,List.length_take]
 omega
theorem B6J{s:ByteArray}(h:0<s.size)(I:s.size<=64):A8g (M5 s)=s/\B1C (M5 s)=0:=by
 have e:A8g (M5 s)=s:=by
  unfold A8g M5
  rw[if_neg (by omega)]
  simp only[List.drop_succ_cons,List.drop_zero,List.getD_cons_zero]
  rw[show min s.size 64=s.size by omega,List.take_left' (A2w s),B6F]
 exact⟨e,by unfold B1C;rw[e,if_pos rfl]⟩
section
variable {p M:Nat} {H:Nat->List Nat} {w:World}
theorem C3c(h:Rdv w p M H)(hs:Sd H M)(a:Int)(ha:a=0\/(42<=a/\a<M)):Calls Tryz.prog 87 #[.pointer (some ⟨p,0,none⟩),.int .i64 a] w λe w'=>e= .returned (.tuple #[.string (A3q H a),.int .i64 (A1W H a)])/\B0 B5 w B5 w':=by
 by_cases Z:a=0
 ·subst Z
  have e1:A3q H 0=⟨#[]⟩:=by unfold A3q;rw[if_pos rfl]
  have e2:A1W H 0=0:=by unfold A1W;rw[if_pos rfl]
  rw[e1,e2]
  clear e1 e2 ha h hs
  go_enter Tryz.func87,Tryz.ntmps87
  go_wp2
  go_ret2
  exact⟨rfl,B0.refl _ _⟩
 ·have aS:42<=a/\a<M:=by rcases ha with e|e;exact absurd e Z;exact e
  have aX:(a==0)=false:=by rw[beq_eq_false_iff_ne];exact Z
  have aC:=h.home _ _ (B0.refl B5 w) a.toNat (by omega)
  rw[Int.toNat_of_nonneg (by omega)]at aC
  obtain⟨aI,aD⟩:=hs.row a.toNat (by omega)
  have e1:A3q H a=if B1C (H a.toNat)=0 then A8g (H a.toNat)else⟨#[]⟩:=by unfold A3q;rw[if_neg Z]
  have e2:A1W H a=B1C (H a.toNat):=by unfold A1W;rw[if_neg Z]
  rw[e1,e2]
  obtain⟨X,hX⟩:∃X,X=H a.toNat:=⟨_,rfl⟩
  rw[<-hX]at aC aI aD⊢
  have aP:=C6x aC
  have aW:=C6x aI
  have aR:=C6x aD
  obtain⟨x0,aA⟩:∃x0,x0=X.getD 0 0:=⟨_,rfl⟩
  obtain⟨n,hn⟩:∃n,n=min x0 64:=⟨_,rfl⟩
  have HN:=C6x (show n<=64/\n=min x0 64 from⟨by omega,hn⟩)
  have bA:(x0:Int)<256:=by
   have:=aD (X[0]'(by omega)) (List.getElem_mem _)
   rw[aA,List.getD_eq_getElem?_getD,List.getElem?_eq_getElem (by omega)]
   simp only[Option.getD_some]
   omega
  have aY:min (x0:Int) 64=(n:Int):=by omega
  have aZ:(n:Int)<=64:=by omega
  have aV:=C6x aA
  have aN:=C6x (λ(I:World) (z:Nat) (J:Rd I 1 (.slice (some ⟨z,0,none⟩) 128 128) 128 (X.map u8))=>show I.cell? ⟨z,0,none⟩=some (.int .u8 (x0:Int))by
   obtain⟨b,o,e,hb,hc⟩:=J.cells (by omega) (by decide)
   cases e
   have:=hc 0 (u8 x0) (by rw[List.getElem?_map,List.getElem?_eq_getElem (by omega),aA,List.getD_eq_getElem?_getD,List.getElem?_eq_getElem (by omega)];rfl)
   exact this)
  obtain⟨S,hS⟩:∃S,S=A8g X:=⟨_,rfl⟩
  have aO:=C6x (λ(I:World) (z:Nat) (J:Rd I 1 (.slice (some ⟨z,0,none⟩) 128 128) 128 (X.map u8))=>show(convert 54 9 (.slice (some ⟨z,1,none⟩) n 127)).run Tryz.prog I= .ok (.string S) I by
   obtain⟨b,o,e,hb,hc⟩:=J.cells (by omega) (by decide)
   cases e
   have aU:Rd I 1 (.slice (some ⟨z,1,none⟩) n 127) n (((X.drop 1).take n).map u8):=by
    refine⟨_,127,rfl,by omega,by unfold maxLen;omega,by simp;omega,λe=>(by cases e),λ_=>⟨_,rfl,hb,λj u hu=>?_⟩⟩
    rw[List.getElem?_map,List.getElem?_take]at hu
    split at hu
    ·rw[List.getElem?_drop]at hu
     have:=hc (1+j) u (by rw[List.getElem?_map];exact hu)
     rw[add_none]
     simpa[Nat.zero_add]using this
    ·cases hu
   have:=A0T aU
   rw[this,hS,A8g,hn,aA])
  rw[<-hS]
  have aQ:=C6x (show S.size<=100 by rw[hS];have:=B6H X;omega)
  have hE:B1C X=if M5 S=X then 0 else 4:=by unfold B1C;rw[<-hS]
  rw[hE]
  clear hE hS
  clear ha aS Z h hs aC aI aD hX e1 e2 hn aA
  have aB:=C6x (λW=>A8P S W aQ.out)
  obtain⟨B,hB⟩:∃B,B=M5 S:=⟨_,rfl⟩
  have aM:=C6x (show∀x∈B,x<256 by rw[hB];exact B0c (by have:=aQ.out;omega))
  rw[<-hB]at aB⊢
  obtain⟨m,hm⟩:∃m,m=B.length:=⟨_,rfl⟩
  rw[<-hm]at aB
  clear hB hm
  by_cases hq:B=X
  ·rw[if_pos hq,if_pos rfl]
   have aF:=C6x (decide_eq_true hq)
   clear hq
   go_enter Tryz.func87,Tryz.ntmps87
   go_wp2_with (first
    |(go_at_call 94;refine aP.out.mono ?_;rintro e I ⟨z,rfl,aK,aL,J,V,hA⟩;have HR:=C6x J;have HA:=C6x hA;have c0:=aN.out I z J;have aT:=aO.out I z J;clear aK aL J V hA)
    |(go_at_call 89;refine(aB.out I).mono ?_;rintro e w2 ⟨A2,c2,rfl,h2,aJ,U⟩;have aH:=C6x h2;have aE:=C6x (HA.out.trans U);have aG:=C6x (HR.out.far (λ_ _ _ V=>U.block _ V (λx=>x)) U.size);clear h2 aJ U)
    |(go_at_call 72;refine(A0F _ _ _ _ _ _ w2 aH.out aG.out aM.out aR.out).mono ?_;rintro e w3 ⟨rfl,rfl⟩;rw[aF.out])
    |fail)
   go_ret2
   exact⟨rfl,aE.out⟩
  ·rw[if_neg hq,if_neg (by decide)]
   have aF:=C6x (decide_eq_false hq)
   clear hq
   go_enter Tryz.func87,Tryz.ntmps87
   go_wp2_with (first
    |(go_at_call 94;refine aP.out.mono ?_;rintro e I ⟨z,rfl,aK,aL,J,V,hA⟩;have HR:=C6x J;have HA:=C6x hA;have c0:=aN.out I z J;have aT:=aO.out I z J;clear aK aL J V hA)
    |(go_at_call 89;refine(aB.out I).mono ?_;rintro e w2 ⟨A2,c2,rfl,h2,aJ,U⟩;have aH:=C6x h2;have aE:=C6x (HA.out.trans U);have aG:=C6x (HR.out.far (λ_ _ _ V=>U.block _ V (λx=>x)) U.size);clear h2 aJ U)
    |(go_at_call 72;refine(A0F _ _ _ _ _ _ w2 aH.out aG.out aM.out aR.out).mono ?_;rintro e w3 ⟨rfl,rfl⟩;rw[aF.out])
    |fail)
   go_ret2
   exact⟨rfl,aE.out⟩
end
end
section
open Go.RowKit
structure Ev where
 F:Nat->Prop
 d:Nat
 l:Nat
 b:Nat
 n:Nat
 N:Nat
 s:DS
 g:LS
 o:Nat
 mo:Nat
 O:Nat->Option (List Nat)
def Ev.M(E:Ev):Nat:=E.N-2-E.n
def Ev.L(E:Ev):Nat->List Nat:=D8 E.s E.n E.g
def Ev.H(E:Ev):Nat->List Nat:=vwH E.O E.L
def Ev.U(E:Ev):Nat->Prop:=UF E.F E.l E.b
structure So (w:World) (E:Ev):Prop where
 vu:Vu w E.F E.d E.l E.b E.n E.N E.s E.g E.o E.mo E.O
 blk:C3 w E.o 88 #[.pointer (some ⟨E.l,0,none⟩),.map (some E.mo)]
 so:¬E.U E.o
 sm:¬E.U E.mo
def CF(c m:Nat):Nat->Prop:=λk=>k=c\/k=m
structure Cg (w:World) (E:Ev) (c m:Nat) (H:Nat->List Nat) (e:Int):Prop where
 so:So w E
 ex:∃A,Mp w m E.M A/\AOk E.M A/\H=vwH A E.L/\∀i,(E.O i).isSome=true->(A i).isSome=true
 blk:C3 w c 175 #[.pointer (some ⟨E.l,0,none⟩),.map (some m),.pointer (some ⟨E.o,0,none⟩),.int .i64 e]
 sc:¬E.U c/\c≠E.o/\c≠E.mo
 sm:¬E.U m/\m≠E.o/\m≠E.mo
def N6(H:Nat->List Nat)(i:Nat)(l:List Nat):Nat->List Nat:=λj=>if j=i then l else H j
def M8(e I:Int):Int:=if e=0 then I else e
def A1g(e:Int)(H:Nat->List Nat)(i:Nat)(l:List Nat):Nat->List Nat:=if e=0 then N6 H i l else H
theorem C1l(A:Nat->Option (List Nat))(L:Nat->List Nat)(i:Nat)(l:List Nat):vwH (Q9 A i l) L=N6 (vwH A L) i l:=by
 funext j
 unfold vwH Q9 N6
 by_cases e:j=i
 ·rw[if_pos e,if_pos e];rfl
 ·rw[if_neg e,if_neg e]
section
variable {w w':World} {E:Ev} {c m:Nat} {H:Nat->List Nat} {e:Int} {F':Nat->Prop}
theorem So.step(h:So w E)(I:B0 B5 w F' w'):So w' E:=⟨h.vu.step I,h.blk.over I,h.so,h.sm⟩
theorem So.far{G:Nat->Prop}(h:So w E)(I:B0 G w G w')(V:∀k,G k->¬E.U k)(J:¬G E.o)(X:¬G E.mo):So w' E:=by
 have hs:Sep G (UF E.F E.l E.b):=λk a b=>V k a b
 have Z:=h.vu.rs.bd
 refine⟨⟨⟨h.vu.rs.dk.far I (λk a b=>V k a (.inl b)),h.vu.rs.lg.far I (λk a b=>V k a (.inr b)),h.vu.rs.sep⟩,h.vu.hn,h.vu.lA,?_,?_,Nat.lt_of_lt_of_le h.vu.lt I.size,h.vu.mp.keep (I.block _ h.vu.mp.lt X),h.vu.ok⟩,h.blk.keep (I.block _ h.blk.lt J),h.so,h.sm⟩
 ·exact(World.cell?_of_block (I.block _ h.vu.lt J)).trans h.vu.c0
 ·exact(World.cell?_of_block (I.block _ h.vu.lt J)).trans h.vu.c1
theorem Cg.step(h:Cg w E c m H e)(I:B0 B5 w F' w'):Cg w' E c m H e:=by
 obtain⟨A,J,U,h3,V⟩:=h.ex
 exact⟨h.so.step I,⟨A,J.keep (I.block _ J.lt (λx=>x)),U,h3,V⟩,h.blk.over I,h.sc,h.sm⟩
theorem Cg.lt(h:Cg w E c m H e):c<w.heap.size/\m<w.heap.size:=by
 obtain⟨A,I,_⟩:=h.ex
 exact⟨h.blk.lt,I.lt⟩
theorem Cg.so_far(h:Cg w E c m H e)(J:B0 (CF c m) w (CF c m) w'):So w' E:=
 h.so.far J (λk I=>by rcases I with rfl|rfl;exact h.sc.1;exact h.sm.1) (λI=>by rcases I with I|I;exact h.sc.2.1 I.symm;exact h.sm.2.1 I.symm) (λI=>by rcases I with I|I;exact h.sc.2.2 I.symm;exact h.sm.2.2 I.symm)
theorem Cg.rdv(h:Cg w E c m H e):Rdv w c E.M H:=by
 obtain⟨A,I,J,rfl,_⟩:=h.ex
 exact Vu.rdv (F:=E.F) (d:=E.d) (l:=E.l) (b:=E.b) (s:=E.s) (g:=E.g) (m:=m) ⟨h.so.vu.rs,h.so.vu.hn,h.so.vu.lA,h.blk.cell 0,h.blk.cell 1,h.blk.lt,I,J⟩
theorem Cg.ne(h:Cg w E c m H e):c≠m:=by
 obtain⟨A,I,_⟩:=h.ex
 exact I.ne h.blk
theorem T6(h:Cg w E c m H e)(I:Int):Calls Tryz.prog 101 #[.pointer (some ⟨c,0,none⟩),.int .i64 I] w λr w'=>r= .returned (.tuple #[])/\Cg w' E c m H (M8 e I)/\B0 (CF c m) w (CF c m) w':=by
 have Z:=C6x h
 have c3:w.cell? ⟨c,3,none⟩=some (.int .i64 e):=h.blk.cell 3
 have f3:w.frozen? ⟨c,3,none⟩=false:=h.blk.frozen 3
 by_cases J:e=0
 ·have U:M8 e I=I:=by unfold M8;rw[if_pos J]
  rw[U]
  have V:=C6x (show∀w',w'=w.setCell ⟨c,3,none⟩ (.int .i64 I)->Cg w' E c m H I/\B0 (CF c m) w (CF c m) w' fromλw' hw=>by
   subst hw
   have X:B0 (CF c m) w (CF c m) (w.setCell ⟨c,3,none⟩ (.int .i64 I)):=(B0.refl _ _).setCell (.inl (.inl rfl)) _
   obtain⟨A,h1,h2,h3,h4⟩:=h.ex
   have aA:=h.ne
   exact⟨⟨h.so_far X,⟨A,h1.keep (Below.heap_setCell _ _ _ _ (λx=>aA x.symm)),h2,h3,h4⟩,h.blk.set_ 3 _,h.sc,h.sm⟩,X⟩)
  subst J
  clear h U
  go_enter Tryz.func101,Tryz.ntmps101
  go_wp2
  exact bodyPost_end (v:=.tuple #[]) (by simp[results,Tryz.results101,go_sem]) rfl ⟨rfl,(V.out _ rfl).1,(V.out _ rfl).2⟩
 ·have U:M8 e I=e:=by unfold M8;rw[if_neg J]
  rw[U]
  have hb:(e==0)=false:=by rw[beq_eq_false_iff_ne];exact J
  clear h U J
  go_enter Tryz.func101,Tryz.ntmps101
  go_wp2
  exact bodyPost_end (v:=.tuple #[]) (by simp[results,Tryz.results101,go_sem]) rfl ⟨rfl,Z.out,B0.refl _ _⟩
end
end
end Go.Proofs.YtbefmjiclpobjaaGreat
