import Derived.Test.YtbefmjiclpobjaaGreatMh04
import Derived.Test.YtbefmjiclpobjaaGreatMh23
import Derived.Test.YtbefmjiclpobjaaGreatMh02
import Derived.Deep.Slices
import Derived.Deep.Fields
import Derived.ChangeArms
import Derived.Test.YtbefmjiclpobjaaGreatMh07
import Derived.Deep.DeepCutAuto
namespace Go.Proofs.YtbefmjiclpobjaaGreat
set_option maxHeartbeats 12800000
set_option maxRecDepth 3000
section
open Go.RowKit
def A0Z(w:World)(ps:List Pc)(x:Ending)(w':World):Prop:=∃A k,x= .returned (.tuple #[.slice A (A2b ps).length k,.int .i64 (A5c ps)])/\Rd w' 1 (.slice A (A2b ps).length k) (A2b ps).length ((A2b ps).map u8)/\A8 B0 w B0 w'
theorem A0Z.none{w w':World}{ps:List Pc}(h:¬T7 ps)(J:A8 B0 w B0 w'):A0Z w ps (.returned (.tuple #[.slice none 0 0,.int .i64 4])) w':=by
 have e:A2b ps=[]:=by unfold A2b;rw[if_neg h]
 have I:A5c ps=4:=by unfold A5c;rw[if_neg h]
 unfold A0Z
 rw[e,I]
 exact⟨Option.none,0,rfl,(Sl.nil _ 5 1).rd,J⟩
theorem A0Z.some{w w':World}{ps:List Pc}{A:Option Addr}{m k:Nat}(h:T7 ps)(U:m=(L3 ps).length)(V:Rd w' 1 (.slice A m k) m ((L3 ps).map u8))(J:A8 B0 w B0 w'):A0Z w ps (.returned (.tuple #[.slice A m k,.int .i64 0])) w':=by
 have e:A2b ps=L3 ps:=by unfold A2b;rw[if_pos h]
 have I:A5c ps=0:=by unfold A5c;rw[if_pos h]
 unfold A0Z
 rw[e,I,<-U]
 exact⟨A,k,rfl,V,J⟩
def C1S(w:World)(ps:List Pc)(t15 t4:Value)(wr:World):Prop:=
 ∃k m A q F,k<=ps.length/\t15= .int .i64 ((k:Nat):Int)/\t4= .slice A m q/\m=(L3 (ps.take k)).length/\m<=8192/\Sl wr F 5 1 (.slice A m q) m ((L3 (ps.take k)).map u8)/\A8 B0 w F wr
theorem B4z(A0:Option Addr)(k0:Nat)(ps:List Pc)(w:World)(h:PRd w (.slice A0 ps.length k0) ps)(hb:B8 ps)(hl:ps.length<=1100)(hd:∀p∈ps,p.d.length<=1000):
 Calls Tryz.prog 124 #[.slice A0 ps.length k0] w (A0Z w ps):=by
 obtain⟨N,hN⟩:∃N,N=ps.length:=⟨_,rfl⟩
 rw[<-hN]at h hl⊢
 have cF:(N:Int)<=1100:=by omega
 have HP:=C3t h
 have Y:=C3t hN
 have HB:=C3t hb
 have bU:=C3t hd
 clear h hb hl hd
 by_cases h0:N=0
 ·have hz:((N:Int)==0)=true:=by rw[beq_iff_eq];omega
  have aM:=C3t (show¬T7 ps fromλh=>by have:=h.1;omega)
  clear h0 hN cF
  go_enter Tryz.func124,Tryz.ntmps124
  go_wp2_with fail
  all_goals
   exact bodyPost_ret (v:=.tuple #[.slice none 0 0,.int .i64 4]) (by simp[results,Tryz.results124,go_sem]) rfl (A0Z.none aM.out (A8.refl _ _))
 ·have hz:((N:Int)==0)=false:=by rw[beq_eq_false_iff_ne];omega
  have bB:0<N:=by omega
  have H0:=C3t bB
  obtain⟨g,hg⟩:∃g,g=w.heap.size:=⟨_,rfl⟩
  obtain⟨V,hV⟩:∃V,V=w.alloc (.cells #[] 5):=⟨_,rfl⟩
  have bP:Sl V (λj=>j=g) 5 1 (.slice (some ⟨g,0,none⟩) 0 0) 0 []:=by
   rw[hV,hg]
   exact⟨Z1 (World.ownsRow_made w #[] 0 (Nat.le_refl _) (Nat.zero_le _) rfl),λk hk=>by simpa[Value.ownBlock]using hk.symm,λk hk=>by subst hk;simp⟩
  have hA:A8 B0 w (λj=>j=g) V:=by
   rw[hV,hg]
   have:=(A8.refl B0 w).alloc (.cells #[] 5)
   exact⟨this.os,this.tape,this.output,this.size,λj hj h=>this.block j hj h,λj hj=>.inr (by omega)⟩
  have cD:=C3t bP
  have bQ:=C3t hA
  have HV:=C3t hV
  have HG:=C3t hg
  clear h0 bB hN bP hA hV hg
  go_enter Tryz.func124,Tryz.ntmps124
  go_upto_region 4 with(fail)
  rw[<-HV.out,<-HG.out]
  go_wp2_with fail
  go_loopw [15,4] (C1S w ps) (λt _ _=>N-(intOf t).toNat)
  case atStart=>exact⟨0,0,_,_,_,Nat.zero_le _,rfl,rfl,by simp[L3],Nat.zero_le _,by simpa[L3]using cD.out,bQ.out⟩
  case round=>
   obtain⟨k,m,A,q,F,hk,rfl,rfl,hm,aR,hs,ha⟩:=hrel
   rw[<-Y.out]at hk
   by_cases aD:k<N
   ·have cM:(k:Int)<(N:Int):=by omega
    have aQ:k<ps.length:=by rw[<-Y.out];exact aD
    obtain⟨X,Z,a1,q1,rfl,aJ,aA,aB⟩:=(HP.out.step ha).row aQ
    obtain⟨p,hp⟩:∃p,p=ps[k]:=⟨_,rfl⟩
    have bO:ps[k]? =some p:=by rw[hp];exact List.getElem?_eq_getElem aQ
    have bM:p.d.length<=1000:=by rw[hp];exact bU.out _ (List.getElem_mem _)
    rw[<-hp]at aA aB
    obtain⟨I,J,pf,pg,D⟩:=p
    obtain⟨d,hd⟩:∃d,d=D.length:=⟨_,rfl⟩
    simp only[<-hd]at aA aB bM
    obtain⟨z,aV⟩:∃z,z=wr.heap.size:=⟨_,rfl⟩
    obtain⟨U,hU⟩:∃U,U=wr.alloc (.cells #[.int .u64 (I:Int),.int .u64 (J:Int),.bool pf,.bool pg,.slice a1 d q1] 201):=⟨_,rfl⟩
    have hZ:C0 U z 201 #[.int .u64 (I:Int),.int .u64 (J:Int),.bool pf,.bool pg,.slice a1 d q1]:=by rw[hU,aV];exact C0.new _ _ _
    have aC:A8 B0 wr B0 U:=by rw[hU];exact(A8.refl _ _).alloc _
    have HS:=C3t (hs.far aC (λ_ h _=>h))
    have aG:=C3t (aB.far (λ_ _ _ h=>aC.block _ h (λh=>h)) aC.size)
    have cE:=C3t hZ.five
    have HZ:=C3t aV
    have HU:=C3t hU
    have aW:=C3t (ha.over aC)
    have bZ:=C3t aD
    have bA:=C3t bO
    have HM:=C3t hm
    have HD:=C3t hd
    have cL:(d:Int)<=1000:=by omega
    have cN:(m:Int)<=8192:=by omega
    obtain⟨c0,c1,c2,c3,c4⟩:=aA
    clear aQ aJ aB hp bM hd aV hU hZ aC bO aD hk hm aR hs ha
    go_upto_region 7 with(fail)
    rw[<-HU.out,<-HZ.out]
    obtain⟨z0,z1,z2,z3,z4⟩:=cE.out
    clear c0 c1 c2 c3 c4
    by_cases bH:(8192:Int)-(m:Int)<(d:Int)
    ·have bS:=C3t bH
     go_wp2_with fail
     refine bodyPost_ret (v:=.tuple #[.slice none 0 0,.int .i64 4]) (by simp[results,Tryz.results124,go_sem]) rfl (A0Z.none (λh=>?_) (aW.out.sub (λ_ h=>h.elim)))
     have h1:=A76 ps (k+1)
     rw[A1c bA.out,List.length_append]at h1
     have h2:=h.2.2
     have h3:=HM.out
     have h4:=HD.out
     have h5:=bS.out
     simp only at h1
     omega
    ·have cH:(d:Int)<=8192-(m:Int):=by omega
     have bY:=C3t cH
     clear bH
     go_wp2_with (first
      |(at_builtin;refine A3t rfl (.tmp 26) (.tmp 28) rfl rfl rfl HS.out.own aG.out (Q5 _) ?d1 ?d2)
      |fail)
     case d1=>omega
     case d2=>
      intro v4 w4 bK bJ bG
      obtain⟨h4,_,a4⟩:=A3s HS.out aW.out bK bJ bG (Nat.le_refl _)
      rw[<-List.map_append]at h4
      obtain⟨A4,c4,rfl,_,_⟩:=h4.form0
      have H4:=C3t h4
      have A4:=C3t a4
      clear h4 a4 bK bJ bG
      go_wp2_with fail
      have aD:=bZ.out
      have e:=A1c bA.out
      simp only at e
      have e2:m+d=(L3 (ps.take (k+1))).length:=by rw[e,List.length_append,HM.out,HD.out]
      have h5:=bY.out
      refine⟨⟨k+1,m+d,_,_,_,by rw[<-Y.out];omega,by go_num,rfl,e2,by omega,by rw[e];exact H4.out,A4.out⟩,by simp[intOf];omega⟩
   ·obtain rfl:k=N:=by omega
    have aU:Sl wr F 5 1 (.slice A m q) m ((L3 ps).map u8):=by
     rw[Y.out,List.take_length]at hs
     exact hs
    have aK:m=(L3 ps).length:=by
     rw[Y.out,List.take_length]at hm
     exact hm
    obtain⟨X,Z,a1,q1,rfl,aJ,aA,aB⟩:=(HP.out.step ha).row (i:=0) (by rw[<-Y.out];exact H0.out)
    rw[Nat.zero_mul,Nat.add_zero]at aA
    obtain⟨L,hL⟩:∃L,L=L3 ps:=⟨_,rfl⟩
    rw[<-hL]at aU aK
    obtain⟨I,aS⟩:∃x,x=(hdP ps).e:=⟨_,rfl⟩
    obtain⟨J,aT⟩:∃x,x=(hdP ps).c:=⟨_,rfl⟩
    have bC:ps[0]'(by rw[<-Y.out];exact H0.out)=hdP ps:=by
     have h1:ps≠[]:=λh=>by have:=H0.out;rw[Y.out,h]at this;exact absurd this (by decide)
     obtain⟨p,t,rfl⟩:=List.exists_cons_of_ne_nil h1
     rfl
    rw[bC]at aA
    have aP:wr.cell? ⟨X,Z,none⟩=some (.int .u64 (I:Int))/\wr.cell? ⟨X,Z+1,none⟩=some (.int .u64 (J:Int)):=by rw[aS,aT];exact⟨aA.1,aA.2.1⟩
    have bD:∀x∈L,x<256:=by rw[hL];exact B7L HB.out
    have hcut:∀v,Rd v 1 (.slice A m q) m (L.map u8)->Calls Tryz.prog 160 #[.int .u64 (I:Int),.int .u64 (J:Int),.slice A m q] v (B5o v I J L):=λv hv=>B5q I J _ L v (by rw[<-aK];exact hv) (by omega)
    obtain⟨E,hE⟩:∃E,E=S4 I J L.length:=⟨_,rfl⟩
    obtain⟨NN,bF⟩:∃E,E=(A1b I J L).length:=⟨_,rfl⟩
    have KA:=C3t (show wr.drew.cell? ⟨X,Z,none⟩=some (.int .u64 (I:Int))/\wr.drew.cell? ⟨X,Z+1,none⟩=some (.int .u64 (J:Int))from aP)
    have aG:=C3t (show Rd wr.drew 1 (.slice A m q) m (L.map u8)from aU.rd)
    have bT:=C3t hcut
    have cJ:=C3t aP
    have HE:=C3t hE
    have aZ:=C3t bF
    have HL:=C3t hL
    have bX:=C3t bD
    have aE:=C3t aS
    have aF:=C3t aT
    have HM:=C3t aK
    have cA:=C3t aR
    have aY:=C3t aJ
    have bR:=C3t ((ha.sub (G:=B0) (λ_ h=>h.elim)).drew)
    have cG:0<k:=H0.out
    clear hs aU hm aK aA aB hL aS aT bC bD hcut hE bF aP aJ ha hk aD aR
    go_wp2_with fail
    refine E6 (S:=(λw'=>w'.cell? ⟨X,Z,none⟩=some (.int .u64 (I:Int))/\w'.cell? ⟨X,Z+1,none⟩=some (.int .u64 (J:Int)))) (by with_reducible first|exact KB.out|exact KA.out) (λhH=>?_)
    refine C3y 0 rfl ?_
    refine C3y 1 rfl ?_
    refine C3y 2 rfl ?_
    refine C3y 3 rfl ?_
    refine C3y 4 rfl ?_
    refine C3y 5 rfl ?_
    refine C3y 6 rfl ?_
    refine C3y 7 rfl ?_
    refine C3y 8 rfl ?_
    refine C3v 9 rfl (λK hK=>?_)
    go_simp
    refine(bT.out _ aG.out).mono ?_
    intro x w8 h
    obtain⟨A3,k3,rfl,p3,t3⟩:=h.opened
    rw[<-HE.out,<-aZ.out]
    have cB:=C3t p3
    have aN:=C3t t3
    have KB:=C3t (show w8.cell? ⟨X,Z,none⟩=some (.int .u64 (I:Int))/\w8.cell? ⟨X,Z+1,none⟩=some (.int .u64 (J:Int))from⟨(World.cell?_of_block (t3.block X aY.out (λh=>h))).trans KA.out.1,(World.cell?_of_block (t3.block X aY.out (λh=>h))).trans KA.out.2⟩)
    clear h p3 t3
    go_wp2_with fail
    refine C3w hK (by with_reducible first|exact KB.out|exact KA.out) ?_
    clear hK K hH
    intro hH
    try simp only[Act.put,sA,sB,sC]
    refine C3y 10 rfl ?_
    refine C3y 11 rfl ?_
    refine C3y 12 rfl ?_
    refine C3y 13 rfl ?_
    refine C3y 14 rfl ?_
    refine wpAnyH_done (by kernel_rfl) ?_ _
    have aO:=bR.out.trans aN.out
    have bI:Calls Tryz.prog 161 #[.slice A3 NN k3,.slice (some ⟨X,Z,none⟩) k k0,.func (.func 162) #[] #[]] w8 (EqR w8 (A1b I J L) ps):=by
     have h1:=HP.out.step aO
     rw[Y.out]at h1
     have h:=A9Q A3 (some ⟨X,Z,none⟩) k3 k0 (A1b I J L) ps w8 cB.out h1 (B7M bX.out) HB.out
     rw[<-aZ.out,<-Y.out]at h
     exact h
    have bV:=C3t bI
    have cC:=C3t (aG.out.far (λ_ _ _ h=>aN.out.block _ h (λh=>h)) aN.out.size)
    have aL:=C3t aO
    clear bI aO cG
    by_cases aI:E=0
    ·subst aI
     go_wp2_with fail
     refine bV.out.mono ?_
     rintro x w9 ⟨B,rfl,hB,t9⟩
     have aX:=C3t hB
     have aH:=C3t t9
     clear hB t9
     cases B with
     |false=>
      go_wp2_with fail
      refine bodyPost_ret (v:=.tuple #[.slice none 0 0,.int .i64 4]) (by simp[results,Tryz.results124,go_sem]) rfl (A0Z.none (λh=>?_) (aL.out.trans aH.out))
      obtain⟨_,_,h3,h4⟩:=(A2P ps).mpr h
      rw[<-aE.out,<-aF.out,<-HL.out]at h3 h4
      have e:A1b I J L=ps:=by rw[A1b,if_pos h3];exact h4
      exact absurd (aX.out.mpr e) (by decide)
     |true=>
      go_wp2_with fail
      refine bodyPost_ret (v:=.tuple #[.slice A m q,.int .i64 0]) (by simp[results,Tryz.results124,go_sem]) rfl (A0Z.some ((A2P ps).mp ?_) ?_ ?_ (aL.out.trans aH.out))
      ·have e:=aX.out.mp (by trivial)
       rw[A1b,if_pos HE.out.symm]at e
       refine⟨by rw[<-Y.out];exact H0.out,?_,?_,?_⟩
       ·rw[<-HL.out,<-HM.out];exact cA.out
       ·rw[<-aE.out,<-aF.out,<-HL.out];exact HE.out.symm
       ·rw[<-aE.out,<-aF.out,<-HL.out];exact e
      ·rw[<-HL.out];exact HM.out
      ·rw[<-HL.out];exact cC.out.far (λ_ _ _ h=>aH.out.block _ h (λh=>h)) aH.out.size
    ·have cK:(E==0)=false:=by rw[beq_eq_false_iff_ne];exact aI
     have aM:=C3t aI
     clear aI
     go_wp2_with fail
     refine bodyPost_ret (v:=.tuple #[.slice none 0 0,.int .i64 4]) (by simp[results,Tryz.results124,go_sem]) rfl (A0Z.none (λh=>aM.out ?_) aL.out)
     obtain⟨_,_,h3,_⟩:=(A2P ps).mpr h
     rw[HE.out,aE.out,aF.out,HL.out]
     exact h3
end
section
open Go.RowKit
end
section
open Go.ChangeShapes Go.WideShapes Go.ChangeAt Go.RowKit Go.Deep
section
variable {ta tc:TypeId} {W w w':World} {P:Nat->Pc} {ka kc:Nat} {va vc:Value} {Fa Fc:Nat->Prop} {qa qc:List (Pc×Value)}
end
end
section
open Go.RowKit Go.Maps
structure Rp where
 next:Nat
 floor:Nat
 A:Nat->Option (List Nat)
def A0B(s:DS)(n:Nat)(H:Int)(r:Rp):Prop:=T7 (scanV s n r.next)/\r.floor<=(hdP (scanV s n r.next)).e/\A6q (L3 (scanV s n r.next))=0/\V3 (A8P (L3 (scanV s n r.next))) H
instance (s:DS) (n:Nat) (H:Int) (r:Rp):Decidable (A0B s n H r):=by
 unfold A0B
 exact inferInstance
def A3i(s:DS)(n:Nat)(r:Rp):Rp:=⟨r.next+(scanV s n r.next).length,(hdP (scanV s n r.next)).e,putA r.A (A8P (L3 (scanV s n r.next)))⟩
def A2m(s:DS)(n:Nat)(H:Int):Nat->Rp->Rp
 |0,r=>r
 |f+1,r=>if A0B s n H r then A2m s n H f (A3i s n r)else r
theorem A3Q{s:DS}{n:Nat}:∀{f c:Nat} {ps:List Pc},scan s n f c=some ps->ps=A1X s n c ps.length/\(∀i,i<ps.length->P9 s n (c+i))/\1<=ps.length/\ps.length<=f
 |0,c,ps,h=>by cases h
 |f+1,c,ps,h=>by
  unfold scan at h
  split at h
  ·rename_i I
   split at h
   ·injection h with h
    subst h
    refine⟨by simp[A1X],λi hi=>?_,by simp,by simp⟩
    have:i=0:=by simpa using hi
    subst this
    exact I
   ·rw[Option.map_eq_some_iff]at h
    obtain⟨qs,V,rfl⟩:=h
    obtain⟨J,U,h3,X⟩:=A3Q V
    refine⟨?_,λi hi=>?_,by simp,by simp;omega⟩
    ·have e:A1X s n c (qs.length+1)=dec (rdP s n c)::A1X s n (c+1) qs.length:=by
      unfold A1X
      rw[List.range_succ_eq_map,List.map_cons,List.map_map]
      congr 1
      apply List.map_congr_left
      intro i _
      simp only[Function.comp_apply,Nat.succ_eq_add_one,show c+1+i=c+(i+1)by omega]
     rw[List.length_cons,e,<-J]
    ·cases i with
     |zero=>exact I
     |succ i=>
      have:=U i (by simpa using hi)
      rwa[show c+1+i=c+(i+1)by omega]at this
  ·cases h
theorem A0c{s:DS}{n c:Nat}:scanV s n c=A1X s n c (scanV s n c).length/\(∀i,i<(scanV s n c).length->P9 s n (c+i)):=by
 cases h:scan s n (n+1) c with
 |none=>
  have e:scanV s n c=[]:=by unfold scanV;rw[h];rfl
  rw[e]
  exact⟨rfl,λi hi=>absurd hi (by simp)⟩
 |some ps=>
  have e:scanV s n c=ps:=by unfold scanV;rw[h];rfl
  rw[e]
  exact⟨(A3Q h).1,(A3Q h).2.1⟩
theorem T7.pos{ps:List Pc}(h:T7 ps):1<=ps.length:=h.1
theorem A8k{s:DS}{n t u:Nat}(V:1<=n)(h:∀c,t<=c->c<u->P9 s n c):u<=t+n:=by
 rcases Nat.lt_or_ge (t+n) u with I|I
 ·have J:=(h t (Nat.le_refl _) (by omega)).2
  have U:=(h (t+n) (by omega) I).2
  have e:rdP s n (t+n)=rdP s n t:=by unfold rdP;rw[Nat.add_mod_right]
  rw[e,J]at U
  omega
 ·exact I
structure A1x (s:DS) (n:Nat) (H:Int) (r0:Rp) (k:Nat) (r:Rp):Prop where
 res:A2m s n H (n+1) r0=A2m s n H (n+1-k) r
 good:∀c,r0.next<=c->c<r.next->P9 s n c
 le:r0.next+k<=r.next
 A:AOk H.toNat r0.A->0<=H->AOk H.toNat r.A
theorem A1x.zero(s:DS)(n:Nat)(H:Int)(r:Rp):A1x s n H r 0 r:=⟨rfl,λc J I=>absurd I (by omega),Nat.le_refl _,λh _=>h⟩
theorem A1x.top{s:DS}{n:Nat}{H:Int}{I r:Rp}{k:Nat}(h:A1x s n H I k r)(J:1<=n):r.next<=I.next+n:=A8k J h.good
theorem B1w(l:List Nat):∀p∈A8P l,∀x∈p.d,x<256:=λp I x J=>by
 unfold A8P at I
 obtain⟨i,_,rfl⟩:=List.mem_map.mp I
 unfold B7Q at J
 obtain⟨j,_,rfl⟩:=List.mem_map.mp J
 unfold B5k B9
 exact Nat.mod_lt _ (by decide)
theorem AOk.putA{M:Nat}{H:Int}:∀{ps:List Pt} {A:Nat->Option (List Nat)},AOk M A->(∀p∈ps,(0<=p.a/\p.a<H)/\p.d.length=128)->(∀p∈ps,∀x∈p.d,x<256)->H.toNat<=M->AOk M (putA A ps)
 |[],_,h,_,_,_=>h
 |p::ps,A,h,h1,h2,hM=>by
  have J:=h1 p (by simp)
  exact AOk.putA (ps:=ps) (h.set (i:=p.a.toNat) (x:=p.d) (by omega) J.2 (h2 p (by simp))) (λq I=>h1 q (by simp[I])) (λq I=>h2 q (by simp[I])) hM
theorem A1x.step{s:DS}{n:Nat}{H:Int}{J r:Rp}{k:Nat}(h:A1x s n H J k r)(hn:1<=n)(I:A0B s n H r):A1x s n H J (k+1) (A3i s n r)/\k<n:=by
 have X:=I.1.pos
 have V:∀c,J.next<=c->c<(A3i s n r).next->P9 s n c:=λc Y U=>by
  by_cases hc:c<r.next
  ·exact h.good c Y hc
  ·have:=(A0c (s:=s) (n:=n) (c:=r.next)).2 (c-r.next) (by show c-r.next<_;unfold A3i at U;simp only at U;omega)
   rwa[show r.next+(c-r.next)=c by omega]at this
 have ht:=A8k hn V
 have hl:=h.le
 have aA:(A3i s n r).next=r.next+(scanV s n r.next).length:=rfl
 have hk:k<n:=by omega
 refine⟨⟨?_,V,by omega,λZ hH=>?_⟩,hk⟩
 ·rw[h.res,show n+1-k=(n-k)+1 by omega,show n+1-(k+1)=n-k by omega]
  show(if A0B s n H r then _ else _)=_
  rw[if_pos I]
 ·exact(h.A Z hH).putA (λp X=>(I.2.2.2.row p X)) (B1w _) (Nat.le_refl _)
theorem A1x.stop{s:DS}{n:Nat}{H:Int}{I r:Rp}{k:Nat}(h:A1x s n H I k r)(J:1<=n)(U:¬A0B s n H r):A2m s n H (n+1) I=r:=by
 have V:=h.le
 have X:=h.top J
 rw[h.res,show n+1-k=(n-k)+1 by omega]
 show(if A0B s n H r then _ else _)=_
 rw[if_neg U]
theorem B40{s:DS}{n c:Nat}(I:1<=n):(scanV s n c).length<=n:=by
 have:=A8k (s:=s) (t:=c) (u:=c+(scanV s n c).length) I (λx J U=>by
  have:=(A0c (s:=s) (n:=n) (c:=c)).2 (x-c) (by omega)
  rwa[show c+(x-c)=x by omega]at this)
 omega
theorem A9R{s:DS}{n c N:Nat}(h:SB s N)(U:1<=n)(X:n+2<=N):B8 (scanV s n c):=λp I=>by
 rw[A0c.1]at I
 unfold A1X at I
 obtain⟨i,_,rfl⟩:=List.mem_map.mp I
 intro x J
 have V:=h (2+(c+i)%n) (by have:=Nat.mod_lt (c+i) U;omega)
 unfold dec at J
 exact V x (List.mem_of_mem_drop (List.mem_of_mem_take J))
theorem A9S{s:DS}{n c:Nat}:∀p∈scanV s n c,p.d.length<=1000:=λp I=>by
 have U:=I
 rw[A0c.1]at I
 unfold A1X at I
 obtain⟨i,hi,rfl⟩:=List.mem_map.mp I
 have J:=((A0c (s:=s) (n:=n) (c:=c)).2 i (by simpa using hi)).1
 have:=J.2.1
 unfold dec
 rw[List.length_take,List.length_drop]
 have:=J.1
 omega
end
section
open Go.RowKit Go.Maps
def LS.at_(g:LS)(r:Rp):LS:={ g with next:=r.next,A:=r.A }
def r0G(g:LS):Rp:=⟨g.next,g.h.f,g.A⟩
def ReR(w:World)(F:Nat->Prop)(d l b n N:Nat)(s:DS)(g:LS)(e:Ending)(w':World):Prop:=e= .returned (.tuple #[])/\Rs w' F d l b n N s g/\A8 (LF l b) w (LF l b) w'
def ReL(w:World)(F:Nat->Prop)(d l b n N:Nat)(s:DS)(g:LS)(t2:Value)(wr:World):Prop:=
 ∃(k:Nat) (r:Rp),t2= .int .u64 (r.floor:Int)/\A1x s n ((N-2-n:Nat):Int) (r0G g) k r/\Rs wr F d l b n N s (g.at_ r)/\A8 (LF l b) w (LF l b) wr
theorem B97{w:World}{l b d n N:Nat}{g:LS}(h:Lg w l b d n N g):(intOf ((w.cell? ⟨l,5,none⟩).getD undef)).toNat=g.next:=by
 rw[h.cells.2.2.2.2.2.1];rfl
theorem A9T{ps:List Pc}(h:T7 ps):A2b ps=L3 ps/\A5c ps=0:=⟨if_pos h,if_pos h⟩
theorem B6D{ps:List Pc}(h:¬T7 ps):A5c ps=4:=if_neg h
theorem B1x{ps:List Pc}(h:B8 ps):∀x∈L3 ps,x<256:=λx I=>by
 unfold L3 at I
 obtain⟨p,J,I⟩:=List.mem_flatMap.mp I
 exact h p J x I
theorem B1y(l b d n N:Nat)(g:LS)(F:Nat->Prop)(s:DS)(w:World)(h:Rs w F d l b n N s g)(bY:SB s N)(hn:2<=n/\n+3<=N/\N<=1100)(ht:g.next<=1099511627776):
 Calls Tryz.prog 63 #[.pointer (some ⟨l,0,none⟩)] w (ReR w F d l b n N s (g.at_ (A2m s n ((N-2-n:Nat):Int) (n+1) (r0G g)))):=by
 obtain⟨R,hR⟩:∃R,R=g.at_ (A2m s n ((N-2-n:Nat):Int) (n+1) (r0G g)):=⟨_,rfl⟩
 rw[<-hR]
 have HR:=C3t hR
 have HS:=C3t h
 have bH:=C3t bY
 have J:=C3t hn
 have HT:=C3t ht
 have c4:=h.lg.cells.2.2.2.2.1
 obtain⟨fl,aP⟩:∃x,x=g.h.f:=⟨_,rfl⟩
 rw[<-aP]at c4
 have cH:=C3t aP
 clear h bY hn ht hR aP
 go_enter Tryz.func63,Tryz.ntmps63
 go_wp2_with fail
 go_loopw [2] (ReL w F d l b n N s g) (λ_ wr=>g.next+n+1-(intOf ((wr.cell? ⟨l,5,none⟩).getD undef)).toNat)
 case atStart=>exact⟨0,r0G g,by rw[cH.out];rfl,A1x.zero _ _ _ _,HS.out,A8.refl _ _⟩
 case round=>
  obtain⟨k,r,rfl,aH,aG,ha⟩:=hrel
  obtain⟨I,U,rA⟩:=r
  have bZ:=aH.top (by have:=J.out;omega)
  have bX:I<=g.next+n:=bZ
  obtain⟨ps,aA⟩:∃ps,ps=scanV s n I:=⟨_,rfl⟩
  have bB:=C3t (B1r l b d n N (g.at_ ⟨I,U,rA⟩) F s wr aG bH.out (by have:=J.out;omega) (by have:=HT.out;have:=J.out;show I<=_;omega))
  rw[show scanV s n (g.at_ ⟨I,U,rA⟩).next=ps from aA.symm]at bB
  have aU:=C3t (show B8 ps by rw[aA];exact A9R bH.out (by have:=J.out;omega) (by have:=J.out;omega))
  have cN:=C3t (show∀p∈ps,p.d.length<=1000 by rw[aA];exact A9S)
  have aY:=C3t (show ps.length<=n by rw[aA];exact B40 (by have:=J.out;omega))
  have cO:=C3t aH
  have aB:=C3t aG
  have HA:=C3t ha
  have X:=C3t aA
  have cM:=C3t bX
  have aE:=C3t (show¬A0B s n ((N-2-n:Nat):Int) ⟨I,U,rA⟩->∀w',A8 B0 wr B0 w'->ReR w F d l b n N s R (.returned (.tuple #[])) w' fromλcT w' a=>by
   have e:=aH.stop (by have:=J.out;omega) cT
   rw[HR.out,e]
   exact⟨rfl,aG.over a,ha.trans (a.same (λ_ x=>x.elim))⟩)
  obtain⟨m,hm⟩:∃m,m=ps.length:=⟨_,rfl⟩
  have HM:=C3t hm
  clear aH aG ha aA bZ bX hm c4
  go_wp2_with fail
  refine bB.out.mono ?_
  rintro e w1 ⟨A1,k1,rfl,p1,n1,a1⟩
  have bA:=C3t p1
  have aZ:=C3t n1
  have cA:=C3t a1
  have HJ:=C3t (B4z A1 k1 ps w1 p1 aU.out (by have:=aY.out;have:=J.out;omega) cN.out)
  rw[<-HM.out]at HJ aZ bA⊢
  clear p1 n1 a1
  go_wp2_with fail
  refine HJ.out.mono ?_
  rintro e w2 ⟨A2,k2,rfl,r2,a2⟩
  have aC:=C3t (cA.out.trans a2)
  have aF:=bA.out.step a2
  have cU:=C3t aF
  by_cases Z:T7 ps
  ·rw[(A9T Z).1]at r2⊢
   rw[(A9T Z).2]
   have h1:=Z.pos
   obtain⟨Y,o1,q1,cY,rfl,bM,bO, -⟩:=aF.row (i:=0) (by omega)
   obtain⟨V,aO⟩:∃x,x=(hdP ps).e:=⟨_,rfl⟩
   have bS:ps[0]'(by omega)=hdP ps:=by
    unfold hdP
    cases ps with
    |nil=>simp at h1
    |cons p ps=>rfl
   have aM:w2.cell? ⟨Y,o1,none⟩=some (.int .u64 (V:Int)):=by
    have:=bO.1
    rw[bS,<-aO,Nat.zero_mul,Nat.add_zero]at this
    exact this
   have cW:(1:Int)<=(m:Int):=by have:=HM.out;omega
   have cV:(0:Int)<(m:Int):=by omega
   obtain⟨D,hD⟩:∃D,D=L3 ps:=⟨_,rfl⟩
   rw[<-hD]at r2⊢
   have cQ:D.length<=8192:=by rw[hD];exact Z.2.2
   have aV:=C3t (A9P _ D w2 r2 (by rw[hD];exact B1x aU.out) (by omega))
   obtain⟨dl,bP⟩:∃x,x=D.length:=⟨_,rfl⟩
   rw[<-bP]at aV⊢
   have aX:=C3t Z
   have aK:=C3t aO
   have HD:=C3t hD
   have aT:=C3t bM
   clear r2 a2 aF Z h1 bO aO bS hD cQ bP bM
   by_cases bQ:V<U
   ·have cR:(V:Int)<(U:Int):=by omega
    have HF:=C3t (aE.out (λho=>by have:=ho.2.1;rw[<-X.out,<-aK.out]at this;simp only at this;omega) _ aC.out)
    clear bQ
    go_wp2_with fail
    go_end0
    exact HF.out
   ·have cR:(U:Int)<=(V:Int):=by omega
    have cG:=C3t (show U<=V by omega)
    have cX:((V:Int)<(U:Int))=False:=eq_false (by omega)
    clear bQ
    go_wp2_with fail
    refine aV.out.mono ?_
    rintro e w3 ⟨z,rfl,q3,a3⟩
    have aI:=C3t (aC.out.trans a3)
    have bC:=C3t (q3 (LF l b) (aB.out.over aC.out).lg.bd)
    have cB:=C3t a3
    obtain⟨B,hB⟩:∃B,B=decide (A6q D=0):=⟨_,rfl⟩
    rw[<-hB]
    obtain⟨gl,bR⟩:∃x,x=(gP D).length:=⟨_,rfl⟩
    rw[<-bR]at bC⊢
    have HB:=C3t hB
    clear a3 q3 hB bR
    cases B with
    |false=>
     have HF:=C3t (aE.out (λho=>of_decide_eq_false HB.out.symm (by have:=ho.2.2.1;rw[<-X.out,<-HD.out]at this;exact this)) _ aI.out)
     go_wp2_with fail
     go_end0
     exact HF.out
    |true=>
     have aD:=C3t (of_decide_eq_true HB.out.symm)
     have bD:=C3t (aB.out.over aI.out)
     have aW:=C3t (A1J bD.out.lg bD.out.dk (by have:=J.out;omega) (by have:=J.out;omega))
     obtain⟨Hm,aN⟩:∃x,x=N-2-n:=⟨_,rfl⟩
     rw[<-aN]at aW
     have aL:=C3t aN
     clear aN
     go_wp2_with fail
     refine aW.out.mono ?_
     rintro e w4 ⟨rfl,k4,rfl⟩
     have cC:=C3t (aI.out.drewN k4)
     have aQ:=bC.out.step ((A8.refl B0 w3).drewN k4)
     have bK:=C3t (A8R _ gl gl (gP D) (Hm:Int) _ (w3.drewN k4) aQ)
     obtain⟨C,hC⟩:∃C,C=decide (V3 (gP D) (Hm:Int)):=⟨_,rfl⟩
     rw[<-hC]at bK
     have HC:=C3t hC
     have cK:=C3t aQ
     clear aQ hC
     go_wp2_with fail
     refine bK.out.mono ?_
     rintro e w5 ⟨rfl,a5⟩
     have aJ:=C3t (cC.out.trans a5)
     have cL:=C3t (cK.out.step a5)
     have aS:=C3t (cB.out.trans (((A8.refl B0 w3).drewN k4).trans a5))
     clear a5
     cases C with
     |false=>
      have HF:=C3t (aE.out (λho=>of_decide_eq_false HC.out.symm (by have:=ho.2.2.2;rw[<-X.out,<-HD.out,<-B1s aD.out,<-aL.out]at this;exact this)) _ aJ.out)
      go_wp2_with fail
      go_end0
      exact HF.out
     |true=>
      have bJ:=C3t (of_decide_eq_true HC.out.symm)
      have bF:=C3t (aB.out.over aJ.out)
      have bV:A0B s n ((N-2-n:Nat):Int) ⟨I,U,rA⟩:=by
       refine⟨?_,?_,?_,?_⟩
       ·simp only;rw[<-X.out];exact aX.out
       ·simp only;rw[<-X.out,<-aK.out];exact cG.out
       ·simp only;rw[<-X.out,<-HD.out];exact aD.out
       ·simp only;rw[<-X.out,<-HD.out,<-B1s aD.out,<-aL.out];exact bJ.out
      have aR:=cO.out.step (by have:=J.out;omega) bV
      have bU:A3i s n ⟨I,U,rA⟩=⟨I+m,V,putA rA (gP D)⟩:=by
       unfold A3i
       simp only
       rw[<-X.out,<-HM.out,<-aK.out,<-HD.out,B1s aD.out]
      rw[bU]at aR
      have bI:=C3t aR
      have cP:=C3t (A8Y l b d n N m (g.at_ ⟨I,U,rA⟩) _ gl gl (gP D) w5 bF.out.lg cL.out (by rw[<-aL.out];exact bJ.out) (by have:=J.out;omega) (by have:=cM.out;have:=HT.out;have:=aY.out;have:=HM.out;have:=J.out;show I+m<_;omega))
      have cF:=C3t (show w5.cell? ⟨Y,o1,none⟩=some (.int .u64 (V:Int))by rw[<-aM];exact World.cell?_of_block (aS.out.block Y aT.out (λx=>x)))
      have cE:=C3t (show Y<w5.heap.size from Nat.lt_of_lt_of_le aT.out aS.out.size)
      have cJ:=C3t (show¬LF l b Y fromλx=>by have:=aB.out.lg.bd Y x;have:=aZ.out Y rfl;omega)
      clear bV aR bU aM
      go_wp2_with fail
      refine cP.out.mono ?_
      rintro e w6 ⟨rfl,l6,a6⟩
      have aM:w6.cell? ⟨Y,o1,none⟩=some (.int .u64 (V:Int)):=by rw[<-cF.out];exact World.cell?_of_block (a6.block Y cE.out cJ.out)
      have bG:=C3t (show Rs w6 F d l b n N s (g.at_ ⟨I+m,V,putA rA (gP D)⟩)from bF.out.log a6 l6)
      have cD:=C3t (HA.out.trans ((aJ.out.same (λ_ x=>x.elim)).trans a6))
      clear l6 a6
      go_wp2_with fail
      refine⟨⟨k+1,_,rfl,bI.out.1,bG.out,cD.out⟩,?_⟩
      rw[B97 bG.out.lg,B97 aB.out.lg]
      have h1:=bI.out.1.top (by have:=J.out;omega)
      have h2:=aX.out.pos
      have h3:=HM.out
      have h4:I+m<=g.next+n:=h1
      show g.next+n+1-(I+m)<g.next+n+1-I
      omega
  ·rw[B6D Z]
   have HF:=C3t (aE.out (λho=>Z (by have:=ho.1;rw[<-X.out]at this;exact this)) _ aC.out)
   obtain⟨jl,bT⟩:∃x,x=(A2b ps).length:=⟨_,rfl⟩
   rw[<-bT]at r2⊢
   clear r2 a2 aF Z bT
   go_wp2_with fail
   go_end0
   exact HF.out
end
section
open Go.RowKit
def zD:Array Value:= #[.slice none 0 0,.slice none 0 0,.slice none 0 0,.bool false,.bool false,.int .i64 0]
def DNo(w:World)(v:Value):Prop:=v= .pointer none\/∃d,v= .pointer (some ⟨d,0,none⟩)/\C0 w d 99 zD
theorem B8K(v:Value)(w:World)(h:DNo w v):Calls Tryz.prog 58 #[v] w λe w'=>e= .returned (.bool false)/\w=w':=by
 rcases h with rfl|⟨d,rfl,I⟩
 ·go_enter Tryz.func58,Tryz.ntmps58
  go_wp2
  go_ret
  exact⟨rfl,rfl⟩
 ·have J:w.cell? ⟨d,0,none⟩=some (.slice none 0 0):=I.cell 0
  clear I
  go_enter Tryz.func58,Tryz.ntmps58
  go_wp2
  go_ret
  exact⟨rfl,rfl⟩
theorem B8L(v:Value)(w:World)(h:DNo w v):Calls Tryz.prog 41 #[v] w λe w'=>e= .returned (.int .i64 0)/\w=w':=by
 have H:=C3t h
 clear h
 go_enter Tryz.func41,Tryz.ntmps41
 go_wp2_with (first
  |(go_at_call 58;refine(B8K _ _ H.out).mono ?_;rintro e I ⟨rfl,rfl⟩)
  |fail)
 go_ret
 exact⟨rfl,rfl⟩
end
section
open Go.RowKit Go.Maps
theorem B1z{l:List Nat}{h:Hd}(V:∀x∈l,x<256)(e:A0z l=some h):h.g<=1099511627775/\h.t<1099511627776/\h.f<16777216:=by
 unfold A0z at e
 split at e
 ·rename_i U
  injection e with e
  subst e
  have J:∀x∈(dec l).d,x<256:=λx I=>by
   unfold dec at I
   exact V x (List.mem_of_mem_drop (List.mem_of_mem_take I))
  have hv:=B1W U.2.2.2 J
  refine⟨?_,?_,?_⟩
  ·show(dec l).c<=_
   unfold dec
   simp only
   omega
  ·show P7 (dec l).d/16777216<_
   omega
  ·show P7 (dec l).d%16777216<_
   omega
 ·cases e
theorem A1y{s:DS}{N p:Nat}(U:SB s N):∀{k:Nat} {h:Hd},p+k<=N->Q9 s p k=some h->h.g<=1099511627775/\h.t<1099511627776/\h.f<16777216
 |0,h,_,e=>by cases e
 |k+1,h,hk,e=>by
  have I:nx (Q9 s p k) (unO (isS s (p+k)) k)=some h:=e
  cases ho:unO (isS s (p+k)) k with
  |none=>rw[ho]at I;exact A1y U (by omega) I
  |some h'=>
   have Y:A0z (isS s (p+k))=some h':=by
    unfold unO at ho
    rw[Option.bind_eq_some_iff]at ho
    obtain⟨x,V,J⟩:=ho
    split at J
    ·injection J with J;rw[<-J];exact V
    ·cases J
   have X:=B1z (U (p+k) (by omega)) Y
   rw[ho]at I
   unfold nx at I
   simp only at I
   split at I
   ·injection I with I;rw[<-I];exact X
   ·exact A1y U (by omega) I
def headO(s:DS):Hd:=(Q9 s 0 2).getD ⟨0,0,1⟩
def A4r(s:DS)(n:Nat):LS:=⟨headO s,(headO s).t,A0A s (2+n)+1,λ_=>none,0⟩
def H7(s:DS)(n N:Nat):LS:=(A4r s n).at_ (A2m s n ((N-2-n:Nat):Int) (n+1) (r0G (A4r s n)))
theorem A9U{s:DS}{N:Nat}(I:SB s N)(J:2<=N):(headO s).g<=1099511627775/\(headO s).t<1099511627776/\(headO s).f<16777216:=by
 unfold headO
 cases h:Q9 s 0 2 with
 |none=>simp
 |some x=>exact A1y I (by omega) h
def OpR(w:World)(F:Nat->Prop)(d N:Nat)(s:DS)(n:Int)(e:Ending)(w':World):Prop:=
 (¬(2<=n/\n+3<=(N:Int))/\e= .returned (.tuple #[.pointer none,.int .i64 2])/\A8 B0 w B0 w')\/
 ((2<=n/\n+3<=(N:Int))/\A0A s (2+n.toNat)=16777215/\e= .returned (.tuple #[.pointer none,.int .i64 8])/\A8 B0 w B0 w')\/
 ((2<=n/\n+3<=(N:Int))/\A0A s (2+n.toNat)<16777215/\∃l b,e= .returned (.tuple #[.pointer (some ⟨l,0,none⟩),.int .i64 0])/\Rs w' F d l b n.toNat N s (H7 s n.toNat N)/\(w.heap.size<=l/\w.heap.size<=b)/\A8 B0 w B0 w')
theorem A9V(d N:Nat)(F:Nat->Prop)(s:DS)(n:Int)(w:World)(h:Dk w F d N s)(aV:SB s N)(hN:1<=N/\N<=1100)(bJ: -9223372036854775808<=n)(bK:n<9223372036854775808):
 Calls Tryz.prog 22 #[.pointer (some ⟨d,0,none⟩),.int .i64 n] w (OpR w F d N s n):=by
 have aB:=C3t (A1H d N F s w h)
 have HD:=C3t h
 have aA:=C3t aV
 have HN:=C3t hN
 have bP:((N:Int)==0)=false:=by rw[beq_eq_false_iff_ne];omega
 have bT:IntKind.i64.wrap ((N:Int)-2)=(N:Int)-2:=by rw[IntKind.wrap_i64];omega
 have bU:IntKind.i64.wrap ((N:Int)-2-1)=(N:Int)-2-1:=by rw[IntKind.wrap_i64];omega
 clear h aV hN
 by_cases I:2<=n/\n+3<=(N:Int)
 ·obtain⟨m,rfl⟩:=Int.eq_ofNat_of_zero_le (show 0<=n by omega)
  have aU:m+3<=N:=by have:=I.2;omega
  have aT:2<=m:=by have:=I.1;omega
  have bR:(2:Int)<=(m:Int):=I.1
  have bS:(m:Int)<=(N:Int)-2-1:=by omega
  have bX:IntKind.i64.wrap (2+(m:Int))=((2+m:Nat):Int):=by rw[IntKind.wrap_i64];have:=HN.out;omega
  have aO:=C3t (B81 d N (2+m) F s w HD.out aA.out (by omega) (by have:=HN.out;omega))
  have HM:=C3t (And.intro aT aU)
  have aM:=C3t I
  have aP:inR N 0 2:=λj hj=>by omega
  obtain⟨T,hT⟩:∃x,x=A0A s (2+m):=⟨_,rfl⟩
  have aQ:T<16777216:=by rw[hT];exact B2B aA.out _ (by omega)
  rw[<-hT]at aO
  have HT:=C3t hT
  have aN:=C3t aQ
  have aX:=C3t aP
  have bI:=@run_makeMap Tryz.prog
  clear I bJ bK aU aT hT aQ aP
  go_enter Tryz.func22,Tryz.ntmps22
  go_wp2_with fail
  refine aB.out.mono ?_
  rintro e J ⟨rfl,rfl⟩
  go_wp2_with fail
  refine aB.out.mono ?_
  rintro e J ⟨rfl,rfl⟩
  go_wp2_with fail
  refine aO.out.mono ?_
  rintro e J ⟨rfl,a1⟩
  have aD:=C3t a1
  clear a1
  by_cases aR:T=16777215
  ·subst aR
   have X:=C3t (show OpR w F d N s (m:Int) (.returned (.tuple #[.pointer none,.int .i64 8])) J from .inr (.inl ⟨aM.out,HT.out.symm,rfl,aD.out⟩))
   go_wp2_with fail
   exact bodyPost_ret (v:=.tuple #[.pointer none,.int .i64 8]) (by simp[results,Tryz.results22,go_sem]) rfl X.out
  ·have bQ:((T:Int)==16777215)=false:=by rw[beq_eq_false_iff_ne];omega
   have bV:IntKind.u64.wrap ((T:Int)+1)=(T:Int)+1:=by rw[IntKind.wrap_u64];have:=aN.out;omega
   have bB:=C3t (show T<16777215 by have:=aN.out;omega)
   have aY:=C3t (B52 d N F s 0 J (HD.out.far aD.out (λ_ x _=>x)) aA.out (by have:=HN.out;omega) (by decide) (by decide))
   clear aR
   go_wp2_with fail
   refine aY.out.mono ?_
   rintro e w2 ⟨bH,a2⟩
   rcases bH with⟨_,rfl⟩|⟨bG,_⟩
   ·have aJ:=C3t (aD.out.trans a2)
    obtain⟨c,hc⟩:∃c,c=Q9 s 0 2:=⟨_,rfl⟩
    rw[show((0:Int).toNat)=0 from rfl,<-hc]
    obtain⟨⟨g,t,f⟩,hh⟩:∃x,x=c.getD hZ:=⟨_,rfl⟩
    rw[<-hh]
    have HC:=C3t hc
    have HH:=C3t hh
    obtain⟨V,hV⟩:∃V,V=w2.alloc (.cells #[.int .u64 (g:Int),.int .u64 (t:Int),.int .u64 (f:Int)] 135):=⟨_,rfl⟩
    obtain⟨z,hz⟩:∃z,z=w2.heap.size:=⟨_,rfl⟩
    have HZ:=C3t (show C0 V z 135 (h3 (g:Int) (t:Int) (f:Int))by rw[hV,hz];exact C0.new _ _ _)
    have aK:=C3t (aJ.out.trans (show A8 B0 w2 B0 V by rw[hV];exact(A8.refl _ _).alloc _))
    have bD:=C3t (show w.heap.size<=z by rw[hz];exact aJ.out.size)
    have bC:=C3t hV
    have bF:=C3t hz
    clear a2 hc hh hV hz
    unfold hv
    simp only
    go_upto_region 9 with(fail)
    rw[<-bC.out,<-bF.out]
    go_upto_if 40 with(fail)
    go_cut [] (λwr=>C0 wr z 135 (h3 ((headO s).g:Int) ((headO s).t:Int) ((headO s).f:Int))/\A8 B0 w B0 wr)
    case first=>
     have aC:=HC.out
     have aG:=HH.out
     cases c with
     |none=>
      have e:headO s=⟨0,0,1⟩:=by unfold headO;rw[<-aC];rfl
      have HE:=C3t e
      clear aC aG e
      go_wp2_with (first
       |(refine U6 P2 rfl (.tmp 7) (.tmp 41) rfl z _ (h3 0 0 1) HZ.out rfl rfl (U5 _ _ _) rfl rfl ?_)
       |fail)
      go_meet
      rw[HE.out]
      exact⟨HZ.out.putAll rfl,A8.lsetCells _ 0 _ aK.out (.inr bD.out)⟩
     |some x=>
      have e:headO s=⟨g,t,f⟩:=by
       unfold headO
       rw[<-aC]
       exact aG.symm
      have HE:=C3t e
      clear aC aG e
      go_wp2_with fail
      go_meet
      rw[HE.out]
      exact⟨HZ.out,aK.out⟩
    case rest=>
    obtain⟨aI,aS⟩:=hcut
    obtain⟨⟨g1,t1,f1⟩,aF⟩:∃x,x=headO s:=⟨_,rfl⟩
    rw[<-aF]at aI
    obtain⟨z0,z1,z2⟩:=aI.three
    have aW:=C3t aF
    have Z:=C3t aS
    clear aI aS aF
    go_upto_region 14 with(fail)
    obtain⟨W,hW⟩:∃W,W=(wc.alloc (.map #[] 0)).alloc (.cells #[.pointer (some ⟨d,0,none⟩),.int .i64 (m:Int),.int .u64 (g1:Int),.int .u64 (t1:Int),.int .u64 (f1:Int),.int .u64 (t1:Int),.int .u64 ((T:Int)+1),.map (some wc.heap.size),.int .i64 0] 140):=⟨_,rfl⟩
    obtain⟨l,hl⟩:∃l,l=wc.heap.size+1:=⟨_,rfl⟩
    rw[<-hW,<-hl]
    have aE:A8 B0 wc B0 W:=by rw[hW];exact((A8.refl _ _).alloc _).alloc _
    have aH:A4r s m=⟨⟨g1,t1,f1⟩,t1,T+1,λ_=>none,0⟩:=by unfold A4r;rw[<-aW.out,<-HT.out]
    have bA:=C3t (show Rs W F d l wc.heap.size m N s (A4r s m)from by
     refine⟨HD.out.far (Z.out.trans aE) (λ_ x _=>x),⟨?_,?_⟩,λj hf hj=>?_⟩
     ·have hb:=C0.new (wc.alloc (.map #[] 0)) 140 #[.pointer (some ⟨d,0,none⟩),.int .i64 (m:Int),.int .u64 (g1:Int),.int .u64 (t1:Int),.int .u64 (f1:Int),.int .u64 (t1:Int),.int .u64 ((T:Int)+1),.map (some wc.heap.size),.int .i64 0]
      rw[<-hW]at hb
      have bM:(wc.alloc (.map #[] 0)).heap.size=l:=by rw[hl];simp
      rw[bM]at hb
      rw[aH]
      exact hb
     ·rw[aH,hW]
      exact(Mp.new wc (N-2-m)).keep (Below.heap_alloc _ _ _ (by simp))
     ·have h1:=HD.out.bd j hf
      have h2:=Z.out.size
      rcases hj with e|e<;>omega)
    have U:=C3t (Z.out.trans aE)
    have aL:=C3t (show w.heap.size<=l/\w.heap.size<=wc.heap.size from⟨by have:=Z.out.size;omega,Z.out.size⟩)
    have aZ:=C3t (B1y l wc.heap.size d m N (A4r s m) F s W bA.out aA.out (by have:=HM.out;have:=HN.out;omega) (by have:=A9U aA.out (by have:=HM.out;omega);show(headO s).t<=_;omega))
    clear hW hl aE aH z0 z1 z2 bI
    go_wp2_with fail
    refine aZ.out.mono ?_
    rintro e w9 ⟨rfl,h9,Y⟩
    have X:=C3t (show OpR w F d N s (m:Int) (.returned (.tuple #[.pointer (some ⟨l,0,none⟩),.int .i64 0])) w9 by
     refine .inr (.inr ⟨aM.out,by rw[Int.toNat_natCast,<-HT.out];exact bB.out,l,wc.heap.size,rfl,by rw[Int.toNat_natCast];exact h9,aL.out,?_⟩)
     exact⟨Y.os.trans U.out.os,Y.tape.trans U.out.tape,Y.output.trans U.out.output,Nat.le_trans U.out.size Y.size,λj hj _=>(Y.block j (Nat.lt_of_lt_of_le hj U.out.size) (λx=>by have:=aL.out;rcases x with e|e<;>omega)).trans (U.out.block j hj (λx=>x)),λ_ x=>x.elim⟩)
    clear h9 Y
    go_wp2_with fail
    exact bodyPost_ret (v:=.tuple #[.pointer (some ⟨l,0,none⟩),.int .i64 0]) (by simp[results,Tryz.results22,go_sem]) rfl X.out
   ·exact absurd aX.out bG
 ·have X:=C3t (show OpR w F d N s n (.returned (.tuple #[.pointer none,.int .i64 2])) w from .inl ⟨I,rfl,A8.refl _ _⟩)
  by_cases h2:n<2
  ·clear I
   go_enter Tryz.func22,Tryz.ntmps22
   go_wp2_with fail
   refine aB.out.mono ?_
   rintro e J ⟨rfl,rfl⟩
   go_wp2_with fail
   exact bodyPost_ret (v:=.tuple #[.pointer none,.int .i64 2]) (by simp[results,Tryz.results22,go_sem]) rfl X.out
  ·have bO:2<=n:=by omega
   have h3:(N:Int)-2-1<n:=by omega
   clear I h2
   go_enter Tryz.func22,Tryz.ntmps22
   go_wp2_with fail
   refine aB.out.mono ?_
   rintro e J ⟨rfl,rfl⟩
   go_wp2_with fail
   refine aB.out.mono ?_
   rintro e J ⟨rfl,rfl⟩
   go_wp2_with fail
   exact bodyPost_ret (v:=.tuple #[.pointer none,.int .i64 2]) (by simp[results,Tryz.results22,go_sem]) rfl X.out
end
section
open Go.RowKit Go.Maps
end
section
open Go.RowKit Go.Maps
end
section
open Go.RowKit Go.Maps
theorem B98{α:Type}(m:Nat)(f:α->List Value)(I:∀x,(f x).length=m):∀(l:List α) (i j:Nat) (hi:i<l.length),j<m->(l.flatMap f)[i * m+j]? =(f l[i])[j]?
 |x::l,0,j,_,hj=>by
  rw[List.flatMap_cons,Nat.zero_mul,Nat.zero_add,List.getElem?_append_left (by rw[I];omega)];simp
 |x::l,i+1,j,hi,hj=>by
  have e:(i+1) * m+j=m+(i * m+j):=by rw[Nat.succ_mul];omega
  rw[List.flatMap_cons,List.getElem?_append_right (by rw[I];omega),e,I,Nat.add_sub_cancel_left]
  exact B98 m f I l i j (by simpa using hi) hj
def A2B(q:Pt×Value):List Value:=[.int .i64 q.1.a,q.2]
structure QW (W:World) (P:Nat->Pt) (k:Nat) (vo:Value) (F:Nat->Prop) (qs:List (Pt×Value)) (w:World):Prop where
 len:qs.length=k
 sl:Sl w F 239 2 vo k (qs.flatMap A2B)
 at_:∀i (h:i<qs.length),qs[i].1=P i/\∃a q,qs[i].2= .slice a (P i).d.length q/\Rd w 1 (.slice a (P i).d.length q) (P i).d.length ((P i).d.map u8)/\∀g,(Value.slice a (P i).d.length q).ownBlock=some g->0<(P i).d.length->¬F g/\W.heap.size<=g
 adv:A8 B0 W F w
section
variable {W w w':World} {P:Nat->Pt} {k:Nat} {vo:Value}
theorem QW.nil(W:World)(P:Nat->Pt):QW W P 0 (.slice none 0 0) B0 [] W:=⟨rfl,Sl.nil _ _ _,λi h=>absurd h (by simp),A8.refl _ _⟩
theorem QW.step{F F':Nat->Prop}{qs:List (Pt×Value)}(h:QW W P k vo F qs w)(I:A8 B0 w F' w'):QW W P k vo F qs w':=
 ⟨h.len,h.sl.far I (λ_ h _=>h),λi hi=>by
  obtain⟨e,a,q,J,X,V⟩:=h.at_ i hi
  exact⟨e,a,q,J,X.far (λ_ _ _ U=>I.block _ U (λx=>x)) I.size,V⟩,h.adv.over I⟩
theorem QW.push1{F:Nat->Prop}{qs:List (Pt×Value)}{J:Value}{a:Option Addr}{q:Nat}{p:Pt}(h:QW W P k vo F qs w)(hp:P k=p)(Z:Rd w 1 (.slice a p.d.length q) p.d.length (p.d.map u8))(aF:∀g,(Value.slice a p.d.length q).ownBlock=some g->0<p.d.length->¬F g/\W.heap.size<=g)
 (aH:w'.ownsRow 0 239 2 J (k+1) (qs.flatMap A2B++[.int .i64 p.a,.slice a p.d.length q])) (I:w.grownBy w' vo.ownBlock) (aA:J.ownBlock=vo.ownBlock\/J.ownBlock=some w.heap.size):QW W P (k+1) J (λg=>F g\/J.ownBlock=some g) (qs++[(p,.slice a p.d.length q)]) w':=by
 obtain⟨g1,g2⟩:=A31 h.sl aH I aA (Nat.le_refl _)
 have aD:∀g,g<w.heap.size->¬F g->¬(F g\/J.ownBlock=some g):=λg aJ V aG=>by
  rcases aG with U|U
  ·exact V U
  ·rcases aA with e|e
   ·exact V (h.sl.inF g (by rw[<-e];exact U))
   ·rw[e]at U;injection U with U;omega
 have aC:∀{a:Option Addr} {d q:Nat} {l:List Nat},Rd w 1 (.slice a d q) d (l.map u8)->(∀g,(Value.slice a d q).ownBlock=some g->0<d->¬F g/\W.heap.size<=g)->Rd w' 1 (.slice a d q) d (l.map u8)/\∀g,(Value.slice a d q).ownBlock=some g->0<d->¬(F g\/J.ownBlock=some g)/\W.heap.size<=g:=λZ V=>
  ⟨Z.far (λg I X Y=>g2.block g Y (V g I X).1) g2.size,λg I X=>⟨aD g (Z.lt I X) (V g I X).1,(V g I X).2⟩⟩
 have Y:=h.len
 refine⟨by simp[Y],by simpa[A2B]using g1,λi hi=>?_,h.adv.trans g2⟩
 rw[List.length_append,List.length_singleton]at hi
 by_cases aB:i<qs.length
 ·rw[List.getElem_append_left aB]
  obtain⟨e,a',q',e2,aI,aE⟩:=h.at_ i aB
  obtain⟨k1,k2⟩:=aC aI aE
  exact⟨e,a',q',e2,k1,k2⟩
 ·obtain rfl:i=qs.length:=by omega
  rw[List.getElem_append_right (Nat.le_refl _)]
  simp only[Nat.sub_self,List.getElem_cons_zero,Y]
  rw[hp]
  obtain⟨k1,k2⟩:=aC Z aF
  exact⟨rfl,a,q,rfl,k1,k2⟩
theorem QW.push{F:Nat->Prop}{qs:List (Pt×Value)}{I:Value}{a:Option Addr}{q:Nat}{p:Pt}(h:QW W P k vo F qs w)(Y:P k=p)(Z:Rd w 1 (.slice a p.d.length q) p.d.length (p.d.map u8))(V:∀g,(Value.slice a p.d.length q).ownBlock=some g->0<p.d.length->¬F g/\W.heap.size<=g)
 (X:w'.ownsRow 0 239 2 I (k+1) (qs.flatMap A2B++[.int .i64 p.a,.slice a p.d.length q])) (U:w.grownBy w' vo.ownBlock) (J:I.ownBlock=vo.ownBlock\/I.ownBlock=some w.heap.size):∃F' aA,QW W P (k+1) I F' aA w':=
 ⟨_,_,h.push1 Y Z V X U J⟩
theorem QW.qrd{F G:Nat->Prop}{qs:List (Pt×Value)}(h:QW W P k vo F qs w)(Y:Bd G W):QRd w G vo ((List.range k).map P):=by
 have hl:=h.len
 obtain⟨A,c,rfl,aB,Z⟩:=h.sl.form0
 refine⟨A,c,by simp,by simpa using aB,Z,λhk=>?_⟩
 have aA:0<k:=by simpa using hk
 obtain⟨g,c',e,J,_⟩:=h.sl.form aA
 injection e with e1 _ _
 subst e1
 have U:∀j,W.heap.size<=j->¬G j:=λj I x=>by have:=Y j x;omega
 refine⟨g,0,rfl,⟨h.sl.bd g J,U g (by rcases h.adv.into g J with x|x;exact x.elim;exact x)⟩,λi hi=>?_⟩
 have aD:i<k:=by simpa using hi
 obtain⟨e,a,q,V,hr,hn⟩:=h.at_ i (by omega)
 have X:((List.range k).map P)[i]'hi=P i:=by simp
 rw[X]
 have H:∀j u,j<2->(A2B (qs[i]'(by omega)))[j]? =some u->w.cell? ⟨g,0+(i * 2+j),none⟩=some u:=λj u I hu=>by
  rw[Nat.zero_add,h.sl.own.cellAt (i * 2+j) (by omega),B98 2 A2B (λ_=>rfl) qs i j (by omega) I]
  exact hu
 refine⟨a,q,H 0 _ (by decide) ?_,H 1 _ (by decide) ?_,hr,λj I aC=>U j (hn j I aC).2⟩<;>simp[A2B,e,V]
end
theorem B8M{T:TypeId}{w:World}{x:Int}{v:Value}(j:Nat)(u:Value)(h:[Value.int .i64 x,v][j]? =some u):(w.alloc (.cells #[.int .i64 x,v] T)).cell? ((⟨w.heap.size,0,none⟩:Addr).add j)=some u:=by
 rw[add_none,Nat.zero_add,(C0.new w T #[.int .i64 x,v]).cell j,List.getElem?_toArray]
 exact h
theorem C2z{x:Int}{a:Option Addr}{d q:Nat}:∀u∈[Value.int .i64 x,.slice a d q],u.oneCell'=true:=by
 intro u I
 simp at I
 rcases I with rfl|rfl<;>rfl
end
end Go.Proofs.YtbefmjiclpobjaaGreat
